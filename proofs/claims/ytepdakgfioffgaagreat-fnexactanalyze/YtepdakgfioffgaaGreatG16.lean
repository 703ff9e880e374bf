import Derived.Test.YtepdakgfioffgaaGreatG15
import Derived.Test.YtepdakgfioffgaaGreatG04
import Derived.Test.YtepdakgfioffgaaGreatTyLogRecord
import Derived.Deep.DeepCutAuto
namespace Go.Proofs.YtepdakgfioffgaaGreat
set_option maxRecDepth 100000
set_option maxHeartbeats 16000000
set_option linter.unusedVariables false
set_option linter.unusedSimpArgs false
open Go.RowKit
abbrev frV (p : StLogFrame) : Value := .agg (kFr.cells p).toArray
theorem newBox (w : World) (cs : List Value) (t : TypeId) : Blk (w.alloc (.cells cs.toArray t)) w.heap.size t cs ∧ Same w (w.alloc (.cells cs.toArray t)) := ⟨Blk.newL w cs t, (Kept.refl _ _).alloc _⟩
theorem notRisingLSN_any (p q : StLogFrame) (w : World) : Calls Tryz.prog 27 #[frV p, frV q] w fun e w' => e = .returned (.bool (fAfter (f5 p) (f5 q))) ∧ Same w w' := by
 obtain ⟨cs, dY⟩ : ∃ cs, kFr.cells p = cs := ⟨_, rfl⟩
 obtain ⟨ds, lR⟩ : ∃ ds, kFr.cells q = ds := ⟨_, rfl⟩
 have hB := newBox w cs 51
 have hD := newBox (w.alloc (.cells cs.toArray 51)) ds 51
 have c0 : ((w.alloc (.cells cs.toArray 51)).alloc (.cells ds.toArray 51)).cell? ⟨w.heap.size, 0, none⟩ = some (.int .i64 (f5 p).1) := by
  rw [(hB.1.same hD.2).cell, ← dY]; rfl
 have d0 : ((w.alloc (.cells cs.toArray 51)).alloc (.cells ds.toArray 51)).cell? ⟨w.heap.size + 1, 0, none⟩ = some (.int .i64 (f5 q).1) := by
  have h := hD.1.cell 0
  rw [World.size_alloc] at h
  rw [h, ← lR]; rfl
 have HK := hid (hB.2.trans hD.2)
 dsimp only [frV]
 rw [dY, lR]
 unfold fAfter
 obtain ⟨x, hx⟩ : ∃ x, (f5 p).1 = x := ⟨_, rfl⟩
 obtain ⟨y, hy⟩ : ∃ y, (f5 q).1 = y := ⟨_, rfl⟩
 rw [hx] at c0 ⊢
 rw [hy] at d0 ⊢
 clear hx hy dY lR hB hD
 go_enter Tryz.func27, Tryz.ntmps27
 go_wp2
 go_ret
 exact ⟨by simp, HK.out⟩
def EntersU (uw : FuncId) : Prop := ∀ (args : Array Value) (wx : World), (callFunc uw args).run Tryz.prog wx = .ok (.enter uw args) wx
theorem enters_nrl : EntersU 27 := fun args wx => by simp [callFunc, go_sem, Tryz.func27, Tryz.f27]
theorem FrC.row {w : World} {b off : Nat} {ps : List StLogFrame} (h : FrC w b off ps) (k : Nat) (hk : k < ps.length) : w.rangeAt b (off + k * 16) (kFr.cells ps[k]) := fun j v hv => by
 have hj : j < 16 := by have := (List.getElem?_eq_some_iff.1 hv).1; rw [kFr.len] at this; exact this
 have h1 := h k j hk hj
 rw [show off + (k * 16 + j) = off + k * 16 + j from by omega] at h1
 rw [h1, hv]
theorem RdFr.cs {w : World} {va : Option Addr} {vc : Nat} {ps : List StLogFrame} {L : Nat} (hL : ps.length = L) (h : RdFr w (.slice va L vc) ps) (h0 : 0 < L) : ∃ b off, va = some ⟨b, off, none⟩ ∧ FrC w b off ps := by
 subst hL
 rcases h.row.row with ⟨rfl, _⟩ | ⟨b, off, c, e, hc⟩
 ·simp at h0
 ·injection e with e1 e2 e3
  exact ⟨b, off, e1, hc⟩
theorem neighF_any (va : Option Addr) (vc L : Nat) (ps : List StLogFrame) (w : World) (hL : ps.length = L) (hm : L ≤ 1048576) (hv : RdFr w (.slice va L vc) ps) :
  Calls Tryz.prog 26 #[.slice va L vc, .func (.func 27) #[] #[]] w fun e w' => e = .returned (.bool (nbg fAfter (fs5 ps))) ∧ Same w w' := by
 have HV := hid hv
 have pN := hid hL
 have Ek : Hid ((fs5 ps).length = L) := by unfold Hid; rw [fs5_length, hL]
 obtain ⟨B, hB⟩ : ∃ B, nbg fAfter (fs5 ps) = B := ⟨_, rfl⟩
 have HB := hid hB
 rw [hB]
 clear hv hL hB
 have DF : ∀ (args : Array Value) (wx : World), (callFunc 27 args).run Tryz.prog wx = .ok (.enter 27 args) wx := enters_nrl
 go_enter Tryz.func26, Tryz.ntmps26
 go_wp2_with fail
 go_loopw [5] (fun i wr => ∃ k : Nat, (k ≤ L ∨ k = 1) ∧ 1 ≤ k ∧ i = .int .i64 k ∧ Hid (∀ (j : Nat) (h : j + 1 < (fs5 ps).length), j + 1 < k → fAfter (fs5 ps)[j] (fs5 ps)[j + 1] = false) ∧ Hid (Same w wr)) (fun i _ => L - (intOf i).toNat)
 case atStart => exact ⟨1, .inr rfl, Nat.le_refl _, rfl, fun j h hj => by omega, Kept.refl _ _⟩
 case round =>
  obtain ⟨k, hk, bg, rfl, HA, HK⟩ := hrel
  by_cases dh : k < L
  ·obtain ⟨b, off, ha, hc⟩ := RdFr.cs pN.out HV.out (by omega)
   subst ha
   obtain ⟨k0, rfl⟩ : ∃ k0, k = k0 + 1 := ⟨k - 1, by omega⟩
   have lD : k0 < ps.length := by rw [pN.out]; omega
   have nE : k0 + 1 < ps.length := by rw [pN.out]; omega
   have rX := hid ((hc.same HK.out).row k0 lD)
   have wu := hid ((hc.same HK.out).row (k0 + 1) nE)
   have kf := fun wx => notRisingLSN_any ps[k0] ps[k0 + 1] wx
   dsimp only [frV] at kf
   have I0 := hid (fs5_at ps k0 lD)
   have Al := hid (fs5_at ps (k0 + 1) nE)
   obtain ⟨cs, dY⟩ : ∃ cs, kFr.cells ps[k0] = cs := ⟨_, rfl⟩
   obtain ⟨ds, lR⟩ : ∃ ds, kFr.cells ps[k0 + 1] = ds := ⟨_, rfl⟩
   have j7 : cs.length = 16 := by rw [← dY]; exact kFr.len _
   have oS : ds.length = 16 := by rw [← lR]; exact kFr.len _
   have Ci : Hid ((Tryz.prog.info? 51).map (·.size) = some cs.length) := by unfold Hid; rw [j7]; kernel_rfl
   have CG : Hid ((Tryz.prog.info? 51).map (·.size) = some ds.length) := by unfold Hid; rw [oS]; kernel_rfl
   rw [dY] at rX kf
   rw [lR] at wu kf
   obtain ⟨X, hX⟩ : ∃ X, f5 ps[k0] = X := ⟨_, rfl⟩
   obtain ⟨Y, hY⟩ : ∃ Y, f5 ps[k0 + 1] = Y := ⟨_, rfl⟩
   rw [hX] at kf I0
   rw [hY] at kf Al
   have xO : ((k0 + 1 : Nat) : Int) - 1 = (k0 : Int) := by omega
   have Vq : IntKind.i64.wrap (k0 : Int) = (k0 : Int) := by rw [IntKind.wrap_i64]; omega
   have mm : (k0 : Int) < (L : Int) := by omega
   have Vp : (0 : Int) ≤ (k0 : Int) + 1 := by omega
   clear dY lR j7 oS hX hY hc
   cases hb : fAfter X Y with
   | true =>
    rw [hb] at kf
    have HE : Hid (B = true) := by
     have h := HB.out
     rw [nbg_yes k0 (by rw [Ek.out]; omega) (by rw [I0.out, Al.out]; exact hb)] at h
     exact h.symm
    clear HA hb
    go_wp2_with fail
    have hS : (fun wx : World => wx.rangeAt b (off + k0 * 16) cs ∧ wx.rangeAt b (off + (k0 + 1) * 16) ds) wr.drew := ⟨rX.out, wu.out⟩
    refine wp_region_V (fun wx : World => wx.rangeAt b (off + k0 * 16) cs ∧ wx.rangeAt b (off + (k0 + 1) * 16) ds) 99 11 rfl (by kernel_rfl) ?_
    refine tk 0 12 hS ?_
    refine tk 1 13 hS ?_
    refine tk 2 14 hS ?_
    refine tkV 3 15 (.int .i64 (k0 : Int)) hS ?_
    refine tk 4 16 hS ?_
    refine wpAnyV_take (i := 5) (v := .agg cs.toArray) (some 17) rfl rfl (by kernel_rfl) (by kernel_rfl) (by kernel_rfl) (by kernel_rfl) (fun _ _ _ h => h) (yieldsIf_load_mid (by rfl) 51 (.tmp 16) rfl b (off + k0 * 16) (by rfl) cs _ (fun w h => h.1) Tryz.underlying51 rfl Ci.out) hS ?_
    try simp only [Act.put, sA, s0, sS]
    refine tk 6 18 hS ?_
    refine tk 7 19 hS ?_
    refine tk 8 20 hS ?_
    refine wpAnyV_take (i := 9) (v := .agg ds.toArray) (some 21) rfl rfl (by kernel_rfl) (by kernel_rfl) (by kernel_rfl) (by kernel_rfl) (fun _ _ _ h => h) (yieldsIf_load_mid (by rfl) 51 (.tmp 20) rfl b (off + (k0 + 1) * 16) (by rfl) ds _ (fun w h => h.2) Tryz.underlying51 rfl CG.out) hS ?_
    try simp only [Act.put, sA, s0, sS]
    refine wpAnyV_one (i := 10) (by kernel_rfl) rfl (fun Kc hK => ?_)
    go_simp
    refine (kf _).mono ?_
    rintro e w1 ⟨rfl, bg⟩
    have bq := (show Hid (Same w w1) from (HK.out.drew).trans bg)
    have hS : (fun wx : World => wx.rangeAt b (off + k0 * 16) cs ∧ wx.rangeAt b (off + (k0 + 1) * 16) ds) w1 := ⟨Kept.ranges (((Kept.refl _ _).drew).trans bg) rX.out, Kept.ranges (((Kept.refl _ _).drew).trans bg) wu.out⟩
    refine hK.out _ _ (fun _ => hS) ?_
    clear hK Kc
    try simp only [Act.put, sA, s0, sS]
    refine wpAnyV_done (by kernel_rfl) ?_
    go_wp2
    go_ret
    have hE := HE.out
    exact ⟨by subst hE; rfl, bq.out⟩
   | false =>
    rw [hb] at kf
    have fJ : Hid (∀ (j : Nat) (h : j + 1 < (fs5 ps).length), j + 1 < k0 + 1 + 1 → fAfter (fs5 ps)[j] (fs5 ps)[j + 1] = false) := fun j h hj => by
     by_cases EQ : j + 1 < k0 + 1
     ·exact HA.out j h EQ
     ·obtain rfl : j = k0 := by omega
      rw [I0.out, Al.out]; exact hb
    clear HA hb
    go_wp2_with fail
    have hS : (fun wx : World => wx.rangeAt b (off + k0 * 16) cs ∧ wx.rangeAt b (off + (k0 + 1) * 16) ds) wr.drew := ⟨rX.out, wu.out⟩
    refine wp_region_V (fun wx : World => wx.rangeAt b (off + k0 * 16) cs ∧ wx.rangeAt b (off + (k0 + 1) * 16) ds) 99 11 rfl (by kernel_rfl) ?_
    refine tk 0 12 hS ?_
    refine tk 1 13 hS ?_
    refine tk 2 14 hS ?_
    refine tkV 3 15 (.int .i64 (k0 : Int)) hS ?_
    refine tk 4 16 hS ?_
    refine wpAnyV_take (i := 5) (v := .agg cs.toArray) (some 17) rfl rfl (by kernel_rfl) (by kernel_rfl) (by kernel_rfl) (by kernel_rfl) (fun _ _ _ h => h) (yieldsIf_load_mid (by rfl) 51 (.tmp 16) rfl b (off + k0 * 16) (by rfl) cs _ (fun w h => h.1) Tryz.underlying51 rfl Ci.out) hS ?_
    try simp only [Act.put, sA, s0, sS]
    refine tk 6 18 hS ?_
    refine tk 7 19 hS ?_
    refine tk 8 20 hS ?_
    refine wpAnyV_take (i := 9) (v := .agg ds.toArray) (some 21) rfl rfl (by kernel_rfl) (by kernel_rfl) (by kernel_rfl) (by kernel_rfl) (fun _ _ _ h => h) (yieldsIf_load_mid (by rfl) 51 (.tmp 20) rfl b (off + (k0 + 1) * 16) (by rfl) ds _ (fun w h => h.2) Tryz.underlying51 rfl CG.out) hS ?_
    try simp only [Act.put, sA, s0, sS]
    refine wpAnyV_one (i := 10) (by kernel_rfl) rfl (fun Kc hK => ?_)
    go_simp
    refine (kf _).mono ?_
    rintro e w1 ⟨rfl, bg⟩
    have bq := (show Hid (Same w w1) from (HK.out.drew).trans bg)
    have hS : (fun wx : World => wx.rangeAt b (off + k0 * 16) cs ∧ wx.rangeAt b (off + (k0 + 1) * 16) ds) w1 := ⟨Kept.ranges (((Kept.refl _ _).drew).trans bg) rX.out, Kept.ranges (((Kept.refl _ _).drew).trans bg) wu.out⟩
    refine hK.out _ _ (fun _ => hS) ?_
    clear hK Kc
    try simp only [Act.put, sA, s0, sS]
    refine wpAnyV_done (by kernel_rfl) ?_
    go_wp2
    go_roundw
    case rel => exact ⟨k0 + 1 + 1, by omega, by omega, by go_num, fJ, bq⟩
    case measure => simp [intOf]; omega
  ·go_wp2
   go_ret
   have h := nbg_no (f := fAfter) (ls := fs5 ps) (fun i hi => HA.out i hi (by have := Ek.out; omega))
   rw [HB.out] at h
   exact ⟨by subst h; rfl, HK.out⟩
theorem recS_1 (txn prev page slot : Int) (af : Bool) (aj : Option Addr) (ah ag : Nat) (ay : Bool) (aB : Option Addr) (az aA : Nat) (uN nT : Int) (bi : Option Addr) (aW bh : Nat) (aI : Option Addr) (aC aH : Nat) (aE : Option Addr) (av aD : Nat) (w : World) (EX b1 b2 b3 b4 b5 b6 : Bool) (PF : Int) (jt : ∀ wx, Same w wx → Calls Tryz.prog 16 #[.int .i64 1, .int .i64 1, .int .i64 8] wx fun e w' => e = .returned (.bool true) ∧ Same wx w') (hex : ∀ wx, Same w wx → Calls Tryz.prog 44 #[.agg #[.int .i64 1, .int .i64 txn, .int .i64 prev, .int .i64 page, .int .i64 slot, .bool af, .slice aj ah ag, .bool ay, .slice aB az aA, .int .i64 uN, .int .i64 nT, .slice bi aW bh, .slice aI aC aH, .slice aE av aD]] wx fun e w' => e = .returned (.bool EX) ∧ Same wx w') (nL : ∀ wx, Same w wx → Calls Tryz.prog 16 #[.int .i64 txn, .int .i64 1, .int .i64 2147483647] wx fun e w' => e = .returned (.bool b1) ∧ Same wx w') (js : ∀ wx, Same w wx → Calls Tryz.prog 16 #[.int .i64 prev, .int .i64 0, .int .i64 1099511627776] wx fun e w' => e = .returned (.bool b2) ∧ Same wx w') (ou : ∀ wx, Same w wx → Calls Tryz.prog 16 #[.int .i64 page, .int .i64 0, .int .i64 15] wx fun e w' => e = .returned (.bool b3) ∧ Same wx w') (sg : ∀ wx, Same w wx → Calls Tryz.prog 16 #[.int .i64 slot, .int .i64 0, .int .i64 31] wx fun e w' => e = .returned (.bool b4) ∧ Same wx w') (kE : ∀ wx, Same w wx → Calls Tryz.prog 45 #[.agg #[.bool af, .slice aj ah ag]] wx fun e w' => e = .returned (.bool b5) ∧ Same wx w') (kK : ∀ wx, Same w wx → Calls Tryz.prog 45 #[.agg #[.bool ay, .slice aB az aA]] wx fun e w' => e = .returned (.bool b6) ∧ Same wx w') :
  Calls Tryz.prog 17 #[.agg #[.int .i64 1, .int .i64 txn, .int .i64 prev, .int .i64 page, .int .i64 slot, .bool af, .slice aj ah ag, .bool ay, .slice aB az aA, .int .i64 uN, .int .i64 nT, .slice bi aW bh, .slice aI aC aH, .slice aE av aD]] w fun e w' => e = .returned (.int .i64 (if EX = true then 2 else (if b1 = false then 3 else (if b2 = false then 4 else (if b3 = false then 5 else (if b4 = false then 5 else (if b5 = false then 6 else (if b6 = false then 6 else (if (af || ay) = false then 6 else (0)))))))))) ∧ Same w w' := by
 obtain ⟨bk, cv⟩ := new1 w [.int .i64 1, .int .i64 txn, .int .i64 prev, .int .i64 page, .int .i64 slot, .bool af, .slice aj ah ag, .bool ay, .slice aB az aA, .int .i64 uN, .int .i64 nT, .slice bi aW bh, .slice aI aC aH, .slice aE av aD] 49
 go_enter Tryz.func17, Tryz.ntmps17
 go_wp2_with fail
 refine (jt _ bk.out).mono ?_
 rintro e w1 ⟨rfl, hk⟩
 have bq := hid (bk.out.trans hk)
 have bG := hid (cv.out.same hk)
 clear hk bk cv
 obtain ⟨d0, d1, d2, d3, d4, d5, d6, d7, d8, d9, eh, eo, er, ec⟩ := bG.out.all14
 go_wp2_with fail
 refine (hex _ bq.out).mono ?_
 rintro e w2 ⟨rfl, hk⟩
 clear d0 d1 d2 d3 d4 d5 d6 d7 d8 d9 eh eo er ec
 have cw := hid (bq.out.trans hk)
 have cx := hid (bG.out.same hk)
 clear hk bq bG
 obtain ⟨d0, d1, d2, d3, d4, d5, d6, d7, d8, d9, eh, eo, er, ec⟩ := cx.out.all14
 cases EX with
 | true =>
  go_wp2
  go_ret
  exact ⟨by first | rfl | simp, cw.out⟩
 | false =>
  go_wp2_with fail
  refine (nL _ cw.out).mono ?_
  rintro e w3 ⟨rfl, hk⟩
  clear d0 d1 d2 d3 d4 d5 d6 d7 d8 d9 eh eo er ec
  have dZ := hid (cw.out.trans hk)
  have gv := hid (cx.out.same hk)
  clear hk cw cx
  obtain ⟨d0, d1, d2, d3, d4, d5, d6, d7, d8, d9, eh, eo, er, ec⟩ := gv.out.all14
  cases b1 with
  | false =>
   go_wp2
   go_ret
   exact ⟨by first | rfl | simp, dZ.out⟩
  | true =>
   go_wp2_with fail
   refine (js _ dZ.out).mono ?_
   rintro e w4 ⟨rfl, hk⟩
   clear d0 d1 d2 d3 d4 d5 d6 d7 d8 d9 eh eo er ec
   have fA := hid (dZ.out.trans hk)
   have i5 := hid (gv.out.same hk)
   clear hk dZ gv
   obtain ⟨d0, d1, d2, d3, d4, d5, d6, d7, d8, d9, eh, eo, er, ec⟩ := i5.out.all14
   cases b2 with
   | false =>
    go_wp2
    go_ret
    exact ⟨by first | rfl | simp, fA.out⟩
   | true =>
    go_wp2_with fail
    refine (ou _ fA.out).mono ?_
    rintro e w5 ⟨rfl, hk⟩
    clear d0 d1 d2 d3 d4 d5 d6 d7 d8 d9 eh eo er ec
    have fM := hid (fA.out.trans hk)
    have jQ := hid (i5.out.same hk)
    clear hk fA i5
    obtain ⟨d0, d1, d2, d3, d4, d5, d6, d7, d8, d9, eh, eo, er, ec⟩ := jQ.out.all14
    cases b3 with
    | false =>
     go_wp2
     go_ret
     exact ⟨by first | rfl | simp, fM.out⟩
    | true =>
     go_wp2_with fail
     refine (sg _ fM.out).mono ?_
     rintro e w6 ⟨rfl, hk⟩
     clear d0 d1 d2 d3 d4 d5 d6 d7 d8 d9 eh eo er ec
     have jd := hid (fM.out.trans hk)
     have nf := hid (jQ.out.same hk)
     clear hk fM jQ
     obtain ⟨d0, d1, d2, d3, d4, d5, d6, d7, d8, d9, eh, eo, er, ec⟩ := nf.out.all14
     cases b4 with
     | false =>
      go_wp2
      go_ret
      exact ⟨by first | rfl | simp, jd.out⟩
     | true =>
      go_wp2_with fail
      refine (kE _ jd.out).mono ?_
      rintro e w7 ⟨rfl, hk⟩
      clear d0 d1 d2 d3 d4 d5 d6 d7 d8 d9 eh eo er ec
      have fy := hid (jd.out.trans hk)
      have nu := hid (nf.out.same hk)
      clear hk jd nf
      obtain ⟨d0, d1, d2, d3, d4, d5, d6, d7, d8, d9, eh, eo, er, ec⟩ := nu.out.all14
      cases b5 with
      | false =>
       go_wp2
       go_ret
       exact ⟨by first | rfl | simp, fy.out⟩
      | true =>
       go_wp2_with fail
       refine (kK _ fy.out).mono ?_
       rintro e w8 ⟨rfl, hk⟩
       clear d0 d1 d2 d3 d4 d5 d6 d7 d8 d9 eh eo er ec
       have pa := hid (fy.out.trans hk)
       have tQ := hid (nu.out.same hk)
       clear hk fy nu
       obtain ⟨d0, d1, d2, d3, d4, d5, d6, d7, d8, d9, eh, eo, er, ec⟩ := tQ.out.all14
       cases b6 with
       | false =>
        go_wp2
        go_ret
        exact ⟨by first | rfl | simp, pa.out⟩
       | true =>
        cases af with
        | false =>
         cases ay with
         | false =>
          go_wp2
          go_ret
          exact ⟨rfl, pa.out⟩
         | true =>
          go_wp2
          go_ret
          exact ⟨rfl, pa.out⟩
        | true =>
         go_wp2
         go_ret
         exact ⟨rfl, pa.out⟩
theorem recS_2 (txn prev page slot : Int) (af : Bool) (aj : Option Addr) (ah ag : Nat) (ay : Bool) (aB : Option Addr) (az aA : Nat) (uN nT : Int) (bi : Option Addr) (aW bh : Nat) (aI : Option Addr) (aC aH : Nat) (aE : Option Addr) (av aD : Nat) (w : World) (EX b1 b2 b3 b4 b5 b6 b7 : Bool) (PF : Int) (jt : ∀ wx, Same w wx → Calls Tryz.prog 16 #[.int .i64 2, .int .i64 1, .int .i64 8] wx fun e w' => e = .returned (.bool true) ∧ Same wx w') (hex : ∀ wx, Same w wx → Calls Tryz.prog 44 #[.agg #[.int .i64 2, .int .i64 txn, .int .i64 prev, .int .i64 page, .int .i64 slot, .bool af, .slice aj ah ag, .bool ay, .slice aB az aA, .int .i64 uN, .int .i64 nT, .slice bi aW bh, .slice aI aC aH, .slice aE av aD]] wx fun e w' => e = .returned (.bool EX) ∧ Same wx w') (nL : ∀ wx, Same w wx → Calls Tryz.prog 16 #[.int .i64 txn, .int .i64 1, .int .i64 2147483647] wx fun e w' => e = .returned (.bool b1) ∧ Same wx w') (js : ∀ wx, Same w wx → Calls Tryz.prog 16 #[.int .i64 prev, .int .i64 0, .int .i64 1099511627776] wx fun e w' => e = .returned (.bool b2) ∧ Same wx w') (ou : ∀ wx, Same w wx → Calls Tryz.prog 16 #[.int .i64 page, .int .i64 0, .int .i64 15] wx fun e w' => e = .returned (.bool b3) ∧ Same wx w') (sg : ∀ wx, Same w wx → Calls Tryz.prog 16 #[.int .i64 slot, .int .i64 0, .int .i64 31] wx fun e w' => e = .returned (.bool b4) ∧ Same wx w') (kE : ∀ wx, Same w wx → Calls Tryz.prog 45 #[.agg #[.bool af, .slice aj ah ag]] wx fun e w' => e = .returned (.bool b5) ∧ Same wx w') (kK : ∀ wx, Same w wx → Calls Tryz.prog 45 #[.agg #[.bool ay, .slice aB az aA]] wx fun e w' => e = .returned (.bool b6) ∧ Same wx w') (JN : ∀ wx, Same w wx → Calls Tryz.prog 16 #[.int .i64 uN, .int .i64 0, .int .i64 1099511627776] wx fun e w' => e = .returned (.bool b7) ∧ Same wx w') :
  Calls Tryz.prog 17 #[.agg #[.int .i64 2, .int .i64 txn, .int .i64 prev, .int .i64 page, .int .i64 slot, .bool af, .slice aj ah ag, .bool ay, .slice aB az aA, .int .i64 uN, .int .i64 nT, .slice bi aW bh, .slice aI aC aH, .slice aE av aD]] w fun e w' => e = .returned (.int .i64 (if EX = true then 2 else (if b1 = false then 3 else (if b2 = false then 4 else (if b3 = false then 5 else (if b4 = false then 5 else (if b5 = false then 6 else (if b6 = false then 6 else (if b7 = false then 7 else (0)))))))))) ∧ Same w w' := by
 obtain ⟨bk, cv⟩ := new1 w [.int .i64 2, .int .i64 txn, .int .i64 prev, .int .i64 page, .int .i64 slot, .bool af, .slice aj ah ag, .bool ay, .slice aB az aA, .int .i64 uN, .int .i64 nT, .slice bi aW bh, .slice aI aC aH, .slice aE av aD] 49
 go_enter Tryz.func17, Tryz.ntmps17
 go_wp2_with fail
 refine (jt _ bk.out).mono ?_
 rintro e w1 ⟨rfl, hk⟩
 have bq := hid (bk.out.trans hk)
 have bG := hid (cv.out.same hk)
 clear hk bk cv
 obtain ⟨d0, d1, d2, d3, d4, d5, d6, d7, d8, d9, eh, eo, er, ec⟩ := bG.out.all14
 go_wp2_with fail
 refine (hex _ bq.out).mono ?_
 rintro e w2 ⟨rfl, hk⟩
 clear d0 d1 d2 d3 d4 d5 d6 d7 d8 d9 eh eo er ec
 have cw := hid (bq.out.trans hk)
 have cx := hid (bG.out.same hk)
 clear hk bq bG
 obtain ⟨d0, d1, d2, d3, d4, d5, d6, d7, d8, d9, eh, eo, er, ec⟩ := cx.out.all14
 cases EX with
 | true =>
  go_wp2
  go_ret
  exact ⟨by first | rfl | simp, cw.out⟩
 | false =>
  go_wp2_with fail
  refine (nL _ cw.out).mono ?_
  rintro e w3 ⟨rfl, hk⟩
  clear d0 d1 d2 d3 d4 d5 d6 d7 d8 d9 eh eo er ec
  have dZ := hid (cw.out.trans hk)
  have gv := hid (cx.out.same hk)
  clear hk cw cx
  obtain ⟨d0, d1, d2, d3, d4, d5, d6, d7, d8, d9, eh, eo, er, ec⟩ := gv.out.all14
  cases b1 with
  | false =>
   go_wp2
   go_ret
   exact ⟨by first | rfl | simp, dZ.out⟩
  | true =>
   go_wp2_with fail
   refine (js _ dZ.out).mono ?_
   rintro e w4 ⟨rfl, hk⟩
   clear d0 d1 d2 d3 d4 d5 d6 d7 d8 d9 eh eo er ec
   have fA := hid (dZ.out.trans hk)
   have i5 := hid (gv.out.same hk)
   clear hk dZ gv
   obtain ⟨d0, d1, d2, d3, d4, d5, d6, d7, d8, d9, eh, eo, er, ec⟩ := i5.out.all14
   cases b2 with
   | false =>
    go_wp2
    go_ret
    exact ⟨by first | rfl | simp, fA.out⟩
   | true =>
    go_wp2_with fail
    refine (ou _ fA.out).mono ?_
    rintro e w5 ⟨rfl, hk⟩
    clear d0 d1 d2 d3 d4 d5 d6 d7 d8 d9 eh eo er ec
    have fM := hid (fA.out.trans hk)
    have jQ := hid (i5.out.same hk)
    clear hk fA i5
    obtain ⟨d0, d1, d2, d3, d4, d5, d6, d7, d8, d9, eh, eo, er, ec⟩ := jQ.out.all14
    cases b3 with
    | false =>
     go_wp2
     go_ret
     exact ⟨by first | rfl | simp, fM.out⟩
    | true =>
     go_wp2_with fail
     refine (sg _ fM.out).mono ?_
     rintro e w6 ⟨rfl, hk⟩
     clear d0 d1 d2 d3 d4 d5 d6 d7 d8 d9 eh eo er ec
     have jd := hid (fM.out.trans hk)
     have nf := hid (jQ.out.same hk)
     clear hk fM jQ
     obtain ⟨d0, d1, d2, d3, d4, d5, d6, d7, d8, d9, eh, eo, er, ec⟩ := nf.out.all14
     cases b4 with
     | false =>
      go_wp2
      go_ret
      exact ⟨by first | rfl | simp, jd.out⟩
     | true =>
      go_wp2_with fail
      refine (kE _ jd.out).mono ?_
      rintro e w7 ⟨rfl, hk⟩
      clear d0 d1 d2 d3 d4 d5 d6 d7 d8 d9 eh eo er ec
      have fy := hid (jd.out.trans hk)
      have nu := hid (nf.out.same hk)
      clear hk jd nf
      obtain ⟨d0, d1, d2, d3, d4, d5, d6, d7, d8, d9, eh, eo, er, ec⟩ := nu.out.all14
      cases b5 with
      | false =>
       go_wp2
       go_ret
       exact ⟨by first | rfl | simp, fy.out⟩
      | true =>
       go_wp2_with fail
       refine (kK _ fy.out).mono ?_
       rintro e w8 ⟨rfl, hk⟩
       clear d0 d1 d2 d3 d4 d5 d6 d7 d8 d9 eh eo er ec
       have pa := hid (fy.out.trans hk)
       have tQ := hid (nu.out.same hk)
       clear hk fy nu
       obtain ⟨d0, d1, d2, d3, d4, d5, d6, d7, d8, d9, eh, eo, er, ec⟩ := tQ.out.all14
       cases b6 with
       | false =>
        go_wp2
        go_ret
        exact ⟨by first | rfl | simp, pa.out⟩
       | true =>
        go_wp2_with fail
        refine (JN _ pa.out).mono ?_
        rintro e w9 ⟨rfl, hk⟩
        clear d0 d1 d2 d3 d4 d5 d6 d7 d8 d9 eh eo er ec
        have tV := hid (pa.out.trans hk)
        have iK := hid (tQ.out.same hk)
        clear hk pa tQ
        obtain ⟨d0, d1, d2, d3, d4, d5, d6, d7, d8, d9, eh, eo, er, ec⟩ := iK.out.all14
        cases b7 with
        | false =>
         go_wp2
         go_ret
         exact ⟨by first | rfl | simp, tV.out⟩
        | true =>
         go_wp2
         go_ret
         exact ⟨by first | rfl | simp, tV.out⟩
theorem recS_3 (txn prev page slot : Int) (af : Bool) (aj : Option Addr) (ah ag : Nat) (ay : Bool) (aB : Option Addr) (az aA : Nat) (uN nT : Int) (bi : Option Addr) (aW bh : Nat) (aI : Option Addr) (aC aH : Nat) (aE : Option Addr) (av aD : Nat) (w : World) (EX b1 b2 b5 b6 : Bool) (PF : Int) (jt : ∀ wx, Same w wx → Calls Tryz.prog 16 #[.int .i64 3, .int .i64 1, .int .i64 8] wx fun e w' => e = .returned (.bool true) ∧ Same wx w') (hex : ∀ wx, Same w wx → Calls Tryz.prog 44 #[.agg #[.int .i64 3, .int .i64 txn, .int .i64 prev, .int .i64 page, .int .i64 slot, .bool af, .slice aj ah ag, .bool ay, .slice aB az aA, .int .i64 uN, .int .i64 nT, .slice bi aW bh, .slice aI aC aH, .slice aE av aD]] wx fun e w' => e = .returned (.bool EX) ∧ Same wx w') (nL : ∀ wx, Same w wx → Calls Tryz.prog 16 #[.int .i64 txn, .int .i64 1, .int .i64 2147483647] wx fun e w' => e = .returned (.bool b1) ∧ Same wx w') (js : ∀ wx, Same w wx → Calls Tryz.prog 16 #[.int .i64 prev, .int .i64 0, .int .i64 1099511627776] wx fun e w' => e = .returned (.bool b2) ∧ Same wx w') (kE : ∀ wx, Same w wx → Calls Tryz.prog 45 #[.agg #[.bool af, .slice aj ah ag]] wx fun e w' => e = .returned (.bool b5) ∧ Same wx w') (kK : ∀ wx, Same w wx → Calls Tryz.prog 45 #[.agg #[.bool ay, .slice aB az aA]] wx fun e w' => e = .returned (.bool b6) ∧ Same wx w') :
  Calls Tryz.prog 17 #[.agg #[.int .i64 3, .int .i64 txn, .int .i64 prev, .int .i64 page, .int .i64 slot, .bool af, .slice aj ah ag, .bool ay, .slice aB az aA, .int .i64 uN, .int .i64 nT, .slice bi aW bh, .slice aI aC aH, .slice aE av aD]] w fun e w' => e = .returned (.int .i64 (if EX = true then 2 else (if b1 = false then 3 else (if b2 = false then 4 else (if b5 = false then 6 else (if b6 = false then 6 else (0))))))) ∧ Same w w' := by
 obtain ⟨bk, cv⟩ := new1 w [.int .i64 3, .int .i64 txn, .int .i64 prev, .int .i64 page, .int .i64 slot, .bool af, .slice aj ah ag, .bool ay, .slice aB az aA, .int .i64 uN, .int .i64 nT, .slice bi aW bh, .slice aI aC aH, .slice aE av aD] 49
 go_enter Tryz.func17, Tryz.ntmps17
 go_wp2_with fail
 refine (jt _ bk.out).mono ?_
 rintro e w1 ⟨rfl, hk⟩
 have bq := hid (bk.out.trans hk)
 have bG := hid (cv.out.same hk)
 clear hk bk cv
 obtain ⟨d0, d1, d2, d3, d4, d5, d6, d7, d8, d9, eh, eo, er, ec⟩ := bG.out.all14
 go_wp2_with fail
 refine (hex _ bq.out).mono ?_
 rintro e w2 ⟨rfl, hk⟩
 clear d0 d1 d2 d3 d4 d5 d6 d7 d8 d9 eh eo er ec
 have cw := hid (bq.out.trans hk)
 have cx := hid (bG.out.same hk)
 clear hk bq bG
 obtain ⟨d0, d1, d2, d3, d4, d5, d6, d7, d8, d9, eh, eo, er, ec⟩ := cx.out.all14
 cases EX with
 | true =>
  go_wp2
  go_ret
  exact ⟨by first | rfl | simp, cw.out⟩
 | false =>
  go_wp2_with fail
  refine (nL _ cw.out).mono ?_
  rintro e w3 ⟨rfl, hk⟩
  clear d0 d1 d2 d3 d4 d5 d6 d7 d8 d9 eh eo er ec
  have dZ := hid (cw.out.trans hk)
  have gv := hid (cx.out.same hk)
  clear hk cw cx
  obtain ⟨d0, d1, d2, d3, d4, d5, d6, d7, d8, d9, eh, eo, er, ec⟩ := gv.out.all14
  cases b1 with
  | false =>
   go_wp2
   go_ret
   exact ⟨by first | rfl | simp, dZ.out⟩
  | true =>
   go_wp2_with fail
   refine (js _ dZ.out).mono ?_
   rintro e w4 ⟨rfl, hk⟩
   clear d0 d1 d2 d3 d4 d5 d6 d7 d8 d9 eh eo er ec
   have fA := hid (dZ.out.trans hk)
   have i5 := hid (gv.out.same hk)
   clear hk dZ gv
   obtain ⟨d0, d1, d2, d3, d4, d5, d6, d7, d8, d9, eh, eo, er, ec⟩ := i5.out.all14
   cases b2 with
   | false =>
    go_wp2
    go_ret
    exact ⟨by first | rfl | simp, fA.out⟩
   | true =>
    go_wp2_with fail
    refine (kE _ fA.out).mono ?_
    rintro e w5 ⟨rfl, hk⟩
    clear d0 d1 d2 d3 d4 d5 d6 d7 d8 d9 eh eo er ec
    have fM := hid (fA.out.trans hk)
    have jQ := hid (i5.out.same hk)
    clear hk fA i5
    obtain ⟨d0, d1, d2, d3, d4, d5, d6, d7, d8, d9, eh, eo, er, ec⟩ := jQ.out.all14
    cases b5 with
    | false =>
     go_wp2
     go_ret
     exact ⟨by first | rfl | simp, fM.out⟩
    | true =>
     go_wp2_with fail
     refine (kK _ fM.out).mono ?_
     rintro e w6 ⟨rfl, hk⟩
     clear d0 d1 d2 d3 d4 d5 d6 d7 d8 d9 eh eo er ec
     have jd := hid (fM.out.trans hk)
     have nf := hid (jQ.out.same hk)
     clear hk fM jQ
     obtain ⟨d0, d1, d2, d3, d4, d5, d6, d7, d8, d9, eh, eo, er, ec⟩ := nf.out.all14
     cases b6 with
     | false =>
      go_wp2
      go_ret
      exact ⟨by first | rfl | simp, jd.out⟩
     | true =>
      go_wp2
      go_ret
      exact ⟨by first | rfl | simp, jd.out⟩
theorem recS_4 (txn prev page slot : Int) (af : Bool) (aj : Option Addr) (ah ag : Nat) (ay : Bool) (aB : Option Addr) (az aA : Nat) (uN nT : Int) (bi : Option Addr) (aW bh : Nat) (aI : Option Addr) (aC aH : Nat) (aE : Option Addr) (av aD : Nat) (w : World) (EX b1 b2 b5 b6 : Bool) (PF : Int) (jt : ∀ wx, Same w wx → Calls Tryz.prog 16 #[.int .i64 4, .int .i64 1, .int .i64 8] wx fun e w' => e = .returned (.bool true) ∧ Same wx w') (hex : ∀ wx, Same w wx → Calls Tryz.prog 44 #[.agg #[.int .i64 4, .int .i64 txn, .int .i64 prev, .int .i64 page, .int .i64 slot, .bool af, .slice aj ah ag, .bool ay, .slice aB az aA, .int .i64 uN, .int .i64 nT, .slice bi aW bh, .slice aI aC aH, .slice aE av aD]] wx fun e w' => e = .returned (.bool EX) ∧ Same wx w') (nL : ∀ wx, Same w wx → Calls Tryz.prog 16 #[.int .i64 txn, .int .i64 1, .int .i64 2147483647] wx fun e w' => e = .returned (.bool b1) ∧ Same wx w') (js : ∀ wx, Same w wx → Calls Tryz.prog 16 #[.int .i64 prev, .int .i64 0, .int .i64 1099511627776] wx fun e w' => e = .returned (.bool b2) ∧ Same wx w') (kE : ∀ wx, Same w wx → Calls Tryz.prog 45 #[.agg #[.bool af, .slice aj ah ag]] wx fun e w' => e = .returned (.bool b5) ∧ Same wx w') (kK : ∀ wx, Same w wx → Calls Tryz.prog 45 #[.agg #[.bool ay, .slice aB az aA]] wx fun e w' => e = .returned (.bool b6) ∧ Same wx w') :
  Calls Tryz.prog 17 #[.agg #[.int .i64 4, .int .i64 txn, .int .i64 prev, .int .i64 page, .int .i64 slot, .bool af, .slice aj ah ag, .bool ay, .slice aB az aA, .int .i64 uN, .int .i64 nT, .slice bi aW bh, .slice aI aC aH, .slice aE av aD]] w fun e w' => e = .returned (.int .i64 (if EX = true then 2 else (if b1 = false then 3 else (if b2 = false then 4 else (if b5 = false then 6 else (if b6 = false then 6 else (0))))))) ∧ Same w w' := by
 obtain ⟨bk, cv⟩ := new1 w [.int .i64 4, .int .i64 txn, .int .i64 prev, .int .i64 page, .int .i64 slot, .bool af, .slice aj ah ag, .bool ay, .slice aB az aA, .int .i64 uN, .int .i64 nT, .slice bi aW bh, .slice aI aC aH, .slice aE av aD] 49
 go_enter Tryz.func17, Tryz.ntmps17
 go_wp2_with fail
 refine (jt _ bk.out).mono ?_
 rintro e w1 ⟨rfl, hk⟩
 have bq := hid (bk.out.trans hk)
 have bG := hid (cv.out.same hk)
 clear hk bk cv
 obtain ⟨d0, d1, d2, d3, d4, d5, d6, d7, d8, d9, eh, eo, er, ec⟩ := bG.out.all14
 go_wp2_with fail
 refine (hex _ bq.out).mono ?_
 rintro e w2 ⟨rfl, hk⟩
 clear d0 d1 d2 d3 d4 d5 d6 d7 d8 d9 eh eo er ec
 have cw := hid (bq.out.trans hk)
 have cx := hid (bG.out.same hk)
 clear hk bq bG
 obtain ⟨d0, d1, d2, d3, d4, d5, d6, d7, d8, d9, eh, eo, er, ec⟩ := cx.out.all14
 cases EX with
 | true =>
  go_wp2
  go_ret
  exact ⟨by first | rfl | simp, cw.out⟩
 | false =>
  go_wp2_with fail
  refine (nL _ cw.out).mono ?_
  rintro e w3 ⟨rfl, hk⟩
  clear d0 d1 d2 d3 d4 d5 d6 d7 d8 d9 eh eo er ec
  have dZ := hid (cw.out.trans hk)
  have gv := hid (cx.out.same hk)
  clear hk cw cx
  obtain ⟨d0, d1, d2, d3, d4, d5, d6, d7, d8, d9, eh, eo, er, ec⟩ := gv.out.all14
  cases b1 with
  | false =>
   go_wp2
   go_ret
   exact ⟨by first | rfl | simp, dZ.out⟩
  | true =>
   go_wp2_with fail
   refine (js _ dZ.out).mono ?_
   rintro e w4 ⟨rfl, hk⟩
   clear d0 d1 d2 d3 d4 d5 d6 d7 d8 d9 eh eo er ec
   have fA := hid (dZ.out.trans hk)
   have i5 := hid (gv.out.same hk)
   clear hk dZ gv
   obtain ⟨d0, d1, d2, d3, d4, d5, d6, d7, d8, d9, eh, eo, er, ec⟩ := i5.out.all14
   cases b2 with
   | false =>
    go_wp2
    go_ret
    exact ⟨by first | rfl | simp, fA.out⟩
   | true =>
    go_wp2_with fail
    refine (kE _ fA.out).mono ?_
    rintro e w5 ⟨rfl, hk⟩
    clear d0 d1 d2 d3 d4 d5 d6 d7 d8 d9 eh eo er ec
    have fM := hid (fA.out.trans hk)
    have jQ := hid (i5.out.same hk)
    clear hk fA i5
    obtain ⟨d0, d1, d2, d3, d4, d5, d6, d7, d8, d9, eh, eo, er, ec⟩ := jQ.out.all14
    cases b5 with
    | false =>
     go_wp2
     go_ret
     exact ⟨by first | rfl | simp, fM.out⟩
    | true =>
     go_wp2_with fail
     refine (kK _ fM.out).mono ?_
     rintro e w6 ⟨rfl, hk⟩
     clear d0 d1 d2 d3 d4 d5 d6 d7 d8 d9 eh eo er ec
     have jd := hid (fM.out.trans hk)
     have nf := hid (jQ.out.same hk)
     clear hk fM jQ
     obtain ⟨d0, d1, d2, d3, d4, d5, d6, d7, d8, d9, eh, eo, er, ec⟩ := nf.out.all14
     cases b6 with
     | false =>
      go_wp2
      go_ret
      exact ⟨by first | rfl | simp, jd.out⟩
     | true =>
      go_wp2
      go_ret
      exact ⟨by first | rfl | simp, jd.out⟩
theorem recS_5 (txn prev page slot : Int) (af : Bool) (aj : Option Addr) (ah ag : Nat) (ay : Bool) (aB : Option Addr) (az aA : Nat) (uN nT : Int) (bi : Option Addr) (aW bh : Nat) (aI : Option Addr) (aC aH : Nat) (aE : Option Addr) (av aD : Nat) (w : World) (EX b1 b2 b5 b6 : Bool) (PF : Int) (jt : ∀ wx, Same w wx → Calls Tryz.prog 16 #[.int .i64 5, .int .i64 1, .int .i64 8] wx fun e w' => e = .returned (.bool true) ∧ Same wx w') (hex : ∀ wx, Same w wx → Calls Tryz.prog 44 #[.agg #[.int .i64 5, .int .i64 txn, .int .i64 prev, .int .i64 page, .int .i64 slot, .bool af, .slice aj ah ag, .bool ay, .slice aB az aA, .int .i64 uN, .int .i64 nT, .slice bi aW bh, .slice aI aC aH, .slice aE av aD]] wx fun e w' => e = .returned (.bool EX) ∧ Same wx w') (nL : ∀ wx, Same w wx → Calls Tryz.prog 16 #[.int .i64 txn, .int .i64 1, .int .i64 2147483647] wx fun e w' => e = .returned (.bool b1) ∧ Same wx w') (js : ∀ wx, Same w wx → Calls Tryz.prog 16 #[.int .i64 prev, .int .i64 0, .int .i64 1099511627776] wx fun e w' => e = .returned (.bool b2) ∧ Same wx w') (kE : ∀ wx, Same w wx → Calls Tryz.prog 45 #[.agg #[.bool af, .slice aj ah ag]] wx fun e w' => e = .returned (.bool b5) ∧ Same wx w') (kK : ∀ wx, Same w wx → Calls Tryz.prog 45 #[.agg #[.bool ay, .slice aB az aA]] wx fun e w' => e = .returned (.bool b6) ∧ Same wx w') :
  Calls Tryz.prog 17 #[.agg #[.int .i64 5, .int .i64 txn, .int .i64 prev, .int .i64 page, .int .i64 slot, .bool af, .slice aj ah ag, .bool ay, .slice aB az aA, .int .i64 uN, .int .i64 nT, .slice bi aW bh, .slice aI aC aH, .slice aE av aD]] w fun e w' => e = .returned (.int .i64 (if EX = true then 2 else (if b1 = false then 3 else (if b2 = false then 4 else (if b5 = false then 6 else (if b6 = false then 6 else (0))))))) ∧ Same w w' := by
 obtain ⟨bk, cv⟩ := new1 w [.int .i64 5, .int .i64 txn, .int .i64 prev, .int .i64 page, .int .i64 slot, .bool af, .slice aj ah ag, .bool ay, .slice aB az aA, .int .i64 uN, .int .i64 nT, .slice bi aW bh, .slice aI aC aH, .slice aE av aD] 49
 go_enter Tryz.func17, Tryz.ntmps17
 go_wp2_with fail
 refine (jt _ bk.out).mono ?_
 rintro e w1 ⟨rfl, hk⟩
 have bq := hid (bk.out.trans hk)
 have bG := hid (cv.out.same hk)
 clear hk bk cv
 obtain ⟨d0, d1, d2, d3, d4, d5, d6, d7, d8, d9, eh, eo, er, ec⟩ := bG.out.all14
 go_wp2_with fail
 refine (hex _ bq.out).mono ?_
 rintro e w2 ⟨rfl, hk⟩
 clear d0 d1 d2 d3 d4 d5 d6 d7 d8 d9 eh eo er ec
 have cw := hid (bq.out.trans hk)
 have cx := hid (bG.out.same hk)
 clear hk bq bG
 obtain ⟨d0, d1, d2, d3, d4, d5, d6, d7, d8, d9, eh, eo, er, ec⟩ := cx.out.all14
 cases EX with
 | true =>
  go_wp2
  go_ret
  exact ⟨by first | rfl | simp, cw.out⟩
 | false =>
  go_wp2_with fail
  refine (nL _ cw.out).mono ?_
  rintro e w3 ⟨rfl, hk⟩
  clear d0 d1 d2 d3 d4 d5 d6 d7 d8 d9 eh eo er ec
  have dZ := hid (cw.out.trans hk)
  have gv := hid (cx.out.same hk)
  clear hk cw cx
  obtain ⟨d0, d1, d2, d3, d4, d5, d6, d7, d8, d9, eh, eo, er, ec⟩ := gv.out.all14
  cases b1 with
  | false =>
   go_wp2
   go_ret
   exact ⟨by first | rfl | simp, dZ.out⟩
  | true =>
   go_wp2_with fail
   refine (js _ dZ.out).mono ?_
   rintro e w4 ⟨rfl, hk⟩
   clear d0 d1 d2 d3 d4 d5 d6 d7 d8 d9 eh eo er ec
   have fA := hid (dZ.out.trans hk)
   have i5 := hid (gv.out.same hk)
   clear hk dZ gv
   obtain ⟨d0, d1, d2, d3, d4, d5, d6, d7, d8, d9, eh, eo, er, ec⟩ := i5.out.all14
   cases b2 with
   | false =>
    go_wp2
    go_ret
    exact ⟨by first | rfl | simp, fA.out⟩
   | true =>
    go_wp2_with fail
    refine (kE _ fA.out).mono ?_
    rintro e w5 ⟨rfl, hk⟩
    clear d0 d1 d2 d3 d4 d5 d6 d7 d8 d9 eh eo er ec
    have fM := hid (fA.out.trans hk)
    have jQ := hid (i5.out.same hk)
    clear hk fA i5
    obtain ⟨d0, d1, d2, d3, d4, d5, d6, d7, d8, d9, eh, eo, er, ec⟩ := jQ.out.all14
    cases b5 with
    | false =>
     go_wp2
     go_ret
     exact ⟨by first | rfl | simp, fM.out⟩
    | true =>
     go_wp2_with fail
     refine (kK _ fM.out).mono ?_
     rintro e w6 ⟨rfl, hk⟩
     clear d0 d1 d2 d3 d4 d5 d6 d7 d8 d9 eh eo er ec
     have jd := hid (fM.out.trans hk)
     have nf := hid (jQ.out.same hk)
     clear hk fM jQ
     obtain ⟨d0, d1, d2, d3, d4, d5, d6, d7, d8, d9, eh, eo, er, ec⟩ := nf.out.all14
     cases b6 with
     | false =>
      go_wp2
      go_ret
      exact ⟨by first | rfl | simp, jd.out⟩
     | true =>
      go_wp2
      go_ret
      exact ⟨by first | rfl | simp, jd.out⟩
end Go.Proofs.YtepdakgfioffgaaGreat
