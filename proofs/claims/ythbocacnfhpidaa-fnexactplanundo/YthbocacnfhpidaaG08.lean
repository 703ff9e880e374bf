import Derived.Test.YthbocacnfhpidaaG06
import Derived.Deep.DeepCutAuto
import Derived.Deep.AppendSrc
namespace Go.Proofs.Ythbocacnfhpidaa
set_option maxRecDepth 100000
set_option maxHeartbeats 4000000
open Go.RowKit
set_option linter.unusedVariables false
set_option linter.unusedSimpArgs false
abbrev frV (p : StLogFrame) : Value := .agg (kFr.cells p).toArray
abbrev enV (e : Q4) : Value := .agg #[.int .i64 e.1, .int .i64 e.2.1, .int .i64 e.2.2.1, .int .i64 e.2.2.2]
theorem newBox (w : World) (cs : List Value) (t : TypeId) : Blk (w.alloc (.cells cs.toArray t)) w.heap.size t cs ∧ Same w (w.alloc (.cells cs.toArray t)) := ⟨Blk.newL w cs t, (Kept.refl _ _).alloc _⟩
theorem notRisingLSN_any (p q : StLogFrame) (w : World) : Calls Try.prog 22 #[frV p, frV q] w fun e w' => e = .returned (.bool (fAfter (f5 p) (f5 q))) ∧ Same w w' := by
  obtain ⟨cs, hcs⟩ : ∃ cs, kFr.cells p = cs := ⟨_, rfl⟩
  obtain ⟨ds, hds⟩ : ∃ ds, kFr.cells q = ds := ⟨_, rfl⟩
  have hB := newBox w cs 60
  have hD := newBox (w.alloc (.cells cs.toArray 60)) ds 60
  have c0 : ((w.alloc (.cells cs.toArray 60)).alloc (.cells ds.toArray 60)).cell? ⟨w.heap.size, 0, none⟩ = some (.int .i64 (f5 p).1) := by
    rw [(hB.1.same hD.2).cell, ← hcs]; rfl
  have d0 : ((w.alloc (.cells cs.toArray 60)).alloc (.cells ds.toArray 60)).cell? ⟨w.heap.size + 1, 0, none⟩ = some (.int .i64 (f5 q).1) := by
    have h := hD.1.cell 0
    rw [World.size_alloc] at h
    rw [h, ← hds]; rfl
  have HK := hid (hB.2.trans hD.2)
  dsimp only [frV]
  rw [hcs, hds]
  unfold fAfter
  obtain ⟨x, hx⟩ : ∃ x, (f5 p).1 = x := ⟨_, rfl⟩
  obtain ⟨y, hy⟩ : ∃ y, (f5 q).1 = y := ⟨_, rfl⟩
  rw [hx] at c0 ⊢
  rw [hy] at d0 ⊢
  clear hx hy hcs hds hB hD
  go_enter Try.func22, Try.ntmps22
  go_wp2
  go_ret
  exact ⟨by simp, HK.out⟩
theorem notRisingTxn_any (p q : Q4) (w : World) : Calls Try.prog 24 #[enV p, enV q] w fun e w' => e = .returned (.bool (tAfter p q)) ∧ Same w w' := by
  obtain ⟨x, y, z, u⟩ := p
  obtain ⟨x2, y2, z2, u2⟩ := q
  unfold tAfter
  dsimp only [enV]
  have HB0 := (show Hid (Blk (w.alloc (.cells #[.int .i64 x, .int .i64 y, .int .i64 z, .int .i64 u] 52)) w.heap.size 52 [.int .i64 x, .int .i64 y, .int .i64 z, .int .i64 u]) from Blk.newL w _ _)
  have HB1 := (show Hid (Blk ((w.alloc (.cells #[.int .i64 x, .int .i64 y, .int .i64 z, .int .i64 u] 52)).alloc (.cells #[.int .i64 x2, .int .i64 y2, .int .i64 z2, .int .i64 u2] 52)) (w.heap.size + 1) 52 [.int .i64 x2, .int .i64 y2, .int .i64 z2, .int .i64 u2]) from by have h := Blk.newL (w.alloc (.cells #[.int .i64 x, .int .i64 y, .int .i64 z, .int .i64 u] 52)) [.int .i64 x2, .int .i64 y2, .int .i64 z2, .int .i64 u2] 52; rw [World.size_alloc] at h; exact h)
  have c0 := (HB0.out.alloc (.cells #[.int .i64 x2, .int .i64 y2, .int .i64 z2, .int .i64 u2] 52)).c0
  have d0 := HB1.out.c0
  have HK := (show Hid (Same w _) from ((Kept.refl _ _).alloc (.cells #[.int .i64 x, .int .i64 y, .int .i64 z, .int .i64 u] 52)).alloc (.cells #[.int .i64 x2, .int .i64 y2, .int .i64 z2, .int .i64 u2] 52))
  go_enter Try.func24, Try.ntmps24
  go_wp2
  go_ret
  exact ⟨by simp, HK.out⟩
theorem below_any (p : Q4) (w : World) : Calls Try.prog 26 #[enV p] w fun e w' => e = .returned (.bool (tNeg p)) ∧ Same w w' := by
  obtain ⟨x, y, z, u⟩ := p
  unfold tNeg
  dsimp only [enV]
  have HB0 := (show Hid (Blk (w.alloc (.cells #[.int .i64 x, .int .i64 y, .int .i64 z, .int .i64 u] 52)) w.heap.size 52 [.int .i64 x, .int .i64 y, .int .i64 z, .int .i64 u]) from Blk.newL w _ _)
  have c3 := HB0.out.c3
  have HK := (show Hid (Same w _) from (Kept.refl _ _).alloc (.cells #[.int .i64 x, .int .i64 y, .int .i64 z, .int .i64 u] 52))
  go_enter Try.func26, Try.ntmps26
  go_wp2
  go_ret
  exact ⟨by simp, HK.out⟩
theorem changes_any (cs : List Value) (kd : Int) (w : World) (hl : cs.length = 14) (hc : cs[0]? = some (.int .i64 kd)) : Calls Try.prog 42 #[.agg cs.toArray] w fun e w' => e = .returned (.bool (decide (kd = 1 ∨ kd = 2))) ∧ Same w w' := by
  have hB := newBox w cs 58
  have c0 : (w.alloc (.cells cs.toArray 58)).cell? ⟨w.heap.size, 0, none⟩ = some (.int .i64 kd) := by rw [hB.1.cell]; exact hc
  have HK := hid hB.2
  clear hB hc
  by_cases h1 : kd = 1
  · have h1' : (kd == 1) = true := by simp [h1]
    have HH := hid h1
    clear h1
    go_enter Try.func42, Try.ntmps42
    go_wp2
    go_ret
    exact ⟨by simp [HH.out], HK.out⟩
  · have h1' : (kd == 1) = false := by simp [h1]
    have HH := hid h1
    clear h1
    go_enter Try.func42, Try.ntmps42
    go_wp2
    go_ret
    exact ⟨by simp [HH.out]; try rfl, HK.out⟩
end Go.Proofs.Ythbocacnfhpidaa

namespace Go.Proofs.Ythbocacnfhpidaa
set_option maxRecDepth 100000
set_option maxHeartbeats 4000000
open Go.RowKit
set_option linter.unusedVariables false
set_option linter.unusedSimpArgs false
def EntersU (fid : FuncId) : Prop := ∀ (args : Array Value) (wx : World), (callFunc fid args).run Try.prog wx = .ok (.enter fid args) wx
theorem enters_nrl : EntersU 22 := fun args wx => by simp [callFunc, go_sem, Try.func22, Try.f22]
theorem enters_nrt : EntersU 24 := fun args wx => by simp [callFunc, go_sem, Try.func24, Try.f24]
theorem enters_btl : EntersU 26 := fun args wx => by simp [callFunc, go_sem, Try.func26, Try.f26]
theorem enters_bls : EntersU 41 := fun args wx => by simp [callFunc, go_sem, Try.func41, Try.f41]
theorem isNaNU_any (x : Int) (w : World) : Calls Try.prog 57 #[.int .i64 x] w fun e w' => e = .returned (.bool false) ∧ w' = w := by
  go_enter Try.func57, Try.ntmps57
  go_wp2
  go_ret
  exact ⟨by simp, rfl⟩
def cmpU (x y : Int) : Int := if x < y then -1 else if y < x then 1 else 0
theorem compareU_any (x y : Int) (w : World) : Calls Try.prog 52 #[.int .i64 x, .int .i64 y] w fun e w' => e = .returned (.int .i64 (cmpU x y)) ∧ w' = w := by
  have k0 := isNaNU_any x
  have k1 := isNaNU_any y
  unfold cmpU
  by_cases h : x < y
  · rw [if_pos h]
    go_enter Try.func52, Try.ntmps52
    go_wp2_with fail
    refine (k0 _).mono ?_
    rintro e w1 ⟨rfl, rfl⟩
    go_wp2_with fail
    refine (k1 _).mono ?_
    rintro e w1 ⟨rfl, rfl⟩
    go_wp2
    go_ret
    exact ⟨rfl, rfl⟩
  · rw [if_neg h]
    by_cases h2 : y < x
    · rw [if_pos h2]
      go_enter Try.func52, Try.ntmps52
      go_wp2_with fail
      refine (k0 _).mono ?_
      rintro e w1 ⟨rfl, rfl⟩
      go_wp2_with fail
      refine (k1 _).mono ?_
      rintro e w1 ⟨rfl, rfl⟩
      go_wp2
      go_ret
      exact ⟨rfl, rfl⟩
    · rw [if_neg h2]
      go_enter Try.func52, Try.ntmps52
      go_wp2_with fail
      refine (k0 _).mono ?_
      rintro e w1 ⟨rfl, rfl⟩
      go_wp2_with fail
      refine (k1 _).mono ?_
      rintro e w1 ⟨rfl, rfl⟩
      go_wp2
      go_ret
      exact ⟨rfl, rfl⟩
theorem byLSN_any (p : StLogFrame) (id : Int) (w : World) : Calls Try.prog 41 #[frV p, .int .i64 id] w fun e w' => e = .returned (.int .i64 (cmpU (f5 p).1 id)) ∧ Same w w' := by
  obtain ⟨cs, hcs⟩ : ∃ cs, kFr.cells p = cs := ⟨_, rfl⟩
  have hB := newBox w cs 60
  have c0 : (w.alloc (.cells cs.toArray 60)).cell? ⟨w.heap.size, 0, none⟩ = some (.int .i64 (f5 p).1) := by rw [hB.1.cell, ← hcs]; rfl
  have HK := hid hB.2
  dsimp only [frV]
  rw [hcs]
  obtain ⟨x, hx⟩ : ∃ x, (f5 p).1 = x := ⟨_, rfl⟩
  rw [hx] at c0 ⊢
  clear hx hcs hB
  have k0 := compareU_any x id
  go_enter Try.func41, Try.ntmps41
  go_wp2_with fail
  refine (k0 _).mono ?_
  rintro e w1 ⟨rfl, rfl⟩
  go_wp2
  go_ret
  exact ⟨rfl, HK.out⟩
theorem FrC.row {w : World} {b off : Nat} {ps : List StLogFrame} (h : FrC w b off ps) (k : Nat) (hk : k < ps.length) : w.rangeAt b (off + k * 16) (kFr.cells ps[k]) := fun j v hv => by
  have hj : j < 16 := by have := (List.getElem?_eq_some_iff.1 hv).1; rw [kFr.len] at this; exact this
  have h1 := h k j hk hj
  rw [show off + (k * 16 + j) = off + k * 16 + j from by omega] at h1
  rw [h1, hv]
theorem bsearchU_any (va : Option Addr) (vc L : Nat) (ps : List StLogFrame) (u : Int) (w : World) (hL : ps.length = L) (hn : L ≤ 1048576) (hv : RdFr w (.slice va L vc) ps) (hr : nbg fAfter (fs5 ps) = false) :
    Calls Try.prog 40 #[.slice va L vc, .int .i64 u, .func (.func 41) #[] #[]] w fun e w' => ∃ (k : Nat) (B : Bool), e = .returned (.tuple #[.int .i64 k, .bool B]) ∧ Hid ((B = true ∧ ∃ h : k < ps.length, (f5 ps[k]).1 = u) ∨ (B = false ∧ ∀ j (h : j < ps.length), (f5 ps[j]).1 ≠ u)) ∧ Same w w' := by
  have hris : ∀ (j i : Nat) (hj : j < ps.length) (hi : i < j), (f5 (ps[i]'(Nat.lt_trans hi hj))).1 < (f5 ps[j]).1 := fun j i hj hi => by
    have h := rise_at hr j i (by rw [fs5_length]; exact hj) hi
    rw [fs5_at ps i (Nat.lt_trans hi hj), fs5_at ps j hj] at h
    exact h
  have HR := hid hris
  have HV := hid hv
  have HLL := hid hL
  clear hv hr hL hris
  have hent' : ∀ (args : Array Value) (wx : World), (callFunc 41 args).run Try.prog wx = .ok (.enter 41 args) wx := enters_bls
  go_enter Try.func40, Try.ntmps40
  go_wp2_with fail
  go_loopw [9, 10] (fun i j wr => ∃ (k m : Nat), k ≤ m ∧ m ≤ L ∧ i = .int .i64 k ∧ j = .int .i64 m ∧ Hid ((∀ (q : Nat) (h : q < ps.length), q < k → (f5 ps[q]).1 < u) ∧ (∀ (q : Nat) (h : q < ps.length), m ≤ q → u ≤ (f5 ps[q]).1)) ∧ Hid (Same w wr)) (fun i j _ => (intOf j).toNat - (intOf i).toNat)
  case atStart => exact ⟨0, L, Nat.zero_le _, Nat.le_refl _, rfl, rfl, ⟨fun q h hq => by omega, fun q h hq => by have := HLL.out; omega⟩, Kept.refl _ _⟩
  case round =>
    obtain ⟨k, m, hkm, hmn, rfl, rfl, HI0, HK⟩ := hrel
    by_cases hlt : k < m
    · obtain ⟨h, hh⟩ : ∃ h, (k + m) / 2 = h := ⟨_, rfl⟩
      have hh1 : k ≤ h := by omega
      have hh2 : h < m := by omega
      have hhn : h < L := by omega
      have hla : h < ps.length := by rw [HLL.out]; omega
      have hw1 : IntKind.i64.wrap ((k : Int) + (m : Int)) = ((k + m : Nat) : Int) := by rw [IntKind.wrap_i64]; omega
      obtain ⟨b, off, ha, hc⟩ := RdFr.cs HLL.out HV.out (by omega)
      subst ha
      have HRG := hid ((hc.same HK.out).row h hla)
      have kf := byLSN_any ps[h] u wr
      dsimp only [frV] at kf
      obtain ⟨X, hX⟩ : ∃ X, (f5 ps[h]).1 = X := ⟨_, rfl⟩
      rw [hX] at kf
      obtain ⟨cs, hcs⟩ : ∃ cs, kFr.cells ps[h] = cs := ⟨_, rfl⟩
      have hcl : cs.length = 16 := by rw [← hcs]; exact kFr.len _
      rw [hcs] at HRG kf
      have HI : Hid ((Try.prog.info? 60).map (·.size) = some cs.length) := by unfold Hid; rw [hcl]; kernel_rfl
      have HX := hid hX
      clear hX hcs hcl hc
      by_cases hcmp : X < u
      · have HI2 : Hid ((∀ (q : Nat) (h' : q < ps.length), q < h + 1 → (f5 ps[q]).1 < u) ∧ (∀ (q : Nat) (h' : q < ps.length), m ≤ q → u ≤ (f5 ps[q]).1)) := ⟨fun q h' hq => by
          by_cases e : q = h
          · subst e; rw [HX.out]; exact hcmp
          · have h1 := HR.out h q hla (by omega)
            rw [HX.out] at h1
            exact Int.lt_trans h1 hcmp, HI0.out.2⟩
        rw [show cmpU X u = -1 from if_pos hcmp] at kf
        clear HI0 hcmp HX
        subst hh
        go_wp2_with (first | (refine wpList_load_mid rfl 60 _ rfl b (off + ((k + m) / 2) * 16) rfl cs _ HRG.out Try.underlying60 rfl HI.out ?_))
        refine kf.mono ?_
        rintro e w1 ⟨rfl, hk1⟩
        have HK1 := (show Hid (Same w w1) from HK.out.trans hk1)
        clear kf hk1 HRG
        go_wp2
        go_roundw
        case rel => exact ⟨(k + m) / 2 + 1, m, by omega, by omega, by go_num, rfl, HI2, HK1⟩
        case measure => simp [intOf]; omega
      · have HI2 : Hid ((∀ (q : Nat) (h' : q < ps.length), q < k → (f5 ps[q]).1 < u) ∧ (∀ (q : Nat) (h' : q < ps.length), h ≤ q → u ≤ (f5 ps[q]).1)) := ⟨HI0.out.1, fun q h' hq => by
          by_cases e : q = h
          · subst e; rw [HX.out]; exact Int.not_lt.1 hcmp
          · have h1 := HR.out q h h' (by omega)
            rw [HX.out] at h1
            exact Int.le_trans (Int.not_lt.1 hcmp) (Int.le_of_lt h1)⟩
        have hge : ¬ cmpU X u < 0 := by unfold cmpU; rw [if_neg hcmp]; split <;> omega
        obtain ⟨cq, hcq⟩ : ∃ cq, cmpU X u = cq := ⟨_, rfl⟩
        rw [hcq] at kf hge
        clear HI0 hcmp hcq HX
        subst hh
        go_wp2_with (first | (refine wpList_load_mid rfl 60 _ rfl b (off + ((k + m) / 2) * 16) rfl cs _ HRG.out Try.underlying60 rfl HI.out ?_))
        refine kf.mono ?_
        rintro e w1 ⟨rfl, hk1⟩
        have HK1 := (show Hid (Same w w1) from HK.out.trans hk1)
        clear kf hk1 HRG
        go_wp2
        go_roundw
        case rel => exact ⟨k, (k + m) / 2, by omega, by omega, rfl, by go_num, HI2, HK1⟩
        case measure => simp [intOf]; omega
    · obtain rfl : k = m := by omega
      by_cases hkn : k < L
      · have hla : k < ps.length := by rw [HLL.out]; omega
        obtain ⟨b, off, ha, hc⟩ := RdFr.cs HLL.out HV.out (by omega)
        subst ha
        have HRG := hid ((hc.same HK.out).row k hla)
        have kf := byLSN_any ps[k] u wr
        dsimp only [frV] at kf
        obtain ⟨X, hX⟩ : ∃ X, (f5 ps[k]).1 = X := ⟨_, rfl⟩
        rw [hX] at kf
        obtain ⟨cs, hcs⟩ : ∃ cs, kFr.cells ps[k] = cs := ⟨_, rfl⟩
        have hcl : cs.length = 16 := by rw [← hcs]; exact kFr.len _
        rw [hcs] at HRG kf
        have HI : Hid ((Try.prog.info? 60).map (·.size) = some cs.length) := by unfold Hid; rw [hcl]; kernel_rfl
        have HX := hid hX
        clear hX hcs hcl hc
        have HF : Hid (((cmpU X u == 0) = true ∧ ∃ h : k < ps.length, (f5 ps[k]).1 = u) ∨ ((cmpU X u == 0) = false ∧ ∀ j (h : j < ps.length), (f5 ps[j]).1 ≠ u)) := by
          unfold Hid
          by_cases hxu : X = u
          · left
            exact ⟨by simp [cmpU, hxu], hla, HX.out.trans hxu⟩
          · right
            have h2 := HI0.out.2 k hla (Nat.le_refl _)
            rw [HX.out] at h2
            refine ⟨by have h3 : u < X := by omega
                       simp [cmpU]; omega, fun j h => ?_⟩
            by_cases hjk : j < k
            · have := HI0.out.1 j h hjk; omega
            · by_cases e : j = k
              · subst e; rw [HX.out]; exact hxu
              · have := HR.out j k h (by omega); rw [HX.out] at this; omega
        obtain ⟨cq, hcq⟩ : ∃ cq, cmpU X u = cq := ⟨_, rfl⟩
        rw [hcq] at kf HF
        clear HI0 hcq HX
        have hkL : (decide ((k : Int) < (L : Int))) = true := decide_eq_true (by omega)
        go_wp2_with (first | (refine wpList_load_mid rfl 60 _ rfl b (off + k * 16) rfl cs _ HRG.out Try.underlying60 rfl HI.out ?_) | (refine BigFrame.wpList_want (by rfl) (fun K hK => wp_load_mid 60 _ rfl b (off + k * 16) rfl cs _ HRG.out Try.underlying60 rfl HI.out (hK _ _ ?_))))
        refine kf.mono ?_
        rintro e w1 ⟨rfl, hk1⟩
        have HK1 := (show Hid (Same w w1) from HK.out.trans hk1)
        clear kf hk1 HRG
        go_wp2
        go_ret2
        exact ⟨k, (cq == 0), rfl, HF, HK1.out⟩
      · have hkL : (decide ((k : Int) < (L : Int))) = false := decide_eq_false (by omega)
        go_wp2
        go_ret2
        exact ⟨k, false, rfl, .inr ⟨rfl, fun j h => by have := HI0.out.1 j h (by have := HLL.out; omega); omega⟩, HK.out⟩
theorem neighF_any (va : Option Addr) (vc L : Nat) (ps : List StLogFrame) (w : World) (hL : ps.length = L) (hm : L ≤ 1048576) (hv : RdFr w (.slice va L vc) ps) :
    Calls Try.prog 21 #[.slice va L vc, .func (.func 22) #[] #[]] w fun e w' => e = .returned (.bool (nbg fAfter (fs5 ps))) ∧ Same w w' := by
  have HV := hid hv
  have HLL := hid hL
  have HL5 : Hid ((fs5 ps).length = L) := by unfold Hid; rw [fs5_length, hL]
  obtain ⟨B, hB⟩ : ∃ B, nbg fAfter (fs5 ps) = B := ⟨_, rfl⟩
  have HB := hid hB
  rw [hB]
  clear hv hL hB
  have hent' : ∀ (args : Array Value) (wx : World), (callFunc 22 args).run Try.prog wx = .ok (.enter 22 args) wx := enters_nrl
  go_enter Try.func21, Try.ntmps21
  go_wp2_with fail
  go_loopw [5] (fun i wr => ∃ k : Nat, (k ≤ L ∨ k = 1) ∧ 1 ≤ k ∧ i = .int .i64 k ∧ Hid (∀ (j : Nat) (h : j + 1 < (fs5 ps).length), j + 1 < k → fAfter (fs5 ps)[j] (fs5 ps)[j + 1] = false) ∧ Hid (Same w wr)) (fun i _ => L - (intOf i).toNat)
  case atStart => exact ⟨1, .inr rfl, Nat.le_refl _, rfl, fun j h hj => by omega, Kept.refl _ _⟩
  case round =>
    obtain ⟨k, hk, hk1, rfl, HA, HK⟩ := hrel
    by_cases hlt : k < L
    · obtain ⟨b, off, ha, hc⟩ := RdFr.cs HLL.out HV.out (by omega)
      subst ha
      obtain ⟨k0, rfl⟩ : ∃ k0, k = k0 + 1 := ⟨k - 1, by omega⟩
      have hla : k0 < ps.length := by rw [HLL.out]; omega
      have hlb : k0 + 1 < ps.length := by rw [HLL.out]; omega
      have HRA := hid ((hc.same HK.out).row k0 hla)
      have HRB := hid ((hc.same HK.out).row (k0 + 1) hlb)
      have kf := fun wx => notRisingLSN_any ps[k0] ps[k0 + 1] wx
      dsimp only [frV] at kf
      have HXA := hid (fs5_at ps k0 hla)
      have HXB := hid (fs5_at ps (k0 + 1) hlb)
      obtain ⟨cs, hcs⟩ : ∃ cs, kFr.cells ps[k0] = cs := ⟨_, rfl⟩
      obtain ⟨ds, hds⟩ : ∃ ds, kFr.cells ps[k0 + 1] = ds := ⟨_, rfl⟩
      have hcl : cs.length = 16 := by rw [← hcs]; exact kFr.len _
      have hdl : ds.length = 16 := by rw [← hds]; exact kFr.len _
      have HIcs : Hid ((Try.prog.info? 60).map (·.size) = some cs.length) := by unfold Hid; rw [hcl]; kernel_rfl
      have HIds : Hid ((Try.prog.info? 60).map (·.size) = some ds.length) := by unfold Hid; rw [hdl]; kernel_rfl
      rw [hcs] at HRA kf
      rw [hds] at HRB kf
      obtain ⟨X, hX⟩ : ∃ X, f5 ps[k0] = X := ⟨_, rfl⟩
      obtain ⟨Y, hY⟩ : ∃ Y, f5 ps[k0 + 1] = Y := ⟨_, rfl⟩
      rw [hX] at kf HXA
      rw [hY] at kf HXB
      have hi1 : ((k0 + 1 : Nat) : Int) - 1 = (k0 : Int) := by omega
      have hw0 : IntKind.i64.wrap (k0 : Int) = (k0 : Int) := by rw [IntKind.wrap_i64]; omega
      have mm : (k0 : Int) < (L : Int) := by omega
      have hp1 : (0 : Int) ≤ (k0 : Int) + 1 := by omega
      clear hcs hds hcl hdl hX hY hc
      cases hb : fAfter X Y with
      | true =>
        rw [hb] at kf
        have HE : Hid (B = true) := by
          have h := HB.out
          rw [nbg_yes k0 (by rw [HL5.out]; omega) (by rw [HXA.out, HXB.out]; exact hb)] at h
          exact h.symm
        clear HA hb
        go_wp2_with fail
        have hS : (fun wx : World => wx.rangeAt b (off + k0 * 16) cs ∧ wx.rangeAt b (off + (k0 + 1) * 16) ds) wr.drew := ⟨HRA.out, HRB.out⟩
        refine wp_region_V (fun wx : World => wx.rangeAt b (off + k0 * 16) cs ∧ wx.rangeAt b (off + (k0 + 1) * 16) ds) 99 11 rfl (by kernel_rfl) ?_
        refine tk 0 12 hS ?_
        refine tk 1 13 hS ?_
        refine tk 2 14 hS ?_
        refine tkV 3 15 (.int .i64 (k0 : Int)) hS ?_
        refine tk 4 16 hS ?_
        refine wpAnyV_take (i := 5) (v := .agg cs.toArray) (some 17) rfl rfl (by kernel_rfl) (by kernel_rfl) (by kernel_rfl) (by kernel_rfl) (fun _ _ _ h => h) (yieldsIf_load_mid (by rfl) 60 (.tmp 16) rfl b (off + k0 * 16) (by rfl) cs _ (fun w h => h.1) Try.underlying60 rfl HIcs.out) hS ?_
        try simp only [Act.put, sA, s0, sS]
        refine tk 6 18 hS ?_
        refine tk 7 19 hS ?_
        refine tk 8 20 hS ?_
        refine wpAnyV_take (i := 9) (v := .agg ds.toArray) (some 21) rfl rfl (by kernel_rfl) (by kernel_rfl) (by kernel_rfl) (by kernel_rfl) (fun _ _ _ h => h) (yieldsIf_load_mid (by rfl) 60 (.tmp 20) rfl b (off + (k0 + 1) * 16) (by rfl) ds _ (fun w h => h.2) Try.underlying60 rfl HIds.out) hS ?_
        try simp only [Act.put, sA, s0, sS]
        refine wpAnyV_one (i := 10) (by kernel_rfl) rfl (fun Kc hK => ?_)
        go_simp
        refine (kf _).mono ?_
        rintro e w1 ⟨rfl, hk1⟩
        have HK1 := (show Hid (Same w w1) from (HK.out.drew).trans hk1)
        have hS : (fun wx : World => wx.rangeAt b (off + k0 * 16) cs ∧ wx.rangeAt b (off + (k0 + 1) * 16) ds) w1 := ⟨Kept.ranges (((Kept.refl _ _).drew).trans hk1) HRA.out, Kept.ranges (((Kept.refl _ _).drew).trans hk1) HRB.out⟩
        refine hK.out _ _ (fun _ => hS) ?_
        clear hK Kc
        try simp only [Act.put, sA, s0, sS]
        refine wpAnyV_done (by kernel_rfl) ?_
        go_wp2
        go_ret
        have hE := HE.out
        exact ⟨by subst hE; rfl, HK1.out⟩
      | false =>
        rw [hb] at kf
        have HA2 : Hid (∀ (j : Nat) (h : j + 1 < (fs5 ps).length), j + 1 < k0 + 1 + 1 → fAfter (fs5 ps)[j] (fs5 ps)[j + 1] = false) := fun j h hj => by
          by_cases hjk : j + 1 < k0 + 1
          · exact HA.out j h hjk
          · obtain rfl : j = k0 := by omega
            rw [HXA.out, HXB.out]; exact hb
        clear HA hb
        go_wp2_with fail
        have hS : (fun wx : World => wx.rangeAt b (off + k0 * 16) cs ∧ wx.rangeAt b (off + (k0 + 1) * 16) ds) wr.drew := ⟨HRA.out, HRB.out⟩
        refine wp_region_V (fun wx : World => wx.rangeAt b (off + k0 * 16) cs ∧ wx.rangeAt b (off + (k0 + 1) * 16) ds) 99 11 rfl (by kernel_rfl) ?_
        refine tk 0 12 hS ?_
        refine tk 1 13 hS ?_
        refine tk 2 14 hS ?_
        refine tkV 3 15 (.int .i64 (k0 : Int)) hS ?_
        refine tk 4 16 hS ?_
        refine wpAnyV_take (i := 5) (v := .agg cs.toArray) (some 17) rfl rfl (by kernel_rfl) (by kernel_rfl) (by kernel_rfl) (by kernel_rfl) (fun _ _ _ h => h) (yieldsIf_load_mid (by rfl) 60 (.tmp 16) rfl b (off + k0 * 16) (by rfl) cs _ (fun w h => h.1) Try.underlying60 rfl HIcs.out) hS ?_
        try simp only [Act.put, sA, s0, sS]
        refine tk 6 18 hS ?_
        refine tk 7 19 hS ?_
        refine tk 8 20 hS ?_
        refine wpAnyV_take (i := 9) (v := .agg ds.toArray) (some 21) rfl rfl (by kernel_rfl) (by kernel_rfl) (by kernel_rfl) (by kernel_rfl) (fun _ _ _ h => h) (yieldsIf_load_mid (by rfl) 60 (.tmp 20) rfl b (off + (k0 + 1) * 16) (by rfl) ds _ (fun w h => h.2) Try.underlying60 rfl HIds.out) hS ?_
        try simp only [Act.put, sA, s0, sS]
        refine wpAnyV_one (i := 10) (by kernel_rfl) rfl (fun Kc hK => ?_)
        go_simp
        refine (kf _).mono ?_
        rintro e w1 ⟨rfl, hk1⟩
        have HK1 := (show Hid (Same w w1) from (HK.out.drew).trans hk1)
        have hS : (fun wx : World => wx.rangeAt b (off + k0 * 16) cs ∧ wx.rangeAt b (off + (k0 + 1) * 16) ds) w1 := ⟨Kept.ranges (((Kept.refl _ _).drew).trans hk1) HRA.out, Kept.ranges (((Kept.refl _ _).drew).trans hk1) HRB.out⟩
        refine hK.out _ _ (fun _ => hS) ?_
        clear hK Kc
        try simp only [Act.put, sA, s0, sS]
        refine wpAnyV_done (by kernel_rfl) ?_
        go_wp2
        go_roundw
        case rel => exact ⟨k0 + 1 + 1, by omega, by omega, by go_num, HA2, HK1⟩
        case measure => simp [intOf]; omega
    · go_wp2
      go_ret
      have h := nbg_no (f := fAfter) (ls := fs5 ps) (fun i hi => HA.out i hi (by have := HL5.out; omega))
      rw [HB.out] at h
      exact ⟨by subst h; rfl, HK.out⟩
end Go.Proofs.Ythbocacnfhpidaa

namespace Go.Proofs.Ythbocacnfhpidaa
set_option maxRecDepth 100000
set_option maxHeartbeats 4000000
open Go.RowKit
set_option linter.unusedVariables false
set_option linter.unusedSimpArgs false
theorem neighT_any (xe : TypeId) (xa : Option Addr) (xc n : Nat) (ts : List Q4) (w : World) (hl : ts.length = n) (hv : RdF 4 w ⟨xe, xa, n, xc, flat4 ts⟩) :
    Calls Try.prog 23 #[.slice xa n xc, .func (.func 24) #[] #[]] w fun e w' => e = .returned (.bool (nbg tAfter ts)) ∧ Same w w' := by
  have hm : n ≤ maxLen := hv.1
  unfold maxLen at hm
  have HV := hid hv
  have HL := hid hl
  obtain ⟨B, hB⟩ : ∃ B, nbg tAfter ts = B := ⟨_, rfl⟩
  have HB := hid hB
  rw [hB]
  clear hv hl hB
  have hent' : ∀ (args : Array Value) (wx : World), (callFunc 24 args).run Try.prog wx = .ok (.enter 24 args) wx := enters_nrt
  go_enter Try.func23, Try.ntmps23
  go_wp2_with fail
  go_loopw [5] (fun i wr => ∃ k : Nat, (k ≤ n ∨ k = 1) ∧ 1 ≤ k ∧ i = .int .i64 k ∧ Hid (∀ j : Nat, j + 1 < k → tAfter (ts.getD j q4z) (ts.getD (j + 1) q4z) = false) ∧ Hid (Same w wr)) (fun i _ => n - (intOf i).toNat)
  case atStart => exact ⟨1, .inr rfl, Nat.le_refl _, rfl, fun j hj => by omega, Kept.refl _ _⟩
  case round =>
    obtain ⟨k, hk, hk1, rfl, HA, HK⟩ := hrel
    by_cases hlt : k < n
    · obtain ⟨b, off, ha, hc⟩ := HV.out.someQ (show 0 < n by omega)
      dsimp only at ha hc
      subst ha
      obtain ⟨k0, rfl⟩ : ∃ k0, k = k0 + 1 := ⟨k - 1, by omega⟩
      have hla : k0 < ts.length := by rw [HL.out]; omega
      have hlb : k0 + 1 < ts.length := by rw [HL.out]; omega
      obtain ⟨⟨a1, s1, l1, u1⟩, hq1⟩ : ∃ q, ts.getD k0 q4z = q := ⟨_, rfl⟩
      obtain ⟨⟨a2, s2, l2, u2⟩, hq2⟩ : ∃ q, ts.getD (k0 + 1) q4z = q := ⟨_, rfl⟩
      obtain ⟨x0, x1, x2, x3⟩ := (HV.out.same HK.out).quad k0 hla _ _ _ _ hq1
      obtain ⟨y0, y1, y2, y3⟩ := (HV.out.same HK.out).quad (k0 + 1) hlb _ _ _ _ hq2
      have kf := fun wx => notRisingTxn_any (a1, s1, l1, u1) (a2, s2, l2, u2) wx
      dsimp only [enV] at kf
      have HX1 := hid hq1
      have HX2 := hid hq2
      have hi1 : ((k0 + 1 : Nat) : Int) - 1 = (k0 : Int) := by omega
      have hw0 : IntKind.i64.wrap (k0 : Int) = (k0 : Int) := by rw [IntKind.wrap_i64]; omega
      have mm : (k0 : Int) < (n : Int) := by omega
      have hp1 : (0 : Int) ≤ (k0 : Int) + 1 := by omega
      clear hq1 hq2
      cases hb : tAfter (a1, s1, l1, u1) (a2, s2, l2, u2) with
      | true =>
        rw [hb] at kf
        have HE : Hid (B = true) := by
          have h := HB.out
          rw [nbq_yes k0 hlb (by rw [HX1.out, HX2.out]; exact hb)] at h
          exact h.symm
        clear HA hb
        go_wp2_with fail
        have hS : (fun wx : World => wx.cell? ⟨b, off + k0 * 4, none⟩ = some (.int .i64 a1) ∧ wx.cell? ⟨b, off + k0 * 4 + 1, none⟩ = some (.int .i64 s1) ∧ wx.cell? ⟨b, off + k0 * 4 + 2, none⟩ = some (.int .i64 l1) ∧ wx.cell? ⟨b, off + k0 * 4 + 3, none⟩ = some (.int .i64 u1) ∧ wx.cell? ⟨b, off + (k0 + 1) * 4, none⟩ = some (.int .i64 a2) ∧ wx.cell? ⟨b, off + (k0 + 1) * 4 + 1, none⟩ = some (.int .i64 s2) ∧ wx.cell? ⟨b, off + (k0 + 1) * 4 + 2, none⟩ = some (.int .i64 l2) ∧ wx.cell? ⟨b, off + (k0 + 1) * 4 + 3, none⟩ = some (.int .i64 u2)) wr.drew := ⟨x0, x1, x2, x3, y0, y1, y2, y3⟩
        refine wp_region_V (fun wx : World => wx.cell? ⟨b, off + k0 * 4, none⟩ = some (.int .i64 a1) ∧ wx.cell? ⟨b, off + k0 * 4 + 1, none⟩ = some (.int .i64 s1) ∧ wx.cell? ⟨b, off + k0 * 4 + 2, none⟩ = some (.int .i64 l1) ∧ wx.cell? ⟨b, off + k0 * 4 + 3, none⟩ = some (.int .i64 u1) ∧ wx.cell? ⟨b, off + (k0 + 1) * 4, none⟩ = some (.int .i64 a2) ∧ wx.cell? ⟨b, off + (k0 + 1) * 4 + 1, none⟩ = some (.int .i64 s2) ∧ wx.cell? ⟨b, off + (k0 + 1) * 4 + 2, none⟩ = some (.int .i64 l2) ∧ wx.cell? ⟨b, off + (k0 + 1) * 4 + 3, none⟩ = some (.int .i64 u2)) 99 11 rfl (by kernel_rfl) ?_
        refine tk 0 12 hS ?_
        refine tk 1 13 hS ?_
        refine tk 2 14 hS ?_
        refine tkV 3 15 (.int .i64 (k0 : Int)) hS ?_
        refine tk 4 16 hS ?_
        refine tk 5 17 hS ?_
        refine tk 6 18 hS ?_
        refine tk 7 19 hS ?_
        refine tk 8 20 hS ?_
        refine tk 9 21 hS ?_
        refine wpAnyV_one (i := 10) (by kernel_rfl) rfl (fun Kc hK => ?_)
        go_simp
        refine (kf _).mono ?_
        rintro e w1 ⟨rfl, hk1⟩
        have HK1 := (show Hid (Same w w1) from (HK.out.drew).trans hk1)
        have hs1 : Same wr w1 := ((Kept.refl _ _).drew).trans hk1
        have hS : (fun wx : World => wx.cell? ⟨b, off + k0 * 4, none⟩ = some (.int .i64 a1) ∧ wx.cell? ⟨b, off + k0 * 4 + 1, none⟩ = some (.int .i64 s1) ∧ wx.cell? ⟨b, off + k0 * 4 + 2, none⟩ = some (.int .i64 l1) ∧ wx.cell? ⟨b, off + k0 * 4 + 3, none⟩ = some (.int .i64 u1) ∧ wx.cell? ⟨b, off + (k0 + 1) * 4, none⟩ = some (.int .i64 a2) ∧ wx.cell? ⟨b, off + (k0 + 1) * 4 + 1, none⟩ = some (.int .i64 s2) ∧ wx.cell? ⟨b, off + (k0 + 1) * 4 + 2, none⟩ = some (.int .i64 l2) ∧ wx.cell? ⟨b, off + (k0 + 1) * 4 + 3, none⟩ = some (.int .i64 u2)) w1 := ⟨hs1.cellOf x0 id, hs1.cellOf x1 id, hs1.cellOf x2 id, hs1.cellOf x3 id, hs1.cellOf y0 id, hs1.cellOf y1 id, hs1.cellOf y2 id, hs1.cellOf y3 id⟩
        refine hK.out _ _ (fun _ => hS) ?_
        clear hK Kc
        try simp only [Act.put, sA, s0, sS]
        refine wpAnyV_done (by kernel_rfl) ?_
        go_wp2
        go_ret
        have hE := HE.out
        exact ⟨by subst hE; rfl, HK1.out⟩
      | false =>
        rw [hb] at kf
        have HA2 : Hid (∀ j : Nat, j + 1 < k0 + 1 + 1 → tAfter (ts.getD j q4z) (ts.getD (j + 1) q4z) = false) := fun j hj => by
          by_cases hjk : j + 1 < k0 + 1
          · exact HA.out j hjk
          · obtain rfl : j = k0 := by omega
            rw [HX1.out, HX2.out]; exact hb
        clear HA hb
        go_wp2_with fail
        have hS : (fun wx : World => wx.cell? ⟨b, off + k0 * 4, none⟩ = some (.int .i64 a1) ∧ wx.cell? ⟨b, off + k0 * 4 + 1, none⟩ = some (.int .i64 s1) ∧ wx.cell? ⟨b, off + k0 * 4 + 2, none⟩ = some (.int .i64 l1) ∧ wx.cell? ⟨b, off + k0 * 4 + 3, none⟩ = some (.int .i64 u1) ∧ wx.cell? ⟨b, off + (k0 + 1) * 4, none⟩ = some (.int .i64 a2) ∧ wx.cell? ⟨b, off + (k0 + 1) * 4 + 1, none⟩ = some (.int .i64 s2) ∧ wx.cell? ⟨b, off + (k0 + 1) * 4 + 2, none⟩ = some (.int .i64 l2) ∧ wx.cell? ⟨b, off + (k0 + 1) * 4 + 3, none⟩ = some (.int .i64 u2)) wr.drew := ⟨x0, x1, x2, x3, y0, y1, y2, y3⟩
        refine wp_region_V (fun wx : World => wx.cell? ⟨b, off + k0 * 4, none⟩ = some (.int .i64 a1) ∧ wx.cell? ⟨b, off + k0 * 4 + 1, none⟩ = some (.int .i64 s1) ∧ wx.cell? ⟨b, off + k0 * 4 + 2, none⟩ = some (.int .i64 l1) ∧ wx.cell? ⟨b, off + k0 * 4 + 3, none⟩ = some (.int .i64 u1) ∧ wx.cell? ⟨b, off + (k0 + 1) * 4, none⟩ = some (.int .i64 a2) ∧ wx.cell? ⟨b, off + (k0 + 1) * 4 + 1, none⟩ = some (.int .i64 s2) ∧ wx.cell? ⟨b, off + (k0 + 1) * 4 + 2, none⟩ = some (.int .i64 l2) ∧ wx.cell? ⟨b, off + (k0 + 1) * 4 + 3, none⟩ = some (.int .i64 u2)) 99 11 rfl (by kernel_rfl) ?_
        refine tk 0 12 hS ?_
        refine tk 1 13 hS ?_
        refine tk 2 14 hS ?_
        refine tkV 3 15 (.int .i64 (k0 : Int)) hS ?_
        refine tk 4 16 hS ?_
        refine tk 5 17 hS ?_
        refine tk 6 18 hS ?_
        refine tk 7 19 hS ?_
        refine tk 8 20 hS ?_
        refine tk 9 21 hS ?_
        refine wpAnyV_one (i := 10) (by kernel_rfl) rfl (fun Kc hK => ?_)
        go_simp
        refine (kf _).mono ?_
        rintro e w1 ⟨rfl, hk1⟩
        have HK1 := (show Hid (Same w w1) from (HK.out.drew).trans hk1)
        have hs1 : Same wr w1 := ((Kept.refl _ _).drew).trans hk1
        have hS : (fun wx : World => wx.cell? ⟨b, off + k0 * 4, none⟩ = some (.int .i64 a1) ∧ wx.cell? ⟨b, off + k0 * 4 + 1, none⟩ = some (.int .i64 s1) ∧ wx.cell? ⟨b, off + k0 * 4 + 2, none⟩ = some (.int .i64 l1) ∧ wx.cell? ⟨b, off + k0 * 4 + 3, none⟩ = some (.int .i64 u1) ∧ wx.cell? ⟨b, off + (k0 + 1) * 4, none⟩ = some (.int .i64 a2) ∧ wx.cell? ⟨b, off + (k0 + 1) * 4 + 1, none⟩ = some (.int .i64 s2) ∧ wx.cell? ⟨b, off + (k0 + 1) * 4 + 2, none⟩ = some (.int .i64 l2) ∧ wx.cell? ⟨b, off + (k0 + 1) * 4 + 3, none⟩ = some (.int .i64 u2)) w1 := ⟨hs1.cellOf x0 id, hs1.cellOf x1 id, hs1.cellOf x2 id, hs1.cellOf x3 id, hs1.cellOf y0 id, hs1.cellOf y1 id, hs1.cellOf y2 id, hs1.cellOf y3 id⟩
        refine hK.out _ _ (fun _ => hS) ?_
        clear hK Kc
        try simp only [Act.put, sA, s0, sS]
        refine wpAnyV_done (by kernel_rfl) ?_
        go_wp2
        go_roundw
        case rel => exact ⟨k0 + 1 + 1, by omega, by omega, by go_num, HA2, HK1⟩
        case measure => simp [intOf]; omega
    · go_wp2
      go_ret
      have h := nbq_no (f := tAfter) (ls := ts) (fun i hi => HA.out i (by have := HL.out; omega))
      rw [HB.out] at h
      exact ⟨by subst h; rfl, HK.out⟩
theorem indexT_any (xe : TypeId) (xa : Option Addr) (xc n : Nat) (ts : List Q4) (w : World) (hl : ts.length = n) (hv : RdF 4 w ⟨xe, xa, n, xc, flat4 ts⟩) :
    Calls Try.prog 39 #[.slice xa n xc, .func (.func 26) #[] #[]] w fun e w' => ∃ i : Int, e = .returned (.int .i64 i) ∧ Hid (decide (0 ≤ i) = ts.any tNeg) ∧ Same w w' := by
  have hm : n ≤ maxLen := hv.1
  unfold maxLen at hm
  have HV := hid hv
  have HL := hid hl
  clear hv hl
  have hent' : ∀ (args : Array Value) (wx : World), (callFunc 26 args).run Try.prog wx = .ok (.enter 26 args) wx := enters_btl
  go_enter Try.func39, Try.ntmps39
  go_wp2_with fail
  go_loopw [8] (fun i wr => ∃ k : Nat, k ≤ n ∧ i = .int .i64 k ∧ Hid (∀ j : Nat, j < k → tNeg (ts.getD j q4z) = false) ∧ Hid (Same w wr)) (fun i _ => n - (intOf i).toNat)
  case atStart => exact ⟨0, Nat.zero_le _, rfl, fun j hj => by omega, Kept.refl _ _⟩
  case round =>
    obtain ⟨k, hk, rfl, HA, HK⟩ := hrel
    by_cases hlt : k < n
    · obtain ⟨b, off, ha, hc⟩ := HV.out.someQ (show 0 < n by omega)
      dsimp only at ha hc
      subst ha
      have hla : k < ts.length := by rw [HL.out]; omega
      obtain ⟨⟨a1, s1, l1, u1⟩, hq1⟩ : ∃ q, ts.getD k q4z = q := ⟨_, rfl⟩
      obtain ⟨x0, x1, x2, x3⟩ := (HV.out.same HK.out).quad k hla _ _ _ _ hq1
      have kf := fun wx => below_any (a1, s1, l1, u1) wx
      dsimp only [enV] at kf
      have HX1 := hid hq1
      clear hq1
      cases hb : tNeg (a1, s1, l1, u1) with
      | true =>
        rw [hb] at kf
        have HE : Hid (ts.any tNeg = true) := any_yes k hla (by rw [HX1.out]; exact hb)
        clear HA hb
        go_wp2_with fail
        refine (kf _).mono ?_
        rintro e w1 ⟨rfl, hk1⟩
        have HK1 := (show Hid (Same w w1) from HK.out.trans hk1)
        go_wp2
        go_ret
        exact ⟨(k : Int), rfl, by rw [HE.out]; exact decide_eq_true (by omega), HK1.out⟩
      | false =>
        rw [hb] at kf
        have HA2 : Hid (∀ j : Nat, j < k + 1 → tNeg (ts.getD j q4z) = false) := fun j hj => by
          by_cases hjk : j < k
          · exact HA.out j hjk
          · obtain rfl : j = k := by omega
            rw [HX1.out]; exact hb
        clear HA hb
        go_wp2_with fail
        refine (kf _).mono ?_
        rintro e w1 ⟨rfl, hk1⟩
        have HK1 := (show Hid (Same w w1) from HK.out.trans hk1)
        clear hk1
        go_wp2
        go_roundw
        case rel => exact ⟨k + 1, by omega, by go_num, HA2, HK1⟩
        case measure => simp [intOf]; omega
    · go_wp2
      go_ret
      exact ⟨-1, rfl, by rw [any_no (f := tNeg) (fun i hi => HA.out i (by have := HL.out; omega))]; rfl, HK.out⟩
theorem containsT_any (xe : TypeId) (xa : Option Addr) (xc n : Nat) (ts : List Q4) (w : World) (hl : ts.length = n) (hv : RdF 4 w ⟨xe, xa, n, xc, flat4 ts⟩) :
    Calls Try.prog 25 #[.slice xa n xc, .func (.func 26) #[] #[]] w fun e w' => e = .returned (.bool (ts.any tNeg)) ∧ Same w w' := by
  have k0 := indexT_any xe xa xc n ts w hl hv
  clear hv hl
  go_enter Try.func25, Try.ntmps25
  go_wp2_with fail
  refine k0.mono ?_
  rintro e w1 ⟨i, rfl, hi, hk1⟩
  go_wp2
  go_ret
  exact ⟨by rw [← hi.out]; rfl, hk1⟩
end Go.Proofs.Ythbocacnfhpidaa

namespace Go.Proofs.Ythbocacnfhpidaa
set_option maxRecDepth 100000
set_option maxHeartbeats 4000000
open Go.RowKit
set_option linter.unusedVariables false
set_option linter.unusedSimpArgs false
theorem OwnF.blk4 {e : TypeId} {w : World} {g n c : Nat} {bs : List Int} (h : OwnF 4 e w g n c bs) : ∃ xs, Blk w g e xs ∧ xs.length = c * 4 ∧ xs.take (n * 4) = vals .i64 bs ∧ n ≤ c ∧ c ≤ maxLen := by
  rcases h.2 with ⟨h2, _⟩ | ⟨g', cap, cur, hv, hb, hgg, hc, hm, hs, ht⟩
  · cases h2
  · injection hv with a1 a2 a3
    injection a1 with a1
    injection a1 with a1
    subst a1 a3
    exact ⟨cur.toList, by unfold Blk; rw [Array.toArray_toList]; exact hgg, by rw [Array.length_toList]; exact hs, ht, hc, hm⟩
theorem ownF_of_blk4 {e : TypeId} {w : World} {g n c : Nat} {xs : List Value} {bs : List Int} (hb : Blk w g e xs) (hl : xs.length = c * 4) (hn : n ≤ c) (hc : c ≤ maxLen) (ht : xs.take (n * 4) = vals .i64 bs) : OwnF 4 e w g n c bs := by
  refine ⟨?_, .inr ⟨g, c, xs.toArray, rfl, Nat.zero_le _, hb, hn, hc, ?_, ?_⟩⟩
  · rw [← ht, List.length_take, hl]
    have : n * 4 ≤ c * 4 := Nat.mul_le_mul_right 4 hn
    omega
  · rw [List.size_toArray]; exact hl
  · rw [List.toList_toArray]; exact ht
theorem deleteT_any (g n c K : Nat) (left : List Q4) (w : World) (hn : n ≤ 1048576) (hK : K < n) (ho : OwnF 4 52 w g n c (flat4 left)) :
    Calls Try.prog 43 #[.slice (some ⟨g, 0, none⟩) n c, .int .i64 K, .int .i64 ((K : Int) + 1)] w fun e w' => e = .returned (.slice (some ⟨g, 0, none⟩) (n - 1) c) ∧ OwnF 4 52 w' g (n - 1) c (flat4 (left.eraseIdx K)) ∧ Kept (fun b => b = g) w w' := by
  obtain ⟨xs, hx, hxl, hxt, hnc, hcm⟩ := ho.blk4
  obtain ⟨i4, hi4, hz40, hz41, hz42⟩ := info_parts Try.infoTxnEntry
  have hll : left.length = n := by have := ho.1; rw [vals_length, flat4_length] at this; omega
  have hcell : ∀ j, j < n * 4 → w.cell? ⟨g, j, none⟩ = some (.int .i64 ((flat4 left).getD j 0)) := fun j hj => ho.cell j hj
  obtain ⟨n1, hn1⟩ : ∃ n1, n - 1 = n1 := ⟨_, rfl⟩
  rw [hn1]
  obtain ⟨news, hnews⟩ : ∃ news, vals .i64 (flat4 (left.drop (K + 1))) = news := ⟨_, rfl⟩
  have hnl : news.length = (n - (K + 1)) * 4 := by rw [← hnews, vals_length, flat4_length, List.length_drop, hll]
  have hn1c : ∀ v ∈ news, v.oneCell' = true := fun v hv => by rw [← hnews] at hv; obtain ⟨x, _, rfl⟩ := List.mem_map.1 hv; rfl
  obtain ⟨a7, ha7⟩ : ∃ a7 : Option Addr, (if c = K + 1 then some (⟨g, 0, none⟩ : Addr) else some ⟨g, (K + 1) * 4, none⟩) = a7 := ⟨_, rfl⟩
  obtain ⟨ad7, had7, hadc⟩ : ∃ ad7 : Addr, a7 = some ad7 ∧ (0 < n - (K + 1) → ad7 = ⟨g, (K + 1) * 4, none⟩) := by
    rw [← ha7]
    by_cases h : c = K + 1
    · exact ⟨_, if_pos h, fun h2 => by omega⟩
    · exact ⟨_, if_neg h, fun _ => rfl⟩
  have hfit1 : K * 4 + news.length ≤ xs.length := by rw [hnl, hxl]; omega
  have HAP : Hid (∀ (wx : World) (ty : TypeId), Same w wx → (Builtin.append_ #[32, 32] ty #[.slice (some ⟨g, 0, none⟩) K c, .slice a7 (n - (K + 1)) (c - (K + 1))]).run Try.prog wx = .ok (.slice (some ⟨g, 0, none⟩) n1 c) (wx.setCells g (K * 4) news)) := fun wx ty hs => by
    rw [had7]
    have h := run_append_room_src wx 32 32 ty 52 i4 Try.underlying32 hi4 g 0 K c (.slice (some ad7) (n - (K + 1)) (c - (K + 1))) (n - (K + 1)) news (Src.ofSlice wx (size := i4.size) Try.underlying32 ad7 _ _ news (by rw [hz41]; exact hnl) (fun j u hu => by
      have hj : j < (n - (K + 1)) * 4 := by have := (List.getElem?_eq_some_iff.1 hu).1; omega
      rw [hadc (by omega), addr_add]
      refine hs.cellOf ?_ id
      rw [hcell _ (by omega), ← hu, ← hnews, vals_at .i64 _ j (by rw [flat4_length, List.length_drop, hll]; omega), ← flat4_drop, getD_drop]) hn1c) (by omega) (fun j hj => by
        have hb := hx.same hs
        rw [hz41, hb.cell, List.getElem?_eq_getElem (by omega)]
        rfl) (fun j hj => (hx.same hs).frozen _)
    rw [hz41, Nat.zero_add, show K + (n - (K + 1)) = n1 from by omega] at h
    exact h
  obtain ⟨zz, hzz⟩ : ∃ zz : List Value, zz = (Builtin.zeroCells (Value.agg #[.int .i64 0, .int .i64 0, .int .i64 0, .int .i64 0]).cells (n - n1)).toList := ⟨_, rfl⟩
  have hzl : zz.length = (n - n1) * 4 := by rw [hzz]; simp [Builtin.zeroCells, Value.cells]
  have hz1c : ∀ v ∈ zz, v.oneCell' = true := fun v hv => by
    rw [hzz] at hv
    obtain ⟨j, hj, rfl⟩ := List.getElem_of_mem hv
    have e : ((Value.agg #[.int .i64 0, .int .i64 0, .int .i64 0, .int .i64 0]).cells) = #[.int .i64 0, .int .i64 0, .int .i64 0, .int .i64 0] := rfl
    simp [Builtin.zeroCells, e]
    have : j % 4 < 4 := Nat.mod_lt _ (by omega)
    rcases (show j % 4 = 0 ∨ j % 4 = 1 ∨ j % 4 = 2 ∨ j % 4 = 3 from by omega) with h | h | h | h <;> simp [h, Value.oneCell']
  have hfit : n1 * 4 + zz.length ≤ (lay xs (K * 4) news).length := by rw [hzl, lay_length _ _ _ hfit1, hxl]; omega
  have HCL : Hid (∀ (wx : World) (ty : TypeId), Same w wx → (Builtin.clear_ #[32] ty #[.slice (some ⟨g, n1 * 4, none⟩) (n - n1) (c - n1)]).run Try.prog (wx.setCells g (K * 4) news) = .ok (.tuple #[]) ((wx.setCells g (K * 4) news).setCells g (n1 * 4) zz)) := fun wx ty hs => by
    have hst := (Blk.setCells news (K * 4) (hx.same hs) hfit1).stores (P := Try.prog) (n1 * 4) zz hfit hz1c
    obtain ⟨d, hd⟩ : ∃ d, n - n1 = d + 1 := ⟨n - n1 - 1, by omega⟩
    rw [hd] at hzz ⊢
    rw [hzz] at hst ⊢
    simp [Builtin.clear_, run_underlying Try.underlying32, zeroValue, typeInfo, hi4, hz40, hst]
  have HFIN : Hid (∀ wx : World, Same w wx → OwnF 4 52 ((wx.setCells g (K * 4) news).setCells g (n1 * 4) zz) g n1 c (flat4 (left.eraseIdx K)) ∧ Kept (fun b => b = g) w ((wx.setCells g (K * 4) news).setCells g (n1 * 4) zz)) := fun wx hs => by
    have hb := Blk.setCells zz (n1 * 4) (Blk.setCells news (K * 4) (hx.same hs) hfit1) hfit
    refine ⟨ownF_of_blk4 hb ((lay_length _ _ _ hfit).trans ((lay_length _ _ _ hfit1).trans hxl)) (by omega) hcm ?_, Kept.setCells (R := fun b => b = g) (.inr rfl) _ _ (Kept.setCells (R := fun b => b = g) (.inr rfl) _ _ (hs.mono (fun _ _ e => e.elim)))⟩
    have e1 : (lay (lay xs (K * 4) news) (n1 * 4) zz).take (n1 * 4) = (lay xs (K * 4) news).take (n1 * 4) := by
      unfold lay
      rw [List.take_append_of_le_length (by rw [List.length_take]; have := lay_length xs (K * 4) news hfit1; unfold lay at this; omega), List.take_take, Nat.min_self]
    have e2 : (lay xs (K * 4) news).take (n1 * 4) = xs.take (K * 4) ++ news := by
      unfold lay
      rw [← List.append_assoc, List.take_append_of_le_length (by rw [List.length_append, List.length_take, hnl]; omega)]
      exact List.take_of_length_le (by rw [List.length_append, List.length_take, hnl]; omega)
    have e3 : xs.take (K * 4) = vals .i64 (flat4 (left.take K)) := by
      have h := congrArg (List.take (K * 4)) hxt
      rw [List.take_take, show min (K * 4) (n * 4) = K * 4 from by omega] at h
      rw [h, ← flat4_take]
      simp [vals]
    rw [e1, e2, e3, ← hnews, ← erase_parts, flat4_append]
    simp [vals]
  have hKn : (K : Int) + 1 ≤ (n : Int) := by omega
  have hKc : (K : Int) ≤ (c : Int) := by omega
  have hKc1 : (K : Int) + 1 ≤ (c : Int) := by omega
  have hK0 : 0 ≤ (K : Int) + 1 := by omega
  have hKt : ((K : Int) + 1).toNat = K + 1 := by omega
  have hKK : ((K : Int) == (K : Int) + 1) = false := by simp; try omega
  have hKl : (K : Int) ≤ (K : Int) + 1 := by omega
  have hncI : (n : Int) ≤ (c : Int) := by omega
  have hn1n : (n1 : Int) ≤ (n : Int) := by omega
  have hca : ¬ (c = n1) := by omega
  have hE1 := hid hn1
  clear hx hxl hxt ho hcell hnl hn1c hadc had7 hfit1 hzz hzl hz1c hfit hn1 hll hnews hcm
  go_enter Try.func43, Try.ntmps43
  go_wp2_with fail
  refine wp_region_V (fun _ : World => True) 99 8 rfl (by kernel_rfl) ?_
  have hd0 : Same w w.drew := (Kept.refl _ _).drew
  generalize w.drew = wd at *
  have hS : (fun _ : World => True) wd := trivial
  refine tk 0 20 hS ?_
  refine tk 1 21 hS ?_
  refine tkV 2 22 (.slice (some ⟨g, 0, none⟩) K c) hS ?_
  refine tk 3 23 hS ?_
  refine tk 4 24 hS ?_
  refine tkV 5 25 (.slice a7 (n - (K + 1)) (c - (K + 1))) hS ?_
  refine wpAnyV_one (i := 6) (by kernel_rfl) rfl (fun Kc hK => ?_)
  refine step_append_runQ (by rfl) (.tmp 22) (.tmp 25) 32 32 (by rfl) _ _ (by rfl) (by rfl) _ _ (HAP.out wd _ hd0) ?_
  refine hK.out _ _ (fun _ => trivial) ?_
  clear hK Kc
  try simp only [List.getElem_toArray, List.getElem_cons_succ, List.getElem_cons_zero]
  try simp only [Act.put, sA, s0, sS]
  have hF := HFIN.out wd hd0
  have hcl := fun ty => HCL.out wd ty hd0
  generalize wd.setCells g (K * 4) news = w2 at *
  generalize hW3 : w2.setCells g (n1 * 4) zz = w3 at *
  have HF := hid hF
  clear HAP HCL HFIN hF hW3
  have hS : (fun _ : World => True) w2 := trivial
  refine tk 7 0 hS ?_
  refine wpAnyV_done (by kernel_rfl) ?_
  go_wp2
  go_ret
  exact ⟨rfl, HF.out.1, HF.out.2⟩
end Go.Proofs.Ythbocacnfhpidaa
