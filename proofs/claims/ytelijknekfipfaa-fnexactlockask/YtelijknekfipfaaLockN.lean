import Derived.Test.YtelijknekfipfaaG01
namespace Go.Proofs.Ytelijknekfipfaa
set_option maxRecDepth 100000
set_option maxHeartbeats 4000000
set_option linter.unusedVariables false
set_option linter.unusedSimpArgs false
open Go.RowKit
theorem alloc_at (w : World) (o : Obj) : (w.alloc o).heap[w.heap.size]? = some o := by
 unfold World.alloc
 simp
theorem notRising_any (p q : T3) (w : World) :
  Calls Try.prog 35 #[.agg #[.int .i64 p.1, .int .i64 p.2.1, .int .i64 p.2.2], .agg #[.int .i64 q.1, .int .i64 q.2.1, .int .i64 q.2.2]] w fun e w' => e = .returned (.bool (lkAfter p q)) ∧ Same w w' := by
 have he : lkAfter p q = decide (0 ≤ (if cmpI p.1 q.1 = 0 then cmpI p.2.1 q.2.1 else cmpI p.1 q.1)) := by
  unfold lkAfter cmpI
  rw [Bool.eq_iff_iff]
  simp only [Bool.or_eq_true, Bool.and_eq_true, decide_eq_true_eq]
  split <;> split <;> (try split) <;> (try split) <;> omega
 rw [he]
 clear he
 obtain ⟨x, y, z⟩ := p
 obtain ⟨x2, y2, z2⟩ := q
 dsimp only
 have HB0 := (show Hid (Blk (w.alloc (.cells #[.int .i64 x, .int .i64 y, .int .i64 z] 51)) w.heap.size 51 [.int .i64 x, .int .i64 y, .int .i64 z]) from Blk.newL w _ _)
 have HK0 := hid (sameA w [.int .i64 x, .int .i64 y, .int .i64 z] 51)
 have HB1 := (show Hid (Blk ((w.alloc (.cells #[.int .i64 x, .int .i64 y, .int .i64 z] 51)).alloc (.cells #[.int .i64 x2, .int .i64 y2, .int .i64 z2] 51)) (w.alloc (.cells #[.int .i64 x, .int .i64 y, .int .i64 z] 51)).heap.size 51 [.int .i64 x2, .int .i64 y2, .int .i64 z2]) from Blk.newL _ _ _)
 have HK1 := hid (sameA (w.alloc (.cells #[.int .i64 x, .int .i64 y, .int .i64 z] 51)) [.int .i64 x2, .int .i64 y2, .int .i64 z2] 51)
 obtain ⟨c0, c1, c2⟩ := (HB0.out.same HK1.out).all3
 obtain ⟨d0, d1, d2⟩ := HB1.out.all3
 have HK2 := hid (HK0.out.trans HK1.out)
 rw [World.size_alloc] at d0 d1 d2
 have kx := compare8_any x x2
 have ky := compare8_any y y2
 go_enter Try.func35, Try.ntmps35
 go_wp2_with fail
 generalize ((w.alloc (.cells #[.int .i64 x, .int .i64 y, .int .i64 z] 51)).alloc (.cells #[.int .i64 x2, .int .i64 y2, .int .i64 z2] 51)) = wa at c0 c1 d0 d1 HK2 ⊢
 clear c2 d2 HB0 HK0 HB1 HK1
 have HS3 := (show Hid (Same wa.drew (wa.drew.alloc (.cells #[.int .i64 (cmpI x x2), .int .i64 (cmpI y y2)] 3))) from (Kept.refl _ _).alloc _)
 have hb3 : ((wa.drew.alloc (.cells #[.int .i64 (cmpI x x2), .int .i64 (cmpI y y2)] 3))).heap[wa.drew.heap.size]? = some (.cells #[.int .i64 (cmpI x x2), .int .i64 (cmpI y y2)] 3) := alloc_at _ _
 let Y1 : World → Prop := fun wx : World => wx.cell? ⟨w.heap.size, 0, none⟩ = some (.int .i64 x) ∧ wx.cell? ⟨w.heap.size, 0 + 1, none⟩ = some (.int .i64 y) ∧ wx.cell? ⟨w.heap.size + 1, 0, none⟩ = some (.int .i64 x2) ∧ wx.cell? ⟨w.heap.size + 1, 0 + 1, none⟩ = some (.int .i64 y2)
 have hS : Y1 wa.drew := by exact ⟨c0, c1, d0, d1⟩
 refine wp_region_V Y1 99 14 rfl (by kernel_rfl) ?_
 refine wpAnyV_tk 0 5 (v := ?vq1) ?hyq1 hS ?_
 case hyq1 => (intro w hSw; (try dsimp (config := { zetaDelta := true }) only at hSw); go_simp; (try with_reducible rfl))
 try simp only [Act.put, sA, s0, sS]
 refine wpAnyV_tk 1 6 (v := ?vq2) ?hyq2 hS ?_
 case hyq2 => (intro w hSw; (try dsimp (config := { zetaDelta := true }) only at hSw); go_simp; (try with_reducible rfl))
 try simp only [Act.put, sA, s0, sS]
 refine wpAnyV_tk 2 7 (v := ?vq3) ?hyq3 hS ?_
 case hyq3 => (intro w hSw; (try dsimp (config := { zetaDelta := true }) only at hSw); go_simp; (try with_reducible rfl))
 try simp only [Act.put, sA, s0, sS]
 refine wpAnyV_tk 3 8 (v := ?vq4) ?hyq4 hS ?_
 case hyq4 => (intro w hSw; (try dsimp (config := { zetaDelta := true }) only at hSw); go_simp; (try with_reducible rfl))
 try simp only [Act.put, sA, s0, sS]
 refine wpAnyV_tk 5 10 (v := ?vq5) ?hyq5 hS ?_
 case hyq5 => (intro w hSw; (try dsimp (config := { zetaDelta := true }) only at hSw); go_simp; (try with_reducible rfl))
 try simp only [Act.put, sA, s0, sS]
 refine wpAnyV_tk 6 11 (v := ?vq6) ?hyq6 hS ?_
 case hyq6 => (intro w hSw; (try dsimp (config := { zetaDelta := true }) only at hSw); go_simp; (try with_reducible rfl))
 try simp only [Act.put, sA, s0, sS]
 refine wpAnyV_tk 7 12 (v := ?vq7) ?hyq7 hS ?_
 case hyq7 => (intro w hSw; (try dsimp (config := { zetaDelta := true }) only at hSw); go_simp; (try with_reducible rfl))
 try simp only [Act.put, sA, s0, sS]
 refine wpAnyV_tk 8 13 (v := ?vq8) ?hyq8 hS ?_
 case hyq8 => (intro w hSw; (try dsimp (config := { zetaDelta := true }) only at hSw); go_simp; (try with_reducible rfl))
 try simp only [Act.put, sA, s0, sS]
 refine wpAnyV_one (i := 4) (by kernel_rfl) rfl (fun K hK => ?_)
 go_simp
 refine (kx _).mono ?_
 rintro e w3 ⟨rfl, rfl⟩
 have hS : Y1 wa.drew := by exact ⟨c0, c1, d0, d1⟩
 refine hK.out _ _ (fun _ => hS) ?_
 clear hK K
 try simp only [Act.put, sA, s0, sS]
 refine wpAnyV_one (i := 9) (by kernel_rfl) rfl (fun K hK => ?_)
 go_simp
 refine (ky _).mono ?_
 rintro e w3 ⟨rfl, rfl⟩
 have hS : Y1 wa.drew := by exact ⟨c0, c1, d0, d1⟩
 refine hK.out _ _ (fun _ => hS) ?_
 clear hK K
 try simp only [Act.put, sA, s0, sS]
 refine wpAnyV_one (i := 10) (by kernel_rfl) rfl (fun K hK => ?_)
 go_simp
 have hS : Y1 (wa.drew.alloc (.cells #[.int .i64 (cmpI x x2), .int .i64 (cmpI y y2)] 3)) := by exact ⟨HS3.out.cellOf c0 id, HS3.out.cellOf c1 id, HS3.out.cellOf d0 id, HS3.out.cellOf d1 id⟩
 refine hK.out _ _ (fun _ => hS) ?_
 clear hK K
 try simp only [Act.put, sA, s0, sS]
 refine wpAnyV_one (i := 11) (by kernel_rfl) rfl (fun K hK => ?_)
 go_simp
 refine (or8_any _ _ _ _ hb3).mono ?_
 rintro e w3 ⟨rfl, rfl⟩
 have hS : Y1 (wa.drew.alloc (.cells #[.int .i64 (cmpI x x2), .int .i64 (cmpI y y2)] 3)) := by exact ⟨HS3.out.cellOf c0 id, HS3.out.cellOf c1 id, HS3.out.cellOf d0 id, HS3.out.cellOf d1 id⟩
 refine hK.out _ _ (fun _ => hS) ?_
 clear hK K
 try simp only [Act.put, sA, s0, sS]
 refine wpAnyV_tk 12 17 (v := ?vq9) ?hyq9 hS ?_
 case hyq9 => (intro w hSw; (try dsimp (config := { zetaDelta := true }) only at hSw); go_simp; (try with_reducible rfl))
 try simp only [Act.put, sA, s0, sS]
 refine wpAnyV_tk 13 4 (v := ?vq10) ?hyq10 hS ?_
 case hyq10 => (intro w hSw; (try dsimp (config := { zetaDelta := true }) only at hSw); go_simp; (try with_reducible rfl))
 try simp only [Act.put, sA, s0, sS]
 refine wpAnyV_done (by kernel_rfl) ?_
 go_wp2 <;> (go_ret; exact ⟨by simp_all, (HK2.out.alloc _).drew⟩)
def idxF3 (f : T3 → Bool) : Nat → List T3 → Int
 | _, [] => -1
 | k, p :: ps => if f p = true then (k : Int) else idxF3 f (k + 1) ps
theorem idxF3_at {f : T3 → Bool} {ps : List T3} {k : Nat} (hk : k < ps.length) :
  idxF3 f k (ps.drop k) = if f ps[k] = true then (k : Int) else idxF3 f (k + 1) (ps.drop (k + 1)) := by
 rw [List.drop_eq_getElem_cons hk]
 rfl
theorem idxF3_end {f : T3 → Bool} {ps : List T3} : idxF3 f ps.length (ps.drop ps.length) = -1 := by
 rw [List.drop_length]
 rfl
theorem idxF3_any (f : T3 → Bool) (ps : List T3) (k : Nat) : decide (0 ≤ idxF3 f k ps) = ps.any f := by
 induction ps generalizing k with
 | nil => rfl
 | cons p ps ih =>
  rw [List.any_cons]
  by_cases h : f p = true
  ·have e : idxF3 f k (p :: ps) = k := if_pos h
   rw [e, h]; simp
  ·have e : idxF3 f k (p :: ps) = idxF3 f (k + 1) ps := if_neg h
   rw [e, ih (k + 1), show f p = false from by simpa using h]; simp
def Enters8 (fid : FuncId) : Prop := ∀ (args : Array Value) (wx : World), (callFunc fid args).run Try.prog wx = .ok (.enter fid args) wx
def Asks3 (fid : FuncId) (f : T3 → Bool) (w : World) (ps : List T3) : Prop :=
 ∀ (p : T3) (wx : World), p ∈ ps → Calls Try.prog fid #[.agg #[.int .i64 p.1, .int .i64 p.2.1, .int .i64 p.2.2]] wx fun e w' => e = .returned (.bool (f p)) ∧ Same wx w'
theorem indexL_any (fid : FuncId) (f : T3 → Bool) (x : FR) (w : World) (hv : RdF 3 w x) (hent : Enters8 fid) (hf : Asks3 fid f w (tri x.bs)) :
  Calls Try.prog 48 #[x.v, .func (.func fid) #[] #[]] w fun e w' => e = .returned (.int .i64 (idxF3 f 0 (tri x.bs))) ∧ Same w w' := by
 obtain ⟨xe, xa, n, xc, bs⟩ := x
 have hm : n ≤ maxLen := hv.1
 unfold maxLen at hm
 have hl := tri_length n bs hv.2.1
 dsimp only [FR.v] at hf ⊢
 have HV := hid hv
 have HF : Hid (Asks3 fid f w (tri bs)) := hf
 obtain ⟨R, hR⟩ : ∃ R, idxF3 f 0 (tri bs) = R := ⟨_, rfl⟩
 have HR : Hid (idxF3 f 0 ((tri bs).drop 0) = R) := by rw [List.drop_zero]; exact hR
 rw [hR]
 have HL := hid hl
 clear hv hf hR hl
 have hent' : ∀ (args : Array Value) (wx : World), (callFunc fid args).run Try.prog wx = .ok (.enter fid args) wx := hent
 clear hent
 go_enter Try.func48, Try.ntmps48
 go_wp2
 go_loopw [8] (fun i wr => ∃ k : Nat, k ≤ n ∧ i = .int .i64 k ∧ Hid (idxF3 f k ((tri bs).drop k) = R) ∧ Hid (Same w wr)) (fun i _ => n - (intOf i).toNat)
 case atStart => exact ⟨0, Nat.zero_le _, rfl, HR, Kept.refl _ _⟩
 case round =>
  obtain ⟨k, hk, rfl, HA, HK⟩ := hrel
  by_cases hlt : k < n
  ·obtain ⟨b, off, ha, hc⟩ := HV.out.some (show 0 < n by omega)
   dsimp only at ha hc
   subst ha
   have hla : k < (tri bs).length := by rw [HL.out]; omega
   have HA2 : Hid ((if f (tri bs)[k] = true then (k : Int) else idxF3 f (k + 1) ((tri bs).drop (k + 1))) = R) := by have h := HA.out; rw [idxF3_at hla] at h; exact h
   have kf := HF.out (tri bs)[k] wr (List.getElem_mem hla)
   obtain ⟨⟨x, y, z⟩, hxa⟩ : ∃ q, (tri bs)[k] = q := ⟨_, rfl⟩
   obtain ⟨da0, da1, da2⟩ := (HV.out.same HK.out).tri k hla _ _ _ hxa
   rw [hxa] at kf HA2
   dsimp only at kf
   cases hb : f (x, y, z) with
   | true =>
    have HE : Hid ((k : Int) = R) := by have h := HA2.out; rw [if_pos hb] at h; exact h
    rw [hb] at kf
    clear HA2 HA hb hxa
    go_wp2_with fail
    refine kf.mono ?_
    rintro e w1 ⟨rfl, hk1⟩
    have HK1 := hid (HK.out.trans hk1)
    clear da0 da1 da2 kf hk1
    go_wp2
    go_ret
    exact ⟨by rw [← HE.out]; rfl, HK1.out⟩
   | false =>
    have HE : Hid (idxF3 f (k + 1) ((tri bs).drop (k + 1)) = R) := by have h := HA2.out; rw [if_neg (by simp [hb])] at h; exact h
    rw [hb] at kf
    clear HA2 HA hb hxa
    go_wp2_with fail
    refine kf.mono ?_
    rintro e w1 ⟨rfl, hk1⟩
    have HK1 := hid (HK.out.trans hk1)
    clear da0 da1 da2 kf hk1
    go_wp2
    go_roundw
    case rel => exact ⟨k + 1, by omega, by go_num, HE, HK1⟩
    case measure => simp [intOf]; omega
  ·obtain rfl : n = k := by omega
   have he : (-1 : Int) = R := by have h := HA.out; rw [← HL.out, idxF3_end] at h; exact h
   go_wp2
   go_ret
   exact ⟨by rw [← he]; rfl, HK.out⟩
theorem containsL_any (fid : FuncId) (f : T3 → Bool) (x : FR) (w : World) (hv : RdF 3 w x) (hent : Enters8 fid) (hf : Asks3 fid f w (tri x.bs)) :
  Calls Try.prog 32 #[x.v, .func (.func fid) #[] #[]] w fun e w' => e = .returned (.bool ((tri x.bs).any f)) ∧ Same w w' := by
 have k0 := indexL_any fid f x w hv hent hf
 have hx := idxF3_any f (tri x.bs) 0
 obtain ⟨xe, xa, n, xc, bs⟩ := x
 dsimp only [FR.v] at k0 hx ⊢
 generalize idxF3 f 0 (tri bs) = r at k0 hx
 rw [← hx]
 clear hx hv hf hent
 go_enter Try.func32, Try.ntmps32
 go_wp2_with fail
 refine k0.mono ?_
 rintro e w1 ⟨rfl, hk1⟩
 go_wp2
 go_ret
 exact ⟨rfl, hk1⟩
def Asks33 (fid : FuncId) (f : T3 → T3 → Bool) (ps : List T3) : Prop :=
 ∀ (p q : T3) (wx : World), p ∈ ps → q ∈ ps → Calls Try.prog fid #[.agg #[.int .i64 p.1, .int .i64 p.2.1, .int .i64 p.2.2], .agg #[.int .i64 q.1, .int .i64 q.2.1, .int .i64 q.2.2]] wx fun e w' => e = .returned (.bool (f p q)) ∧ Same wx w'
theorem anyNeighbours_any (fid : FuncId) (f : T3 → T3 → Bool) (x : FR) (w : World) (hv : RdF 3 w x) (hent : Enters8 fid) (hf : Asks33 fid f (tri x.bs)) :
  Calls Try.prog 34 #[x.v, .func (.func fid) #[] #[]] w fun e w' => e = .returned (.bool (nbr f (tri x.bs))) ∧ Same w w' := by
 obtain ⟨xe, xa, n, xc, bs⟩ := x
 have hm : n ≤ maxLen := hv.1
 unfold maxLen at hm
 have hl := tri_length n bs hv.2.1
 dsimp only [FR.v] at hf ⊢
 have HV := hid hv
 have HF : Hid (Asks33 fid f (tri bs)) := hf
 obtain ⟨R, hR⟩ : ∃ R, nbr f (tri bs) = R := ⟨_, rfl⟩
 have HR := hid hR
 rw [hR]
 have HL := hid hl
 clear hv hf hR hl
 have hent' : ∀ (args : Array Value) (wx : World), (callFunc fid args).run Try.prog wx = .ok (.enter fid args) wx := hent
 clear hent
 go_enter Try.func34, Try.ntmps34
 go_wp2
 go_loopw [5] (fun i wr => ∃ k : Nat, (k ≤ n ∨ k = 1) ∧ 1 ≤ k ∧ i = .int .i64 k ∧ Hid (∀ (j : Nat) (h : j + 1 < (tri bs).length), j + 1 < k → f (tri bs)[j] (tri bs)[j + 1] = false) ∧ Hid (Same w wr)) (fun i _ => n - (intOf i).toNat)
 case atStart => exact ⟨1, .inr rfl, Nat.le_refl _, rfl, fun j h hj => by omega, Kept.refl _ _⟩
 case round =>
  obtain ⟨k, hk, hk1, rfl, HA, HK⟩ := hrel
  by_cases hlt : k < n
  ·obtain ⟨b, off, ha, hc⟩ := HV.out.some (show 0 < n by omega)
   dsimp only at ha hc
   subst ha
   obtain ⟨k0, rfl⟩ : ∃ k0, k = k0 + 1 := ⟨k - 1, by omega⟩
   have hla : k0 < (tri bs).length := by rw [HL.out]; omega
   have hlb : k0 + 1 < (tri bs).length := by rw [HL.out]; omega
   have hcell : ∀ wx, Same wr wx → RdF 3 wx ⟨xe, some ⟨b, off, none⟩, n, xc, bs⟩ := fun wx h => HV.out.same (HK.out.trans h)
   have kf := fun wx => HF.out (tri bs)[k0] (tri bs)[k0 + 1] wx (List.getElem_mem hla) (List.getElem_mem hlb)
   obtain ⟨⟨x, y, z⟩, hxa⟩ : ∃ q, (tri bs)[k0] = q := ⟨_, rfl⟩
   obtain ⟨⟨x2, y2, z2⟩, hxb⟩ : ∃ q, (tri bs)[k0 + 1] = q := ⟨_, rfl⟩
   obtain ⟨da0, da1, da2⟩ := (HV.out.same HK.out).tri k0 hla _ _ _ hxa
   obtain ⟨db0, db1, db2⟩ := (HV.out.same HK.out).tri (k0 + 1) hlb _ _ _ hxb
   rw [hxa, hxb] at kf
   dsimp only at kf
   have hi1 : ((k0 + 1 : Nat) : Int) - 1 = (k0 : Int) := by omega
   have hw0 : IntKind.i64.wrap (k0 : Int) = (k0 : Int) := by rw [IntKind.wrap_i64]; omega
   have HXA := hid hxa
   have HXB := hid hxb
   clear hxa hxb
   cases hb : f (x, y, z) (x2, y2, z2) with
   | true =>
    rw [hb] at kf
    have HE : Hid (R = true) := by
     have h := HR.out
     rw [nbr_yes k0 hlb (by rw [HXA.out, HXB.out]; exact hb)] at h
     exact h.symm
    clear HA hb
    go_wp2_with fail
    let Y1 : World → Prop := fun wx : World => wx.cell? ⟨b, off + k0 * 3, none⟩ = some (.int .i64 x) ∧ wx.cell? ⟨b, off + k0 * 3 + 1, none⟩ = some (.int .i64 y) ∧ wx.cell? ⟨b, off + k0 * 3 + 2, none⟩ = some (.int .i64 z) ∧ wx.cell? ⟨b, off + (k0 + 1) * 3, none⟩ = some (.int .i64 x2) ∧ wx.cell? ⟨b, off + (k0 + 1) * 3 + 1, none⟩ = some (.int .i64 y2) ∧ wx.cell? ⟨b, off + (k0 + 1) * 3 + 2, none⟩ = some (.int .i64 z2)
    have hS : Y1 wr.drew := by exact ⟨da0, da1, da2, db0, db1, db2⟩
    refine wp_region_V Y1 99 11 rfl (by kernel_rfl) ?_
    refine wpAnyV_tk 0 12 (v := ?vq11) ?hyq11 hS ?_
    case hyq11 => (intro w hSw; (try dsimp (config := { zetaDelta := true }) only at hSw); go_simp; (try with_reducible rfl))
    try simp only [Act.put, sA, s0, sS]
    refine wpAnyV_tk 1 13 (v := ?vq12) ?hyq12 hS ?_
    case hyq12 => (intro w hSw; (try dsimp (config := { zetaDelta := true }) only at hSw); go_simp; (try with_reducible rfl))
    try simp only [Act.put, sA, s0, sS]
    refine wpAnyV_tk 2 14 (v := ?vq13) ?hyq13 hS ?_
    case hyq13 => (intro w hSw; (try dsimp (config := { zetaDelta := true }) only at hSw); go_simp; (try with_reducible rfl))
    try simp only [Act.put, sA, s0, sS]
    refine wpAnyV_tk 3 15 (v := ?vq14) ?hyq14 hS ?_
    case hyq14 => (intro w hSw; (try dsimp (config := { zetaDelta := true }) only at hSw); go_simp; (try with_reducible rfl))
    try simp only [Act.put, sA, s0, sS]
    refine wpAnyV_tk 4 16 (v := ?vq15) ?hyq15 hS ?_
    case hyq15 => (intro w hSw; (try dsimp (config := { zetaDelta := true }) only at hSw); go_simp; rw [if_pos (by omega)]; (try with_reducible rfl))
    try simp only [Act.put, sA, s0, sS]
    refine wpAnyV_tk 5 17 (v := ?vq16) ?hyq16 hS ?_
    case hyq16 => (intro w hSw; (try dsimp (config := { zetaDelta := true }) only at hSw); go_simp; (try with_reducible rfl))
    try simp only [Act.put, sA, s0, sS]
    refine wpAnyV_tk 6 18 (v := ?vq17) ?hyq17 hS ?_
    case hyq17 => (intro w hSw; (try dsimp (config := { zetaDelta := true }) only at hSw); go_simp; (try with_reducible rfl))
    try simp only [Act.put, sA, s0, sS]
    refine wpAnyV_tk 7 19 (v := ?vq18) ?hyq18 hS ?_
    case hyq18 => (intro w hSw; (try dsimp (config := { zetaDelta := true }) only at hSw); go_simp; (try with_reducible rfl))
    try simp only [Act.put, sA, s0, sS]
    refine wpAnyV_tk 8 20 (v := ?vq19) ?hyq19 hS ?_
    case hyq19 => (intro w hSw; (try dsimp (config := { zetaDelta := true }) only at hSw); go_simp; rw [if_pos (by omega)]; (try with_reducible rfl))
    try simp only [Act.put, sA, s0, sS]
    refine wpAnyV_tk 9 21 (v := ?vq20) ?hyq20 hS ?_
    case hyq20 => (intro w hSw; (try dsimp (config := { zetaDelta := true }) only at hSw); go_simp; (try with_reducible rfl))
    try simp only [Act.put, sA, s0, sS]
    refine wpAnyV_one (i := 10) (by kernel_rfl) rfl (fun K hK => ?_)
    go_simp
    refine (kf _).mono ?_
    rintro e w1 ⟨rfl, hk1⟩
    have hS : Y1 w1 := by exact ⟨hk1.cellOf da0 id, hk1.cellOf da1 id, hk1.cellOf da2 id, hk1.cellOf db0 id, hk1.cellOf db1 id, hk1.cellOf db2 id⟩
    refine hK.out _ _ (fun _ => hS) ?_
    clear hK K
    try simp only [Act.put, sA, s0, sS]
    refine wpAnyV_done (by kernel_rfl) ?_
    have HK1 := hid (HK.out.drew.trans hk1)
    clear da0 da1 da2 db0 db1 db2 kf hk1
    go_wp2
    go_ret
    exact ⟨by rw [HE.out]; rfl, HK1.out⟩
   | false =>
    rw [hb] at kf
    have HE : Hid (∀ (j : Nat) (h : j + 1 < (tri bs).length), j + 1 < k0 + 1 + 1 → f (tri bs)[j] (tri bs)[j + 1] = false) := fun j h hj => by
     by_cases e : j = k0
     ·subst e
      rw [HXA.out, HXB.out]
      exact hb
     ·exact HA.out j h (by omega)
    clear HA hb
    go_wp2_with fail
    let Y2 : World → Prop := fun wx : World => wx.cell? ⟨b, off + k0 * 3, none⟩ = some (.int .i64 x) ∧ wx.cell? ⟨b, off + k0 * 3 + 1, none⟩ = some (.int .i64 y) ∧ wx.cell? ⟨b, off + k0 * 3 + 2, none⟩ = some (.int .i64 z) ∧ wx.cell? ⟨b, off + (k0 + 1) * 3, none⟩ = some (.int .i64 x2) ∧ wx.cell? ⟨b, off + (k0 + 1) * 3 + 1, none⟩ = some (.int .i64 y2) ∧ wx.cell? ⟨b, off + (k0 + 1) * 3 + 2, none⟩ = some (.int .i64 z2)
    have hS : Y2 wr.drew := by exact ⟨da0, da1, da2, db0, db1, db2⟩
    refine wp_region_V Y2 99 11 rfl (by kernel_rfl) ?_
    refine wpAnyV_tk 0 12 (v := ?vr11) ?hyr11 hS ?_
    case hyr11 => (intro w hSw; (try dsimp (config := { zetaDelta := true }) only at hSw); go_simp; (try with_reducible rfl))
    try simp only [Act.put, sA, s0, sS]
    refine wpAnyV_tk 1 13 (v := ?vr12) ?hyr12 hS ?_
    case hyr12 => (intro w hSw; (try dsimp (config := { zetaDelta := true }) only at hSw); go_simp; (try with_reducible rfl))
    try simp only [Act.put, sA, s0, sS]
    refine wpAnyV_tk 2 14 (v := ?vr13) ?hyr13 hS ?_
    case hyr13 => (intro w hSw; (try dsimp (config := { zetaDelta := true }) only at hSw); go_simp; (try with_reducible rfl))
    try simp only [Act.put, sA, s0, sS]
    refine wpAnyV_tk 3 15 (v := ?vr14) ?hyr14 hS ?_
    case hyr14 => (intro w hSw; (try dsimp (config := { zetaDelta := true }) only at hSw); go_simp; (try with_reducible rfl))
    try simp only [Act.put, sA, s0, sS]
    refine wpAnyV_tk 4 16 (v := ?vr15) ?hyr15 hS ?_
    case hyr15 => (intro w hSw; (try dsimp (config := { zetaDelta := true }) only at hSw); go_simp; rw [if_pos (by omega)]; (try with_reducible rfl))
    try simp only [Act.put, sA, s0, sS]
    refine wpAnyV_tk 5 17 (v := ?vr16) ?hyr16 hS ?_
    case hyr16 => (intro w hSw; (try dsimp (config := { zetaDelta := true }) only at hSw); go_simp; (try with_reducible rfl))
    try simp only [Act.put, sA, s0, sS]
    refine wpAnyV_tk 6 18 (v := ?vr17) ?hyr17 hS ?_
    case hyr17 => (intro w hSw; (try dsimp (config := { zetaDelta := true }) only at hSw); go_simp; (try with_reducible rfl))
    try simp only [Act.put, sA, s0, sS]
    refine wpAnyV_tk 7 19 (v := ?vr18) ?hyr18 hS ?_
    case hyr18 => (intro w hSw; (try dsimp (config := { zetaDelta := true }) only at hSw); go_simp; (try with_reducible rfl))
    try simp only [Act.put, sA, s0, sS]
    refine wpAnyV_tk 8 20 (v := ?vr19) ?hyr19 hS ?_
    case hyr19 => (intro w hSw; (try dsimp (config := { zetaDelta := true }) only at hSw); go_simp; rw [if_pos (by omega)]; (try with_reducible rfl))
    try simp only [Act.put, sA, s0, sS]
    refine wpAnyV_tk 9 21 (v := ?vr20) ?hyr20 hS ?_
    case hyr20 => (intro w hSw; (try dsimp (config := { zetaDelta := true }) only at hSw); go_simp; (try with_reducible rfl))
    try simp only [Act.put, sA, s0, sS]
    refine wpAnyV_one (i := 10) (by kernel_rfl) rfl (fun K hK => ?_)
    go_simp
    refine (kf _).mono ?_
    rintro e w1 ⟨rfl, hk1⟩
    have hS : Y2 w1 := by exact ⟨hk1.cellOf da0 id, hk1.cellOf da1 id, hk1.cellOf da2 id, hk1.cellOf db0 id, hk1.cellOf db1 id, hk1.cellOf db2 id⟩
    refine hK.out _ _ (fun _ => hS) ?_
    clear hK K
    try simp only [Act.put, sA, s0, sS]
    refine wpAnyV_done (by kernel_rfl) ?_
    have HK1 := hid (HK.out.drew.trans hk1)
    clear da0 da1 da2 db0 db1 db2 kf hk1
    go_wp2
    go_roundw
    case rel => exact ⟨k0 + 1 + 1, by omega, by omega, by go_num, HE, HK1⟩
    case measure => simp [intOf]; omega
  ·have he : R = false := by
    rw [← HR.out]
    exact nbr_no (fun j h => HA.out j h (by rw [HL.out] at h; omega))
   go_wp2
   go_ret
   exact ⟨by rw [he]; rfl, HK.out⟩
theorem enters_wl : Enters8 33 := fun args wx => by simp [callFunc, go_sem, Try.func33, Try.f33]
theorem enters_nr : Enters8 35 := fun args wx => by simp [callFunc, go_sem, Try.func35, Try.f35]
theorem enters_ic : Enters8 36 := fun args wx => by simp [callFunc, go_sem, Try.func36, Try.f36]
theorem implLocksFault_any (x : FR) (w : World) (hv : RdF 3 w x) :
  Calls Try.prog 13 #[x.v] w fun e w' => e = .returned (.int .i64 (locksF (tri x.bs))) ∧ Same w w' := by
 have k1 := containsL_any 33 lkBad x w hv enters_wl (fun p wx _ => wrongLock_any p wx)
 have k2 := fun wx (h : Same w wx) => anyNeighbours_any 35 lkAfter x wx (hv.same h) enters_nr (fun p q wx _ _ => notRising_any p q wx)
 have k3 := fun wx (h : Same w wx) (hb : (tri x.bs).any lkBad = false) => anyNeighbours_any 36 lkClash x wx (hv.same h) enters_ic (fun p q wx hp hq => inConflict_any p q wx (by simpa using (List.any_eq_false.1 hb) p hp) (by simpa using (List.any_eq_false.1 hb) q hq))
 obtain ⟨xe, xa, n, xc, bs⟩ := x
 have hm : n ≤ maxLen := hv.1
 unfold maxLen at hm
 have hl := tri_length n bs hv.2.1
 dsimp only [FR.v] at k1 k2 k3 ⊢
 clear hv
 obtain ⟨R, hR⟩ : ∃ R, locksF (tri bs) = R := ⟨_, rfl⟩
 rw [hR]
 unfold locksF at hR
 by_cases hb : 4096 < n
 ·rw [if_pos (by omega)] at hR
  subst hR
  clear k1 k2 k3
  go_enter Try.func13, Try.ntmps13
  go_wp2
  go_ret
  exact ⟨rfl, Kept.refl _ _⟩
 rw [if_neg (by omega)] at hR
 cases f1 : (tri bs).any lkBad with
 | true =>
  rw [f1] at k1
  rw [if_pos f1] at hR
  subst hR
  clear k2 k3 hl
  go_enter Try.func13, Try.ntmps13
  go_wp2_with fail
  refine k1.mono ?_
  rintro e w1 ⟨rfl, hk1⟩
  go_wp2
  go_ret
  exact ⟨rfl, hk1⟩
 | false =>
  have k3 := fun wx h => k3 wx h f1
  rw [f1] at k1
  rw [if_neg (by rw [f1]; simp)] at hR
  cases f2 : nbr lkAfter (tri bs) with
  | true =>
   simp only [f2] at k2
   rw [if_pos f2] at hR
   subst hR
   clear k3 hl
   go_enter Try.func13, Try.ntmps13
   go_wp2_with fail
   refine k1.mono ?_
   rintro e w1 ⟨rfl, hk1⟩
   have HK1 := hid hk1
   clear k1 hk1
   go_wp2_with fail
   refine (k2 _ HK1.out).mono ?_
   rintro e w2 ⟨rfl, hk2⟩
   have HK2 := hid (HK1.out.trans hk2)
   clear hk2 k2
   go_wp2
   go_ret
   exact ⟨rfl, HK2.out⟩
  | false =>
   simp only [f2] at k2
   rw [if_neg (by rw [f2]; simp)] at hR
   cases f3 : nbr lkClash (tri bs) with
   | true =>
    simp only [f3] at k3
    rw [if_pos f3] at hR
    subst hR
    clear hl
    go_enter Try.func13, Try.ntmps13
    go_wp2_with fail
    refine k1.mono ?_
    rintro e w1 ⟨rfl, hk1⟩
    have HK1 := hid hk1
    clear k1 hk1
    go_wp2_with fail
    refine (k2 _ HK1.out).mono ?_
    rintro e w2 ⟨rfl, hk2⟩
    have HK2 := hid (HK1.out.trans hk2)
    clear hk2 k2
    go_wp2_with fail
    refine (k3 _ HK2.out).mono ?_
    rintro e w3 ⟨rfl, hk3⟩
    have HK3 := hid (HK2.out.trans hk3)
    clear hk3 k3
    go_wp2
    go_ret
    exact ⟨rfl, HK3.out⟩
   | false =>
    simp only [f3] at k3
    rw [if_neg (by rw [f3]; simp)] at hR
    subst hR
    clear hl
    go_enter Try.func13, Try.ntmps13
    go_wp2_with fail
    refine k1.mono ?_
    rintro e w1 ⟨rfl, hk1⟩
    have HK1 := hid hk1
    clear k1 hk1
    go_wp2_with fail
    refine (k2 _ HK1.out).mono ?_
    rintro e w2 ⟨rfl, hk2⟩
    have HK2 := hid (HK1.out.trans hk2)
    clear hk2 k2
    go_wp2_with fail
    refine (k3 _ HK2.out).mono ?_
    rintro e w3 ⟨rfl, hk3⟩
    have HK3 := hid (HK2.out.trans hk3)
    clear hk3 k3
    go_wp2
    go_ret
    exact ⟨rfl, HK3.out⟩
end Go.Proofs.Ytelijknekfipfaa
