/-
  impl.isId, isRecordLength, isLength, notRisingById, wrongHold; slices.IndexFunc, slices.ContainsFunc and impl.anyNeighbours at holds; impl.HoldsFault (by tools/gen/holdn.py).
-/
import Derived.Test.YtagcefbnhpkdiabLockN
import Derived.Test.YtagcefbnhpkdiabHoldSpec
namespace Go.Proofs.Ytagcefbnhpkdiab
set_option maxRecDepth 100000
set_option maxHeartbeats 4000000
open Go.RowKit
set_option linter.unusedVariables false
set_option linter.unusedSimpArgs false

theorem recLen_any (x : Int) (w : World) : Calls Try.prog 43 #[.int .i64 x] w fun e w' => e = .returned (.bool (inB x 0 1000)) ∧ w' = w := by
  unfold inB
  by_cases h : 0 ≤ x
  · by_cases h2 : x ≤ 1000
    · go_enter Try.func43, Try.ntmps43
      go_wp2
      go_ret
      exact ⟨by simp [h]; try omega, rfl⟩
    · go_enter Try.func43, Try.ntmps43
      go_wp2
      go_ret
      exact ⟨by simp [h]; try omega, rfl⟩
  · go_enter Try.func43, Try.ntmps43
    go_wp2
    go_ret
    exact ⟨by rw [show decide (0 ≤ x) = false from by simp; omega]; rfl, rfl⟩
theorem isLength_any (x : Int) (w : World) : Calls Try.prog 56 #[.int .i64 x] w fun e w' => e = .returned (.bool (inB x (-1) 1000)) ∧ w' = w := by
  have k0 := recLen_any x
  have he : inB x (-1) 1000 = (decide (x = -1) || inB x 0 1000) := by
    unfold inB
    rw [Bool.eq_iff_iff]
    simp
    omega
  rw [he]
  by_cases h : x = -1
  · subst h
    go_enter Try.func56, Try.ntmps56
    go_wp2
    go_ret
    exact ⟨by simp, rfl⟩
  · have h' : (x == -1) = false := by simp [h]
    go_enter Try.func56, Try.ntmps56
    go_wp2_with fail
    refine (k0 _).mono ?_
    rintro e w1 ⟨rfl, rfl⟩
    go_wp2
    go_ret
    exact ⟨by simp [h], rfl⟩
theorem notRisingById_any (p q : T3) (w : World) :
    Calls Try.prog 60 #[.agg #[.int .i64 p.1, .int .i64 p.2.1, .int .i64 p.2.2], .agg #[.int .i64 q.1, .int .i64 q.2.1, .int .i64 q.2.2]] w fun e w' => e = .returned (.bool (hdAfter p q)) ∧ Same w w' := by
  obtain ⟨x, y, z⟩ := p
  obtain ⟨x2, y2, z2⟩ := q
  unfold hdAfter
  dsimp only
  have HB0 := (show Hid (Blk (w.alloc (.cells #[.int .i64 x, .int .i64 y, .int .i64 z] 53)) w.heap.size 53 [.int .i64 x, .int .i64 y, .int .i64 z]) from Blk.newL w _ _)
  have HK0 := hid (sameA w [.int .i64 x, .int .i64 y, .int .i64 z] 53)
  have HB1 := (show Hid (Blk ((w.alloc (.cells #[.int .i64 x, .int .i64 y, .int .i64 z] 53)).alloc (.cells #[.int .i64 x2, .int .i64 y2, .int .i64 z2] 53)) (w.alloc (.cells #[.int .i64 x, .int .i64 y, .int .i64 z] 53)).heap.size 53 [.int .i64 x2, .int .i64 y2, .int .i64 z2]) from Blk.newL _ _ _)
  have HK1 := hid (sameA (w.alloc (.cells #[.int .i64 x, .int .i64 y, .int .i64 z] 53)) [.int .i64 x2, .int .i64 y2, .int .i64 z2] 53)
  obtain ⟨c0, c1, c2⟩ := (HB0.out.same HK1.out).all3
  obtain ⟨d0, d1, d2⟩ := HB1.out.all3
  have HK2 := hid (HK0.out.trans HK1.out)
  rw [World.size_alloc] at d0 d1 d2
  clear c1 c2 d1 d2
  go_enter Try.func60, Try.ntmps60
  go_wp2
  go_ret
  exact ⟨by simp, HK2.out⟩
theorem wrongHold_any (p : T3) (w : World) :
    Calls Try.prog 62 #[.agg #[.int .i64 p.1, .int .i64 p.2.1, .int .i64 p.2.2]] w fun e w' => e = .returned (.bool (hdBad p)) ∧ Same w w' := by
  obtain ⟨B, hB⟩ : ∃ B, hdBad p = B := ⟨_, rfl⟩
  rw [hB]
  unfold hdBad at hB
  obtain ⟨x, y, z⟩ := p
  dsimp only at hB ⊢
  have HB0 := (show Hid (Blk (w.alloc (.cells #[.int .i64 x, .int .i64 y, .int .i64 z] 53)) w.heap.size 53 [.int .i64 x, .int .i64 y, .int .i64 z]) from Blk.newL w _ _)
  have HK0 := hid (sameA w [.int .i64 x, .int .i64 y, .int .i64 z] 53)
  obtain ⟨c0, c1, c2⟩ := HB0.out.all3
  have k0 := isId8_any x
  have k1 := isTxn8_any y
  have k2 := recLen_any z
  cases f0 : inB x 0 511 with
  | false =>
    rw [f0] at k0 hB
    subst hB
    go_enter Try.func62, Try.ntmps62
    go_wp2_with fail
    refine (k0 _).mono ?_
    rintro e w1 ⟨rfl, rfl⟩
    go_wp2
    go_ret
    exact ⟨by simp, HK0.out⟩
  | true =>
  rw [f0] at k0 hB
  cases f1 : inB y 1 2147483647 with
  | false =>
    rw [f1] at k1 hB
    subst hB
    go_enter Try.func62, Try.ntmps62
    go_wp2_with fail
    refine (k0 _).mono ?_
    rintro e w1 ⟨rfl, rfl⟩
    go_wp2_with fail
    refine (k1 _).mono ?_
    rintro e w1 ⟨rfl, rfl⟩
    go_wp2
    go_ret
    exact ⟨by simp, HK0.out⟩
  | true =>
  rw [f1] at k1 hB
  cases f2 : inB z 0 1000 with
  | false =>
    rw [f2] at k2 hB
    subst hB
    go_enter Try.func62, Try.ntmps62
    go_wp2_with fail
    refine (k0 _).mono ?_
    rintro e w1 ⟨rfl, rfl⟩
    go_wp2_with fail
    refine (k1 _).mono ?_
    rintro e w1 ⟨rfl, rfl⟩
    go_wp2_with fail
    refine (k2 _).mono ?_
    rintro e w1 ⟨rfl, rfl⟩
    go_wp2
    go_ret
    exact ⟨by simp, HK0.out⟩
  | true =>
    rw [f2] at k2 hB
    subst hB
    go_enter Try.func62, Try.ntmps62
    go_wp2_with fail
    refine (k0 _).mono ?_
    rintro e w1 ⟨rfl, rfl⟩
    go_wp2_with fail
    refine (k1 _).mono ?_
    rintro e w1 ⟨rfl, rfl⟩
    go_wp2_with fail
    refine (k2 _).mono ?_
    rintro e w1 ⟨rfl, rfl⟩
    go_wp2
    go_ret
    exact ⟨by simp, HK0.out⟩
theorem indexH_any (fid : FuncId) (f : T3 → Bool) (x : FR) (w : World) (hv : RdF 3 w x) (hent : Enters8 fid) (hf : Asks3 fid f w (tri x.bs)) :
    Calls Try.prog 63 #[x.v, .func (.func fid) #[] #[]] w fun e w' => e = .returned (.int .i64 (idxF3 f 0 (tri x.bs))) ∧ Same w w' := by
  obtain ⟨xe, xa, n, xc, bs⟩ := x
  have hm : n ≤ maxLen := hv.1
  unfold maxLen at hm
  have hl := tri_length n bs hv.2.1
  dsimp only [FR.v] at hf ⊢
  have HV := hid hv
  have HF : Hid (Asks3 fid f w (tri bs)) := hf
  obtain ⟨R, hR⟩ : ∃ R, idxF3 f 0 (tri bs) = R := ⟨_, rfl⟩
  have HR : Hid (idxF3 f 0 ((tri bs).drop 0) = R) := by rw [List.drop_zero]; exact hR
  rw [hR]
  have HL := hid hl
  clear hv hf hR hl
  have hent' : ∀ (args : Array Value) (wx : World), (callFunc fid args).run Try.prog wx = .ok (.enter fid args) wx := hent
  clear hent
  go_enter Try.func63, Try.ntmps63
  go_wp2
  go_loopw [8] (fun i wr => ∃ k : Nat, k ≤ n ∧ i = .int .i64 k ∧ Hid (idxF3 f k ((tri bs).drop k) = R) ∧ Hid (Same w wr)) (fun i _ => n - (intOf i).toNat)
  case atStart => exact ⟨0, Nat.zero_le _, rfl, HR, Kept.refl _ _⟩
  case round =>
    obtain ⟨k, hk, rfl, HA, HK⟩ := hrel
    by_cases hlt : k < n
    · obtain ⟨b, off, ha, hc⟩ := HV.out.some (show 0 < n by omega)
      dsimp only at ha hc
      subst ha
      have hla : k < (tri bs).length := by rw [HL.out]; omega
      have HA2 : Hid ((if f (tri bs)[k] = true then (k : Int) else idxF3 f (k + 1) ((tri bs).drop (k + 1))) = R) := by have h := HA.out; rw [idxF3_at hla] at h; exact h
      have kf := HF.out (tri bs)[k] wr (List.getElem_mem hla)
      obtain ⟨⟨x, y, z⟩, hxa⟩ : ∃ q, (tri bs)[k] = q := ⟨_, rfl⟩
      obtain ⟨da0, da1, da2⟩ := (HV.out.same HK.out).tri k hla _ _ _ hxa
      rw [hxa] at kf HA2
      dsimp only at kf
      cases hb : f (x, y, z) with
      | true =>
        have HE : Hid ((k : Int) = R) := by have h := HA2.out; rw [if_pos hb] at h; exact h
        rw [hb] at kf
        clear HA2 HA hb hxa
        go_wp2_with fail
        refine kf.mono ?_
        rintro e w1 ⟨rfl, hk1⟩
        have HK1 := (show Hid (Same w w1) from HK.out.trans hk1)
        clear da0 da1 da2 kf hk1
        go_wp2
        go_ret
        exact ⟨by rw [← HE.out]; rfl, HK1.out⟩
      | false =>
        have HE : Hid (idxF3 f (k + 1) ((tri bs).drop (k + 1)) = R) := by have h := HA2.out; rw [if_neg (by simp [hb])] at h; exact h
        rw [hb] at kf
        clear HA2 HA hb hxa
        go_wp2_with fail
        refine kf.mono ?_
        rintro e w1 ⟨rfl, hk1⟩
        have HK1 := (show Hid (Same w w1) from HK.out.trans hk1)
        clear da0 da1 da2 kf hk1
        go_wp2
        go_roundw
        case rel => exact ⟨k + 1, by omega, by go_num, HE, HK1⟩
        case measure => simp [intOf]; omega
    · obtain rfl : n = k := by omega
      have he : (-1 : Int) = R := by have h := HA.out; rw [← HL.out, idxF3_end] at h; exact h
      go_wp2
      go_ret
      exact ⟨by rw [← he]; rfl, HK.out⟩

theorem containsH_any (fid : FuncId) (f : T3 → Bool) (x : FR) (w : World) (hv : RdF 3 w x) (hent : Enters8 fid) (hf : Asks3 fid f w (tri x.bs)) :
    Calls Try.prog 61 #[x.v, .func (.func fid) #[] #[]] w fun e w' => e = .returned (.bool ((tri x.bs).any f)) ∧ Same w w' := by
  have k0 := indexH_any fid f x w hv hent hf
  have hx := idxF3_any f (tri x.bs) 0
  obtain ⟨xe, xa, n, xc, bs⟩ := x
  dsimp only [FR.v] at k0 hx ⊢
  generalize idxF3 f 0 (tri bs) = r at k0 hx
  rw [← hx]
  clear hx hv hf hent
  go_enter Try.func61, Try.ntmps61
  go_wp2_with fail
  refine k0.mono ?_
  rintro e w1 ⟨rfl, hk1⟩
  go_wp2
  go_ret
  exact ⟨rfl, hk1⟩
theorem anyNeighboursH_any (fid : FuncId) (f : T3 → T3 → Bool) (x : FR) (w : World) (hv : RdF 3 w x) (hent : Enters8 fid) (hf : Asks33 fid f (tri x.bs)) :
    Calls Try.prog 59 #[x.v, .func (.func fid) #[] #[]] w fun e w' => e = .returned (.bool (nbr f (tri x.bs))) ∧ Same w w' := by
  obtain ⟨xe, xa, n, xc, bs⟩ := x
  have hm : n ≤ maxLen := hv.1
  unfold maxLen at hm
  have hl := tri_length n bs hv.2.1
  dsimp only [FR.v] at hf ⊢
  have HV := hid hv
  have HF : Hid (Asks33 fid f (tri bs)) := hf
  obtain ⟨R, hR⟩ : ∃ R, nbr f (tri bs) = R := ⟨_, rfl⟩
  have HR := hid hR
  rw [hR]
  have HL := hid hl
  clear hv hf hR hl
  have hent' : ∀ (args : Array Value) (wx : World), (callFunc fid args).run Try.prog wx = .ok (.enter fid args) wx := hent
  clear hent
  go_enter Try.func59, Try.ntmps59
  go_wp2
  go_loopw [5] (fun i wr => ∃ k : Nat, (k ≤ n ∨ k = 1) ∧ 1 ≤ k ∧ i = .int .i64 k ∧ Hid (∀ (j : Nat) (h : j + 1 < (tri bs).length), j + 1 < k → f (tri bs)[j] (tri bs)[j + 1] = false) ∧ Hid (Same w wr)) (fun i _ => n - (intOf i).toNat)
  case atStart => exact ⟨1, .inr rfl, Nat.le_refl _, rfl, fun j h hj => by omega, Kept.refl _ _⟩
  case round =>
    obtain ⟨k, hk, hk1, rfl, HA, HK⟩ := hrel
    by_cases hlt : k < n
    · obtain ⟨b, off, ha, hc⟩ := HV.out.some (show 0 < n by omega)
      dsimp only at ha hc
      subst ha
      obtain ⟨k0, rfl⟩ : ∃ k0, k = k0 + 1 := ⟨k - 1, by omega⟩
      have hla : k0 < (tri bs).length := by rw [HL.out]; omega
      have hlb : k0 + 1 < (tri bs).length := by rw [HL.out]; omega
      have hcell : ∀ wx, Same wr wx → RdF 3 wx ⟨xe, some ⟨b, off, none⟩, n, xc, bs⟩ := fun wx h => HV.out.same (HK.out.trans h)
      have kf := fun wx => HF.out (tri bs)[k0] (tri bs)[k0 + 1] wx (List.getElem_mem hla) (List.getElem_mem hlb)
      obtain ⟨⟨x, y, z⟩, hxa⟩ : ∃ q, (tri bs)[k0] = q := ⟨_, rfl⟩
      obtain ⟨⟨x2, y2, z2⟩, hxb⟩ : ∃ q, (tri bs)[k0 + 1] = q := ⟨_, rfl⟩
      obtain ⟨da0, da1, da2⟩ := (HV.out.same HK.out).tri k0 hla _ _ _ hxa
      obtain ⟨db0, db1, db2⟩ := (HV.out.same HK.out).tri (k0 + 1) hlb _ _ _ hxb
      rw [hxa, hxb] at kf
      dsimp only at kf
      have hi1 : ((k0 + 1 : Nat) : Int) - 1 = (k0 : Int) := by omega
      have hw0 : IntKind.i64.wrap (k0 : Int) = (k0 : Int) := by rw [IntKind.wrap_i64]; omega
      have HXA := hid hxa
      have HXB := hid hxb
      clear hxa hxb
      cases hb : f (x, y, z) (x2, y2, z2) with
      | true =>
        rw [hb] at kf
        have HE : Hid (R = true) := by
          have h := HR.out
          rw [nbr_yes k0 hlb (by rw [HXA.out, HXB.out]; exact hb)] at h
          exact h.symm
        clear HA hb
        go_wp2_with fail
        have hS : ((fun wx : World => wx.cell? ⟨b, off + k0 * 3, none⟩ = some (.int .i64 x) ∧ wx.cell? ⟨b, off + k0 * 3 + 1, none⟩ = some (.int .i64 y) ∧ wx.cell? ⟨b, off + k0 * 3 + 2, none⟩ = some (.int .i64 z) ∧ wx.cell? ⟨b, off + (k0 + 1) * 3, none⟩ = some (.int .i64 x2) ∧ wx.cell? ⟨b, off + (k0 + 1) * 3 + 1, none⟩ = some (.int .i64 y2) ∧ wx.cell? ⟨b, off + (k0 + 1) * 3 + 2, none⟩ = some (.int .i64 z2))) wr.drew := by exact ⟨da0, da1, da2, db0, db1, db2⟩
        refine wp_region_V ((fun wx : World => wx.cell? ⟨b, off + k0 * 3, none⟩ = some (.int .i64 x) ∧ wx.cell? ⟨b, off + k0 * 3 + 1, none⟩ = some (.int .i64 y) ∧ wx.cell? ⟨b, off + k0 * 3 + 2, none⟩ = some (.int .i64 z) ∧ wx.cell? ⟨b, off + (k0 + 1) * 3, none⟩ = some (.int .i64 x2) ∧ wx.cell? ⟨b, off + (k0 + 1) * 3 + 1, none⟩ = some (.int .i64 y2) ∧ wx.cell? ⟨b, off + (k0 + 1) * 3 + 2, none⟩ = some (.int .i64 z2))) 99 11 rfl (by kernel_rfl) ?_
        refine wpAnyV_tk 0 12 (v := ?vq11) ?hyq11 hS ?_
        case hyq11 => (intro w hSw; (try dsimp only at hSw); go_simp; (try with_reducible rfl))
        try simp only [Act.put, sA, s0, sS]
        refine wpAnyV_tk 1 13 (v := ?vq12) ?hyq12 hS ?_
        case hyq12 => (intro w hSw; (try dsimp only at hSw); go_simp; (try with_reducible rfl))
        try simp only [Act.put, sA, s0, sS]
        refine wpAnyV_tk 2 14 (v := ?vq13) ?hyq13 hS ?_
        case hyq13 => (intro w hSw; (try dsimp only at hSw); go_simp; (try with_reducible rfl))
        try simp only [Act.put, sA, s0, sS]
        refine wpAnyV_tk 3 15 (v := ?vq14) ?hyq14 hS ?_
        case hyq14 => (intro w hSw; (try dsimp only at hSw); go_simp; (try with_reducible rfl))
        try simp only [Act.put, sA, s0, sS]
        refine wpAnyV_tk 4 16 (v := ?vq15) ?hyq15 hS ?_
        case hyq15 => (intro w hSw; (try dsimp only at hSw); go_simp; rw [if_pos (by omega)]; (try with_reducible rfl))
        try simp only [Act.put, sA, s0, sS]
        refine wpAnyV_tk 5 17 (v := ?vq16) ?hyq16 hS ?_
        case hyq16 => (intro w hSw; (try dsimp only at hSw); go_simp; (try with_reducible rfl))
        try simp only [Act.put, sA, s0, sS]
        refine wpAnyV_tk 6 18 (v := ?vq17) ?hyq17 hS ?_
        case hyq17 => (intro w hSw; (try dsimp only at hSw); go_simp; (try with_reducible rfl))
        try simp only [Act.put, sA, s0, sS]
        refine wpAnyV_tk 7 19 (v := ?vq18) ?hyq18 hS ?_
        case hyq18 => (intro w hSw; (try dsimp only at hSw); go_simp; (try with_reducible rfl))
        try simp only [Act.put, sA, s0, sS]
        refine wpAnyV_tk 8 20 (v := ?vq19) ?hyq19 hS ?_
        case hyq19 => (intro w hSw; (try dsimp only at hSw); go_simp; rw [if_pos (by omega)]; (try with_reducible rfl))
        try simp only [Act.put, sA, s0, sS]
        refine wpAnyV_tk 9 21 (v := ?vq20) ?hyq20 hS ?_
        case hyq20 => (intro w hSw; (try dsimp only at hSw); go_simp; (try with_reducible rfl))
        try simp only [Act.put, sA, s0, sS]
        refine wpAnyV_one (i := 10) (by kernel_rfl) rfl (fun K hK => ?_)
        go_simp
        refine (kf _).mono ?_
        rintro e w1 ⟨rfl, hk1⟩
        have hS : ((fun wx : World => wx.cell? ⟨b, off + k0 * 3, none⟩ = some (.int .i64 x) ∧ wx.cell? ⟨b, off + k0 * 3 + 1, none⟩ = some (.int .i64 y) ∧ wx.cell? ⟨b, off + k0 * 3 + 2, none⟩ = some (.int .i64 z) ∧ wx.cell? ⟨b, off + (k0 + 1) * 3, none⟩ = some (.int .i64 x2) ∧ wx.cell? ⟨b, off + (k0 + 1) * 3 + 1, none⟩ = some (.int .i64 y2) ∧ wx.cell? ⟨b, off + (k0 + 1) * 3 + 2, none⟩ = some (.int .i64 z2))) w1 := by exact ⟨hk1.cellOf da0 id, hk1.cellOf da1 id, hk1.cellOf da2 id, hk1.cellOf db0 id, hk1.cellOf db1 id, hk1.cellOf db2 id⟩
        refine hK.out _ _ (fun _ => hS) ?_
        clear hK K
        try simp only [Act.put, sA, s0, sS]
        refine wpAnyV_done (by kernel_rfl) ?_
        have HK1 := (show Hid (Same w w1) from HK.out.drew.trans hk1)
        clear da0 da1 da2 db0 db1 db2 kf hk1
        go_wp2
        go_ret
        exact ⟨by rw [HE.out]; rfl, HK1.out⟩
      | false =>
        rw [hb] at kf
        have HE : Hid (∀ (j : Nat) (h : j + 1 < (tri bs).length), j + 1 < k0 + 1 + 1 → f (tri bs)[j] (tri bs)[j + 1] = false) := fun j h hj => by
          by_cases e : j = k0
          · subst e
            rw [HXA.out, HXB.out]
            exact hb
          · exact HA.out j h (by omega)
        clear HA hb
        go_wp2_with fail
        have hS : ((fun wx : World => wx.cell? ⟨b, off + k0 * 3, none⟩ = some (.int .i64 x) ∧ wx.cell? ⟨b, off + k0 * 3 + 1, none⟩ = some (.int .i64 y) ∧ wx.cell? ⟨b, off + k0 * 3 + 2, none⟩ = some (.int .i64 z) ∧ wx.cell? ⟨b, off + (k0 + 1) * 3, none⟩ = some (.int .i64 x2) ∧ wx.cell? ⟨b, off + (k0 + 1) * 3 + 1, none⟩ = some (.int .i64 y2) ∧ wx.cell? ⟨b, off + (k0 + 1) * 3 + 2, none⟩ = some (.int .i64 z2))) wr.drew := by exact ⟨da0, da1, da2, db0, db1, db2⟩
        refine wp_region_V ((fun wx : World => wx.cell? ⟨b, off + k0 * 3, none⟩ = some (.int .i64 x) ∧ wx.cell? ⟨b, off + k0 * 3 + 1, none⟩ = some (.int .i64 y) ∧ wx.cell? ⟨b, off + k0 * 3 + 2, none⟩ = some (.int .i64 z) ∧ wx.cell? ⟨b, off + (k0 + 1) * 3, none⟩ = some (.int .i64 x2) ∧ wx.cell? ⟨b, off + (k0 + 1) * 3 + 1, none⟩ = some (.int .i64 y2) ∧ wx.cell? ⟨b, off + (k0 + 1) * 3 + 2, none⟩ = some (.int .i64 z2))) 99 11 rfl (by kernel_rfl) ?_
        refine wpAnyV_tk 0 12 (v := ?vr11) ?hyr11 hS ?_
        case hyr11 => (intro w hSw; (try dsimp only at hSw); go_simp; (try with_reducible rfl))
        try simp only [Act.put, sA, s0, sS]
        refine wpAnyV_tk 1 13 (v := ?vr12) ?hyr12 hS ?_
        case hyr12 => (intro w hSw; (try dsimp only at hSw); go_simp; (try with_reducible rfl))
        try simp only [Act.put, sA, s0, sS]
        refine wpAnyV_tk 2 14 (v := ?vr13) ?hyr13 hS ?_
        case hyr13 => (intro w hSw; (try dsimp only at hSw); go_simp; (try with_reducible rfl))
        try simp only [Act.put, sA, s0, sS]
        refine wpAnyV_tk 3 15 (v := ?vr14) ?hyr14 hS ?_
        case hyr14 => (intro w hSw; (try dsimp only at hSw); go_simp; (try with_reducible rfl))
        try simp only [Act.put, sA, s0, sS]
        refine wpAnyV_tk 4 16 (v := ?vr15) ?hyr15 hS ?_
        case hyr15 => (intro w hSw; (try dsimp only at hSw); go_simp; rw [if_pos (by omega)]; (try with_reducible rfl))
        try simp only [Act.put, sA, s0, sS]
        refine wpAnyV_tk 5 17 (v := ?vr16) ?hyr16 hS ?_
        case hyr16 => (intro w hSw; (try dsimp only at hSw); go_simp; (try with_reducible rfl))
        try simp only [Act.put, sA, s0, sS]
        refine wpAnyV_tk 6 18 (v := ?vr17) ?hyr17 hS ?_
        case hyr17 => (intro w hSw; (try dsimp only at hSw); go_simp; (try with_reducible rfl))
        try simp only [Act.put, sA, s0, sS]
        refine wpAnyV_tk 7 19 (v := ?vr18) ?hyr18 hS ?_
        case hyr18 => (intro w hSw; (try dsimp only at hSw); go_simp; (try with_reducible rfl))
        try simp only [Act.put, sA, s0, sS]
        refine wpAnyV_tk 8 20 (v := ?vr19) ?hyr19 hS ?_
        case hyr19 => (intro w hSw; (try dsimp only at hSw); go_simp; rw [if_pos (by omega)]; (try with_reducible rfl))
        try simp only [Act.put, sA, s0, sS]
        refine wpAnyV_tk 9 21 (v := ?vr20) ?hyr20 hS ?_
        case hyr20 => (intro w hSw; (try dsimp only at hSw); go_simp; (try with_reducible rfl))
        try simp only [Act.put, sA, s0, sS]
        refine wpAnyV_one (i := 10) (by kernel_rfl) rfl (fun K hK => ?_)
        go_simp
        refine (kf _).mono ?_
        rintro e w1 ⟨rfl, hk1⟩
        have hS : ((fun wx : World => wx.cell? ⟨b, off + k0 * 3, none⟩ = some (.int .i64 x) ∧ wx.cell? ⟨b, off + k0 * 3 + 1, none⟩ = some (.int .i64 y) ∧ wx.cell? ⟨b, off + k0 * 3 + 2, none⟩ = some (.int .i64 z) ∧ wx.cell? ⟨b, off + (k0 + 1) * 3, none⟩ = some (.int .i64 x2) ∧ wx.cell? ⟨b, off + (k0 + 1) * 3 + 1, none⟩ = some (.int .i64 y2) ∧ wx.cell? ⟨b, off + (k0 + 1) * 3 + 2, none⟩ = some (.int .i64 z2))) w1 := by exact ⟨hk1.cellOf da0 id, hk1.cellOf da1 id, hk1.cellOf da2 id, hk1.cellOf db0 id, hk1.cellOf db1 id, hk1.cellOf db2 id⟩
        refine hK.out _ _ (fun _ => hS) ?_
        clear hK K
        try simp only [Act.put, sA, s0, sS]
        refine wpAnyV_done (by kernel_rfl) ?_
        have HK1 := (show Hid (Same w w1) from HK.out.drew.trans hk1)
        clear da0 da1 da2 db0 db1 db2 kf hk1
        go_wp2
        go_roundw
        case rel => exact ⟨k0 + 1 + 1, by omega, by omega, by go_num, HE, HK1⟩
        case measure => simp [intOf]; omega
    · have he : R = false := by
        rw [← HR.out]
        exact nbr_no (fun j h => HA.out j h (by rw [HL.out] at h; omega))
      go_wp2
      go_ret
      exact ⟨by rw [he]; rfl, HK.out⟩
theorem enters_wh : Enters8 62 := fun args wx => by simp [callFunc, go_sem, Try.func62, Try.f62]
theorem enters_nb : Enters8 60 := fun args wx => by simp [callFunc, go_sem, Try.func60, Try.f60]
theorem implHoldsFault_any (x : FR) (w : World) (hv : RdF 3 w x) :
    Calls Try.prog 29 #[x.v] w fun e w' => e = .returned (.int .i64 (holdsF (tri x.bs))) ∧ Same w w' := by
  have k1 := anyNeighboursH_any 60 hdAfter x w hv enters_nb (fun p q wx _ _ => notRisingById_any p q wx)
  have k2 := fun wx (h : Same w wx) => containsH_any 62 hdBad x wx (hv.same h) enters_wh (fun p wx _ => wrongHold_any p wx)
  obtain ⟨xe, xa, n, xc, bs⟩ := x
  have hm : n ≤ maxLen := hv.1
  unfold maxLen at hm
  have hl := tri_length n bs hv.2.1
  dsimp only [FR.v] at k1 k2 ⊢
  clear hv
  obtain ⟨R, hR⟩ : ∃ R, holdsF (tri bs) = R := ⟨_, rfl⟩
  rw [hR]
  unfold holdsF at hR
  by_cases hb : 512 < n
  · rw [if_pos (by omega)] at hR
    subst hR
    clear k1 k2
    go_enter Try.func29, Try.ntmps29
    go_wp2
    go_ret
    exact ⟨rfl, Kept.refl _ _⟩
  rw [if_neg (by omega)] at hR
  have hb' : ¬ (512 : Int) < (n : Int) := by omega
  cases f1 : nbr hdAfter (tri bs) with
  | true =>
    rw [f1] at k1 hR
    rw [if_pos rfl] at hR
    subst hR
    clear k2 hl
    go_enter Try.func29, Try.ntmps29
    go_wp2_with fail
    refine k1.mono ?_
    rintro e w1 ⟨rfl, hk1⟩
    go_wp2
    go_ret
    exact ⟨rfl, hk1⟩
  | false =>
    rw [f1] at k1 hR
    rw [if_neg Bool.false_ne_true] at hR
    cases f2 : (tri bs).any hdBad with
    | true =>
      rw [f2] at k2 hR
      rw [if_pos rfl] at hR
      subst hR
      clear hl
      go_enter Try.func29, Try.ntmps29
      go_wp2_with fail
      refine k1.mono ?_
      rintro e w1 ⟨rfl, hk1⟩
      go_wp2_with fail
      refine (k2 _ hk1).mono ?_
      rintro e w2 ⟨rfl, hk2⟩
      go_wp2
      go_ret
      exact ⟨rfl, hk1.trans hk2⟩
    | false =>
      rw [f2] at k2 hR
      rw [if_neg Bool.false_ne_true] at hR
      subst hR
      clear hl
      go_enter Try.func29, Try.ntmps29
      go_wp2_with fail
      refine k1.mono ?_
      rintro e w1 ⟨rfl, hk1⟩
      go_wp2_with fail
      refine (k2 _ hk1).mono ?_
      rintro e w2 ⟨rfl, hk2⟩
      go_wp2
      go_ret
      exact ⟨rfl, hk1.trans hk2⟩
end Go.Proofs.Ytagcefbnhpkdiab
