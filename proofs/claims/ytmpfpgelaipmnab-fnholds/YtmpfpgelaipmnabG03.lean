import Derived.Test.YtmpfpgelaipmnabG02
import Derived.Test.YtmpfpgelaipmnabG00
import Derived.Deep.DeepCutAuto
import Derived.Deep.RegionHeld3
import Derived.Deep.AppendLies
namespace Go.Proofs.Ytmpfpgelaipmnab
set_option maxRecDepth 100000
set_option maxHeartbeats 8000000
set_option linter.unusedVariables false
set_option linter.unusedSimpArgs false
open Go.RowKit
theorem recLen_any (x : Int) (w : World) : Calls Try.prog 43 #[.int .i64 x] w fun e w' => e = .returned (.bool (inB x 0 1000)) ∧ w' = w := by
  unfold inB
  by_cases h : 0 ≤ x
  · by_cases h2 : x ≤ 1000
    · go_enter Try.func43, Try.ntmps43
      go_wp2
      go_ret
      exact ⟨by simp [h]; try omega, rfl⟩
    · go_enter Try.func43, Try.ntmps43
      go_wp2
      go_ret
      exact ⟨by simp [h]; try omega, rfl⟩
  · go_enter Try.func43, Try.ntmps43
    go_wp2
    go_ret
    exact ⟨by rw [show decide (0 ≤ x) = false from by simp; omega]; rfl, rfl⟩
theorem isLength_any (x : Int) (w : World) : Calls Try.prog 56 #[.int .i64 x] w fun e w' => e = .returned (.bool (inB x (-1) 1000)) ∧ w' = w := by
  have k0 := recLen_any x
  have he : inB x (-1) 1000 = (decide (x = -1) || inB x 0 1000) := by
    unfold inB
    rw [Bool.eq_iff_iff]
    simp
    omega
  rw [he]
  by_cases h : x = -1
  · subst h
    go_enter Try.func56, Try.ntmps56
    go_wp2
    go_ret
    exact ⟨by simp, rfl⟩
  · have h' : (x == -1) = false := by simp [h]
    go_enter Try.func56, Try.ntmps56
    go_wp2_with fail
    refine (k0 _).mono ?_
    rintro e w1 ⟨rfl, rfl⟩
    go_wp2
    go_ret
    exact ⟨by simp [h], rfl⟩
theorem notRisingById_any (p q : T3) (w : World) :
    Calls Try.prog 60 #[.agg #[.int .i64 p.1, .int .i64 p.2.1, .int .i64 p.2.2], .agg #[.int .i64 q.1, .int .i64 q.2.1, .int .i64 q.2.2]] w fun e w' => e = .returned (.bool (hdAfter p q)) ∧ Same w w' := by
  obtain ⟨x, y, z⟩ := p
  obtain ⟨x2, y2, z2⟩ := q
  unfold hdAfter
  dsimp only
  have HB0 := (show Hid (Blk (w.alloc (.cells #[.int .i64 x, .int .i64 y, .int .i64 z] 53)) w.heap.size 53 [.int .i64 x, .int .i64 y, .int .i64 z]) from Blk.newL w _ _)
  have HK0 := hid (sameA w [.int .i64 x, .int .i64 y, .int .i64 z] 53)
  have HB1 := (show Hid (Blk ((w.alloc (.cells #[.int .i64 x, .int .i64 y, .int .i64 z] 53)).alloc (.cells #[.int .i64 x2, .int .i64 y2, .int .i64 z2] 53)) (w.alloc (.cells #[.int .i64 x, .int .i64 y, .int .i64 z] 53)).heap.size 53 [.int .i64 x2, .int .i64 y2, .int .i64 z2]) from Blk.newL _ _ _)
  have HK1 := hid (sameA (w.alloc (.cells #[.int .i64 x, .int .i64 y, .int .i64 z] 53)) [.int .i64 x2, .int .i64 y2, .int .i64 z2] 53)
  obtain ⟨c0, c1, c2⟩ := (HB0.out.same HK1.out).all3
  obtain ⟨d0, d1, d2⟩ := HB1.out.all3
  have HK2 := hid (HK0.out.trans HK1.out)
  rw [World.size_alloc] at d0 d1 d2
  clear c1 c2 d1 d2
  go_enter Try.func60, Try.ntmps60
  go_wp2
  go_ret
  exact ⟨by simp, HK2.out⟩
theorem wrongHold_any (p : T3) (w : World) :
    Calls Try.prog 62 #[.agg #[.int .i64 p.1, .int .i64 p.2.1, .int .i64 p.2.2]] w fun e w' => e = .returned (.bool (hdBad p)) ∧ Same w w' := by
  obtain ⟨B, hB⟩ : ∃ B, hdBad p = B := ⟨_, rfl⟩
  rw [hB]
  unfold hdBad at hB
  obtain ⟨x, y, z⟩ := p
  dsimp only at hB ⊢
  have HB0 := (show Hid (Blk (w.alloc (.cells #[.int .i64 x, .int .i64 y, .int .i64 z] 53)) w.heap.size 53 [.int .i64 x, .int .i64 y, .int .i64 z]) from Blk.newL w _ _)
  have HK0 := hid (sameA w [.int .i64 x, .int .i64 y, .int .i64 z] 53)
  obtain ⟨c0, c1, c2⟩ := HB0.out.all3
  have k0 := isId8_any x
  have k1 := isTxn8_any y
  have k2 := recLen_any z
  cases f0 : inB x 0 511 with
  | false =>
    rw [f0] at k0 hB
    subst hB
    go_enter Try.func62, Try.ntmps62
    go_wp2_with fail
    refine (k0 _).mono ?_
    rintro e w1 ⟨rfl, rfl⟩
    go_wp2
    go_ret
    exact ⟨by simp, HK0.out⟩
  | true =>
  rw [f0] at k0 hB
  cases f1 : inB y 1 2147483647 with
  | false =>
    rw [f1] at k1 hB
    subst hB
    go_enter Try.func62, Try.ntmps62
    go_wp2_with fail
    refine (k0 _).mono ?_
    rintro e w1 ⟨rfl, rfl⟩
    go_wp2_with fail
    refine (k1 _).mono ?_
    rintro e w1 ⟨rfl, rfl⟩
    go_wp2
    go_ret
    exact ⟨by simp, HK0.out⟩
  | true =>
  rw [f1] at k1 hB
  cases f2 : inB z 0 1000 with
  | false =>
    rw [f2] at k2 hB
    subst hB
    go_enter Try.func62, Try.ntmps62
    go_wp2_with fail
    refine (k0 _).mono ?_
    rintro e w1 ⟨rfl, rfl⟩
    go_wp2_with fail
    refine (k1 _).mono ?_
    rintro e w1 ⟨rfl, rfl⟩
    go_wp2_with fail
    refine (k2 _).mono ?_
    rintro e w1 ⟨rfl, rfl⟩
    go_wp2
    go_ret
    exact ⟨by simp, HK0.out⟩
  | true =>
    rw [f2] at k2 hB
    subst hB
    go_enter Try.func62, Try.ntmps62
    go_wp2_with fail
    refine (k0 _).mono ?_
    rintro e w1 ⟨rfl, rfl⟩
    go_wp2_with fail
    refine (k1 _).mono ?_
    rintro e w1 ⟨rfl, rfl⟩
    go_wp2_with fail
    refine (k2 _).mono ?_
    rintro e w1 ⟨rfl, rfl⟩
    go_wp2
    go_ret
    exact ⟨by simp, HK0.out⟩
theorem indexH_any (fid : FuncId) (f : T3 → Bool) (x : FR) (w : World) (hv : RdF 3 w x) (hent : Enters8 fid) (hf : Asks3 fid f w (tri x.bs)) :
    Calls Try.prog 63 #[x.v, .func (.func fid) #[] #[]] w fun e w' => e = .returned (.int .i64 (idxF3 f 0 (tri x.bs))) ∧ Same w w' := by
  obtain ⟨xe, xa, n, xc, bs⟩ := x
  have hm : n ≤ maxLen := hv.1
  unfold maxLen at hm
  have hl := tri_length n bs hv.2.1
  dsimp only [FR.v] at hf ⊢
  have HV := hid hv
  have HF : Hid (Asks3 fid f w (tri bs)) := hf
  obtain ⟨R, hR⟩ : ∃ R, idxF3 f 0 (tri bs) = R := ⟨_, rfl⟩
  have HR : Hid (idxF3 f 0 ((tri bs).drop 0) = R) := by rw [List.drop_zero]; exact hR
  rw [hR]
  have HL := hid hl
  clear hv hf hR hl
  have hent' : ∀ (args : Array Value) (wx : World), (callFunc fid args).run Try.prog wx = .ok (.enter fid args) wx := hent
  clear hent
  go_enter Try.func63, Try.ntmps63
  go_wp2
  go_loopw [8] (fun i wr => ∃ k : Nat, k ≤ n ∧ i = .int .i64 k ∧ Hid (idxF3 f k ((tri bs).drop k) = R) ∧ Hid (Same w wr)) (fun i _ => n - (intOf i).toNat)
  case atStart => exact ⟨0, Nat.zero_le _, rfl, HR, Kept.refl _ _⟩
  case round =>
    obtain ⟨k, hk, rfl, HA, HK⟩ := hrel
    by_cases hlt : k < n
    · obtain ⟨b, off, ha, hc⟩ := HV.out.some (show 0 < n by omega)
      dsimp only at ha hc
      subst ha
      have hla : k < (tri bs).length := by rw [HL.out]; omega
      have HA2 : Hid ((if f (tri bs)[k] = true then (k : Int) else idxF3 f (k + 1) ((tri bs).drop (k + 1))) = R) := by have h := HA.out; rw [idxF3_at hla] at h; exact h
      have kf := HF.out (tri bs)[k] wr (List.getElem_mem hla)
      obtain ⟨⟨x, y, z⟩, hxa⟩ : ∃ q, (tri bs)[k] = q := ⟨_, rfl⟩
      obtain ⟨da0, da1, da2⟩ := (HV.out.same HK.out).tri k hla _ _ _ hxa
      rw [hxa] at kf HA2
      dsimp only at kf
      cases hb : f (x, y, z) with
      | true =>
        have HE : Hid ((k : Int) = R) := by have h := HA2.out; rw [if_pos hb] at h; exact h
        rw [hb] at kf
        clear HA2 HA hb hxa
        go_wp2_with fail
        refine kf.mono ?_
        rintro e w1 ⟨rfl, hk1⟩
        have HK1 := hid (HK.out.trans hk1)
        clear da0 da1 da2 kf hk1
        go_wp2
        go_ret
        exact ⟨by rw [← HE.out]; rfl, HK1.out⟩
      | false =>
        have HE : Hid (idxF3 f (k + 1) ((tri bs).drop (k + 1)) = R) := by have h := HA2.out; rw [if_neg (by simp [hb])] at h; exact h
        rw [hb] at kf
        clear HA2 HA hb hxa
        go_wp2_with fail
        refine kf.mono ?_
        rintro e w1 ⟨rfl, hk1⟩
        have HK1 := hid (HK.out.trans hk1)
        clear da0 da1 da2 kf hk1
        go_wp2
        go_roundw
        case rel => exact ⟨k + 1, by omega, by go_num, HE, HK1⟩
        case measure => simp [intOf]; omega
    · obtain rfl : n = k := by omega
      have he : (-1 : Int) = R := by have h := HA.out; rw [← HL.out, idxF3_end] at h; exact h
      go_wp2
      go_ret
      exact ⟨by rw [← he]; rfl, HK.out⟩
theorem containsH_any (fid : FuncId) (f : T3 → Bool) (x : FR) (w : World) (hv : RdF 3 w x) (hent : Enters8 fid) (hf : Asks3 fid f w (tri x.bs)) :
    Calls Try.prog 61 #[x.v, .func (.func fid) #[] #[]] w fun e w' => e = .returned (.bool ((tri x.bs).any f)) ∧ Same w w' := by
  have k0 := indexH_any fid f x w hv hent hf
  have hx := idxF3_any f (tri x.bs) 0
  obtain ⟨xe, xa, n, xc, bs⟩ := x
  dsimp only [FR.v] at k0 hx ⊢
  generalize idxF3 f 0 (tri bs) = r at k0 hx
  rw [← hx]
  clear hx hv hf hent
  go_enter Try.func61, Try.ntmps61
  go_wp2_with fail
  refine k0.mono ?_
  rintro e w1 ⟨rfl, hk1⟩
  go_wp2
  go_ret
  exact ⟨rfl, hk1⟩
theorem anyNeighboursH_any (fid : FuncId) (f : T3 → T3 → Bool) (x : FR) (w : World) (hv : RdF 3 w x) (hent : Enters8 fid) (hf : Asks33 fid f (tri x.bs)) :
    Calls Try.prog 59 #[x.v, .func (.func fid) #[] #[]] w fun e w' => e = .returned (.bool (nbr f (tri x.bs))) ∧ Same w w' := by
  obtain ⟨xe, xa, n, xc, bs⟩ := x
  have hm : n ≤ maxLen := hv.1
  unfold maxLen at hm
  have hl := tri_length n bs hv.2.1
  dsimp only [FR.v] at hf ⊢
  have HV := hid hv
  have HF : Hid (Asks33 fid f (tri bs)) := hf
  obtain ⟨R, hR⟩ : ∃ R, nbr f (tri bs) = R := ⟨_, rfl⟩
  have HR := hid hR
  rw [hR]
  have HL := hid hl
  clear hv hf hR hl
  have hent' : ∀ (args : Array Value) (wx : World), (callFunc fid args).run Try.prog wx = .ok (.enter fid args) wx := hent
  clear hent
  go_enter Try.func59, Try.ntmps59
  go_wp2
  go_loopw [5] (fun i wr => ∃ k : Nat, (k ≤ n ∨ k = 1) ∧ 1 ≤ k ∧ i = .int .i64 k ∧ Hid (∀ (j : Nat) (h : j + 1 < (tri bs).length), j + 1 < k → f (tri bs)[j] (tri bs)[j + 1] = false) ∧ Hid (Same w wr)) (fun i _ => n - (intOf i).toNat)
  case atStart => exact ⟨1, .inr rfl, Nat.le_refl _, rfl, fun j h hj => by omega, Kept.refl _ _⟩
  case round =>
    obtain ⟨k, hk, hk1, rfl, HA, HK⟩ := hrel
    by_cases hlt : k < n
    · obtain ⟨b, off, ha, hc⟩ := HV.out.some (show 0 < n by omega)
      dsimp only at ha hc
      subst ha
      obtain ⟨k0, rfl⟩ : ∃ k0, k = k0 + 1 := ⟨k - 1, by omega⟩
      have hla : k0 < (tri bs).length := by rw [HL.out]; omega
      have hlb : k0 + 1 < (tri bs).length := by rw [HL.out]; omega
      have hcell : ∀ wx, Same wr wx → RdF 3 wx ⟨xe, some ⟨b, off, none⟩, n, xc, bs⟩ := fun wx h => HV.out.same (HK.out.trans h)
      have kf := fun wx => HF.out (tri bs)[k0] (tri bs)[k0 + 1] wx (List.getElem_mem hla) (List.getElem_mem hlb)
      obtain ⟨⟨x, y, z⟩, hxa⟩ : ∃ q, (tri bs)[k0] = q := ⟨_, rfl⟩
      obtain ⟨⟨x2, y2, z2⟩, hxb⟩ : ∃ q, (tri bs)[k0 + 1] = q := ⟨_, rfl⟩
      obtain ⟨da0, da1, da2⟩ := (HV.out.same HK.out).tri k0 hla _ _ _ hxa
      obtain ⟨db0, db1, db2⟩ := (HV.out.same HK.out).tri (k0 + 1) hlb _ _ _ hxb
      rw [hxa, hxb] at kf
      dsimp only at kf
      have hi1 : ((k0 + 1 : Nat) : Int) - 1 = (k0 : Int) := by omega
      have hw0 : IntKind.i64.wrap (k0 : Int) = (k0 : Int) := by rw [IntKind.wrap_i64]; omega
      have HXA := hid hxa
      have HXB := hid hxb
      clear hxa hxb
      cases hb : f (x, y, z) (x2, y2, z2) with
      | true =>
        rw [hb] at kf
        have HE : Hid (R = true) := by
          have h := HR.out
          rw [nbr_yes k0 hlb (by rw [HXA.out, HXB.out]; exact hb)] at h
          exact h.symm
        clear HA hb
        go_wp2_with fail
        let Y1 : World → Prop := fun wx : World => wx.cell? ⟨b, off + k0 * 3, none⟩ = some (.int .i64 x) ∧ wx.cell? ⟨b, off + k0 * 3 + 1, none⟩ = some (.int .i64 y) ∧ wx.cell? ⟨b, off + k0 * 3 + 2, none⟩ = some (.int .i64 z) ∧ wx.cell? ⟨b, off + (k0 + 1) * 3, none⟩ = some (.int .i64 x2) ∧ wx.cell? ⟨b, off + (k0 + 1) * 3 + 1, none⟩ = some (.int .i64 y2) ∧ wx.cell? ⟨b, off + (k0 + 1) * 3 + 2, none⟩ = some (.int .i64 z2)
        have hS : Y1 wr.drew := by exact ⟨da0, da1, da2, db0, db1, db2⟩
        refine wp_region_V Y1 99 11 rfl (by kernel_rfl) ?_
        refine wpAnyV_tk 0 12 (v := ?vq11) ?hyq11 hS ?_
        case hyq11 => (intro w hSw; (try dsimp (config := { zetaDelta := true }) only at hSw); go_simp; (try with_reducible rfl))
        try simp only [Act.put, sA, s0, sS]
        refine wpAnyV_tk 1 13 (v := ?vq12) ?hyq12 hS ?_
        case hyq12 => (intro w hSw; (try dsimp (config := { zetaDelta := true }) only at hSw); go_simp; (try with_reducible rfl))
        try simp only [Act.put, sA, s0, sS]
        refine wpAnyV_tk 2 14 (v := ?vq13) ?hyq13 hS ?_
        case hyq13 => (intro w hSw; (try dsimp (config := { zetaDelta := true }) only at hSw); go_simp; (try with_reducible rfl))
        try simp only [Act.put, sA, s0, sS]
        refine wpAnyV_tk 3 15 (v := ?vq14) ?hyq14 hS ?_
        case hyq14 => (intro w hSw; (try dsimp (config := { zetaDelta := true }) only at hSw); go_simp; (try with_reducible rfl))
        try simp only [Act.put, sA, s0, sS]
        refine wpAnyV_tk 4 16 (v := ?vq15) ?hyq15 hS ?_
        case hyq15 => (intro w hSw; (try dsimp (config := { zetaDelta := true }) only at hSw); go_simp; rw [if_pos (by omega)]; (try with_reducible rfl))
        try simp only [Act.put, sA, s0, sS]
        refine wpAnyV_tk 5 17 (v := ?vq16) ?hyq16 hS ?_
        case hyq16 => (intro w hSw; (try dsimp (config := { zetaDelta := true }) only at hSw); go_simp; (try with_reducible rfl))
        try simp only [Act.put, sA, s0, sS]
        refine wpAnyV_tk 6 18 (v := ?vq17) ?hyq17 hS ?_
        case hyq17 => (intro w hSw; (try dsimp (config := { zetaDelta := true }) only at hSw); go_simp; (try with_reducible rfl))
        try simp only [Act.put, sA, s0, sS]
        refine wpAnyV_tk 7 19 (v := ?vq18) ?hyq18 hS ?_
        case hyq18 => (intro w hSw; (try dsimp (config := { zetaDelta := true }) only at hSw); go_simp; (try with_reducible rfl))
        try simp only [Act.put, sA, s0, sS]
        refine wpAnyV_tk 8 20 (v := ?vq19) ?hyq19 hS ?_
        case hyq19 => (intro w hSw; (try dsimp (config := { zetaDelta := true }) only at hSw); go_simp; rw [if_pos (by omega)]; (try with_reducible rfl))
        try simp only [Act.put, sA, s0, sS]
        refine wpAnyV_tk 9 21 (v := ?vq20) ?hyq20 hS ?_
        case hyq20 => (intro w hSw; (try dsimp (config := { zetaDelta := true }) only at hSw); go_simp; (try with_reducible rfl))
        try simp only [Act.put, sA, s0, sS]
        refine wpAnyV_one (i := 10) (by kernel_rfl) rfl (fun K hK => ?_)
        go_simp
        refine (kf _).mono ?_
        rintro e w1 ⟨rfl, hk1⟩
        have hS : Y1 w1 := by exact ⟨hk1.cellOf da0 id, hk1.cellOf da1 id, hk1.cellOf da2 id, hk1.cellOf db0 id, hk1.cellOf db1 id, hk1.cellOf db2 id⟩
        refine hK.out _ _ (fun _ => hS) ?_
        clear hK K
        try simp only [Act.put, sA, s0, sS]
        refine wpAnyV_done (by kernel_rfl) ?_
        have HK1 := hid (HK.out.drew.trans hk1)
        clear da0 da1 da2 db0 db1 db2 kf hk1
        go_wp2
        go_ret
        exact ⟨by rw [HE.out]; rfl, HK1.out⟩
      | false =>
        rw [hb] at kf
        have HE : Hid (∀ (j : Nat) (h : j + 1 < (tri bs).length), j + 1 < k0 + 1 + 1 → f (tri bs)[j] (tri bs)[j + 1] = false) := fun j h hj => by
          by_cases e : j = k0
          · subst e
            rw [HXA.out, HXB.out]
            exact hb
          · exact HA.out j h (by omega)
        clear HA hb
        go_wp2_with fail
        let Y2 : World → Prop := fun wx : World => wx.cell? ⟨b, off + k0 * 3, none⟩ = some (.int .i64 x) ∧ wx.cell? ⟨b, off + k0 * 3 + 1, none⟩ = some (.int .i64 y) ∧ wx.cell? ⟨b, off + k0 * 3 + 2, none⟩ = some (.int .i64 z) ∧ wx.cell? ⟨b, off + (k0 + 1) * 3, none⟩ = some (.int .i64 x2) ∧ wx.cell? ⟨b, off + (k0 + 1) * 3 + 1, none⟩ = some (.int .i64 y2) ∧ wx.cell? ⟨b, off + (k0 + 1) * 3 + 2, none⟩ = some (.int .i64 z2)
        have hS : Y2 wr.drew := by exact ⟨da0, da1, da2, db0, db1, db2⟩
        refine wp_region_V Y2 99 11 rfl (by kernel_rfl) ?_
        refine wpAnyV_tk 0 12 (v := ?vr11) ?hyr11 hS ?_
        case hyr11 => (intro w hSw; (try dsimp (config := { zetaDelta := true }) only at hSw); go_simp; (try with_reducible rfl))
        try simp only [Act.put, sA, s0, sS]
        refine wpAnyV_tk 1 13 (v := ?vr12) ?hyr12 hS ?_
        case hyr12 => (intro w hSw; (try dsimp (config := { zetaDelta := true }) only at hSw); go_simp; (try with_reducible rfl))
        try simp only [Act.put, sA, s0, sS]
        refine wpAnyV_tk 2 14 (v := ?vr13) ?hyr13 hS ?_
        case hyr13 => (intro w hSw; (try dsimp (config := { zetaDelta := true }) only at hSw); go_simp; (try with_reducible rfl))
        try simp only [Act.put, sA, s0, sS]
        refine wpAnyV_tk 3 15 (v := ?vr14) ?hyr14 hS ?_
        case hyr14 => (intro w hSw; (try dsimp (config := { zetaDelta := true }) only at hSw); go_simp; (try with_reducible rfl))
        try simp only [Act.put, sA, s0, sS]
        refine wpAnyV_tk 4 16 (v := ?vr15) ?hyr15 hS ?_
        case hyr15 => (intro w hSw; (try dsimp (config := { zetaDelta := true }) only at hSw); go_simp; rw [if_pos (by omega)]; (try with_reducible rfl))
        try simp only [Act.put, sA, s0, sS]
        refine wpAnyV_tk 5 17 (v := ?vr16) ?hyr16 hS ?_
        case hyr16 => (intro w hSw; (try dsimp (config := { zetaDelta := true }) only at hSw); go_simp; (try with_reducible rfl))
        try simp only [Act.put, sA, s0, sS]
        refine wpAnyV_tk 6 18 (v := ?vr17) ?hyr17 hS ?_
        case hyr17 => (intro w hSw; (try dsimp (config := { zetaDelta := true }) only at hSw); go_simp; (try with_reducible rfl))
        try simp only [Act.put, sA, s0, sS]
        refine wpAnyV_tk 7 19 (v := ?vr18) ?hyr18 hS ?_
        case hyr18 => (intro w hSw; (try dsimp (config := { zetaDelta := true }) only at hSw); go_simp; (try with_reducible rfl))
        try simp only [Act.put, sA, s0, sS]
        refine wpAnyV_tk 8 20 (v := ?vr19) ?hyr19 hS ?_
        case hyr19 => (intro w hSw; (try dsimp (config := { zetaDelta := true }) only at hSw); go_simp; rw [if_pos (by omega)]; (try with_reducible rfl))
        try simp only [Act.put, sA, s0, sS]
        refine wpAnyV_tk 9 21 (v := ?vr20) ?hyr20 hS ?_
        case hyr20 => (intro w hSw; (try dsimp (config := { zetaDelta := true }) only at hSw); go_simp; (try with_reducible rfl))
        try simp only [Act.put, sA, s0, sS]
        refine wpAnyV_one (i := 10) (by kernel_rfl) rfl (fun K hK => ?_)
        go_simp
        refine (kf _).mono ?_
        rintro e w1 ⟨rfl, hk1⟩
        have hS : Y2 w1 := by exact ⟨hk1.cellOf da0 id, hk1.cellOf da1 id, hk1.cellOf da2 id, hk1.cellOf db0 id, hk1.cellOf db1 id, hk1.cellOf db2 id⟩
        refine hK.out _ _ (fun _ => hS) ?_
        clear hK K
        try simp only [Act.put, sA, s0, sS]
        refine wpAnyV_done (by kernel_rfl) ?_
        have HK1 := hid (HK.out.drew.trans hk1)
        clear da0 da1 da2 db0 db1 db2 kf hk1
        go_wp2
        go_roundw
        case rel => exact ⟨k0 + 1 + 1, by omega, by omega, by go_num, HE, HK1⟩
        case measure => simp [intOf]; omega
    · have he : R = false := by
        rw [← HR.out]
        exact nbr_no (fun j h => HA.out j h (by rw [HL.out] at h; omega))
      go_wp2
      go_ret
      exact ⟨by rw [he]; rfl, HK.out⟩
theorem enters_wh : Enters8 62 := fun args wx => by simp [callFunc, go_sem, Try.func62, Try.f62]
theorem enters_nb : Enters8 60 := fun args wx => by simp [callFunc, go_sem, Try.func60, Try.f60]
theorem implHoldsFault_any (x : FR) (w : World) (hv : RdF 3 w x) :
    Calls Try.prog 29 #[x.v] w fun e w' => e = .returned (.int .i64 (holdsF (tri x.bs))) ∧ Same w w' := by
  have k1 := anyNeighboursH_any 60 hdAfter x w hv enters_nb (fun p q wx _ _ => notRisingById_any p q wx)
  have k2 := fun wx (h : Same w wx) => containsH_any 62 hdBad x wx (hv.same h) enters_wh (fun p wx _ => wrongHold_any p wx)
  obtain ⟨xe, xa, n, xc, bs⟩ := x
  have hm : n ≤ maxLen := hv.1
  unfold maxLen at hm
  have hl := tri_length n bs hv.2.1
  dsimp only [FR.v] at k1 k2 ⊢
  clear hv
  obtain ⟨R, hR⟩ : ∃ R, holdsF (tri bs) = R := ⟨_, rfl⟩
  rw [hR]
  unfold holdsF at hR
  by_cases hb : 512 < n
  · rw [if_pos (by omega)] at hR
    subst hR
    clear k1 k2
    go_enter Try.func29, Try.ntmps29
    go_wp2
    go_ret
    exact ⟨rfl, Kept.refl _ _⟩
  rw [if_neg (by omega)] at hR
  have hb' : ¬ (512 : Int) < (n : Int) := by omega
  cases f1 : nbr hdAfter (tri bs) with
  | true =>
    rw [f1] at k1 hR
    rw [if_pos rfl] at hR
    subst hR
    clear k2 hl
    go_enter Try.func29, Try.ntmps29
    go_wp2_with fail
    refine k1.mono ?_
    rintro e w1 ⟨rfl, hk1⟩
    go_wp2
    go_ret
    exact ⟨rfl, hk1⟩
  | false =>
    rw [f1] at k1 hR
    rw [if_neg Bool.false_ne_true] at hR
    cases f2 : (tri bs).any hdBad with
    | true =>
      rw [f2] at k2 hR
      rw [if_pos rfl] at hR
      subst hR
      clear hl
      go_enter Try.func29, Try.ntmps29
      go_wp2_with fail
      refine k1.mono ?_
      rintro e w1 ⟨rfl, hk1⟩
      go_wp2_with fail
      refine (k2 _ hk1).mono ?_
      rintro e w2 ⟨rfl, hk2⟩
      go_wp2
      go_ret
      exact ⟨rfl, hk1.trans hk2⟩
    | false =>
      rw [f2] at k2 hR
      rw [if_neg Bool.false_ne_true] at hR
      subst hR
      clear hl
      go_enter Try.func29, Try.ntmps29
      go_wp2_with fail
      refine k1.mono ?_
      rintro e w1 ⟨rfl, hk1⟩
      go_wp2_with fail
      refine (k2 _ hk1).mono ?_
      rintro e w2 ⟨rfl, hk2⟩
      go_wp2
      go_ret
      exact ⟨rfl, hk1.trans hk2⟩
theorem Try.infoLock : (Try.prog.info? 73).map (fun i => (i.zero, i.size, i.bytes)) = some (some (.agg #[.int .i64 0, .int .i64 0, .int .i64 0]), 3, 24) := by kernel_rfl
theorem eqLock_any (x0 x1 x2 : Int) (w : World) : Calls Try.prog 53 #[.agg #[.int .i64 x0, .int .i64 x1, .int .i64 x2], .agg #[.int .i64 x0, .int .i64 x1, .int .i64 x2]] w fun e w' => e = .returned (.bool true) ∧ Same w w' := by
  go_enter Try.func53, Try.ntmps53
  go_wp2
  go_ret
  exact ⟨rfl, ((Kept.refl _ _).alloc _).alloc _⟩
theorem toLock_any (x0 x1 x2 : Int) (w : World) : Calls Try.prog 48 #[.agg #[.int .i64 x0, .int .i64 x1, .int .i64 x2]] w fun e w' => e = .returned (.agg #[.int .i64 x0, .int .i64 x1, .int .i64 x2]) ∧ Same w w' := by
  go_enter Try.func48, Try.ntmps48
  go_wp2
  refine bodyPost_ret (v := .agg #[.int .i64 x0, .int .i64 x1, .int .i64 x2]) (by simp [results, Try.results48, go_sem]) rfl ⟨rfl, ?_⟩
  repeat (first | exact Kept.refl _ _ | refine Kept.alloc ?_ _ | refine Kept.setCell ?_ (.inl (by simp)) _)
theorem eqLockS_own (x y : FR) (w : World) (hn : (x.bs.length : Int) ≤ 1125899906842624) (hd : x.bs = y.bs) (ha : OwnL w (x.rows 3)) (hb : OwnL w (y.rows 3)) :
    Calls Try.prog 25 #[x.v, y.v] w fun e w' => e = .returned (.bool true) ∧ Same w w' := by
  have hla := FR.own_len ha
  have hlb := FR.own_len hb
  have hfa := FR.own_form ha
  have hfb := FR.own_form hb
  obtain ⟨xe, xa, xn, xc, bs⟩ := x
  obtain ⟨ye, ya, yn, yc, bs'⟩ := y
  dsimp only at hn hd hla hlb hfa hfb
  subst hd
  obtain rfl : xn = yn := by omega
  dsimp only [FR.v]
  clear ha hb
  rcases hfa with ⟨rfl, rfl, rfl⟩ | ⟨ga, rfl, hac, hcm, hoa⟩
  · have hz : (0 : Nat) = 0 := rfl
    go_enter Try.func25, Try.ntmps25
    go_wp2
    refine wp_loop_rounds 1 ?_
    rw [rounds_succ]
    go_wp2
    go_ret
    exact ⟨rfl, Kept.refl _ _⟩
  rcases hfb with ⟨rfl, rfl, rfl⟩ | ⟨gb, rfl, hbc, hcm', hob⟩
  · clear hoa
    go_enter Try.func25, Try.ntmps25
    go_wp2
    refine wp_loop_rounds 1 ?_
    rw [rounds_succ]
    go_wp2
    go_ret
    exact ⟨rfl, Kept.refl _ _⟩
  have HA := (show Hid (OwnF 3 xe w ga xn xc bs) from hoa)
  have HB := (show Hid (OwnF 3 ye w gb xn yc bs) from hob)
  have hxn : (xn : Int) ≤ 1125899906842624 := by omega
  clear hoa hob hla hlb hn
  go_enter Try.func25, Try.ntmps25
  go_wp2
  go_loopw [5] (fun i wr => ∃ (k : Nat), k ≤ xn ∧ i = .int .i64 k ∧ Hid (Same w wr)) (fun i _ => xn - (intOf i).toNat)
  case atStart => exact ⟨0, Nat.zero_le _, rfl, Kept.refl _ _⟩
  case round =>
    obtain ⟨k, hk, rfl, HK⟩ := hrel
    by_cases hlt : k < xn
    · have hoa := HA.out.same HK.out
      have hob := HB.out.same HK.out
      have ha0 : wr.cell? ⟨ga, k * 3, none⟩ = some (.int .i64 (bs.getD (k * 3) 0)) := hoa.cell _ (by omega)
      have ha1 : wr.cell? ⟨ga, k * 3 + 1, none⟩ = some (.int .i64 (bs.getD (k * 3 + 1) 0)) := hoa.cell _ (by omega)
      have ha2 : wr.cell? ⟨ga, k * 3 + 2, none⟩ = some (.int .i64 (bs.getD (k * 3 + 2) 0)) := hoa.cell _ (by omega)
      have hb0 : wr.cell? ⟨gb, k * 3, none⟩ = some (.int .i64 (bs.getD (k * 3) 0)) := hob.cell _ (by omega)
      have hb1 : wr.cell? ⟨gb, k * 3 + 1, none⟩ = some (.int .i64 (bs.getD (k * 3 + 1) 0)) := hob.cell _ (by omega)
      have hb2 : wr.cell? ⟨gb, k * 3 + 2, none⟩ = some (.int .i64 (bs.getD (k * 3 + 2) 0)) := hob.cell _ (by omega)
      clear hoa hob
      generalize bs.getD (k * 3) 0 = x0 at *
      generalize bs.getD (k * 3 + 1) 0 = x1 at *
      generalize bs.getD (k * 3 + 2) 0 = x2 at *
      go_wp2_with fail
      go_region_with (go_at_call 53; refine (eqLock_any x0 x1 x2 _).mono ?_; rintro e w1 ⟨rfl, hk1⟩)
      all_goals
        have HK1 : Hid (Same w w1) := HK.out.drew.trans hk1
        clear hk1 ha0 hb0 ha1 hb1 ha2 hb2
        go_wp2
        go_roundw
        case rel => exact ⟨k + 1, by omega, by go_num, HK1⟩
        case measure => simp [intOf]; omega
    · go_wp2
      go_ret
      exact ⟨rfl, HK.out⟩
theorem szLockS_any (a : Option Addr) (n c : Nat) (left : Int) (w : World) (h0 : 0 ≤ left) (h1 : left ≤ 1048576) (hn : n ≤ maxLen) :
    Calls Try.prog 21 #[.slice a n c, .int .i64 left] w fun e w' => ∃ r : Int, e = .returned (.int .i64 r) ∧ ((r = -1 ∧ left < n) ∨ (r = left - n ∧ 0 ≤ r)) ∧ w' = w := by
  unfold maxLen at hn
  by_cases h : left < n
  · go_enter Try.func21, Try.ntmps21
    go_wp2
    go_ret
    exact ⟨_, rfl, .inl ⟨rfl, h⟩, rfl⟩
  · go_enter Try.func21, Try.ntmps21
    go_wp2
    go_ret
    exact ⟨_, rfl, .inr ⟨rfl, by omega⟩, rfl⟩
theorem toLockS_any (x : FR) (w : World) (hn : (x.n : Int) ≤ 1073741824) (hv : RdF 3 w x) :
    Calls Try.prog 23 #[x.v] w fun e w' => ∃ y : FR, e = .returned y.v ∧ y.bs = x.bs ∧ y.n = x.n ∧ (∀ b, FootL (y.rows 3) b → w.heap.size ≤ b) ∧ OwnL w' (y.rows 3) ∧ Same w w' := by
  obtain ⟨i0, hi, hz0, hz1, hz2⟩ := info_parts Try.infoLock
  obtain ⟨hmax, hlen, hform⟩ := hv
  obtain ⟨xe, xa, len, xc, bs⟩ := x
  dsimp only [FR.v] at *
  by_cases h0 : len = 0
  · subst h0
    obtain rfl : bs = [] := List.length_eq_zero_iff.1 (by omega)
    clear hform hmax hlen hn
    go_enter Try.func23, Try.ntmps23
    go_wp2_with (at_make; refine wpList_make_full _ rfl (.tmp 6) (.tmp 6) 40 rfl 0 73 i0 (.agg #[.int .i64 0, .int .i64 0, .int .i64 0]) 3 Try.underlying40 hi hz0 hz1 .i64 .i64 _ _ 0 rfl rfl (by simp) (by simp) (by simp) (by simp) (Nat.zero_le _) ?_; intro w1 hown1 hgrow1; have HO : Hid (OwnF 3 73 w1 w.heap.size 0 0 (List.replicate (0 * 3) 0)) := ownF_made (z := .agg #[.int .i64 0, .int .i64 0, .int .i64 0]) (by decide) (by simp [Value.cells, List.replicate]) (by simpa using hown1); have HK : Hid (Same w w1) := Kept.of_grown hgrow1 (fun k e => by cases e); clear hown1 hgrow1)
    refine wp_loop_rounds 1 ?_
    rw [rounds_succ]
    go_wp2
    go_ret
    exact ⟨⟨73, some ⟨w.heap.size, 0, none⟩, 0, 0, []⟩, rfl, rfl, rfl, fun b hb => by have h := (FootL_one _ _).1 hb; simp [FR.v, Value.ownBlock] at h; omega, HO.out.out, HK.out⟩
  · obtain ⟨b, off, rfl, hle, hc⟩ := hform.resolve_left h0
    have HC := (show Hid (∀ i, i < len * 3 → w.cell? ⟨b, off + i, none⟩ = some (.int .i64 (bs.getD i 0))) from hc)
    have HLB := (show Hid (bs.length = len * 3) from hlen)
    clear hc hform hlen
    go_enter Try.func23, Try.ntmps23
    go_wp2_with (at_make; refine wpList_make_full _ rfl (.tmp 6) (.tmp 6) 40 rfl 0 73 i0 (.agg #[.int .i64 0, .int .i64 0, .int .i64 0]) 3 Try.underlying40 hi hz0 hz1 .i64 .i64 _ _ len rfl rfl (by simp) (by simp) (by rw [hz2]; omega) (by unfold maxLen; omega) (Nat.zero_le _) ?_; intro w1 hown1 hgrow1; have HO : Hid (OwnF 3 73 w1 w.heap.size len len (List.replicate (len * 3) 0)) := ownF_made (z := .agg #[.int .i64 0, .int .i64 0, .int .i64 0]) (by decide) (by simp [Value.cells, List.replicate]) (by simpa using hown1); have HK : Hid (Same w w1) := Kept.of_grown hgrow1 (fun k e => by cases e); clear hown1 hgrow1)
    go_loopw [4] (fun i wr => ∃ (k : Nat), k ≤ len ∧ i = .int .i64 k ∧ Hid (OwnF 3 73 wr w.heap.size len len (fillUp bs (k * 3))) ∧ Hid (Same w wr)) (fun i _ => len - (intOf i).toNat)
    case atStart => exact ⟨0, Nat.zero_le _, rfl, by rw [Nat.zero_mul, fillUp_zero, HLB.out]; exact HO, HK⟩
    case round =>
      obtain ⟨k, hk, rfl, HOr, HKr⟩ := hrel
      by_cases hlt : k < len
      · have q0 : wr.cell? ⟨b, off + k * 3, none⟩ = some (.int .i64 (bs.getD (k * 3) 0)) := by have h := HKr.out.cellOf (HC.out (k * 3) (by omega)) id; simpa only [Nat.add_assoc] using h
        have q1 : wr.cell? ⟨b, off + k * 3 + 1, none⟩ = some (.int .i64 (bs.getD (k * 3 + 1) 0)) := by have h := HKr.out.cellOf (HC.out (k * 3 + 1) (by omega)) id; simpa only [Nat.add_assoc] using h
        have q2 : wr.cell? ⟨b, off + k * 3 + 2, none⟩ = some (.int .i64 (bs.getD (k * 3 + 2) 0)) := by have h := HKr.out.cellOf (HC.out (k * 3 + 2) (by omega)) id; simpa only [Nat.add_assoc] using h
        go_wp2_with fail
        refine (toLock_any (bs.getD (k * 3) 0) (bs.getD (k * 3 + 1) 0) (bs.getD (k * 3 + 2) 0) _).mono ?_
        rintro e w2 ⟨rfl, hk2⟩
        have HO2 := hid (HOr.out.same hk2)
        have HK2 := hid (HKr.out.trans hk2)
        clear hk2
        have r0 := HO2.out.cell (k * 3) (by omega)
        have f0 := HO2.out.frozen (k * 3)
        have r1 := HO2.out.cell (k * 3 + 1) (by omega)
        have f1 := HO2.out.frozen (k * 3 + 1)
        have r2 := HO2.out.cell (k * 3 + 2) (by omega)
        have f2 := HO2.out.frozen (k * 3 + 2)
        go_wp2
        go_roundw
        case rel =>
          have h0 := HO2.out
          have h1 := h0.stored (k * 3) (bs.getD (k * 3) 0)
          rw [fillUp_step _ _ (by have := HLB.out; omega)] at h1
          have h2 := h1.stored (k * 3 + 1) (bs.getD (k * 3 + 1) 0)
          rw [fillUp_step _ _ (by have := HLB.out; omega)] at h2
          have h3 := h2.stored (k * 3 + 2) (bs.getD (k * 3 + 2) 0)
          rw [fillUp_step _ _ (by have := HLB.out; omega)] at h3
          refine ⟨k + 1, by omega, by go_num, ?_, ?_⟩
          · rw [show (k + 1) * 3 = k * 3 + 1 + 1 + 1 from by omega]; simpa [List.getD, Hid] using h3
          · exact (((HK2.out.setCell (.inl (Nat.le_refl _)) _).setCell (.inl (Nat.le_refl _)) _).setCell (.inl (Nat.le_refl _)) _)
        case measure => simp [intOf]; omega
      · go_wp2
        go_ret
        obtain rfl : k = len := by omega
        have h := HOr.out
        rw [← HLB.out, fillUp_all] at h
        exact ⟨⟨73, some ⟨w.heap.size, 0, none⟩, k, k, bs⟩, rfl, rfl, rfl, fun b hb => by have h := (FootL_one _ _).1 hb; simp [FR.v, Value.ownBlock] at h; omega, h.out, HKr.out⟩
theorem ownF_none (e : TypeId) (w : World) : OwnF 3 e (w.alloc (.cells #[] e)) w.heap.size 0 0 [] :=
  ⟨rfl, .inr ⟨w.heap.size, 0, #[], rfl, Nat.zero_le _, Blk.new w #[] e, Nat.le_refl _, Nat.zero_le _, rfl, rfl⟩⟩
theorem OwnF.of_app3 {e : TypeId} {w : World} {g n c : Nat} {bs : List Int} {x y z : Int} (h : w.ownsRow 0 e 3 (.slice (some ⟨g, 0, none⟩) n c) n (vals .i64 bs ++ [.int .i64 x, .int .i64 y, .int .i64 z])) : OwnF 3 e w g n c (bs ++ [x, y, z]) := by
  unfold OwnF
  have e : vals .i64 (bs ++ [x, y, z]) = vals .i64 bs ++ [.int .i64 x, .int .i64 y, .int .i64 z] := by simp [vals]
  rw [e]
  exact h
theorem OwnF.kept {R : Nat → Prop} {m : Nat} {e : TypeId} {w w' : World} {g n c : Nat} {bs : List Int} (h : OwnF m e w g n c bs) (hk : Kept R w w') (hr : ¬ R g) : OwnF m e w' g n c bs :=
  hk.owns h (fun b hb => by have hb' : g = b := by simpa [Value.ownBlock] using hb
                            rw [← hb']; exact hr)
theorem OwnF.lt {m : Nat} {e : TypeId} {w : World} {g n c : Nat} {bs : List Int} (h : OwnF m e w g n c bs) : g < w.heap.size := h.out.lt g ((FootL_one _ _).2 rfl)
theorem FootL_fr {e : TypeId} {g n c m : Nat} {bs : List Int} {b : Nat} (h : FootL (FR.rows m ⟨e, some ⟨g, 0, none⟩, n, c, bs⟩) b) : g = b := by
  have h := (FootL_one _ _).1 h
  simpa [FR.v, Value.ownBlock] using h
theorem OwnF.len {m : Nat} {e : TypeId} {w : World} {g n c : Nat} {bs : List Int} (h : OwnF m e w g n c bs) : bs.length = n * m := by
  have := h.1
  rwa [vals_length] at this
theorem Same.app {w wr w3 : World} {g n c : Nat} {o : Obj} (hk : Same w wr) (hg : (wr.alloc o).grownBy w3 (Value.slice (some ⟨g, 0, none⟩) n c).ownBlock) (hw : w.heap.size ≤ g) : Same w w3 :=
  (hk.alloc o).grown hg (fun i e => .inl (by have : g = i := by simpa [Value.ownBlock] using e
                                             omega))
theorem FR.own_nil {m : Nat} {e : TypeId} (w : World) : OwnL w (FR.rows m ⟨e, none, 0, 0, []⟩) :=
  ⟨fun r hr => by rw [List.mem_singleton.1 hr]; exact ⟨by simp [vals], .inl ⟨rfl, rfl⟩⟩, List.pairwise_singleton _ _⟩
theorem flat3_snoc (ls : List T3) (x y z : Int) : flat3 (ls ++ [(x, y, z)]) = flat3 ls ++ [x, y, z] := by rw [flat3_append]; rfl
theorem Try.infoHold : (Try.prog.info? 53).map (fun i => (i.zero, i.size, i.bytes)) = some (some (.agg #[.int .i64 0, .int .i64 0, .int .i64 0]), 3, 24) := by kernel_rfl
theorem eqHold_any (x0 x1 x2 : Int) (w : World) : Calls Try.prog 35 #[.agg #[.int .i64 x0, .int .i64 x1, .int .i64 x2], .agg #[.int .i64 x0, .int .i64 x1, .int .i64 x2]] w fun e w' => e = .returned (.bool true) ∧ Same w w' := by
  go_enter Try.func35, Try.ntmps35
  go_wp2
  go_ret
  exact ⟨rfl, ((Kept.refl _ _).alloc _).alloc _⟩
theorem toHold_any (x0 x1 x2 : Int) (w : World) : Calls Try.prog 31 #[.agg #[.int .i64 x0, .int .i64 x1, .int .i64 x2]] w fun e w' => e = .returned (.agg #[.int .i64 x0, .int .i64 x1, .int .i64 x2]) ∧ Same w w' := by
  go_enter Try.func31, Try.ntmps31
  go_wp2
  refine bodyPost_ret (v := .agg #[.int .i64 x0, .int .i64 x1, .int .i64 x2]) (by simp [results, Try.results31, go_sem]) rfl ⟨rfl, ?_⟩
  repeat (first | exact Kept.refl _ _ | refine Kept.alloc ?_ _ | refine Kept.setCell ?_ (.inl (by simp)) _)
theorem eqHoldS_own (x y : FR) (w : World) (hn : (x.bs.length : Int) ≤ 1125899906842624) (hd : x.bs = y.bs) (ha : OwnL w (x.rows 3)) (hb : OwnL w (y.rows 3)) :
    Calls Try.prog 12 #[x.v, y.v] w fun e w' => e = .returned (.bool true) ∧ Same w w' := by
  have hla := FR.own_len ha
  have hlb := FR.own_len hb
  have hfa := FR.own_form ha
  have hfb := FR.own_form hb
  obtain ⟨xe, xa, xn, xc, bs⟩ := x
  obtain ⟨ye, ya, yn, yc, bs'⟩ := y
  dsimp only at hn hd hla hlb hfa hfb
  subst hd
  obtain rfl : xn = yn := by omega
  dsimp only [FR.v]
  clear ha hb
  rcases hfa with ⟨rfl, rfl, rfl⟩ | ⟨ga, rfl, hac, hcm, hoa⟩
  · have hz : (0 : Nat) = 0 := rfl
    go_enter Try.func12, Try.ntmps12
    go_wp2
    refine wp_loop_rounds 1 ?_
    rw [rounds_succ]
    go_wp2
    go_ret
    exact ⟨rfl, Kept.refl _ _⟩
  rcases hfb with ⟨rfl, rfl, rfl⟩ | ⟨gb, rfl, hbc, hcm', hob⟩
  · clear hoa
    go_enter Try.func12, Try.ntmps12
    go_wp2
    refine wp_loop_rounds 1 ?_
    rw [rounds_succ]
    go_wp2
    go_ret
    exact ⟨rfl, Kept.refl _ _⟩
  have HA := (show Hid (OwnF 3 xe w ga xn xc bs) from hoa)
  have HB := (show Hid (OwnF 3 ye w gb xn yc bs) from hob)
  have hxn : (xn : Int) ≤ 1125899906842624 := by omega
  clear hoa hob hla hlb hn
  go_enter Try.func12, Try.ntmps12
  go_wp2
  go_loopw [5] (fun i wr => ∃ (k : Nat), k ≤ xn ∧ i = .int .i64 k ∧ Hid (Same w wr)) (fun i _ => xn - (intOf i).toNat)
  case atStart => exact ⟨0, Nat.zero_le _, rfl, Kept.refl _ _⟩
  case round =>
    obtain ⟨k, hk, rfl, HK⟩ := hrel
    by_cases hlt : k < xn
    · have hoa := HA.out.same HK.out
      have hob := HB.out.same HK.out
      have ha0 : wr.cell? ⟨ga, k * 3, none⟩ = some (.int .i64 (bs.getD (k * 3) 0)) := hoa.cell _ (by omega)
      have ha1 : wr.cell? ⟨ga, k * 3 + 1, none⟩ = some (.int .i64 (bs.getD (k * 3 + 1) 0)) := hoa.cell _ (by omega)
      have ha2 : wr.cell? ⟨ga, k * 3 + 2, none⟩ = some (.int .i64 (bs.getD (k * 3 + 2) 0)) := hoa.cell _ (by omega)
      have hb0 : wr.cell? ⟨gb, k * 3, none⟩ = some (.int .i64 (bs.getD (k * 3) 0)) := hob.cell _ (by omega)
      have hb1 : wr.cell? ⟨gb, k * 3 + 1, none⟩ = some (.int .i64 (bs.getD (k * 3 + 1) 0)) := hob.cell _ (by omega)
      have hb2 : wr.cell? ⟨gb, k * 3 + 2, none⟩ = some (.int .i64 (bs.getD (k * 3 + 2) 0)) := hob.cell _ (by omega)
      clear hoa hob
      generalize bs.getD (k * 3) 0 = x0 at *
      generalize bs.getD (k * 3 + 1) 0 = x1 at *
      generalize bs.getD (k * 3 + 2) 0 = x2 at *
      go_wp2_with fail
      go_region_with (go_at_call 35; refine (eqHold_any x0 x1 x2 _).mono ?_; rintro e w1 ⟨rfl, hk1⟩)
      all_goals
        have HK1 : Hid (Same w w1) := HK.out.drew.trans hk1
        clear hk1 ha0 hb0 ha1 hb1 ha2 hb2
        go_wp2
        go_roundw
        case rel => exact ⟨k + 1, by omega, by go_num, HK1⟩
        case measure => simp [intOf]; omega
    · go_wp2
      go_ret
      exact ⟨rfl, HK.out⟩
theorem szHoldS_any (a : Option Addr) (n c : Nat) (left : Int) (w : World) (h0 : 0 ≤ left) (h1 : left ≤ 1048576) (hn : n ≤ maxLen) :
    Calls Try.prog 8 #[.slice a n c, .int .i64 left] w fun e w' => ∃ r : Int, e = .returned (.int .i64 r) ∧ ((r = -1 ∧ left < n) ∨ (r = left - n ∧ 0 ≤ r)) ∧ w' = w := by
  unfold maxLen at hn
  by_cases h : left < n
  · go_enter Try.func8, Try.ntmps8
    go_wp2
    go_ret
    exact ⟨_, rfl, .inl ⟨rfl, h⟩, rfl⟩
  · go_enter Try.func8, Try.ntmps8
    go_wp2
    go_ret
    exact ⟨_, rfl, .inr ⟨rfl, by omega⟩, rfl⟩
theorem toHoldS_any (x : FR) (w : World) (hn : (x.n : Int) ≤ 1073741824) (hv : RdF 3 w x) :
    Calls Try.prog 10 #[x.v] w fun e w' => ∃ y : FR, e = .returned y.v ∧ y.bs = x.bs ∧ y.n = x.n ∧ (∀ b, FootL (y.rows 3) b → w.heap.size ≤ b) ∧ OwnL w' (y.rows 3) ∧ Same w w' := by
  obtain ⟨i0, hi, hz0, hz1, hz2⟩ := info_parts Try.infoHold
  obtain ⟨hmax, hlen, hform⟩ := hv
  obtain ⟨xe, xa, len, xc, bs⟩ := x
  dsimp only [FR.v] at *
  by_cases h0 : len = 0
  · subst h0
    obtain rfl : bs = [] := List.length_eq_zero_iff.1 (by omega)
    clear hform hmax hlen hn
    go_enter Try.func10, Try.ntmps10
    go_wp2_with (at_make; refine wpList_make_full _ rfl (.tmp 6) (.tmp 6) 24 rfl 0 53 i0 (.agg #[.int .i64 0, .int .i64 0, .int .i64 0]) 3 Try.underlying24 hi hz0 hz1 .i64 .i64 _ _ 0 rfl rfl (by simp) (by simp) (by simp) (by simp) (Nat.zero_le _) ?_; intro w1 hown1 hgrow1; have HO : Hid (OwnF 3 53 w1 w.heap.size 0 0 (List.replicate (0 * 3) 0)) := ownF_made (z := .agg #[.int .i64 0, .int .i64 0, .int .i64 0]) (by decide) (by simp [Value.cells, List.replicate]) (by simpa using hown1); have HK : Hid (Same w w1) := Kept.of_grown hgrow1 (fun k e => by cases e); clear hown1 hgrow1)
    refine wp_loop_rounds 1 ?_
    rw [rounds_succ]
    go_wp2
    go_ret
    exact ⟨⟨53, some ⟨w.heap.size, 0, none⟩, 0, 0, []⟩, rfl, rfl, rfl, fun b hb => by have h := (FootL_one _ _).1 hb; simp [FR.v, Value.ownBlock] at h; omega, HO.out.out, HK.out⟩
  · obtain ⟨b, off, rfl, hle, hc⟩ := hform.resolve_left h0
    have HC := (show Hid (∀ i, i < len * 3 → w.cell? ⟨b, off + i, none⟩ = some (.int .i64 (bs.getD i 0))) from hc)
    have HLB := (show Hid (bs.length = len * 3) from hlen)
    clear hc hform hlen
    go_enter Try.func10, Try.ntmps10
    go_wp2_with (at_make; refine wpList_make_full _ rfl (.tmp 6) (.tmp 6) 24 rfl 0 53 i0 (.agg #[.int .i64 0, .int .i64 0, .int .i64 0]) 3 Try.underlying24 hi hz0 hz1 .i64 .i64 _ _ len rfl rfl (by simp) (by simp) (by rw [hz2]; omega) (by unfold maxLen; omega) (Nat.zero_le _) ?_; intro w1 hown1 hgrow1; have HO : Hid (OwnF 3 53 w1 w.heap.size len len (List.replicate (len * 3) 0)) := ownF_made (z := .agg #[.int .i64 0, .int .i64 0, .int .i64 0]) (by decide) (by simp [Value.cells, List.replicate]) (by simpa using hown1); have HK : Hid (Same w w1) := Kept.of_grown hgrow1 (fun k e => by cases e); clear hown1 hgrow1)
    go_loopw [4] (fun i wr => ∃ (k : Nat), k ≤ len ∧ i = .int .i64 k ∧ Hid (OwnF 3 53 wr w.heap.size len len (fillUp bs (k * 3))) ∧ Hid (Same w wr)) (fun i _ => len - (intOf i).toNat)
    case atStart => exact ⟨0, Nat.zero_le _, rfl, by rw [Nat.zero_mul, fillUp_zero, HLB.out]; exact HO, HK⟩
    case round =>
      obtain ⟨k, hk, rfl, HOr, HKr⟩ := hrel
      by_cases hlt : k < len
      · have q0 : wr.cell? ⟨b, off + k * 3, none⟩ = some (.int .i64 (bs.getD (k * 3) 0)) := by have h := HKr.out.cellOf (HC.out (k * 3) (by omega)) id; simpa only [Nat.add_assoc] using h
        have q1 : wr.cell? ⟨b, off + k * 3 + 1, none⟩ = some (.int .i64 (bs.getD (k * 3 + 1) 0)) := by have h := HKr.out.cellOf (HC.out (k * 3 + 1) (by omega)) id; simpa only [Nat.add_assoc] using h
        have q2 : wr.cell? ⟨b, off + k * 3 + 2, none⟩ = some (.int .i64 (bs.getD (k * 3 + 2) 0)) := by have h := HKr.out.cellOf (HC.out (k * 3 + 2) (by omega)) id; simpa only [Nat.add_assoc] using h
        go_wp2_with fail
        refine (toHold_any (bs.getD (k * 3) 0) (bs.getD (k * 3 + 1) 0) (bs.getD (k * 3 + 2) 0) _).mono ?_
        rintro e w2 ⟨rfl, hk2⟩
        have HO2 := hid (HOr.out.same hk2)
        have HK2 := hid (HKr.out.trans hk2)
        clear hk2
        have r0 := HO2.out.cell (k * 3) (by omega)
        have f0 := HO2.out.frozen (k * 3)
        have r1 := HO2.out.cell (k * 3 + 1) (by omega)
        have f1 := HO2.out.frozen (k * 3 + 1)
        have r2 := HO2.out.cell (k * 3 + 2) (by omega)
        have f2 := HO2.out.frozen (k * 3 + 2)
        go_wp2
        go_roundw
        case rel =>
          have h0 := HO2.out
          have h1 := h0.stored (k * 3) (bs.getD (k * 3) 0)
          rw [fillUp_step _ _ (by have := HLB.out; omega)] at h1
          have h2 := h1.stored (k * 3 + 1) (bs.getD (k * 3 + 1) 0)
          rw [fillUp_step _ _ (by have := HLB.out; omega)] at h2
          have h3 := h2.stored (k * 3 + 2) (bs.getD (k * 3 + 2) 0)
          rw [fillUp_step _ _ (by have := HLB.out; omega)] at h3
          refine ⟨k + 1, by omega, by go_num, ?_, ?_⟩
          · rw [show (k + 1) * 3 = k * 3 + 1 + 1 + 1 from by omega]; simpa [List.getD, Hid] using h3
          · exact (((HK2.out.setCell (.inl (Nat.le_refl _)) _).setCell (.inl (Nat.le_refl _)) _).setCell (.inl (Nat.le_refl _)) _)
        case measure => simp [intOf]; omega
      · go_wp2
        go_ret
        obtain rfl : k = len := by omega
        have h := HOr.out
        rw [← HLB.out, fillUp_all] at h
        exact ⟨⟨53, some ⟨w.heap.size, 0, none⟩, k, k, bs⟩, rfl, rfl, rfl, fun b hb => by have h := (FootL_one _ _).1 hb; simp [FR.v, Value.ownBlock] at h; omega, h.out, HKr.out⟩
def freeH (hs : List T3) (txn : Int) : List Int := if holdsF hs = 0 then flat3 (hs.filter (fun l => decide (l.2.1 ≠ txn))) else []
theorem freeH_small {bs : List Int} {n : Nat} {txn : Int} (hl : bs.length = n * 3) (hp : n ≤ 1048576) : (freeH (tri bs) txn).length ≤ 16777216 := by
  unfold freeH
  split
  · rw [flat3_length]
    have h1 := List.length_filter_le (fun l : T3 => decide (l.2.1 ≠ txn)) (tri bs)
    have h2 := tri_length n bs hl
    omega
  · simp
theorem specHoldFree_any (x : FR) (txn : Int) (w : World) (hv : RdF 3 w x) :
    Calls Try.prog 9 #[x.v, .int .i64 txn] w fun e w' => ∃ y : FR, e = .returned y.v ∧ y.bs = freeH (tri x.bs) txn ∧ (∀ b, FootL (FR.rows 3 y) b → w.heap.size ≤ b) ∧ OwnL w' (FR.rows 3 y) ∧ Same w w' := by
  obtain ⟨i0, hi, hz0, hz1, hz2⟩ := info_parts Try.infoHold
  have k0 := specHoldsFault_any x _ (hv.same ((Kept.refl _ _).alloc (.cells #[] 53)))
  obtain ⟨xe, xa, n, xc, bs⟩ := x
  have hm : n ≤ maxLen := hv.1
  unfold maxLen at hm
  have hl := tri_length n bs hv.2.1
  dsimp only [FR.v] at k0 ⊢
  have HV := hid hv
  clear hv
  obtain ⟨R, hR⟩ : ∃ R, freeH (tri bs) txn = R := ⟨_, rfl⟩
  rw [hR]
  unfold freeH at hR
  obtain ⟨q, hq⟩ : ∃ q, holdsF (tri bs) = q := ⟨_, rfl⟩
  rw [hq] at hR k0
  have HKe0 := hid (sameA w [] 53)
  have HOe0 := hid (ownF_none 53 w)
  by_cases h0 : q = 0
  · subst h0
    have hn := holdsF_len hq
    rw [if_pos rfl] at hR
    have HR := hid hR
    have HL := hid hl
    rw [hl] at hn
    clear hR hl hq
    go_enter Try.func9, Try.ntmps9
    go_wp2_with fail
    refine k0.mono ?_
    rintro e w1 ⟨rfl, hk1⟩
    have HK1 := hid (HKe0.out.trans hk1)
    have HOe := hid (HOe0.out.same hk1)
    clear hk1
    go_wp2_with fail
    go_loopw [5, 6] (fun o i wr => ∃ (k g m c : Nat) (ys : List Int), k ≤ n ∧ m ≤ k ∧ o = .slice (some ⟨g, 0, none⟩) m c ∧ i = .int .i64 k ∧ w.heap.size ≤ g ∧ Hid (OwnF 3 53 wr g m c ys) ∧ Hid (ys = flat3 (((tri bs).take k).filter (fun l => decide (l.2.1 ≠ txn)))) ∧ Hid (Same w wr)) (fun _ i _ => n - (intOf i).toNat)
    case atStart => exact ⟨0, w.heap.size, 0, 0, [], Nat.zero_le _, Nat.zero_le _, rfl, rfl, Nat.le_refl _, HOe, by simp [Hid, flat3], HK1⟩
    case round =>
      obtain ⟨k, g, m, c, ys, hk, hmk, rfl, rfl, hg, HO, HY, HK⟩ := hrel
      by_cases hlt : k < n
      · obtain ⟨b, off, ha, hc⟩ := HV.out.some (show 0 < n by omega)
        dsimp only at ha hc
        subst ha
        have hla : k < (tri bs).length := by rw [HL.out]; omega
        obtain ⟨⟨x, y, z⟩, hxa⟩ : ∃ q, (tri bs)[k] = q := ⟨_, rfl⟩
        have HXa := hid hxa
        obtain ⟨da0, da1, da2⟩ := (HV.out.same HK.out).tri k hla _ _ _ hxa
        clear hxa
        by_cases h2 : y = txn
        · subst h2
          go_wp2
          go_roundw
          case rel => exact ⟨k + 1, g, m, c, ys, by omega, by omega, rfl, by go_num, hg, HO, by unfold Hid; rw [List.take_succ_eq_append_getElem hla, List.filter_append, HXa.out, HY.out]; simp, HK⟩
          case measure => simp [intOf]; omega
        · have e2 : (y != txn) = true := by simp [h2]
          have HKO5 := (show Hid ((wr.alloc (.cells #[.int .i64 x, .int .i64 y, .int .i64 z] 53)).ownsRow 0 53 3 (.slice (some ⟨g, 0, none⟩) m c) m (vals .i64 ys)) from HO.out.same ((Kept.refl _ _).alloc _))
          have HN5 := (show Hid (Blk (wr.alloc (.cells #[.int .i64 x, .int .i64 y, .int .i64 z] 53)) wr.heap.size 53 [.int .i64 x, .int .i64 y, .int .i64 z]) from Blk.newL wr [.int .i64 x, .int .i64 y, .int .i64 z] 53)
          have hgl := HO.out.lt
          go_wp2_with (at_builtin; go_loud (refine wpList_append_lies _ rfl (.tmp 25) (.tmp 30) 24 rfl 0 53 i0 _ 3 24 Try.underlying24 hi hz0 hz1 hz2 rfl (by omega) (.slice (some ⟨g, 0, none⟩) m c) m (vals .i64 ys) rfl (by exact HKO5.out) ⟨wr.heap.size, 0, none⟩ 1 1 [.int .i64 x, .int .i64 y, .int .i64 z] rfl rfl (World.news_of_block (cs := #[.int .i64 x, .int .i64 y, .int .i64 z]) (t := 53) (fr := (0, 0)) (by exact HN5.out)) (by simp [Value.oneCell']) (by omega) (by unfold maxLen; omega) (by omega) (Nat.zero_le _) (wr.heap.size + 1) (by simp) ?_); intro g5 cap5 w5 hown5 hgrow5 hat5 hlt5; have HO5 := (show Hid (OwnF 3 53 w5 g5 (m + 1) cap5 (ys ++ [x, y, z])) from OwnF.of_app3 hown5); have HG5 := (show Hid ((wr.alloc (.cells #[.int .i64 x, .int .i64 y, .int .i64 z] 53)).grownBy w5 (Value.slice (some ⟨g, 0, none⟩) m c).ownBlock) from hgrow5); have HAT5 : Hid ((Value.slice (some ⟨g, 0, none⟩) m c).ownBlock = some g5 ∨ g5 = wr.heap.size + 1) := hat5; clear hown5 hgrow5 hat5)
          have hg5 : w.heap.size ≤ g5 := by
            rcases HAT5.out with h | h
            · have : g = g5 := by simpa [Value.ownBlock] using h
              omega
            · have := HK.out.size; omega
          have HK5 := hid (Same.app HK.out HG5.out (by omega))
          go_roundw
          case rel => exact ⟨k + 1, g5, m + 1, cap5, ys ++ [x, y, z], by omega, by omega, rfl, by go_num, hg5, HO5, by unfold Hid; rw [List.take_succ_eq_append_getElem hla, List.filter_append, HXa.out, HY.out, show List.filter (fun l : T3 => decide (l.2.1 ≠ txn)) [(x, y, z)] = [(x, y, z)] from by simp [h2], flat3_snoc], HK5⟩
          case measure => simp [intOf]; omega
      · obtain rfl : k = n := by omega
        have h := HY.out
        rw [← HL.out, List.take_length] at h
        go_wp2
        go_ret
        exact ⟨⟨53, some ⟨g, 0, none⟩, m, c, ys⟩, rfl, by rw [← HR.out, ← h], fun b hb => by have := FootL_fr hb; omega, HO.out.out, HK.out⟩
  · rw [if_neg h0] at hR
    subst hR
    clear hl hq
    go_enter Try.func9, Try.ntmps9
    go_wp2_with fail
    refine k0.mono ?_
    rintro e w1 ⟨rfl, hk1⟩
    have HK1 := hid (HKe0.out.trans hk1)
    have HOe := hid (HOe0.out.same hk1)
    clear hk1
    go_wp2
    go_ret
    exact ⟨⟨53, some ⟨w.heap.size, 0, none⟩, 0, 0, []⟩, rfl, rfl, fun b hb => by have := FootL_fr hb; omega, HOe.out.out, HK1.out⟩
def insH (e : T3) : Bool → List T3 → List T3
  | d, [] => if d = true then [] else [e]
  | d, h :: t => (if d = false ∧ e.1 ≤ h.1 then [e] else []) ++ ((if h.1 ≠ e.1 then [h] else []) ++ insH e (d || decide (e.1 ≤ h.1)) t)
def mostH (hs : List T3) (id be af : Int) : Int := maxI (maxI (holdOf id hs) 0) (maxI be af)
def takeH (hs : List T3) (txn id be af : Int) : List Int :=
  if holdsF hs = 0 ∧ inB txn 1 2147483647 = true ∧ inB id 0 511 = true ∧ inB be (-1) 1000 = true ∧ inB af (-1) 1000 = true then flat3 (insH (id, txn, mostH hs id be af) false hs) else []
def RisH (hs : List T3) : Prop := hs.Pairwise (fun a b => a.1 < b.1)
theorem risH_of {hs : List T3} (h : nbr hdAfter hs = false) : RisH hs := by
  induction hs with
  | nil => exact List.Pairwise.nil
  | cons a t ih =>
    cases t with
    | nil => exact List.pairwise_singleton _ _
    | cons b t =>
      simp only [nbr, Bool.or_eq_false_iff] at h
      have h1 : a.1 < b.1 := by simpa [hdAfter] using h.1
      have ih := ih h.2
      refine List.Pairwise.cons (fun c hc => ?_) ih
      rcases List.mem_cons.1 hc with rfl | hc
      · exact h1
      · exact Int.lt_trans h1 ((List.pairwise_cons.1 ih).1 c hc)
theorem holdsF_ris {hs : List T3} (h : holdsF hs = 0) : RisH hs := by
  unfold holdsF at h
  apply risH_of
  by_cases hl : 512 < hs.length
  · rw [if_pos hl] at h; cases h
  · rw [if_neg hl] at h
    cases hn : nbr hdAfter hs with
    | false => rfl
    | true => rw [hn, if_pos rfl] at h; cases h
def LbH (id : Int) (hs : List T3) (k : Nat) : Prop := k ≤ hs.length ∧ (∀ (i : Nat) (h : i < hs.length), i < k → hs[i].1 < id) ∧ (∀ (i : Nat) (h : i < hs.length), k ≤ i → id ≤ hs[i].1)
def fndH (id : Int) (hs : List T3) (k : Nat) : Bool := match hs[k]? with
  | some p => decide (p.1 = id)
  | none => false
theorem LbH.tail {id : Int} {h : T3} {t : List T3} {k : Nat} (hl : LbH id (h :: t) (k + 1)) : LbH id t k :=
  ⟨by have := hl.1; simp at this; omega, fun i hi hk => by have := hl.2.1 (i + 1) (by simpa using hi) (by omega); simpa using this, fun i hi hk => by have := hl.2.2 (i + 1) (by simpa using hi) (by omega); simpa using this⟩
theorem fndH_tail (id : Int) (h : T3) (t : List T3) (k : Nat) : fndH id (h :: t) (k + 1) = fndH id t k := by simp [fndH]
theorem fndH_some {id : Int} {hs : List T3} {k : Nat} (h : fndH id hs k = true) : ∃ hk : k < hs.length, hs[k].1 = id := by
  unfold fndH at h
  cases e : hs[k]? with
  | none => rw [e] at h; cases h
  | some p =>
    rw [e] at h
    obtain ⟨hk, rfl⟩ := List.getElem?_eq_some_iff.1 e
    exact ⟨hk, by simpa using h⟩
theorem fndH_none {id : Int} {hs : List T3} {k : Nat} (h : fndH id hs k = false) (hk : k < hs.length) : hs[k].1 ≠ id := by
  unfold fndH at h
  rw [List.getElem?_eq_getElem hk] at h
  simpa using h
theorem fndH_at {id : Int} {hs : List T3} {k : Nat} (hk : k < hs.length) : fndH id hs k = decide (hs[k].1 = id) := by
  unfold fndH
  rw [List.getElem?_eq_getElem hk]
theorem fndH_end {id : Int} {hs : List T3} {k : Nat} (hk : hs.length ≤ k) : fndH id hs k = false := by
  unfold fndH
  rw [List.getElem?_eq_none hk]
theorem insH_done (e : T3) : ∀ (hs : List T3), (∀ p ∈ hs, e.1 < p.1) → insH e true hs = hs
  | [], _ => rfl
  | h :: t, ha => by
    have h1 := ha h (List.mem_cons_self ..)
    have ih := insH_done e t (fun p hp => ha p (List.mem_cons_of_mem _ hp))
    unfold insH
    rw [if_neg (by simp), if_pos (by omega), Bool.true_or, ih]
    rfl
theorem insH_lb (e : T3) : ∀ (hs : List T3) (k : Nat), RisH hs → LbH e.1 hs k → insH e false hs = if fndH e.1 hs k = true then hs.set k e else hs.take k ++ e :: hs.drop k
  | [], k, hr, hl => by simp [insH, fndH, show k = 0 from by have := hl.1; simp at this; omega]
  | h :: t, 0, hr, hl => by
    have h1 : e.1 ≤ h.1 := hl.2.2 0 (by simp) (Nat.le_refl _)
    have hall := (List.pairwise_cons.1 hr).1
    have hd := insH_done e t (fun p hp => Int.lt_of_le_of_lt h1 (hall p hp))
    unfold insH
    rw [if_pos ⟨rfl, h1⟩, show (false || decide (e.1 ≤ h.1)) = true from by simp [h1], hd]
    by_cases he : h.1 = e.1
    · rw [if_neg (by simp [he]), if_pos (by simp [fndH, he])]
      simp
    · rw [if_pos he, if_neg (by simp [fndH, he])]
      simp
  | h :: t, k + 1, hr, hl => by
    have h1 : h.1 < e.1 := hl.2.1 0 (by simp) (by omega)
    have ih := insH_lb e t k (List.pairwise_cons.1 hr).2 hl.tail
    unfold insH
    rw [if_neg (by omega), if_pos (by omega), show (false || decide (e.1 ≤ h.1)) = false from by simp; omega, ih, fndH_tail]
    split <;> simp
theorem holdOf_lb (id : Int) : ∀ (hs : List T3) (k : Nat), RisH hs → LbH id hs k → holdOf id hs = if fndH id hs k = true then (hs.getD k (0, 0, 0)).2.2 else -1
  | [], k, hr, hl => by simp [holdOf, fndH]
  | h :: t, 0, hr, hl => by
    have h1 : id ≤ h.1 := hl.2.2 0 (by simp) (Nat.le_refl _)
    have hall := (List.pairwise_cons.1 hr).1
    have hno : ∀ ts : List T3, (∀ p ∈ ts, id < p.1) → holdOf id ts = -1 := by
      intro ts
      induction ts with
      | nil => intro _; rfl
      | cons q ts ih =>
        intro hq
        unfold holdOf
        rw [if_neg (by have := hq q (List.mem_cons_self ..); omega)]
        exact ih (fun p hp => hq p (List.mem_cons_of_mem _ hp))
    unfold holdOf
    by_cases he : h.1 = id
    · rw [if_pos he, if_pos (by simp [fndH, he])]
      simp
    · rw [if_neg he, if_neg (by simp [fndH, he])]
      exact hno t (fun p hp => Int.lt_of_le_of_lt h1 (hall p hp))
  | h :: t, k + 1, hr, hl => by
    have h1 : h.1 < id := hl.2.1 0 (by simp) (by omega)
    have ih := holdOf_lb id t k (List.pairwise_cons.1 hr).2 hl.tail
    unfold holdOf
    rw [if_neg (by omega), ih, fndH_tail]
    simp
theorem holdOf_found {id : Int} {hs : List T3} {k : Nat} (hr : RisH hs) (hl : LbH id hs k) (hb : hs.any hdBad = false) : decide (holdOf id hs = -1) = !fndH id hs k := by
  rw [holdOf_lb id hs k hr hl]
  cases hf : fndH id hs k with
  | false => simp
  | true =>
    obtain ⟨hk, _⟩ := fndH_some hf
    have h1 := any3_at hb k hk
    unfold hdBad at h1
    simp only [Bool.or_eq_false_iff, Bool.not_eq_false'] at h1
    have h2 : 0 ≤ hs[k].2.2 ∧ hs[k].2.2 ≤ 1000 := by simpa [inB] using h1.2
    rw [if_pos rfl, show hs.getD k (0, 0, 0) = hs[k] from by simp [List.getD, hk]]
    simp
    omega
end Go.Proofs.Ytmpfpgelaipmnab
