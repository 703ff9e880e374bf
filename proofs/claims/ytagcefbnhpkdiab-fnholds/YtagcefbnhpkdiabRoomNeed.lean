/-
  impl.openNeeds: what each slot may come to need.
-/
import Derived.Test.YtagcefbnhpkdiabRoomLen
import Derived.Test.YtagcefbnhpkdiabHoldMath
import Derived.Test.YtagcefbnhpkdiabInts
namespace Go.Proofs.Ytagcefbnhpkdiab
set_option maxRecDepth 100000
set_option maxHeartbeats 4000000
open Go.RowKit
set_option linter.unusedVariables false
set_option linter.unusedSimpArgs false

theorem holdOf_none {id : Int} : ∀ {l : List T3}, (∀ p ∈ l, p.1 ≠ id) → holdOf id l = -1
  | [], _ => rfl
  | p :: t, h => by
    unfold holdOf
    rw [if_neg (h p (List.mem_cons_self ..))]
    exact holdOf_none (fun q hq => h q (List.mem_cons_of_mem _ hq))
theorem holdOf_snoc_ne {id : Int} {p : T3} (hp : p.1 ≠ id) : ∀ l : List T3, holdOf id (l ++ [p]) = holdOf id l
  | [] => by simp [holdOf, hp]
  | q :: t => by
    simp only [List.cons_append, holdOf]
    rw [holdOf_snoc_ne hp t]
theorem holdOf_snoc_eq {id : Int} {p : T3} (hp : p.1 = id) : ∀ {l : List T3}, (∀ q ∈ l, q.1 ≠ id) → holdOf id (l ++ [p]) = p.2.2
  | [], _ => by simp [holdOf, hp]
  | q :: t, h => by
    simp only [List.cons_append, holdOf]
    rw [if_neg (h q (List.mem_cons_self ..)), holdOf_snoc_eq hp (fun r hr => h r (List.mem_cons_of_mem _ hr))]
theorem ris_before {hs : List T3} (hr : RisH hs) (k : Nat) (hk : k < hs.length) : ∀ q ∈ hs.take k, q.1 ≠ hs[k].1 := by
  intro q hq
  obtain ⟨i, hi, rfl⟩ := List.getElem_of_mem hq
  rw [List.length_take] at hi
  have := (List.pairwise_iff_getElem.1 hr) i k (by omega) hk (by omega)
  rw [List.getElem_take]
  omega
/-- what the slot needs by the first k holds -/
def needK (zs : List Int) (hs : List T3) (k i : Nat) : Int := maxI (maxI (zs.getD i 0) (holdOf (i : Int) (hs.take k))) 0
theorem needK_zero (zs : List Int) (hs : List T3) (i : Nat) (h : -1 ≤ zs.getD i 0) : needK zs hs 0 i = grI 0 [zs.getD i 0] := by
  unfold needK
  rw [List.take_zero]
  simp only [holdOf, grI, maxI]
  repeat' split
  all_goals omega
theorem needK_other {zs : List Int} {hs : List T3} {k i : Nat} (hk : k < hs.length) (hi : hs[k].1 ≠ (i : Int)) : needK zs hs (k + 1) i = needK zs hs k i := by
  unfold needK
  rw [List.take_succ_eq_append_getElem hk, holdOf_snoc_ne hi]
theorem needK_same {zs : List Int} {hs : List T3} {k i : Nat} (hr : RisH hs) (hk : k < hs.length) (hi : hs[k].1 = (i : Int)) (hz : -1 ≤ zs.getD i 0) (hm : 0 ≤ hs[k].2.2) : needK zs hs (k + 1) i = grI (needK zs hs k i) [hs[k].2.2] := by
  unfold needK
  have hb := ris_before hr k hk
  rw [hi] at hb
  rw [List.take_succ_eq_append_getElem hk, holdOf_snoc_eq hi hb, holdOf_none hb]
  simp only [grI, maxI]
  repeat' split
  all_goals omega
theorem needK_all (zs : List Int) (hs : List T3) (i : Nat) : needK zs hs hs.length i = needA zs hs i := by
  unfold needK needA
  rw [List.take_length]
theorem needK_bound {zs : List Int} {hs : List T3} (hz : ∀ z ∈ zs, -1 ≤ z ∧ z ≤ 1000) (hb : hs.any hdBad = false) (k i : Nat) : 0 ≤ needK zs hs k i ∧ needK zs hs k i ≤ 1000 := by
  have h1 : -1 ≤ zs.getD i 0 ∧ zs.getD i 0 ≤ 1000 := by
    by_cases hi : i < zs.length
    · rw [show zs.getD i 0 = zs[i] from by simp [List.getD, hi]]
      exact hz _ (List.getElem_mem hi)
    · rw [show zs.getD i 0 = 0 from by simp [List.getD, hi]]
      omega
  have h2 := holdOf_bound (hs := hs.take k) (by
    rw [List.any_eq_false] at hb ⊢
    exact fun p hp => hb p (List.mem_of_mem_take hp)) (i : Int)
  unfold needK maxI
  repeat' split
  all_goals omega

theorem openNeeds_any (v : Value) (zs : List Int) (x : FR) (w : World) (hv : Rd .i64 w v zs) (hx : RdF 3 w x) (hz : lenOK zs = true) (hh : holdsF (tri x.bs) = 0) :
    Calls Try.prog 40 #[v, x.v] w fun e w' => ∃ ns : List Int, e = .returned (.slice (some ⟨w.heap.size, 0, none⟩) zs.length zs.length) ∧ Own 0 2 .i64 w' (.slice (some ⟨w.heap.size, 0, none⟩) zs.length zs.length) ns ∧ (ns.length = zs.length ∧ ∀ i, i < zs.length → ns.getD i 0 = needA zs (tri x.bs) i) ∧ Same w w' := by
  obtain ⟨i0, hi, hz0, hz1, hz2⟩ := info_parts Try.infoI64
  obtain ⟨hl1, hl2, hl3, hzb⟩ := lenOK_yes hz
  obtain ⟨a, c, rfl⟩ := hv.form
  have hris := holdsF_ris hh
  have hbad := holdsF_any hh
  have hhl := holdsF_len hh
  obtain ⟨xe, xa, m, xc, bs⟩ := x
  have hm := tri_length m bs hx.2.1
  dsimp only [FR.v] at hris hbad hhl hh ⊢
  rw [hm] at hhl
  obtain ⟨n, hn⟩ : ∃ n, zs.length = n := ⟨_, rfl⟩
  have HN := hid hn
  rw [hn] at hl1 hl2 hl3 ⊢
  have HV := (show Hid (Rd .i64 w (.slice a n c) zs) from by rw [← hn]; exact hv)
  have HX := hid hx
  have HZ : Hid (∀ i, -1 ≤ zs.getD i 0) := fun i => by
    by_cases hi : i < zs.length
    · rw [show zs.getD i 0 = zs[i] from by simp [List.getD, hi]]
      exact (hzb _ (List.getElem_mem hi)).1
    · rw [show zs.getD i 0 = 0 from by simp [List.getD, hi]]
      omega
  have HRI := hid hris
  have HBD := hid hbad
  have HM := hid hm
  have hn0 : 0 < n := by omega
  clear hv hx hz hh hzb hris hbad hm hn
  go_enter Try.func40, Try.ntmps40
  go_wp2_with (at_make; refine wpList_make_full _ rfl (.tmp 11) (.tmp 11) 64 rfl 0 2 i0 (.int .i64 0) 1 Try.underlying64 hi hz0 hz1 .i64 .i64 _ _ n rfl rfl (by simp) (by simp) (by rw [hz2]; omega) (by unfold maxLen; omega) (Nat.zero_le _) ?_; intro w1 hown1 hgrow1; have HO1 : Hid (Own 0 2 .i64 w1 (.slice (some ⟨w.heap.size, 0, none⟩) n n) (List.replicate n 0)) := own_made (by simpa using hown1); have HK1 : Hid (Same w w1) := Kept.of_grown hgrow1 (fun k e => by cases e); clear hown1 hgrow1)
  obtain ⟨g, hg⟩ : ∃ g, w.heap.size = g := ⟨_, rfl⟩
  have HG := hid hg
  rw [hg] at HO1
  simp only [hg]
  clear hg
  go_loopw [15] (fun i wr => ∃ (k : Nat) (ns : List Int), k ≤ n ∧ i = .int .i64 k ∧ Hid (Own 0 2 .i64 wr (.slice (some ⟨g, 0, none⟩) n n) ns) ∧ Hid (ns.length = n ∧ ∀ i, i < k → ns.getD i 0 = needK zs (tri bs) 0 i) ∧ Hid (Same w wr)) (fun i _ => n - (intOf i).toNat)
  case atStart => exact ⟨0, List.replicate n 0, Nat.zero_le _, rfl, HO1, ⟨by simp, fun i hi => by omega⟩, HK1⟩
  case round =>
    obtain ⟨k, ns, hk, rfl, HO, HA, HK⟩ := hrel
    by_cases hlt : k < n
    · have hlz : k < zs.length := by rw [HN.out]; exact hlt
      obtain ⟨b, off, rfl, hc⟩ := (HV.out.same HK.out).at hlz
      obtain ⟨z, hz⟩ : ∃ z, zs.getD k 0 = z := ⟨_, rfl⟩
      rw [hz] at hc
      have HZK := hid hz
      have kg := greatest_any 0 (.slice (some ⟨wr.heap.size, 0, none⟩) 1 1) [z] (wr.alloc (.cells #[.int .i64 z] 2)) (rd_new wr 2 [z] (by unfold maxLen; simp))
      have HKa := (show Hid (Same wr (wr.alloc (.cells #[.int .i64 z] 2))) from (Kept.refl _ _).alloc _)
      clear hz
      go_wp2_with fail
      refine kg.mono ?_
      rintro e w2 ⟨rfl, hk2⟩
      have HK2 := hid (HKa.out.trans hk2)
      have HO2 := (show Hid (Own 0 2 .i64 w2 (.slice (some ⟨g, 0, none⟩) n n) ns) from HK2.out.owns HO.out (fun _ _ h => h))
      have d0 := HO2.out.cell HA.out.1.symm k hlt
      have f0 := HO2.out.frozen HA.out.1.symm k
      have HKw := hid (HK.out.trans HK2.out)
      clear kg hk2 hc
      obtain ⟨y, hy⟩ : ∃ y, grI 0 [z] = y := ⟨_, rfl⟩
      simp only [hy]
      have HA3 : Hid ((ns.set k y).length = n ∧ ∀ i, i < k + 1 → (ns.set k y).getD i 0 = needK zs (tri bs) 0 i) := ⟨by rw [List.length_set]; exact HA.out.1, fun i hi => by
        by_cases e : i = k
        · subst e
          rw [needK_zero _ _ _ (HZ.out i), HZK.out, hy]
          have := HA.out.1
          simp [List.getD, show i < ns.length from by omega]
        · rw [← HA.out.2 i (by omega)]
          simp [List.getD, List.getElem?_set_ne (Ne.symm e)]⟩
      clear hy
      go_wp2
      have HO3 := (show Hid (Own 0 2 .i64 (w2.setCell ⟨g, k, none⟩ (.int .i64 y)) (.slice (some ⟨g, 0, none⟩) n n) (ns.set k y)) from HO2.out.stored HA.out.1.symm k y)
      have HK3 := (show Hid (Same w (w2.setCell ⟨g, k, none⟩ (.int .i64 y))) from HKw.out.setCell (.inl (Nat.le_of_eq HG.out)) _)
      go_roundw
      case rel => exact ⟨k + 1, ns.set k y, by omega, by go_num, HO3, HA3, HK3⟩
      case measure => simp [intOf]; omega
    · obtain rfl : k = n := by omega
      clear hlt
      obtain ⟨w4, hw4⟩ : ∃ w4, wr = w4 := ⟨_, rfl⟩
      rw [hw4] at HO HK ⊢
      clear hw4
      go_wp2_with fail
      go_loopw [29] (fun i wr => ∃ (q : Nat) (ns : List Int), q ≤ m ∧ i = .int .i64 q ∧ Hid (Own 0 2 .i64 wr (.slice (some ⟨g, 0, none⟩) k k) ns) ∧ Hid (ns.length = k ∧ ∀ i, i < k → ns.getD i 0 = needK zs (tri bs) q i) ∧ Hid (Same w wr)) (fun i _ => m - (intOf i).toNat)
      case atStart => exact ⟨0, ns, Nat.zero_le _, rfl, HO, HA, HK⟩
      case round =>
        clear HO HA HK
        obtain ⟨q, ns, hq, rfl, HO, HA, HK⟩ := hrel
        by_cases hlt : q < m
        · obtain ⟨b, off, ha, hcx⟩ := HX.out.some (show 0 < m by omega)
          dsimp only at ha hcx
          subst ha
          have hla : q < (tri bs).length := by rw [HM.out]; omega
          obtain ⟨⟨x, y, z⟩, hxa⟩ : ∃ u, (tri bs)[q] = u := ⟨_, rfl⟩
          obtain ⟨da0, da1, da2⟩ := (HX.out.same HK.out).tri q hla _ _ _ hxa
          have hbd := any3_at HBD.out q hla
          rw [hxa] at hbd
          unfold hdBad at hbd
          simp only [Bool.or_eq_false_iff, Bool.not_eq_false'] at hbd
          have hxb : 0 ≤ x ∧ x ≤ 511 := by simpa [inB] using hbd.1.1
          have hzb : 0 ≤ z ∧ z ≤ 1000 := by simpa [inB] using hbd.2
          obtain ⟨i, hxi⟩ : ∃ i : Nat, x = (i : Int) := ⟨x.toNat, by omega⟩
          subst hxi
          have HXA := hid hxa
          have HB := (show Hid (Blk (wr.alloc (.cells #[.int .i64 (i : Int), .int .i64 y, .int .i64 z] 53)) wr.heap.size 53 [.int .i64 (i : Int), .int .i64 y, .int .i64 z]) from Blk.newL wr _ _)
          have HKa := (show Hid (Same wr (wr.alloc (.cells #[.int .i64 (i : Int), .int .i64 y, .int .i64 z] 53))) from (Kept.refl _ _).alloc _)
          have HOa := (show Hid (Own 0 2 .i64 (wr.alloc (.cells #[.int .i64 (i : Int), .int .i64 y, .int .i64 z] 53)) (.slice (some ⟨g, 0, none⟩) k k) ns) from HKa.out.owns HO.out (fun _ _ h => h))
          have HKb := hid (HK.out.trans HKa.out)
          obtain ⟨c0, c1, c2⟩ := HB.out.all3
          have hgw := (show g < wr.heap.size from by have := World.ownsRow.lt HO.out g rfl; exact this.2)
          clear hxa hbd
          by_cases hik : i < k
          · obtain ⟨y0, hy0⟩ : ∃ y0, ns.getD i 0 = y0 := ⟨_, rfl⟩
            have e0 := HOa.out.cell HA.out.1.symm i hik
            rw [hy0] at e0
            obtain ⟨y1, hy1⟩ : ∃ y1, grI y0 [z] = y1 := ⟨_, rfl⟩
            have HA3 : Hid ((ns.set i y1).length = k ∧ ∀ j, j < k → (ns.set i y1).getD j 0 = needK zs (tri bs) (q + 1) j) := ⟨by rw [List.length_set]; exact HA.out.1, fun j hj => by
              by_cases e : j = i
              · subst e
                rw [needK_same HRI.out hla (by rw [HXA.out]) (HZ.out j) (by rw [HXA.out]; exact hzb.1), HXA.out, ← HA.out.2 j hj, hy0, hy1]
                have := HA.out.1
                simp [List.getD, show j < ns.length from by omega]
              · rw [needK_other hla (by rw [HXA.out]; dsimp only; omega), ← HA.out.2 j hj]
                simp [List.getD, List.getElem?_set_ne (Ne.symm e)]⟩
            have kg := fun (wx : World) h => greatest_any y0 (.slice (some ⟨wx.heap.size, 0, none⟩) 1 1) [z] (wx.alloc (.cells #[.int .i64 z] 2)) h
            have HRD : Hid (∀ wx : World, Rd .i64 (wx.alloc (.cells #[.int .i64 z] 2)) (.slice (some ⟨wx.heap.size, 0, none⟩) 1 1) [z]) := fun wx => rd_new wx 2 [z] (by unfold maxLen; simp)
            simp only [hy1] at kg
            have HHA := HA
            have hik' : (i : Int) < (k : Int) := by omega
            clear hy0 hy1 HA
            go_wp2_with fail
            generalize wr.alloc (.cells #[.int .i64 (i : Int), .int .i64 y, .int .i64 z] 53) = wa at HB HKa HOa HKb c0 c1 c2 e0 ⊢
            generalize wr.heap.size = hb at HB hgw c0 c1 c2 ⊢
            clear da0 da1 da2 c1
            have hS : (fun wx : World => wx.cell? ⟨hb, 0, none⟩ = some (.int .i64 (i : Int)) ∧ wx.cell? ⟨hb, 2, none⟩ = some (.int .i64 z) ∧ wx.cell? ⟨g, i, none⟩ = some (.int .i64 y0)) wa.drew := ⟨c0, c2, e0⟩
            refine wp_region_V (fun wx : World => wx.cell? ⟨hb, 0, none⟩ = some (.int .i64 (i : Int)) ∧ wx.cell? ⟨hb, 2, none⟩ = some (.int .i64 z) ∧ wx.cell? ⟨g, i, none⟩ = some (.int .i64 y0)) 13 14 rfl (by kernel_rfl) ?_
            refine tk 0 38 hS ?_
            refine tk 1 39 hS ?_
            refine tk 2 40 hS ?_
            refine tk 3 41 hS ?_
            refine tk 4 42 hS ?_
            refine tk 5 43 hS ?_
            refine tk 6 44 hS ?_
            refine tk 7 45 hS ?_
            refine tk 8 46 hS ?_
            refine tk 9 47 hS ?_
            refine wpAnyV_one (i := 10) (by kernel_rfl) rfl (fun K hK => ?_)
            go_simp
            have k7 : Calls Try.prog 57 #[.int .i64 y0, .slice (some ⟨wa.heap.size, 0, none⟩) 1 1] (wa.alloc (.cells #[.int .i64 z] 2)).drew fun e w' => e = .returned (.int .i64 y1) ∧ Same (wa.alloc (.cells #[.int .i64 z] 2)).drew w' := kg wa.drew (HRD.out _)
            have HKc : Hid (Same wa (wa.alloc (.cells #[.int .i64 z] 2)).drew) := ((Kept.refl _ _).alloc _).drew
            generalize (wa.alloc (.cells #[.int .i64 z] 2)).drew = w6 at k7 HKc ⊢
            have hS : (fun wx : World => wx.cell? ⟨hb, 0, none⟩ = some (.int .i64 (i : Int)) ∧ wx.cell? ⟨hb, 2, none⟩ = some (.int .i64 z) ∧ wx.cell? ⟨g, i, none⟩ = some (.int .i64 y0)) w6 := ⟨HKc.out.cellOf c0 id, HKc.out.cellOf c2 id, HKc.out.cellOf e0 id⟩
            refine hK.out _ _ (fun _ => hS) ?_
            clear hK K kg HRD
            try simp only [Act.put, sA, s0, sS]
            refine wpAnyV_one (i := 11) (by kernel_rfl) rfl (fun K hK => ?_)
            go_simp
            refine k7.mono ?_
            rintro e w7 ⟨rfl, hk7⟩
            have HKd := hid (HKc.out.trans hk7)
            have HK7 := hid (HKb.out.trans HKd.out)
            have HO7 := (show Hid (Own 0 2 .i64 w7 (.slice (some ⟨g, 0, none⟩) k k) ns) from HKd.out.owns HOa.out (fun _ _ h => h))
            have hS : (fun wx : World => wx.cell? ⟨hb, 0, none⟩ = some (.int .i64 (i : Int)) ∧ wx.cell? ⟨hb, 2, none⟩ = some (.int .i64 z) ∧ wx.cell? ⟨g, i, none⟩ = some (.int .i64 y0)) w7 := ⟨HKd.out.cellOf c0 id, HKd.out.cellOf c2 id, HKd.out.cellOf e0 id⟩
            have f7 : w7.frozen? ⟨g, i, none⟩ = false := HO7.out.frozen HHA.out.1.symm i
            have d7 : w7.cell? ⟨g, i, none⟩ = some (.int .i64 y0) := hS.2.2
            refine hK.out _ _ (fun _ => hS) ?_
            clear hK K k7 hk7 HKc c0 c2 e0
            try simp only [Act.put, sA, s0, sS]
            refine tk 12 50 hS ?_
            refine wpAnyV_one (i := 13) (by kernel_rfl) rfl (fun K hK => ?_)
            go_simp
            refine hK.out _ _ (fun h => absurd rfl h) ?_
            clear hK K
            refine wpAnyV_done (by kernel_rfl) ?_
            try simp only [Act.put, sA, s0, sS]
            have HO8 := (show Hid (Own 0 2 .i64 (w7.setCell ⟨g, i, none⟩ (.int .i64 y1)) (.slice (some ⟨g, 0, none⟩) k k) (ns.set i y1)) from HO7.out.stored HHA.out.1.symm i y1)
            have HK8 := (show Hid (Same w (w7.setCell ⟨g, i, none⟩ (.int .i64 y1))) from HK7.out.setCell (.inl (Nat.le_of_eq HG.out)) _)
            clear f7 d7 hS
            go_wp2
            go_roundw
            case rel => exact ⟨q + 1, ns.set i y1, by omega, by go_num, HO8, HA3, HK8⟩
            case measure => simp [intOf]; omega
          · have HA3 : Hid (ns.length = k ∧ ∀ j, j < k → ns.getD j 0 = needK zs (tri bs) (q + 1) j) := ⟨HA.out.1, fun j hj => by
              rw [needK_other hla (by rw [HXA.out]; dsimp only; omega)]
              exact HA.out.2 j hj⟩
            have hik' : ¬ (i : Int) < (k : Int) := by omega
            clear HA
            go_wp2
            go_roundw
            case rel => exact ⟨q + 1, ns, by omega, by go_num, HOa, HA3, HKb⟩
            case measure => simp [intOf]; omega
        · obtain rfl : q = m := by omega
          have HE : Hid (ns.length = k ∧ ∀ j, j < k → ns.getD j 0 = needA zs (tri bs) j) := ⟨HA.out.1, fun j hj => by rw [HA.out.2 j hj, ← HM.out, needK_all]⟩
          go_wp2
          go_ret
          rw [HG.out]
          exact ⟨ns, rfl, HO.out, HE.out, HK.out⟩
end Go.Proofs.Ytagcefbnhpkdiab
