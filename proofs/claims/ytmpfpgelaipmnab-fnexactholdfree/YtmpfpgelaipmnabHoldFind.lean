import Derived.Test.YtmpfpgelaipmnabG03
namespace Go.Proofs.Ytmpfpgelaipmnab
set_option maxRecDepth 100000
set_option maxHeartbeats 4000000
set_option linter.unusedVariables false
set_option linter.unusedSimpArgs false
open Go.RowKit
theorem news_i64 {w : World} {b off : Nat} {bs : List Int} (hc : ∀ i, i < bs.length → w.cell? ⟨b, off + i, none⟩ = some (.int .i64 (bs.getD i 0))) (j : Nat) (u : Value) (h : (vals .i64 bs)[j]? = some u) : w.cell? ((⟨b, off, none⟩ : Addr).add j) = some u := by
 have hj : j < bs.length := by have := (List.getElem?_eq_some_iff.1 h).1; rwa [vals_length] at this
 rw [vals_at _ _ _ hj] at h
 rw [Addr.add_lit, hc j hj]
 exact h
theorem fr_of_own {e : TypeId} {w : World} {v : Value} {n base : Nat} {bs : List Int} (h : w.ownsRow base e 3 v n (vals .i64 bs)) : ∃ a c, v = .slice a n c ∧ OwnL w (FR.rows 3 ⟨e, a, n, c, bs⟩) ∧ (∀ b, FootL (FR.rows 3 ⟨e, a, n, c, bs⟩) b → base ≤ b) := by
 have h0 : w.ownsRow 0 e 3 v n (vals .i64 bs) := ⟨h.1, by
  rcases h.2 with h | ⟨g, cap, cur, h1, hb, h3⟩
  ·exact .inl h
  ·exact .inr ⟨g, cap, cur, h1, Nat.zero_le _, h3⟩⟩
 rcases h.2 with ⟨rfl, h2⟩ | ⟨g, cap, cur, rfl, hb, hgg, hc, hm, hs, ht⟩
 ·obtain rfl : n = 0 := by
   have := h.1; rw [h2] at this; simp at this; omega
  exact ⟨none, 0, rfl, ⟨fun r hr => by rw [List.mem_singleton.1 hr]; exact h0, List.pairwise_singleton _ _⟩, fun b hb => by have := (FootL_one _ _).1 hb; simp [FR.v, Value.ownBlock] at this⟩
 ·exact ⟨some ⟨g, 0, none⟩, cap, rfl, ⟨fun r hr => by rw [List.mem_singleton.1 hr]; exact h0, List.pairwise_singleton _ _⟩, fun b hb' => by have := FootL_fr hb'; omega⟩
theorem cloneH_any (x : FR) (w : World) (hn : x.n ≤ 1048576) (hv : RdF 3 w x) :
  Calls Try.prog 34 #[x.v] w fun e w' => ∃ a c, e = .returned (.slice a x.n c) ∧ OwnL w' (FR.rows 3 ⟨53, a, x.n, c, x.bs⟩) ∧ (∀ b, FootL (FR.rows 3 ⟨53, a, x.n, c, x.bs⟩) b → w.heap.size ≤ b) ∧ Same w w' := by
 obtain ⟨i0, hi, hz0, hz1, hz2⟩ := info_parts Try.infoHold
 have hnil := fun (wx : World) (a : Option Addr) (n c : Nat) => Lib.run_eql_slice_nil (P := Try.prog) wx 24 53 a n c 0 0 Try.underlying24
 obtain ⟨xe, xa, n, xc, bs⟩ := x
 dsimp only [FR.v] at hn ⊢
 have hl : bs.length = n * 3 := hv.2.1
 cases xa with
 | none =>
  obtain rfl : n = 0 := by
   rcases hv.2.2 with h | ⟨b, off, h, _⟩
   ·exact h
   ·cases h
  obtain rfl : bs = [] := List.length_eq_zero_iff.1 (by omega)
  clear hv hn hl
  go_enter Try.func34, Try.ntmps34
  go_wp2
  go_ret
  exact ⟨_, _, rfl, FR.own_nil _, fun b hb => by have := (FootL_one _ _).1 hb; simp [FR.v, Value.ownBlock] at this, Kept.refl _ _⟩
 | some ad =>
  obtain ⟨b0, off0, vw⟩ := ad
  have HNW : Hid (∀ j u, (vals .i64 bs)[j]? = some u → (w.alloc (.cells #[] 53)).cell? ((⟨b0, off0, vw⟩ : Addr).add j) = some u) := by
   rcases hv.2.2 with h | ⟨b, off, h, _, hc⟩
   ·dsimp only at h
    subst h
    obtain rfl : bs = [] := List.length_eq_zero_iff.1 (by omega)
    intro j u hj
    simp [vals] at hj
   ·dsimp only at h hc
    injection h with h
    injection h with h1 h2 h3
    subst h1 h2 h3
    have hc2 : ∀ i, i < bs.length → (w.alloc (.cells #[] 53)).cell? ⟨b0, off0 + i, none⟩ = some (.int .i64 (bs.getD i 0)) := fun i hi => ((Kept.refl (fun _ => False) w).alloc _).cellOf (hc i (by omega)) (fun h => h)
    exact news_i64 hc2
  clear hv
  go_enter Try.func34, Try.ntmps34
  go_wp2_with (at_builtin; refine wpList_append_own _ rfl (.tmp 5) (.tmp 6) 24 rfl w.heap.size 53 i0 _ 3 24 Try.underlying24 hi hz0 hz1 hz2 rfl (by decide) (.slice (some ⟨w.heap.size, 0, none⟩) 0 0) 0 [] rfl (World.ownsRow_made w #[] 0 (Nat.le_refl _) (by simp) (by simp)) ⟨b0, off0, vw⟩ n xc (vals .i64 bs) rfl (by rw [vals_length]; exact hl) HNW.out vals_one (by unfold maxLen; omega) (by omega) (by simp) ?_; intro v' w1 hown1 hgrow1 _; have HF := (show Hid (w1.ownsRow w.heap.size 53 3 v' n (vals .i64 bs)) from (by simpa [Hid] using hown1)); have HK : Hid (Same w w1) := ((Kept.refl _ _).alloc _).grown hgrow1 (fun k e => .inl (by simp [Value.ownBlock] at e; omega)); obtain ⟨aa, ca, rfl, ho, hb⟩ := fr_of_own HF.out; have HO := hid ho; have HB := hid hb; clear hown1 hgrow1 ho hb)
  go_ret
  exact ⟨_, _, rfl, HO.out, HB.out, HK.out⟩
theorem findHold1_any (p : T3) (id : Int) (w : World) :
  Calls Try.prog 73 #[.agg #[.int .i64 p.1, .int .i64 p.2.1, .int .i64 p.2.2], .int .i64 id] w fun e w' => e = .returned (.int .i64 (cmpI p.1 id)) ∧ Same w w' := by
 obtain ⟨x, y, z⟩ := p
 dsimp only
 have HB0 := (show Hid (Blk (w.alloc (.cells #[.int .i64 x, .int .i64 y, .int .i64 z] 53)) w.heap.size 53 [.int .i64 x, .int .i64 y, .int .i64 z]) from Blk.newL w _ _)
 have HK0 := hid (sameA w [.int .i64 x, .int .i64 y, .int .i64 z] 53)
 obtain ⟨c0, c1, c2⟩ := HB0.out.all3
 have k0 := compare8_any x id
 go_enter Try.func73, Try.ntmps73
 go_wp2_with fail
 refine (k0 _).mono ?_
 rintro e w1 ⟨rfl, rfl⟩
 go_wp2
 go_ret
 exact ⟨rfl, HK0.out⟩
theorem enters_fh : Enters8 73 := fun args wx => by simp [callFunc, go_sem, Try.func73, Try.f73]
theorem bsearchH_any (x : FR) (id : Int) (w : World) (hv : RdF 3 w x) (hn : x.n ≤ 1048576) (hr : RisH (tri x.bs)) :
  Calls Try.prog 72 #[x.v, .int .i64 id, .func (.func 73) #[] #[]] w fun e w' => ∃ k : Nat, e = .returned (.tuple #[.int .i64 k, .bool (fndH id (tri x.bs) k)]) ∧ LbH id (tri x.bs) k ∧ Same w w' := by
 obtain ⟨xe, xa, n, xc, bs⟩ := x
 have hl := tri_length n bs hv.2.1
 dsimp only [FR.v] at hn hr ⊢
 have HV := hid hv
 have HL := hid hl
 have HR := hid hr
 clear hv hl hr
 have hent' : ∀ (args : Array Value) (wx : World), (callFunc 73 args).run Try.prog wx = .ok (.enter 73 args) wx := enters_fh
 go_enter Try.func72, Try.ntmps72
 go_wp2_with fail
 go_loopw [9, 10] (fun i j wr => ∃ (k m : Nat), k ≤ m ∧ m ≤ n ∧ i = .int .i64 k ∧ j = .int .i64 m ∧ Hid ((∀ (q : Nat) (h : q < (tri bs).length), q < k → (tri bs)[q].1 < id) ∧ (∀ (q : Nat) (h : q < (tri bs).length), m ≤ q → id ≤ (tri bs)[q].1)) ∧ Hid (Same w wr)) (fun i j _ => (intOf j).toNat - (intOf i).toNat)
 case atStart => exact ⟨0, n, Nat.zero_le _, Nat.le_refl _, rfl, rfl, ⟨fun q h hq => by omega, fun q h hq => by have := HL.out; omega⟩, Kept.refl _ _⟩
 case round =>
  obtain ⟨k, m, hkm, hmn, rfl, rfl, HI, HK⟩ := hrel
  by_cases hlt : k < m
  ·obtain ⟨b, off, ha, hc⟩ := HV.out.some (show 0 < n by omega)
   dsimp only at ha hc
   subst ha
   obtain ⟨h, hh⟩ : ∃ h, (k + m) / 2 = h := ⟨_, rfl⟩
   have hh1 : k ≤ h := by omega
   have hh2 : h < m := by omega
   have hhn : h < n := by omega
   have hla : h < (tri bs).length := by rw [HL.out]; omega
   have hw1 : IntKind.i64.wrap ((k : Int) + (m : Int)) = ((k + m : Nat) : Int) := by rw [IntKind.wrap_i64]; omega
   obtain ⟨⟨x, y, z⟩, hxa⟩ : ∃ q, (tri bs)[h] = q := ⟨_, rfl⟩
   have HX := hid hxa
   obtain ⟨da0, da1, da2⟩ := (HV.out.same HK.out).tri h hla _ _ _ hxa
   have kf := findHold1_any (x, y, z) id wr
   dsimp only at kf
   clear hxa
   by_cases hcmp : x < id
   ·have HI2 : Hid ((∀ (q : Nat) (h' : q < (tri bs).length), q < h + 1 → (tri bs)[q].1 < id) ∧ (∀ (q : Nat) (h' : q < (tri bs).length), m ≤ q → id ≤ (tri bs)[q].1)) := ⟨fun q h' hq => by
     by_cases e : q = h
     ·subst e; rw [HX.out]; exact hcmp
     ·have h1 := (List.pairwise_iff_getElem.1 HR.out) q h h' hla (by omega)
      rw [HX.out] at h1
      exact Int.lt_trans h1 hcmp, HI.out.2⟩
    rw [show cmpI x id = -1 from if_pos hcmp] at kf
    clear HI hcmp
    subst hh
    go_wp2_with fail
    refine kf.mono ?_
    rintro e w1 ⟨rfl, hk1⟩
    have HK1 := hid (HK.out.trans hk1)
    clear da0 da1 da2 kf hk1
    go_wp2
    go_roundw
    case rel => exact ⟨(k + m) / 2 + 1, m, by omega, by omega, by go_num, rfl, HI2, HK1⟩
    case measure => simp [intOf]; omega
   ·have HI2 : Hid ((∀ (q : Nat) (h' : q < (tri bs).length), q < k → (tri bs)[q].1 < id) ∧ (∀ (q : Nat) (h' : q < (tri bs).length), h ≤ q → id ≤ (tri bs)[q].1)) := ⟨HI.out.1, fun q h' hq => by
     by_cases e : q = h
     ·subst e; rw [HX.out]; exact Int.not_lt.1 hcmp
     ·have h1 := (List.pairwise_iff_getElem.1 HR.out) h q hla h' (by omega)
      rw [HX.out] at h1
      exact Int.le_trans (Int.not_lt.1 hcmp) (Int.le_of_lt h1)⟩
    have hge : ¬ cmpI x id < 0 := by unfold cmpI; rw [if_neg hcmp]; split <;> omega
    obtain ⟨cq, hcq⟩ : ∃ cq, cmpI x id = cq := ⟨_, rfl⟩
    rw [hcq] at kf hge
    clear HI hcmp hcq
    subst hh
    go_wp2_with fail
    refine kf.mono ?_
    rintro e w1 ⟨rfl, hk1⟩
    have HK1 := hid (HK.out.trans hk1)
    clear da0 da1 da2 kf hk1
    go_wp2
    go_roundw
    case rel => exact ⟨k, (k + m) / 2, by omega, by omega, rfl, by go_num, HI2, HK1⟩
    case measure => simp [intOf]; omega
  ·obtain rfl : k = m := by omega
   have HLB : Hid (LbH id (tri bs) k) := ⟨by rw [HL.out]; exact hmn, HI.out.1, HI.out.2⟩
   by_cases hkn : k < n
   ·obtain ⟨b, off, ha, hc⟩ := HV.out.some (show 0 < n by omega)
    dsimp only at ha hc
    subst ha
    have hla : k < (tri bs).length := by rw [HL.out]; omega
    obtain ⟨⟨x, y, z⟩, hxa⟩ : ∃ q, (tri bs)[k] = q := ⟨_, rfl⟩
    have HX := hid hxa
    obtain ⟨da0, da1, da2⟩ := (HV.out.same HK.out).tri k hla _ _ _ hxa
    have kf := findHold1_any (x, y, z) id wr
    dsimp only at kf
    have HF : Hid (fndH id (tri bs) k = (cmpI x id == 0)) := by
     unfold Hid
     rw [fndH_at hla, hxa]
     unfold cmpI
     rw [Bool.eq_iff_iff]
     simp
     split <;> (try split) <;> omega
    obtain ⟨cq, hcq⟩ : ∃ cq, cmpI x id = cq := ⟨_, rfl⟩
    rw [hcq] at kf HF
    clear hxa HI hcq
    go_wp2_with fail
    refine kf.mono ?_
    rintro e w1 ⟨rfl, hk1⟩
    have HK1 := hid (HK.out.trans hk1)
    clear da0 da1 da2 kf hk1
    go_wp2
    go_ret2
    exact ⟨k, by rw [HF.out]; rfl, HLB.out, HK1.out⟩
   ·have HF : Hid (fndH id (tri bs) k = false) := fndH_end (by rw [HL.out]; omega)
    clear HI
    go_wp2
    go_ret2
    exact ⟨k, by rw [HF.out]; rfl, HLB.out, HK.out⟩
theorem findHold_any (x : FR) (id : Int) (w : World) (hv : RdF 3 w x) (hn : x.n ≤ 1048576) (hr : RisH (tri x.bs)) :
  Calls Try.prog 51 #[x.v, .int .i64 id] w fun e w' => ∃ k : Nat, e = .returned (.tuple #[.int .i64 k, .bool (fndH id (tri x.bs) k)]) ∧ LbH id (tri x.bs) k ∧ Same w w' := by
 have k0 := bsearchH_any x id w hv hn hr
 generalize fndH id (tri x.bs) = F at k0 ⊢
 obtain ⟨xe, xa, n, xc, bs⟩ := x
 dsimp only [FR.v] at k0 ⊢
 clear hv hn hr
 go_enter Try.func51, Try.ntmps51
 go_wp2_with fail
 refine k0.mono ?_
 rintro e w1 ⟨k, rfl, hlb, hk1⟩
 have HLB := hid hlb
 clear hlb
 go_wp2
 go_ret2
 exact ⟨k, rfl, HLB.out, hk1⟩
end Go.Proofs.Ytmpfpgelaipmnab
