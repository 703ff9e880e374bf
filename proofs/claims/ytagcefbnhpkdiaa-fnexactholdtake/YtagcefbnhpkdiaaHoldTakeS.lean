/-
  spec.HoldTake (by tools/gen/holdtake.py).
-/
import Derived.Test.YtagcefbnhpkdiaaHoldFreeS
namespace Go.Proofs.Ytagcefbnhpkdiaa
set_option maxRecDepth 100000
set_option maxHeartbeats 8000000
open Go.RowKit
set_option linter.unusedVariables false
set_option linter.unusedSimpArgs false

def insH (e : T3) : Bool → List T3 → List T3
  | d, [] => if d = true then [] else [e]
  | d, h :: t => (if d = false ∧ e.1 ≤ h.1 then [e] else []) ++ ((if h.1 ≠ e.1 then [h] else []) ++ insH e (d || decide (e.1 ≤ h.1)) t)
def mostH (hs : List T3) (id be af : Int) : Int := maxI (maxI (holdOf id hs) 0) (maxI be af)
def takeH (hs : List T3) (txn id be af : Int) : List Int :=
  if holdsF hs = 0 ∧ inB txn 1 2147483647 = true ∧ inB id 0 511 = true ∧ inB be (-1) 1000 = true ∧ inB af (-1) 1000 = true then flat3 (insH (id, txn, mostH hs id be af) false hs) else []
theorem insH_length (e : T3) : ∀ (ls : List T3) (d : Bool), (insH e d ls).length ≤ 2 * ls.length + 1
  | [], d => by unfold insH; split <;> simp
  | h :: t, d => by
    have := insH_length e t (d || decide (e.1 ≤ h.1))
    unfold insH
    rw [List.length_append, List.length_append, List.length_cons]
    have h1 : (if d = false ∧ e.1 ≤ h.1 then [e] else []).length ≤ 1 := by split <;> simp
    have h2 : (if h.1 ≠ e.1 then [h] else []).length ≤ 1 := by split <;> simp
    omega
theorem takeH_small {bs : List Int} {n : Nat} {txn id be af : Int} (hl : bs.length = n * 3) (hp : n ≤ 1048576) : (takeH (tri bs) txn id be af).length ≤ 16777216 := by
  unfold takeH
  split
  · rw [flat3_length]
    have h1 := insH_length (id, txn, mostH (tri bs) id be af) (tri bs) false
    have h2 := tri_length n bs hl
    omega
  · simp

theorem specHoldTake_any (x : FR) (txn id be af : Int) (w : World) (hv : RdF 3 w x) :
    Calls Try.prog 23 #[x.v, .int .i64 txn, .int .i64 id, .int .i64 be, .int .i64 af] w fun e w' => ∃ y : FR, e = .returned y.v ∧ y.bs = takeH (tri x.bs) txn id be af ∧ (∀ b, FootL (FR.rows 3 y) b → w.heap.size ≤ b) ∧ OwnL w' (FR.rows 3 y) ∧ Same w w' := by
  obtain ⟨i0, hi, hz0, hz1, hz2⟩ := info_parts Try.infoHold
  have k0 := specHoldsFault_any x w hv
  have k1 := fun wx => l4In_any txn 1 2147483647 wx
  have k2 := fun wx => l4In_any id 0 511 wx
  have k3 := fun wx => l4In_any be (-1) 1000 wx
  have k4 := fun wx => l4In_any af (-1) 1000 wx
  have k5 := fun wx (hk : Same w wx) => specHold_any x id wx (hv.same hk)
  obtain ⟨xe, xa, n, xc, bs⟩ := x
  have hm : n ≤ maxLen := hv.1
  unfold maxLen at hm
  have hl := tri_length n bs hv.2.1
  dsimp only [FR.v] at k0 k5 ⊢
  have HV := hid hv
  clear hv
  obtain ⟨R, hR⟩ : ∃ R, takeH (tri bs) txn id be af = R := ⟨_, rfl⟩
  rw [hR]
  unfold takeH at hR
  obtain ⟨q, hq⟩ : ∃ q, holdsF (tri bs) = q := ⟨_, rfl⟩
  rw [hq] at hR k0
  by_cases h0 : q = 0
  case neg =>
    rw [if_neg (fun h => h0 h.1)] at hR
    subst hR
    clear hl hq k5
    go_enter Try.func23, Try.ntmps23
    go_wp2_with fail
    refine k0.mono ?_
    rintro e w1 ⟨rfl, hk1⟩
    have HK1 := (show Hid (Same w w1) from hk1)
    clear hk1
    go_wp2
    go_ret
    exact ⟨⟨45, some ⟨w1.heap.size, 0, none⟩, 0, 0, []⟩, rfl, rfl, fun b hb => by have := FootL_fr hb; have := HK1.out.size; omega, (ownF_none 45 w1).out, HK1.out.alloc _⟩
  subst h0
  have hn := holdsF_len hq
  rw [hl] at hn
  clear hq
  cases f0 : inB txn 1 2147483647 with
  | false =>
    rw [f0] at k1 hR
    rw [if_neg (by simp)] at hR
    subst hR
    go_enter Try.func23, Try.ntmps23
    go_wp2_with (first
      | (go_at_call 19; (with_reducible refine k0.mono ?_); rintro e w1 ⟨rfl, hk1⟩; have HK1 := (show Hid (Same w w1) from hk1); clear hk1 k0)
      | (go_at_call 27; (with_reducible refine (k1 _).mono ?_); rintro e wx0 ⟨rfl, hk⟩; have HKx0 := hid (HK1.out.trans hk); clear hk k1))
    go_ret
    exact ⟨⟨45, some ⟨wx0.heap.size, 0, none⟩, 0, 0, []⟩, rfl, rfl, fun b hb => by have := FootL_fr hb; have := HKx0.out.size; omega, (ownF_none 45 wx0).out, HKx0.out.alloc _⟩
  | true =>
  rw [f0] at k1 hR
  cases f1 : inB id 0 511 with
  | false =>
    rw [f1] at k2 hR
    rw [if_neg (by simp)] at hR
    subst hR
    go_enter Try.func23, Try.ntmps23
    go_wp2_with (first
      | (go_at_call 19; (with_reducible refine k0.mono ?_); rintro e w1 ⟨rfl, hk1⟩; have HK1 := (show Hid (Same w w1) from hk1); clear hk1 k0)
      | (go_at_call 27; (with_reducible refine (k1 _).mono ?_); rintro e wx0 ⟨rfl, hk⟩; have HKx0 := hid (HK1.out.trans hk); clear hk k1)
      | (go_at_call 27; (with_reducible refine (k2 _).mono ?_); rintro e wx1 ⟨rfl, hk⟩; have HKx1 := hid (HKx0.out.trans hk); clear hk k2))
    go_ret
    exact ⟨⟨45, some ⟨wx1.heap.size, 0, none⟩, 0, 0, []⟩, rfl, rfl, fun b hb => by have := FootL_fr hb; have := HKx1.out.size; omega, (ownF_none 45 wx1).out, HKx1.out.alloc _⟩
  | true =>
  rw [f1] at k2 hR
  cases f2 : inB be (-1) 1000 with
  | false =>
    rw [f2] at k3 hR
    rw [if_neg (by simp)] at hR
    subst hR
    go_enter Try.func23, Try.ntmps23
    go_wp2_with (first
      | (go_at_call 19; (with_reducible refine k0.mono ?_); rintro e w1 ⟨rfl, hk1⟩; have HK1 := (show Hid (Same w w1) from hk1); clear hk1 k0)
      | (go_at_call 27; (with_reducible refine (k1 _).mono ?_); rintro e wx0 ⟨rfl, hk⟩; have HKx0 := hid (HK1.out.trans hk); clear hk k1)
      | (go_at_call 27; (with_reducible refine (k2 _).mono ?_); rintro e wx1 ⟨rfl, hk⟩; have HKx1 := hid (HKx0.out.trans hk); clear hk k2)
      | (go_at_call 27; (with_reducible refine (k3 _).mono ?_); rintro e wx2 ⟨rfl, hk⟩; have HKx2 := hid (HKx1.out.trans hk); clear hk k3))
    go_ret
    exact ⟨⟨45, some ⟨wx2.heap.size, 0, none⟩, 0, 0, []⟩, rfl, rfl, fun b hb => by have := FootL_fr hb; have := HKx2.out.size; omega, (ownF_none 45 wx2).out, HKx2.out.alloc _⟩
  | true =>
  rw [f2] at k3 hR
  cases f3 : inB af (-1) 1000 with
  | false =>
    rw [f3] at k4 hR
    rw [if_neg (by simp)] at hR
    subst hR
    go_enter Try.func23, Try.ntmps23
    go_wp2_with (first
      | (go_at_call 19; (with_reducible refine k0.mono ?_); rintro e w1 ⟨rfl, hk1⟩; have HK1 := (show Hid (Same w w1) from hk1); clear hk1 k0)
      | (go_at_call 27; (with_reducible refine (k1 _).mono ?_); rintro e wx0 ⟨rfl, hk⟩; have HKx0 := hid (HK1.out.trans hk); clear hk k1)
      | (go_at_call 27; (with_reducible refine (k2 _).mono ?_); rintro e wx1 ⟨rfl, hk⟩; have HKx1 := hid (HKx0.out.trans hk); clear hk k2)
      | (go_at_call 27; (with_reducible refine (k3 _).mono ?_); rintro e wx2 ⟨rfl, hk⟩; have HKx2 := hid (HKx1.out.trans hk); clear hk k3)
      | (go_at_call 27; (with_reducible refine (k4 _).mono ?_); rintro e wx3 ⟨rfl, hk⟩; have HKx3 := hid (HKx2.out.trans hk); clear hk k4))
    go_ret
    exact ⟨⟨45, some ⟨wx3.heap.size, 0, none⟩, 0, 0, []⟩, rfl, rfl, fun b hb => by have := FootL_fr hb; have := HKx3.out.size; omega, (ownF_none 45 wx3).out, HKx3.out.alloc _⟩
  | true =>
  rw [f3] at k4 hR
  rw [if_pos (by simp)] at hR
  have HR := hid hR
  have HL := hid hl
  clear hR hl f0 f1 f2 f3
  obtain ⟨mo, hmo⟩ : ∃ mo, mostH (tri bs) id be af = mo := ⟨_, rfl⟩
  have HMO := hid hmo
  rw [hmo] at HR
  unfold mostH at hmo
  have m1 := fun wx => specMax_any (holdOf id (tri bs)) 0 wx
  have m2 := fun wx => specMax_any be af wx
  have m3 := fun wx => specMax_any (maxI (holdOf id (tri bs)) 0) (maxI be af) wx
  rw [hmo] at m3
  clear hmo HMO
  generalize holdOf id (tri bs) = ho at k5 m1 m3
  generalize maxI ho 0 = h1 at m1 m3
  generalize maxI be af = h2 at m2 m3
  go_enter Try.func23, Try.ntmps23
  go_wp2_with (first
    | (go_at_call 19; (with_reducible refine k0.mono ?_); rintro e w1 ⟨rfl, hk1⟩; have HK1 := (show Hid (Same w w1) from hk1); clear hk1 k0)
    | (go_at_call 27; (with_reducible refine (k1 _).mono ?_); rintro e wx0 ⟨rfl, hk⟩; have HKx0 := hid (HK1.out.trans hk); clear hk k1)
    | (go_at_call 27; (with_reducible refine (k2 _).mono ?_); rintro e wx1 ⟨rfl, hk⟩; have HKx1 := hid (HKx0.out.trans hk); clear hk k2)
    | (go_at_call 27; (with_reducible refine (k3 _).mono ?_); rintro e wx2 ⟨rfl, hk⟩; have HKx2 := hid (HKx1.out.trans hk); clear hk k3)
    | (go_at_call 27; (with_reducible refine (k4 _).mono ?_); rintro e wx3 ⟨rfl, hk⟩; have HKx3 := hid (HKx2.out.trans hk); clear hk k4)
    | (go_at_call 38; (with_reducible refine (k5 _ HKx3.out).mono ?_); rintro e w5 ⟨rfl, hk⟩; have HK5 := hid (HKx3.out.trans hk); clear hk k5)
    | (go_at_call 37; (with_reducible refine (m1 _).mono ?_); rintro e w6 ⟨rfl, hk⟩; have HK6 := hid (HK5.out.trans hk); clear hk m1)
    | (go_at_call 37; (with_reducible refine (m2 _).mono ?_); rintro e w7 ⟨rfl, hk⟩; have HK7 := hid (HK6.out.trans hk); clear hk m2)
    | (go_at_call 37; (with_reducible refine (m3 _).mono ?_); rintro e w8 ⟨rfl, hk⟩; have HK8 := hid (HK7.out.trans hk); clear hk m3))
  have hz8 := HK8.out.size
  go_loopw [12, 13, 14] (fun o dn i wr => ∃ (k g m c : Nat) (ys : List Int) (d : Bool), k ≤ n ∧ m ≤ 2 * k ∧ o = .slice (some ⟨g, 0, none⟩) m c ∧ dn = .bool d ∧ i = .int .i64 k ∧ w.heap.size ≤ g ∧ Hid (OwnF 3 45 wr g m c ys) ∧ Hid (ys ++ flat3 (insH (id, txn, mo) d ((tri bs).drop k)) = R) ∧ Hid (Same w wr)) (fun _ _ i _ => n - (intOf i).toNat)
  case atStart => exact ⟨0, w8.heap.size, 0, 0, [], false, Nat.zero_le _, Nat.zero_le _, rfl, rfl, rfl, hz8, ownF_none 45 w8, HR, HK8.out.alloc _⟩
  case round =>
    obtain ⟨k, g, m, c, ys, d, hk, hmk, rfl, rfl, rfl, hg, HO, HY, HK⟩ := hrel
    by_cases hlt : k < n
    · obtain ⟨b, off, ha, hc⟩ := HV.out.some (show 0 < n by omega)
      dsimp only at ha hc
      subst ha
      have hla : k < (tri bs).length := by rw [HL.out]; omega
      obtain ⟨⟨x, y, z⟩, hxa⟩ : ∃ q, (tri bs)[k] = q := ⟨_, rfl⟩
      have HXA := hid hxa
      obtain ⟨da0, da1, da2⟩ := (HV.out.same HK.out).tri k hla _ _ _ hxa
      have h := HY.out
      rw [List.drop_eq_getElem_cons hla, hxa] at h
      simp only [insH] at h
      clear hxa HY
      cases d with
      | true =>
        rw [if_neg (by simp)] at h
        by_cases hx : x = id
        · have hx1 : (x != id) = false := by simp [hx]
          rw [if_neg (by simp [hx])] at h
          simp only [Bool.true_or, List.nil_append] at h
          have HY2 := hid h
          clear h
          go_wp2
          go_roundw
          case rel => exact ⟨k + 1, g, m, c, ys, true, by omega, by omega, rfl, rfl, by go_num, hg, HO, by unfold Hid; have h := HY2.out; simpa [flat3] using h, HK⟩
          case measure => simp [intOf]; omega
        · have hx1 : (x != id) = true := by simp [hx]
          rw [if_pos hx] at h
          simp only [Bool.true_or, List.nil_append] at h
          have HY2 := hid h
          clear h
          have HKO5 := (show Hid ((wr.alloc (.cells #[.int .i64 x, .int .i64 y, .int .i64 z] 45)).ownsRow 0 45 3 (.slice (some ⟨g, 0, none⟩) m c) m (vals .i64 ys)) from HO.out.same ((Kept.refl _ _).alloc _))
          have HN5 := (show Hid (Blk (wr.alloc (.cells #[.int .i64 x, .int .i64 y, .int .i64 z] 45)) wr.heap.size 45 [.int .i64 x, .int .i64 y, .int .i64 z]) from Blk.newL wr [.int .i64 x, .int .i64 y, .int .i64 z] 45)
          have hgl5 := HO.out.lt
          go_wp2_with (at_builtin; refine wpList_append_lies _ rfl (.tmp 79) (.tmp 84) 35 rfl 0 45 i0 _ 3 24 Try.underlying35 hi hz0 hz1 hz2 rfl (by omega) (.slice (some ⟨g, 0, none⟩) m c) m (vals .i64 ys) rfl (by exact HKO5.out) ⟨wr.heap.size, 0, none⟩ 1 1 [.int .i64 x, .int .i64 y, .int .i64 z] rfl rfl (World.news_of_block (cs := #[.int .i64 x, .int .i64 y, .int .i64 z]) (t := 45) (fr := (0, 0)) (by exact HN5.out)) (by simp [Value.oneCell']) (by omega) (by unfold maxLen; omega) (by omega) (Nat.zero_le _) (wr.heap.size + 1) (by simp) ?_; intro g5 cap5 w5 hown hgrow hat hlt; have HO5 := (show Hid (OwnF 3 45 w5 g5 (m + 1) cap5 (ys ++ [x, y, z])) from OwnF.of_app3 hown); have hg5 : w.heap.size ≤ g5 := (by rcases hat with h | h; (have : g = g5 := (by simpa [Value.ownBlock] using h); omega); (have := HK.out.size; omega)); have HK5 := hid (Same.app HK.out hgrow (by omega)); clear hown hgrow hat hlt)
          go_roundw
          case rel => exact ⟨k + 1, g5, m + 1, cap5, (ys ++ [x, y, z]), true, by omega, by omega, rfl, rfl, by go_num, hg5, HO5, by unfold Hid; have h := HY2.out; simpa [flat3] using h, HK5⟩
          case measure => simp [intOf]; omega
      | false =>
        by_cases hge : id ≤ x
        · rw [if_pos ⟨rfl, hge⟩] at h
          simp only [hge, decide_true, Bool.or_true] at h
          by_cases hx : x = id
          · have hx1 : (x != id) = false := by simp [hx]
            rw [if_neg (by simp [hx])] at h
            have HY2 := hid h
            clear h
            have HKO5 := (show Hid ((wr.alloc (.cells #[.int .i64 id, .int .i64 txn, .int .i64 mo] 45)).ownsRow 0 45 3 (.slice (some ⟨g, 0, none⟩) m c) m (vals .i64 ys)) from HO.out.same ((Kept.refl _ _).alloc _))
            have HN5 := (show Hid (Blk (wr.alloc (.cells #[.int .i64 id, .int .i64 txn, .int .i64 mo] 45)) wr.heap.size 45 [.int .i64 id, .int .i64 txn, .int .i64 mo]) from Blk.newL wr [.int .i64 id, .int .i64 txn, .int .i64 mo] 45)
            have hgl5 := HO.out.lt
            go_wp2_with (at_builtin; refine wpList_append_lies _ rfl (.tmp 65) (.tmp 70) 35 rfl 0 45 i0 _ 3 24 Try.underlying35 hi hz0 hz1 hz2 rfl (by omega) (.slice (some ⟨g, 0, none⟩) m c) m (vals .i64 ys) rfl (by exact HKO5.out) ⟨wr.heap.size, 0, none⟩ 1 1 [.int .i64 id, .int .i64 txn, .int .i64 mo] rfl rfl (World.news_of_block (cs := #[.int .i64 id, .int .i64 txn, .int .i64 mo]) (t := 45) (fr := (0, 0)) (by exact HN5.out)) (by simp [Value.oneCell']) (by omega) (by unfold maxLen; omega) (by omega) (Nat.zero_le _) (wr.heap.size + 1) (by simp) ?_; intro g5 cap5 w5 hown hgrow hat hlt; have HO5 := (show Hid (OwnF 3 45 w5 g5 (m + 1) cap5 (ys ++ [id, txn, mo])) from OwnF.of_app3 hown); have hg5 : w.heap.size ≤ g5 := (by rcases hat with h | h; (have : g = g5 := (by simpa [Value.ownBlock] using h); omega); (have := HK.out.size; omega)); have HK5 := hid (Same.app HK.out hgrow (by omega)); clear hown hgrow hat hlt; obtain ⟨db0, db1, db2⟩ := (HV.out.same HK5.out).tri k hla _ _ _ HXA.out)
            go_roundw
            case rel => exact ⟨k + 1, g5, m + 1, cap5, (ys ++ [id, txn, mo]), true, by omega, by omega, rfl, rfl, by go_num, hg5, HO5, by unfold Hid; have h := HY2.out; simpa [flat3] using h, HK5⟩
            case measure => simp [intOf]; omega
          · have hx1 : (x != id) = true := by simp [hx]
            rw [if_pos hx] at h
            have HY2 := hid h
            clear h
            have HKO5 := (show Hid ((wr.alloc (.cells #[.int .i64 id, .int .i64 txn, .int .i64 mo] 45)).ownsRow 0 45 3 (.slice (some ⟨g, 0, none⟩) m c) m (vals .i64 ys)) from HO.out.same ((Kept.refl _ _).alloc _))
            have HN5 := (show Hid (Blk (wr.alloc (.cells #[.int .i64 id, .int .i64 txn, .int .i64 mo] 45)) wr.heap.size 45 [.int .i64 id, .int .i64 txn, .int .i64 mo]) from Blk.newL wr [.int .i64 id, .int .i64 txn, .int .i64 mo] 45)
            have hgl5 := HO.out.lt
            go_wp2_with (first
              | (at_builtin; refine wpList_append_lies _ rfl (.tmp 65) (.tmp 70) 35 rfl 0 45 i0 _ 3 24 Try.underlying35 hi hz0 hz1 hz2 rfl (by omega) (.slice (some ⟨g, 0, none⟩) m c) m (vals .i64 ys) rfl (by exact HKO5.out) ⟨wr.heap.size, 0, none⟩ 1 1 [.int .i64 id, .int .i64 txn, .int .i64 mo] rfl rfl (World.news_of_block (cs := #[.int .i64 id, .int .i64 txn, .int .i64 mo]) (t := 45) (fr := (0, 0)) (by exact HN5.out)) (by simp [Value.oneCell']) (by omega) (by unfold maxLen; omega) (by omega) (Nat.zero_le _) (wr.heap.size + 1) (by simp) ?_; intro g5 cap5 w5 hown hgrow hat hlt; have HO5 := (show Hid (OwnF 3 45 w5 g5 (m + 1) cap5 (ys ++ [id, txn, mo])) from OwnF.of_app3 hown); have hg5 : w.heap.size ≤ g5 := (by rcases hat with h | h; (have : g = g5 := (by simpa [Value.ownBlock] using h); omega); (have := HK.out.size; omega)); have HK5 := hid (Same.app HK.out hgrow (by omega)); clear hown hgrow hat hlt; obtain ⟨db0, db1, db2⟩ := (HV.out.same HK5.out).tri k hla _ _ _ HXA.out; have HKO6 := (show Hid ((w5.alloc (.cells #[.int .i64 x, .int .i64 y, .int .i64 z] 45)).ownsRow 0 45 3 (.slice (some ⟨g5, 0, none⟩) (m + 1) cap5) (m + 1) (vals .i64 (ys ++ [id, txn, mo]))) from HO5.out.same ((Kept.refl _ _).alloc _)); have HN6 := (show Hid (Blk (w5.alloc (.cells #[.int .i64 x, .int .i64 y, .int .i64 z] 45)) w5.heap.size 45 [.int .i64 x, .int .i64 y, .int .i64 z]) from Blk.newL w5 [.int .i64 x, .int .i64 y, .int .i64 z] 45); have hgl6 := HO5.out.lt)
              | (at_builtin; refine wpList_append_lies _ rfl (.tmp 79) (.tmp 84) 35 rfl 0 45 i0 _ 3 24 Try.underlying35 hi hz0 hz1 hz2 rfl (by omega) (.slice (some ⟨g5, 0, none⟩) (m + 1) cap5) (m + 1) (vals .i64 (ys ++ [id, txn, mo])) rfl (by exact HKO6.out) ⟨w5.heap.size, 0, none⟩ 1 1 [.int .i64 x, .int .i64 y, .int .i64 z] rfl rfl (World.news_of_block (cs := #[.int .i64 x, .int .i64 y, .int .i64 z]) (t := 45) (fr := (0, 0)) (by exact HN6.out)) (by simp [Value.oneCell']) (by omega) (by unfold maxLen; omega) (by omega) (Nat.zero_le _) (w5.heap.size + 1) (by simp) ?_; intro g6 cap6 w6 hown hgrow hat hlt; have HO6 := (show Hid (OwnF 3 45 w6 g6 ((m + 1) + 1) cap6 ((ys ++ [id, txn, mo]) ++ [x, y, z])) from OwnF.of_app3 hown); have hg6 : w.heap.size ≤ g6 := (by rcases hat with h | h; (have : g5 = g6 := (by simpa [Value.ownBlock] using h); omega); (have := HK5.out.size; omega)); have HK6 := hid (Same.app HK5.out hgrow (by omega)); clear hown hgrow hat hlt))
            go_roundw
            case rel => exact ⟨k + 1, g6, m + 1 + 1, cap6, (ys ++ [id, txn, mo] ++ [x, y, z]), true, by omega, by omega, rfl, rfl, by go_num, hg6, HO6, by unfold Hid; have h := HY2.out; simpa [flat3] using h, HK6⟩
            case measure => simp [intOf]; omega
        · rw [if_neg (fun h => hge h.2)] at h
          have hx : ¬ x = id := by omega
          have hx1 : (x != id) = true := by simp [hx]
          have hge1 : decide (id ≤ x) = false := by simp; omega
          rw [if_pos hx, hge1] at h
          simp only [Bool.or_false, List.nil_append] at h
          have HY2 := hid h
          clear h
          have HKO5 := (show Hid ((wr.alloc (.cells #[.int .i64 x, .int .i64 y, .int .i64 z] 45)).ownsRow 0 45 3 (.slice (some ⟨g, 0, none⟩) m c) m (vals .i64 ys)) from HO.out.same ((Kept.refl _ _).alloc _))
          have HN5 := (show Hid (Blk (wr.alloc (.cells #[.int .i64 x, .int .i64 y, .int .i64 z] 45)) wr.heap.size 45 [.int .i64 x, .int .i64 y, .int .i64 z]) from Blk.newL wr [.int .i64 x, .int .i64 y, .int .i64 z] 45)
          have hgl5 := HO.out.lt
          go_wp2_with (at_builtin; refine wpList_append_lies _ rfl (.tmp 79) (.tmp 84) 35 rfl 0 45 i0 _ 3 24 Try.underlying35 hi hz0 hz1 hz2 rfl (by omega) (.slice (some ⟨g, 0, none⟩) m c) m (vals .i64 ys) rfl (by exact HKO5.out) ⟨wr.heap.size, 0, none⟩ 1 1 [.int .i64 x, .int .i64 y, .int .i64 z] rfl rfl (World.news_of_block (cs := #[.int .i64 x, .int .i64 y, .int .i64 z]) (t := 45) (fr := (0, 0)) (by exact HN5.out)) (by simp [Value.oneCell']) (by omega) (by unfold maxLen; omega) (by omega) (Nat.zero_le _) (wr.heap.size + 1) (by simp) ?_; intro g5 cap5 w5 hown hgrow hat hlt; have HO5 := (show Hid (OwnF 3 45 w5 g5 (m + 1) cap5 (ys ++ [x, y, z])) from OwnF.of_app3 hown); have hg5 : w.heap.size ≤ g5 := (by rcases hat with h | h; (have : g = g5 := (by simpa [Value.ownBlock] using h); omega); (have := HK.out.size; omega)); have HK5 := hid (Same.app HK.out hgrow (by omega)); clear hown hgrow hat hlt)
          go_roundw
          case rel => exact ⟨k + 1, g5, m + 1, cap5, (ys ++ [x, y, z]), false, by omega, by omega, rfl, rfl, by go_num, hg5, HO5, by unfold Hid; have h := HY2.out; simpa [flat3] using h, HK5⟩
          case measure => simp [intOf]; omega
    · obtain rfl : k = n := by omega
      have HYe := (show Hid (ys ++ flat3 (insH (id, txn, mo) d []) = R) from by have h := HY.out; rwa [show (tri bs).drop k = [] from List.drop_eq_nil_of_le (by rw [HL.out]; exact Nat.le_refl _)] at h)
      clear HY
      cases d with
      | true =>
        go_wp2
        go_ret
        exact ⟨⟨45, some ⟨g, 0, none⟩, m, c, ys⟩, rfl, by rw [← HYe.out]; simp [insH, flat3], fun b hb => by have := FootL_fr hb; omega, HO.out.out, HK.out⟩
      | false =>
        have HKO5 := (show Hid ((wr.alloc (.cells #[.int .i64 id, .int .i64 txn, .int .i64 mo] 45)).ownsRow 0 45 3 (.slice (some ⟨g, 0, none⟩) m c) m (vals .i64 ys)) from HO.out.same ((Kept.refl _ _).alloc _))
        have HN5 := (show Hid (Blk (wr.alloc (.cells #[.int .i64 id, .int .i64 txn, .int .i64 mo] 45)) wr.heap.size 45 [.int .i64 id, .int .i64 txn, .int .i64 mo]) from Blk.newL wr [.int .i64 id, .int .i64 txn, .int .i64 mo] 45)
        have hgl5 := HO.out.lt
        go_wp2_with (at_builtin; refine wpList_append_lies _ rfl (.tmp 88) (.tmp 93) 35 rfl 0 45 i0 _ 3 24 Try.underlying35 hi hz0 hz1 hz2 rfl (by omega) (.slice (some ⟨g, 0, none⟩) m c) m (vals .i64 ys) rfl (by exact HKO5.out) ⟨wr.heap.size, 0, none⟩ 1 1 [.int .i64 id, .int .i64 txn, .int .i64 mo] rfl rfl (World.news_of_block (cs := #[.int .i64 id, .int .i64 txn, .int .i64 mo]) (t := 45) (fr := (0, 0)) (by exact HN5.out)) (by simp [Value.oneCell']) (by omega) (by unfold maxLen; omega) (by omega) (Nat.zero_le _) (wr.heap.size + 1) (by simp) ?_; intro g5 cap5 w5 hown hgrow hat hlt; have HO5 := (show Hid (OwnF 3 45 w5 g5 (m + 1) cap5 (ys ++ [id, txn, mo])) from OwnF.of_app3 hown); have hg5 : w.heap.size ≤ g5 := (by rcases hat with h | h; (have : g = g5 := (by simpa [Value.ownBlock] using h); omega); (have := HK.out.size; omega)); have HK5 := hid (Same.app HK.out hgrow (by omega)); clear hown hgrow hat hlt)
        go_ret
        exact ⟨⟨45, some ⟨g5, 0, none⟩, m + 1, cap5, ys ++ [id, txn, mo]⟩, rfl, by rw [← HYe.out]; simp [insH, flat3], fun b hb => by have := FootL_fr hb; omega, HO5.out.out, HK5.out⟩
end Go.Proofs.Ytagcefbnhpkdiaa
