import Derived.Test.YtmpfpgelaipmnaaG00
import Derived.Test.YtmpfpgelaipmnaaG04
import Derived.Deep.DeepCutAuto
import Derived.Deep.RegionHeld3
import Derived.Deep.AppendLies
import Derived.Deep.MidRow
import Derived.Deep.WholeRow
import Derived.Laws.IdiomCopy
import Derived.Great.BuildSlice
namespace Go.Proofs.Ytmpfpgelaipmnaa
set_option maxHeartbeats 8000000
set_option linter.unusedVariables false
set_option linter.unusedSimpArgs false
set_option maxRecDepth 100000
open Go.RowKit
theorem ownF_none (e : TypeId) (w : World) : OwnF 3 e (w.alloc (.cells #[] e)) w.heap.size 0 0 [] :=
  ⟨rfl, .inr ⟨w.heap.size, 0, #[], rfl, Nat.zero_le _, Blk.new w #[] e, Nat.le_refl _, Nat.zero_le _, rfl, rfl⟩⟩
theorem OwnF.of_app3 {e : TypeId} {w : World} {g n c : Nat} {bs : List Int} {x y z : Int} (h : w.ownsRow 0 e 3 (.slice (some ⟨g, 0, none⟩) n c) n (vals .i64 bs ++ [.int .i64 x, .int .i64 y, .int .i64 z])) : OwnF 3 e w g n c (bs ++ [x, y, z]) := by
  unfold OwnF
  have e : vals .i64 (bs ++ [x, y, z]) = vals .i64 bs ++ [.int .i64 x, .int .i64 y, .int .i64 z] := by simp [vals]
  rw [e]
  exact h
theorem OwnF.kept {R : Nat → Prop} {m : Nat} {e : TypeId} {w w' : World} {g n c : Nat} {bs : List Int} (h : OwnF m e w g n c bs) (hk : Kept R w w') (hr : ¬ R g) : OwnF m e w' g n c bs :=
  hk.owns h (fun b hb => by have hb' : g = b := by simpa [Value.ownBlock] using hb
                            rw [← hb']; exact hr)
theorem OwnF.lt {m : Nat} {e : TypeId} {w : World} {g n c : Nat} {bs : List Int} (h : OwnF m e w g n c bs) : g < w.heap.size := h.out.lt g ((FootL_one _ _).2 rfl)
theorem FootL_fr {e : TypeId} {g n c m : Nat} {bs : List Int} {b : Nat} (h : FootL (FR.rows m ⟨e, some ⟨g, 0, none⟩, n, c, bs⟩) b) : g = b := by
  have h := (FootL_one _ _).1 h
  simpa [FR.v, Value.ownBlock] using h
theorem OwnF.len {m : Nat} {e : TypeId} {w : World} {g n c : Nat} {bs : List Int} (h : OwnF m e w g n c bs) : bs.length = n * m := by
  have := h.1
  rwa [vals_length] at this
theorem Same.app {w wr w3 : World} {g n c : Nat} {o : Obj} (hk : Same w wr) (hg : (wr.alloc o).grownBy w3 (Value.slice (some ⟨g, 0, none⟩) n c).ownBlock) (hw : w.heap.size ≤ g) : Same w w3 :=
  (hk.alloc o).grown hg (fun i e => .inl (by have : g = i := by simpa [Value.ownBlock] using e
                                             omega))
theorem FR.own_nil {m : Nat} {e : TypeId} (w : World) : OwnL w (FR.rows m ⟨e, none, 0, 0, []⟩) :=
  ⟨fun r hr => by rw [List.mem_singleton.1 hr]; exact ⟨by simp [vals], .inl ⟨rfl, rfl⟩⟩, List.pairwise_singleton _ _⟩
def insH (e : T3) : Bool → List T3 → List T3
  | d, [] => if d = true then [] else [e]
  | d, h :: t => (if d = false ∧ e.1 ≤ h.1 then [e] else []) ++ ((if h.1 ≠ e.1 then [h] else []) ++ insH e (d || decide (e.1 ≤ h.1)) t)
def mostH (hs : List T3) (id be af : Int) : Int := maxI (maxI (holdOf id hs) 0) (maxI be af)
def takeH (hs : List T3) (txn id be af : Int) : List Int :=
  if holdsF hs = 0 ∧ inB txn 1 2147483647 = true ∧ inB id 0 511 = true ∧ inB be (-1) 1000 = true ∧ inB af (-1) 1000 = true then flat3 (insH (id, txn, mostH hs id be af) false hs) else []
theorem insH_length (e : T3) : ∀ (ls : List T3) (d : Bool), (insH e d ls).length ≤ 2 * ls.length + 1
  | [], d => by unfold insH; split <;> simp
  | h :: t, d => by
    have := insH_length e t (d || decide (e.1 ≤ h.1))
    unfold insH
    rw [List.length_append, List.length_append, List.length_cons]
    have h1 : (if d = false ∧ e.1 ≤ h.1 then [e] else []).length ≤ 1 := by split <;> simp
    have h2 : (if h.1 ≠ e.1 then [h] else []).length ≤ 1 := by split <;> simp
    omega
theorem takeH_small {bs : List Int} {n : Nat} {txn id be af : Int} (hl : bs.length = n * 3) (hp : n ≤ 1048576) : (takeH (tri bs) txn id be af).length ≤ 16777216 := by
  unfold takeH
  split
  · rw [flat3_length]
    have h1 := insH_length (id, txn, mostH (tri bs) id be af) (tri bs) false
    have h2 := tri_length n bs hl
    omega
  · simp
theorem specHoldTake_any (x : FR) (txn id be af : Int) (w : World) (hv : RdF 3 w x) :
    Calls Try.prog 23 #[x.v, .int .i64 txn, .int .i64 id, .int .i64 be, .int .i64 af] w fun e w' => ∃ y : FR, e = .returned y.v ∧ y.bs = takeH (tri x.bs) txn id be af ∧ (∀ b, FootL (FR.rows 3 y) b → w.heap.size ≤ b) ∧ OwnL w' (FR.rows 3 y) ∧ Same w w' := by
  obtain ⟨i0, hi, hz0, hz1, hz2⟩ := info_parts Try.infoHold
  have k0 := specHoldsFault_any x w hv
  have k1 := fun wx => l4In_any txn 1 2147483647 wx
  have k2 := fun wx => l4In_any id 0 511 wx
  have k3 := fun wx => l4In_any be (-1) 1000 wx
  have k4 := fun wx => l4In_any af (-1) 1000 wx
  have k5 := fun wx (hk : Same w wx) => specHold_any x id wx (hv.same hk)
  obtain ⟨xe, xa, n, xc, bs⟩ := x
  have hm : n ≤ maxLen := hv.1
  unfold maxLen at hm
  have hl := tri_length n bs hv.2.1
  dsimp only [FR.v] at k0 k5 ⊢
  have HV := hid hv
  clear hv
  obtain ⟨R, hR⟩ : ∃ R, takeH (tri bs) txn id be af = R := ⟨_, rfl⟩
  rw [hR]
  unfold takeH at hR
  obtain ⟨q, hq⟩ : ∃ q, holdsF (tri bs) = q := ⟨_, rfl⟩
  rw [hq] at hR k0
  by_cases h0 : q = 0
  case neg =>
    rw [if_neg (fun h => h0 h.1)] at hR
    subst hR
    clear hl hq k5
    go_enter Try.func23, Try.ntmps23
    go_wp2_with fail
    refine k0.mono ?_
    rintro e w1 ⟨rfl, hk1⟩
    have HK1 := (show Hid (Same w w1) from hk1)
    clear hk1
    go_wp2
    go_ret
    exact ⟨⟨45, some ⟨w1.heap.size, 0, none⟩, 0, 0, []⟩, rfl, rfl, fun b hb => by have := FootL_fr hb; have := HK1.out.size; omega, (ownF_none 45 w1).out, HK1.out.alloc _⟩
  subst h0
  have hn := holdsF_len hq
  rw [hl] at hn
  clear hq
  cases f0 : inB txn 1 2147483647 with
  | false =>
    rw [f0] at k1 hR
    rw [if_neg (by simp)] at hR
    subst hR
    go_enter Try.func23, Try.ntmps23
    go_wp2_with (first
      | (go_at_call 19; (with_reducible refine k0.mono ?_); rintro e w1 ⟨rfl, hk1⟩; have HK1 := (show Hid (Same w w1) from hk1); clear hk1 k0)
      | (go_at_call 27; (with_reducible refine (k1 _).mono ?_); rintro e wx0 ⟨rfl, hk⟩; have HKx0 := hid (HK1.out.trans hk); clear hk k1))
    go_ret
    exact ⟨⟨45, some ⟨wx0.heap.size, 0, none⟩, 0, 0, []⟩, rfl, rfl, fun b hb => by have := FootL_fr hb; have := HKx0.out.size; omega, (ownF_none 45 wx0).out, HKx0.out.alloc _⟩
  | true =>
  rw [f0] at k1 hR
  cases f1 : inB id 0 511 with
  | false =>
    rw [f1] at k2 hR
    rw [if_neg (by simp)] at hR
    subst hR
    go_enter Try.func23, Try.ntmps23
    go_wp2_with (first
      | (go_at_call 19; (with_reducible refine k0.mono ?_); rintro e w1 ⟨rfl, hk1⟩; have HK1 := (show Hid (Same w w1) from hk1); clear hk1 k0)
      | (go_at_call 27; (with_reducible refine (k1 _).mono ?_); rintro e wx0 ⟨rfl, hk⟩; have HKx0 := hid (HK1.out.trans hk); clear hk k1)
      | (go_at_call 27; (with_reducible refine (k2 _).mono ?_); rintro e wx1 ⟨rfl, hk⟩; have HKx1 := hid (HKx0.out.trans hk); clear hk k2))
    go_ret
    exact ⟨⟨45, some ⟨wx1.heap.size, 0, none⟩, 0, 0, []⟩, rfl, rfl, fun b hb => by have := FootL_fr hb; have := HKx1.out.size; omega, (ownF_none 45 wx1).out, HKx1.out.alloc _⟩
  | true =>
  rw [f1] at k2 hR
  cases f2 : inB be (-1) 1000 with
  | false =>
    rw [f2] at k3 hR
    rw [if_neg (by simp)] at hR
    subst hR
    go_enter Try.func23, Try.ntmps23
    go_wp2_with (first
      | (go_at_call 19; (with_reducible refine k0.mono ?_); rintro e w1 ⟨rfl, hk1⟩; have HK1 := (show Hid (Same w w1) from hk1); clear hk1 k0)
      | (go_at_call 27; (with_reducible refine (k1 _).mono ?_); rintro e wx0 ⟨rfl, hk⟩; have HKx0 := hid (HK1.out.trans hk); clear hk k1)
      | (go_at_call 27; (with_reducible refine (k2 _).mono ?_); rintro e wx1 ⟨rfl, hk⟩; have HKx1 := hid (HKx0.out.trans hk); clear hk k2)
      | (go_at_call 27; (with_reducible refine (k3 _).mono ?_); rintro e wx2 ⟨rfl, hk⟩; have HKx2 := hid (HKx1.out.trans hk); clear hk k3))
    go_ret
    exact ⟨⟨45, some ⟨wx2.heap.size, 0, none⟩, 0, 0, []⟩, rfl, rfl, fun b hb => by have := FootL_fr hb; have := HKx2.out.size; omega, (ownF_none 45 wx2).out, HKx2.out.alloc _⟩
  | true =>
  rw [f2] at k3 hR
  cases f3 : inB af (-1) 1000 with
  | false =>
    rw [f3] at k4 hR
    rw [if_neg (by simp)] at hR
    subst hR
    go_enter Try.func23, Try.ntmps23
    go_wp2_with (first
      | (go_at_call 19; (with_reducible refine k0.mono ?_); rintro e w1 ⟨rfl, hk1⟩; have HK1 := (show Hid (Same w w1) from hk1); clear hk1 k0)
      | (go_at_call 27; (with_reducible refine (k1 _).mono ?_); rintro e wx0 ⟨rfl, hk⟩; have HKx0 := hid (HK1.out.trans hk); clear hk k1)
      | (go_at_call 27; (with_reducible refine (k2 _).mono ?_); rintro e wx1 ⟨rfl, hk⟩; have HKx1 := hid (HKx0.out.trans hk); clear hk k2)
      | (go_at_call 27; (with_reducible refine (k3 _).mono ?_); rintro e wx2 ⟨rfl, hk⟩; have HKx2 := hid (HKx1.out.trans hk); clear hk k3)
      | (go_at_call 27; (with_reducible refine (k4 _).mono ?_); rintro e wx3 ⟨rfl, hk⟩; have HKx3 := hid (HKx2.out.trans hk); clear hk k4))
    go_ret
    exact ⟨⟨45, some ⟨wx3.heap.size, 0, none⟩, 0, 0, []⟩, rfl, rfl, fun b hb => by have := FootL_fr hb; have := HKx3.out.size; omega, (ownF_none 45 wx3).out, HKx3.out.alloc _⟩
  | true =>
  rw [f3] at k4 hR
  rw [if_pos (by simp)] at hR
  have HR := hid hR
  have HL := hid hl
  clear hR hl f0 f1 f2 f3
  obtain ⟨mo, hmo⟩ : ∃ mo, mostH (tri bs) id be af = mo := ⟨_, rfl⟩
  have HMO := hid hmo
  rw [hmo] at HR
  unfold mostH at hmo
  have m1 := fun wx => specMax_any (holdOf id (tri bs)) 0 wx
  have m2 := fun wx => specMax_any be af wx
  have m3 := fun wx => specMax_any (maxI (holdOf id (tri bs)) 0) (maxI be af) wx
  rw [hmo] at m3
  clear hmo HMO
  generalize holdOf id (tri bs) = ho at k5 m1 m3
  generalize maxI ho 0 = h1 at m1 m3
  generalize maxI be af = h2 at m2 m3
  go_enter Try.func23, Try.ntmps23
  go_wp2_with (first
    | (go_at_call 19; (with_reducible refine k0.mono ?_); rintro e w1 ⟨rfl, hk1⟩; have HK1 := (show Hid (Same w w1) from hk1); clear hk1 k0)
    | (go_at_call 27; (with_reducible refine (k1 _).mono ?_); rintro e wx0 ⟨rfl, hk⟩; have HKx0 := hid (HK1.out.trans hk); clear hk k1)
    | (go_at_call 27; (with_reducible refine (k2 _).mono ?_); rintro e wx1 ⟨rfl, hk⟩; have HKx1 := hid (HKx0.out.trans hk); clear hk k2)
    | (go_at_call 27; (with_reducible refine (k3 _).mono ?_); rintro e wx2 ⟨rfl, hk⟩; have HKx2 := hid (HKx1.out.trans hk); clear hk k3)
    | (go_at_call 27; (with_reducible refine (k4 _).mono ?_); rintro e wx3 ⟨rfl, hk⟩; have HKx3 := hid (HKx2.out.trans hk); clear hk k4)
    | (go_at_call 38; (with_reducible refine (k5 _ HKx3.out).mono ?_); rintro e w5 ⟨rfl, hk⟩; have HK5 := hid (HKx3.out.trans hk); clear hk k5)
    | (go_at_call 37; (with_reducible refine (m1 _).mono ?_); rintro e w6 ⟨rfl, hk⟩; have HK6 := hid (HK5.out.trans hk); clear hk m1)
    | (go_at_call 37; (with_reducible refine (m2 _).mono ?_); rintro e w7 ⟨rfl, hk⟩; have HK7 := hid (HK6.out.trans hk); clear hk m2)
    | (go_at_call 37; (with_reducible refine (m3 _).mono ?_); rintro e w8 ⟨rfl, hk⟩; have HK8 := hid (HK7.out.trans hk); clear hk m3))
  have hz8 := HK8.out.size
  go_loopw [12, 13, 14] (fun o dn i wr => ∃ (k g m c : Nat) (ys : List Int) (d : Bool), k ≤ n ∧ m ≤ 2 * k ∧ o = .slice (some ⟨g, 0, none⟩) m c ∧ dn = .bool d ∧ i = .int .i64 k ∧ w.heap.size ≤ g ∧ Hid (OwnF 3 45 wr g m c ys) ∧ Hid (ys ++ flat3 (insH (id, txn, mo) d ((tri bs).drop k)) = R) ∧ Hid (Same w wr)) (fun _ _ i _ => n - (intOf i).toNat)
  case atStart => exact ⟨0, w8.heap.size, 0, 0, [], false, Nat.zero_le _, Nat.zero_le _, rfl, rfl, rfl, hz8, ownF_none 45 w8, HR, HK8.out.alloc _⟩
  case round =>
    obtain ⟨k, g, m, c, ys, d, hk, hmk, rfl, rfl, rfl, hg, HO, HY, HK⟩ := hrel
    by_cases hlt : k < n
    · obtain ⟨b, off, ha, hc⟩ := HV.out.some (show 0 < n by omega)
      dsimp only at ha hc
      subst ha
      have hla : k < (tri bs).length := by rw [HL.out]; omega
      obtain ⟨⟨x, y, z⟩, hxa⟩ : ∃ q, (tri bs)[k] = q := ⟨_, rfl⟩
      have HXA := hid hxa
      obtain ⟨da0, da1, da2⟩ := (HV.out.same HK.out).tri k hla _ _ _ hxa
      have h := HY.out
      rw [List.drop_eq_getElem_cons hla, hxa] at h
      simp only [insH] at h
      clear hxa HY
      cases d with
      | true =>
        rw [if_neg (by simp)] at h
        by_cases hx : x = id
        · have hx1 : (x != id) = false := by simp [hx]
          rw [if_neg (by simp [hx])] at h
          simp only [Bool.true_or, List.nil_append] at h
          have HY2 := hid h
          clear h
          go_wp2
          go_roundw
          case rel => exact ⟨k + 1, g, m, c, ys, true, by omega, by omega, rfl, rfl, by go_num, hg, HO, by unfold Hid; have h := HY2.out; simpa [flat3] using h, HK⟩
          case measure => simp [intOf]; omega
        · have hx1 : (x != id) = true := by simp [hx]
          rw [if_pos hx] at h
          simp only [Bool.true_or, List.nil_append] at h
          have HY2 := hid h
          clear h
          have HKO5 := (show Hid ((wr.alloc (.cells #[.int .i64 x, .int .i64 y, .int .i64 z] 45)).ownsRow 0 45 3 (.slice (some ⟨g, 0, none⟩) m c) m (vals .i64 ys)) from HO.out.same ((Kept.refl _ _).alloc _))
          have HN5 := (show Hid (Blk (wr.alloc (.cells #[.int .i64 x, .int .i64 y, .int .i64 z] 45)) wr.heap.size 45 [.int .i64 x, .int .i64 y, .int .i64 z]) from Blk.newL wr [.int .i64 x, .int .i64 y, .int .i64 z] 45)
          have hgl5 := HO.out.lt
          go_wp2_with (at_builtin; refine wpList_append_lies _ rfl (.tmp 79) (.tmp 84) 35 rfl 0 45 i0 _ 3 24 Try.underlying35 hi hz0 hz1 hz2 rfl (by omega) (.slice (some ⟨g, 0, none⟩) m c) m (vals .i64 ys) rfl (by exact HKO5.out) ⟨wr.heap.size, 0, none⟩ 1 1 [.int .i64 x, .int .i64 y, .int .i64 z] rfl rfl (World.news_of_block (cs := #[.int .i64 x, .int .i64 y, .int .i64 z]) (t := 45) (fr := (0, 0)) (by exact HN5.out)) (by simp [Value.oneCell']) (by omega) (by unfold maxLen; omega) (by omega) (Nat.zero_le _) (wr.heap.size + 1) (by simp) ?_; intro g5 cap5 w5 hown hgrow hat hlt; have HO5 := (show Hid (OwnF 3 45 w5 g5 (m + 1) cap5 (ys ++ [x, y, z])) from OwnF.of_app3 hown); have hg5 : w.heap.size ≤ g5 := (by rcases hat with h | h; (have : g = g5 := (by simpa [Value.ownBlock] using h); omega); (have := HK.out.size; omega)); have HK5 := hid (Same.app HK.out hgrow (by omega)); clear hown hgrow hat hlt)
          go_roundw
          case rel => exact ⟨k + 1, g5, m + 1, cap5, (ys ++ [x, y, z]), true, by omega, by omega, rfl, rfl, by go_num, hg5, HO5, by unfold Hid; have h := HY2.out; simpa [flat3] using h, HK5⟩
          case measure => simp [intOf]; omega
      | false =>
        by_cases hge : id ≤ x
        · rw [if_pos ⟨rfl, hge⟩] at h
          simp only [hge, decide_true, Bool.or_true] at h
          by_cases hx : x = id
          · have hx1 : (x != id) = false := by simp [hx]
            rw [if_neg (by simp [hx])] at h
            have HY2 := hid h
            clear h
            have HKO5 := (show Hid ((wr.alloc (.cells #[.int .i64 id, .int .i64 txn, .int .i64 mo] 45)).ownsRow 0 45 3 (.slice (some ⟨g, 0, none⟩) m c) m (vals .i64 ys)) from HO.out.same ((Kept.refl _ _).alloc _))
            have HN5 := (show Hid (Blk (wr.alloc (.cells #[.int .i64 id, .int .i64 txn, .int .i64 mo] 45)) wr.heap.size 45 [.int .i64 id, .int .i64 txn, .int .i64 mo]) from Blk.newL wr [.int .i64 id, .int .i64 txn, .int .i64 mo] 45)
            have hgl5 := HO.out.lt
            go_wp2_with (at_builtin; refine wpList_append_lies _ rfl (.tmp 65) (.tmp 70) 35 rfl 0 45 i0 _ 3 24 Try.underlying35 hi hz0 hz1 hz2 rfl (by omega) (.slice (some ⟨g, 0, none⟩) m c) m (vals .i64 ys) rfl (by exact HKO5.out) ⟨wr.heap.size, 0, none⟩ 1 1 [.int .i64 id, .int .i64 txn, .int .i64 mo] rfl rfl (World.news_of_block (cs := #[.int .i64 id, .int .i64 txn, .int .i64 mo]) (t := 45) (fr := (0, 0)) (by exact HN5.out)) (by simp [Value.oneCell']) (by omega) (by unfold maxLen; omega) (by omega) (Nat.zero_le _) (wr.heap.size + 1) (by simp) ?_; intro g5 cap5 w5 hown hgrow hat hlt; have HO5 := (show Hid (OwnF 3 45 w5 g5 (m + 1) cap5 (ys ++ [id, txn, mo])) from OwnF.of_app3 hown); have hg5 : w.heap.size ≤ g5 := (by rcases hat with h | h; (have : g = g5 := (by simpa [Value.ownBlock] using h); omega); (have := HK.out.size; omega)); have HK5 := hid (Same.app HK.out hgrow (by omega)); clear hown hgrow hat hlt; obtain ⟨db0, db1, db2⟩ := (HV.out.same HK5.out).tri k hla _ _ _ HXA.out)
            go_roundw
            case rel => exact ⟨k + 1, g5, m + 1, cap5, (ys ++ [id, txn, mo]), true, by omega, by omega, rfl, rfl, by go_num, hg5, HO5, by unfold Hid; have h := HY2.out; simpa [flat3] using h, HK5⟩
            case measure => simp [intOf]; omega
          · have hx1 : (x != id) = true := by simp [hx]
            rw [if_pos hx] at h
            have HY2 := hid h
            clear h
            have HKO5 := (show Hid ((wr.alloc (.cells #[.int .i64 id, .int .i64 txn, .int .i64 mo] 45)).ownsRow 0 45 3 (.slice (some ⟨g, 0, none⟩) m c) m (vals .i64 ys)) from HO.out.same ((Kept.refl _ _).alloc _))
            have HN5 := (show Hid (Blk (wr.alloc (.cells #[.int .i64 id, .int .i64 txn, .int .i64 mo] 45)) wr.heap.size 45 [.int .i64 id, .int .i64 txn, .int .i64 mo]) from Blk.newL wr [.int .i64 id, .int .i64 txn, .int .i64 mo] 45)
            have hgl5 := HO.out.lt
            go_wp2_with (first
              | (at_builtin; refine wpList_append_lies _ rfl (.tmp 65) (.tmp 70) 35 rfl 0 45 i0 _ 3 24 Try.underlying35 hi hz0 hz1 hz2 rfl (by omega) (.slice (some ⟨g, 0, none⟩) m c) m (vals .i64 ys) rfl (by exact HKO5.out) ⟨wr.heap.size, 0, none⟩ 1 1 [.int .i64 id, .int .i64 txn, .int .i64 mo] rfl rfl (World.news_of_block (cs := #[.int .i64 id, .int .i64 txn, .int .i64 mo]) (t := 45) (fr := (0, 0)) (by exact HN5.out)) (by simp [Value.oneCell']) (by omega) (by unfold maxLen; omega) (by omega) (Nat.zero_le _) (wr.heap.size + 1) (by simp) ?_; intro g5 cap5 w5 hown hgrow hat hlt; have HO5 := (show Hid (OwnF 3 45 w5 g5 (m + 1) cap5 (ys ++ [id, txn, mo])) from OwnF.of_app3 hown); have hg5 : w.heap.size ≤ g5 := (by rcases hat with h | h; (have : g = g5 := (by simpa [Value.ownBlock] using h); omega); (have := HK.out.size; omega)); have HK5 := hid (Same.app HK.out hgrow (by omega)); clear hown hgrow hat hlt; obtain ⟨db0, db1, db2⟩ := (HV.out.same HK5.out).tri k hla _ _ _ HXA.out; have HKO6 := (show Hid ((w5.alloc (.cells #[.int .i64 x, .int .i64 y, .int .i64 z] 45)).ownsRow 0 45 3 (.slice (some ⟨g5, 0, none⟩) (m + 1) cap5) (m + 1) (vals .i64 (ys ++ [id, txn, mo]))) from HO5.out.same ((Kept.refl _ _).alloc _)); have HN6 := (show Hid (Blk (w5.alloc (.cells #[.int .i64 x, .int .i64 y, .int .i64 z] 45)) w5.heap.size 45 [.int .i64 x, .int .i64 y, .int .i64 z]) from Blk.newL w5 [.int .i64 x, .int .i64 y, .int .i64 z] 45); have hgl6 := HO5.out.lt)
              | (at_builtin; refine wpList_append_lies _ rfl (.tmp 79) (.tmp 84) 35 rfl 0 45 i0 _ 3 24 Try.underlying35 hi hz0 hz1 hz2 rfl (by omega) (.slice (some ⟨g5, 0, none⟩) (m + 1) cap5) (m + 1) (vals .i64 (ys ++ [id, txn, mo])) rfl (by exact HKO6.out) ⟨w5.heap.size, 0, none⟩ 1 1 [.int .i64 x, .int .i64 y, .int .i64 z] rfl rfl (World.news_of_block (cs := #[.int .i64 x, .int .i64 y, .int .i64 z]) (t := 45) (fr := (0, 0)) (by exact HN6.out)) (by simp [Value.oneCell']) (by omega) (by unfold maxLen; omega) (by omega) (Nat.zero_le _) (w5.heap.size + 1) (by simp) ?_; intro g6 cap6 w6 hown hgrow hat hlt; have HO6 := (show Hid (OwnF 3 45 w6 g6 ((m + 1) + 1) cap6 ((ys ++ [id, txn, mo]) ++ [x, y, z])) from OwnF.of_app3 hown); have hg6 : w.heap.size ≤ g6 := (by rcases hat with h | h; (have : g5 = g6 := (by simpa [Value.ownBlock] using h); omega); (have := HK5.out.size; omega)); have HK6 := hid (Same.app HK5.out hgrow (by omega)); clear hown hgrow hat hlt))
            go_roundw
            case rel => exact ⟨k + 1, g6, m + 1 + 1, cap6, (ys ++ [id, txn, mo] ++ [x, y, z]), true, by omega, by omega, rfl, rfl, by go_num, hg6, HO6, by unfold Hid; have h := HY2.out; simpa [flat3] using h, HK6⟩
            case measure => simp [intOf]; omega
        · rw [if_neg (fun h => hge h.2)] at h
          have hx : ¬ x = id := by omega
          have hx1 : (x != id) = true := by simp [hx]
          have hge1 : decide (id ≤ x) = false := by simp; omega
          rw [if_pos hx, hge1] at h
          simp only [Bool.or_false, List.nil_append] at h
          have HY2 := hid h
          clear h
          have HKO5 := (show Hid ((wr.alloc (.cells #[.int .i64 x, .int .i64 y, .int .i64 z] 45)).ownsRow 0 45 3 (.slice (some ⟨g, 0, none⟩) m c) m (vals .i64 ys)) from HO.out.same ((Kept.refl _ _).alloc _))
          have HN5 := (show Hid (Blk (wr.alloc (.cells #[.int .i64 x, .int .i64 y, .int .i64 z] 45)) wr.heap.size 45 [.int .i64 x, .int .i64 y, .int .i64 z]) from Blk.newL wr [.int .i64 x, .int .i64 y, .int .i64 z] 45)
          have hgl5 := HO.out.lt
          go_wp2_with (at_builtin; refine wpList_append_lies _ rfl (.tmp 79) (.tmp 84) 35 rfl 0 45 i0 _ 3 24 Try.underlying35 hi hz0 hz1 hz2 rfl (by omega) (.slice (some ⟨g, 0, none⟩) m c) m (vals .i64 ys) rfl (by exact HKO5.out) ⟨wr.heap.size, 0, none⟩ 1 1 [.int .i64 x, .int .i64 y, .int .i64 z] rfl rfl (World.news_of_block (cs := #[.int .i64 x, .int .i64 y, .int .i64 z]) (t := 45) (fr := (0, 0)) (by exact HN5.out)) (by simp [Value.oneCell']) (by omega) (by unfold maxLen; omega) (by omega) (Nat.zero_le _) (wr.heap.size + 1) (by simp) ?_; intro g5 cap5 w5 hown hgrow hat hlt; have HO5 := (show Hid (OwnF 3 45 w5 g5 (m + 1) cap5 (ys ++ [x, y, z])) from OwnF.of_app3 hown); have hg5 : w.heap.size ≤ g5 := (by rcases hat with h | h; (have : g = g5 := (by simpa [Value.ownBlock] using h); omega); (have := HK.out.size; omega)); have HK5 := hid (Same.app HK.out hgrow (by omega)); clear hown hgrow hat hlt)
          go_roundw
          case rel => exact ⟨k + 1, g5, m + 1, cap5, (ys ++ [x, y, z]), false, by omega, by omega, rfl, rfl, by go_num, hg5, HO5, by unfold Hid; have h := HY2.out; simpa [flat3] using h, HK5⟩
          case measure => simp [intOf]; omega
    · obtain rfl : k = n := by omega
      have HYe := (show Hid (ys ++ flat3 (insH (id, txn, mo) d []) = R) from by have h := HY.out; rwa [show (tri bs).drop k = [] from List.drop_eq_nil_of_le (by rw [HL.out]; exact Nat.le_refl _)] at h)
      clear HY
      cases d with
      | true =>
        go_wp2
        go_ret
        exact ⟨⟨45, some ⟨g, 0, none⟩, m, c, ys⟩, rfl, by rw [← HYe.out]; simp [insH, flat3], fun b hb => by have := FootL_fr hb; omega, HO.out.out, HK.out⟩
      | false =>
        have HKO5 := (show Hid ((wr.alloc (.cells #[.int .i64 id, .int .i64 txn, .int .i64 mo] 45)).ownsRow 0 45 3 (.slice (some ⟨g, 0, none⟩) m c) m (vals .i64 ys)) from HO.out.same ((Kept.refl _ _).alloc _))
        have HN5 := (show Hid (Blk (wr.alloc (.cells #[.int .i64 id, .int .i64 txn, .int .i64 mo] 45)) wr.heap.size 45 [.int .i64 id, .int .i64 txn, .int .i64 mo]) from Blk.newL wr [.int .i64 id, .int .i64 txn, .int .i64 mo] 45)
        have hgl5 := HO.out.lt
        go_wp2_with (at_builtin; refine wpList_append_lies _ rfl (.tmp 88) (.tmp 93) 35 rfl 0 45 i0 _ 3 24 Try.underlying35 hi hz0 hz1 hz2 rfl (by omega) (.slice (some ⟨g, 0, none⟩) m c) m (vals .i64 ys) rfl (by exact HKO5.out) ⟨wr.heap.size, 0, none⟩ 1 1 [.int .i64 id, .int .i64 txn, .int .i64 mo] rfl rfl (World.news_of_block (cs := #[.int .i64 id, .int .i64 txn, .int .i64 mo]) (t := 45) (fr := (0, 0)) (by exact HN5.out)) (by simp [Value.oneCell']) (by omega) (by unfold maxLen; omega) (by omega) (Nat.zero_le _) (wr.heap.size + 1) (by simp) ?_; intro g5 cap5 w5 hown hgrow hat hlt; have HO5 := (show Hid (OwnF 3 45 w5 g5 (m + 1) cap5 (ys ++ [id, txn, mo])) from OwnF.of_app3 hown); have hg5 : w.heap.size ≤ g5 := (by rcases hat with h | h; (have : g = g5 := (by simpa [Value.ownBlock] using h); omega); (have := HK.out.size; omega)); have HK5 := hid (Same.app HK.out hgrow (by omega)); clear hown hgrow hat hlt)
        go_ret
        exact ⟨⟨45, some ⟨g5, 0, none⟩, m + 1, cap5, ys ++ [id, txn, mo]⟩, rfl, by rw [← HYe.out]; simp [insH, flat3], fun b hb => by have := FootL_fr hb; omega, HO5.out.out, HK5.out⟩
def RisH (hs : List T3) : Prop := hs.Pairwise (fun a b => a.1 < b.1)
theorem risH_of {hs : List T3} (h : nbr hdAfter hs = false) : RisH hs := by
  induction hs with
  | nil => exact List.Pairwise.nil
  | cons a t ih =>
    cases t with
    | nil => exact List.pairwise_singleton _ _
    | cons b t =>
      simp only [nbr, Bool.or_eq_false_iff] at h
      have h1 : a.1 < b.1 := by simpa [hdAfter] using h.1
      have ih := ih h.2
      refine List.Pairwise.cons (fun c hc => ?_) ih
      rcases List.mem_cons.1 hc with rfl | hc
      · exact h1
      · exact Int.lt_trans h1 ((List.pairwise_cons.1 ih).1 c hc)
theorem holdsF_ris {hs : List T3} (h : holdsF hs = 0) : RisH hs := by
  unfold holdsF at h
  apply risH_of
  by_cases hl : 512 < hs.length
  · rw [if_pos hl] at h; cases h
  · rw [if_neg hl] at h
    cases hn : nbr hdAfter hs with
    | false => rfl
    | true => rw [hn, if_pos rfl] at h; cases h
def LbH (id : Int) (hs : List T3) (k : Nat) : Prop := k ≤ hs.length ∧ (∀ (i : Nat) (h : i < hs.length), i < k → hs[i].1 < id) ∧ (∀ (i : Nat) (h : i < hs.length), k ≤ i → id ≤ hs[i].1)
def fndH (id : Int) (hs : List T3) (k : Nat) : Bool := match hs[k]? with
  | some p => decide (p.1 = id)
  | none => false
theorem LbH.tail {id : Int} {h : T3} {t : List T3} {k : Nat} (hl : LbH id (h :: t) (k + 1)) : LbH id t k :=
  ⟨by have := hl.1; simp at this; omega, fun i hi hk => by have := hl.2.1 (i + 1) (by simpa using hi) (by omega); simpa using this, fun i hi hk => by have := hl.2.2 (i + 1) (by simpa using hi) (by omega); simpa using this⟩
theorem fndH_tail (id : Int) (h : T3) (t : List T3) (k : Nat) : fndH id (h :: t) (k + 1) = fndH id t k := by simp [fndH]
theorem fndH_some {id : Int} {hs : List T3} {k : Nat} (h : fndH id hs k = true) : ∃ hk : k < hs.length, hs[k].1 = id := by
  unfold fndH at h
  cases e : hs[k]? with
  | none => rw [e] at h; cases h
  | some p =>
    rw [e] at h
    obtain ⟨hk, rfl⟩ := List.getElem?_eq_some_iff.1 e
    exact ⟨hk, by simpa using h⟩
theorem fndH_at {id : Int} {hs : List T3} {k : Nat} (hk : k < hs.length) : fndH id hs k = decide (hs[k].1 = id) := by
  unfold fndH
  rw [List.getElem?_eq_getElem hk]
theorem fndH_end {id : Int} {hs : List T3} {k : Nat} (hk : hs.length ≤ k) : fndH id hs k = false := by
  unfold fndH
  rw [List.getElem?_eq_none hk]
theorem insH_done (e : T3) : ∀ (hs : List T3), (∀ p ∈ hs, e.1 < p.1) → insH e true hs = hs
  | [], _ => rfl
  | h :: t, ha => by
    have h1 := ha h (List.mem_cons_self ..)
    have ih := insH_done e t (fun p hp => ha p (List.mem_cons_of_mem _ hp))
    unfold insH
    rw [if_neg (by simp), if_pos (by omega), Bool.true_or, ih]
    rfl
theorem insH_lb (e : T3) : ∀ (hs : List T3) (k : Nat), RisH hs → LbH e.1 hs k → insH e false hs = if fndH e.1 hs k = true then hs.set k e else hs.take k ++ e :: hs.drop k
  | [], k, hr, hl => by simp [insH, fndH, show k = 0 from by have := hl.1; simp at this; omega]
  | h :: t, 0, hr, hl => by
    have h1 : e.1 ≤ h.1 := hl.2.2 0 (by simp) (Nat.le_refl _)
    have hall := (List.pairwise_cons.1 hr).1
    have hd := insH_done e t (fun p hp => Int.lt_of_le_of_lt h1 (hall p hp))
    unfold insH
    rw [if_pos ⟨rfl, h1⟩, show (false || decide (e.1 ≤ h.1)) = true from by simp [h1], hd]
    by_cases he : h.1 = e.1
    · rw [if_neg (by simp [he]), if_pos (by simp [fndH, he])]
      simp
    · rw [if_pos he, if_neg (by simp [fndH, he])]
      simp
  | h :: t, k + 1, hr, hl => by
    have h1 : h.1 < e.1 := hl.2.1 0 (by simp) (by omega)
    have ih := insH_lb e t k (List.pairwise_cons.1 hr).2 hl.tail
    unfold insH
    rw [if_neg (by omega), if_pos (by omega), show (false || decide (e.1 ≤ h.1)) = false from by simp; omega, ih, fndH_tail]
    split <;> simp
theorem holdOf_lb (id : Int) : ∀ (hs : List T3) (k : Nat), RisH hs → LbH id hs k → holdOf id hs = if fndH id hs k = true then (hs.getD k (0, 0, 0)).2.2 else -1
  | [], k, hr, hl => by simp [holdOf, fndH]
  | h :: t, 0, hr, hl => by
    have h1 : id ≤ h.1 := hl.2.2 0 (by simp) (Nat.le_refl _)
    have hall := (List.pairwise_cons.1 hr).1
    have hno : ∀ ts : List T3, (∀ p ∈ ts, id < p.1) → holdOf id ts = -1 := by
      intro ts
      induction ts with
      | nil => intro _; rfl
      | cons q ts ih =>
        intro hq
        unfold holdOf
        rw [if_neg (by have := hq q (List.mem_cons_self ..); omega)]
        exact ih (fun p hp => hq p (List.mem_cons_of_mem _ hp))
    unfold holdOf
    by_cases he : h.1 = id
    · rw [if_pos he, if_pos (by simp [fndH, he])]
      simp
    · rw [if_neg he, if_neg (by simp [fndH, he])]
      exact hno t (fun p hp => Int.lt_of_le_of_lt h1 (hall p hp))
  | h :: t, k + 1, hr, hl => by
    have h1 : h.1 < id := hl.2.1 0 (by simp) (by omega)
    have ih := holdOf_lb id t k (List.pairwise_cons.1 hr).2 hl.tail
    unfold holdOf
    rw [if_neg (by omega), ih, fndH_tail]
    simp
theorem news_i64 {w : World} {b off : Nat} {bs : List Int} (hc : ∀ i, i < bs.length → w.cell? ⟨b, off + i, none⟩ = some (.int .i64 (bs.getD i 0))) (j : Nat) (u : Value) (h : (vals .i64 bs)[j]? = some u) : w.cell? ((⟨b, off, none⟩ : Addr).add j) = some u := by
  have hj : j < bs.length := by have := (List.getElem?_eq_some_iff.1 h).1; rwa [vals_length] at this
  rw [vals_at _ _ _ hj] at h
  rw [Addr.add_lit, hc j hj]
  exact h
theorem fr_of_own {e : TypeId} {w : World} {v : Value} {n base : Nat} {bs : List Int} (h : w.ownsRow base e 3 v n (vals .i64 bs)) : ∃ a c, v = .slice a n c ∧ OwnL w (FR.rows 3 ⟨e, a, n, c, bs⟩) ∧ (∀ b, FootL (FR.rows 3 ⟨e, a, n, c, bs⟩) b → base ≤ b) := by
  have h0 : w.ownsRow 0 e 3 v n (vals .i64 bs) := ⟨h.1, by
    rcases h.2 with h | ⟨g, cap, cur, h1, hb, h3⟩
    · exact .inl h
    · exact .inr ⟨g, cap, cur, h1, Nat.zero_le _, h3⟩⟩
  rcases h.2 with ⟨rfl, h2⟩ | ⟨g, cap, cur, rfl, hb, hgg, hc, hm, hs, ht⟩
  · obtain rfl : n = 0 := by
      have := h.1; rw [h2] at this; simp at this; omega
    exact ⟨none, 0, rfl, ⟨fun r hr => by rw [List.mem_singleton.1 hr]; exact h0, List.pairwise_singleton _ _⟩, fun b hb => by have := (FootL_one _ _).1 hb; simp [FR.v, Value.ownBlock] at this⟩
  · exact ⟨some ⟨g, 0, none⟩, cap, rfl, ⟨fun r hr => by rw [List.mem_singleton.1 hr]; exact h0, List.pairwise_singleton _ _⟩, fun b hb' => by have := FootL_fr hb'; omega⟩
theorem cloneH_any (x : FR) (w : World) (hn : x.n ≤ 1048576) (hv : RdF 3 w x) :
    Calls Try.prog 43 #[x.v] w fun e w' => ∃ a c, e = .returned (.slice a x.n c) ∧ OwnL w' (FR.rows 3 ⟨45, a, x.n, c, x.bs⟩) ∧ (∀ b, FootL (FR.rows 3 ⟨45, a, x.n, c, x.bs⟩) b → w.heap.size ≤ b) ∧ Same w w' := by
  obtain ⟨i0, hi, hz0, hz1, hz2⟩ := info_parts Try.infoHold
  have hnil := fun (wx : World) (a : Option Addr) (n c : Nat) => Lib.run_eql_slice_nil (P := Try.prog) wx 35 45 a n c 0 0 Try.underlying35
  obtain ⟨xe, xa, n, xc, bs⟩ := x
  dsimp only [FR.v] at hn ⊢
  have hl : bs.length = n * 3 := hv.2.1
  cases xa with
  | none =>
    obtain rfl : n = 0 := by
      rcases hv.2.2 with h | ⟨b, off, h, _⟩
      · exact h
      · cases h
    obtain rfl : bs = [] := List.length_eq_zero_iff.1 (by omega)
    clear hv hn hl
    go_enter Try.func43, Try.ntmps43
    go_wp2
    go_ret
    exact ⟨_, _, rfl, FR.own_nil _, fun b hb => by have := (FootL_one _ _).1 hb; simp [FR.v, Value.ownBlock] at this, Kept.refl _ _⟩
  | some ad =>
    obtain ⟨b0, off0, vw⟩ := ad
    have HNW : Hid (∀ j u, (vals .i64 bs)[j]? = some u → (w.alloc (.cells #[] 45)).cell? ((⟨b0, off0, vw⟩ : Addr).add j) = some u) := by
      rcases hv.2.2 with h | ⟨b, off, h, _, hc⟩
      · dsimp only at h
        subst h
        obtain rfl : bs = [] := List.length_eq_zero_iff.1 (by omega)
        intro j u hj
        simp [vals] at hj
      · dsimp only at h hc
        injection h with h
        injection h with h1 h2 h3
        subst h1 h2 h3
        have hc2 : ∀ i, i < bs.length → (w.alloc (.cells #[] 45)).cell? ⟨b0, off0 + i, none⟩ = some (.int .i64 (bs.getD i 0)) := fun i hi => ((Kept.refl (fun _ => False) w).alloc _).cellOf (hc i (by omega)) (fun h => h)
        exact news_i64 hc2
    clear hv
    go_enter Try.func43, Try.ntmps43
    go_wp2_with (at_builtin; refine wpList_append_own _ rfl (.tmp 5) (.tmp 6) 35 rfl w.heap.size 45 i0 _ 3 24 Try.underlying35 hi hz0 hz1 hz2 rfl (by decide) (.slice (some ⟨w.heap.size, 0, none⟩) 0 0) 0 [] rfl (World.ownsRow_made w #[] 0 (Nat.le_refl _) (by simp) (by simp)) ⟨b0, off0, vw⟩ n xc (vals .i64 bs) rfl (by rw [vals_length]; exact hl) HNW.out vals_one (by unfold maxLen; omega) (by omega) (by simp) ?_; intro v' w1 hown1 hgrow1 _; have HF := (show Hid (w1.ownsRow w.heap.size 45 3 v' n (vals .i64 bs)) from (by simpa [Hid] using hown1)); have HK : Hid (Same w w1) := ((Kept.refl _ _).alloc _).grown hgrow1 (fun k e => .inl (by simp [Value.ownBlock] at e; omega)); obtain ⟨aa, ca, rfl, ho, hb⟩ := fr_of_own HF.out; have HO := hid ho; have HB := hid hb; clear hown1 hgrow1 ho hb)
    go_ret
    exact ⟨_, _, rfl, HO.out, HB.out, HK.out⟩
theorem findHold1_any (p : T3) (id : Int) (w : World) :
    Calls Try.prog 49 #[.agg #[.int .i64 p.1, .int .i64 p.2.1, .int .i64 p.2.2], .int .i64 id] w fun e w' => e = .returned (.int .i64 (cmpI p.1 id)) ∧ Same w w' := by
  obtain ⟨x, y, z⟩ := p
  dsimp only
  have HB0 := (show Hid (Blk (w.alloc (.cells #[.int .i64 x, .int .i64 y, .int .i64 z] 45)) w.heap.size 45 [.int .i64 x, .int .i64 y, .int .i64 z]) from Blk.newL w _ _)
  have HK0 := hid (sameA w [.int .i64 x, .int .i64 y, .int .i64 z] 45)
  obtain ⟨c0, c1, c2⟩ := HB0.out.all3
  have k0 := compare8_any x id
  go_enter Try.func49, Try.ntmps49
  go_wp2_with fail
  refine (k0 _).mono ?_
  rintro e w1 ⟨rfl, rfl⟩
  go_wp2
  go_ret
  exact ⟨rfl, HK0.out⟩
theorem enters_fh : Enters8 49 := fun args wx => by simp [callFunc, go_sem, Try.func49, Try.f49]
theorem bsearchH_any (x : FR) (id : Int) (w : World) (hv : RdF 3 w x) (hn : x.n ≤ 1048576) (hr : RisH (tri x.bs)) :
    Calls Try.prog 48 #[x.v, .int .i64 id, .func (.func 49) #[] #[]] w fun e w' => ∃ k : Nat, e = .returned (.tuple #[.int .i64 k, .bool (fndH id (tri x.bs) k)]) ∧ LbH id (tri x.bs) k ∧ Same w w' := by
  obtain ⟨xe, xa, n, xc, bs⟩ := x
  have hl := tri_length n bs hv.2.1
  dsimp only [FR.v] at hn hr ⊢
  have HV := hid hv
  have HL := hid hl
  have HR := hid hr
  clear hv hl hr
  have hent' : ∀ (args : Array Value) (wx : World), (callFunc 49 args).run Try.prog wx = .ok (.enter 49 args) wx := enters_fh
  go_enter Try.func48, Try.ntmps48
  go_wp2_with fail
  go_loopw [9, 10] (fun i j wr => ∃ (k m : Nat), k ≤ m ∧ m ≤ n ∧ i = .int .i64 k ∧ j = .int .i64 m ∧ Hid ((∀ (q : Nat) (h : q < (tri bs).length), q < k → (tri bs)[q].1 < id) ∧ (∀ (q : Nat) (h : q < (tri bs).length), m ≤ q → id ≤ (tri bs)[q].1)) ∧ Hid (Same w wr)) (fun i j _ => (intOf j).toNat - (intOf i).toNat)
  case atStart => exact ⟨0, n, Nat.zero_le _, Nat.le_refl _, rfl, rfl, ⟨fun q h hq => by omega, fun q h hq => by have := HL.out; omega⟩, Kept.refl _ _⟩
  case round =>
    obtain ⟨k, m, hkm, hmn, rfl, rfl, HI, HK⟩ := hrel
    by_cases hlt : k < m
    · obtain ⟨b, off, ha, hc⟩ := HV.out.some (show 0 < n by omega)
      dsimp only at ha hc
      subst ha
      obtain ⟨h, hh⟩ : ∃ h, (k + m) / 2 = h := ⟨_, rfl⟩
      have hh1 : k ≤ h := by omega
      have hh2 : h < m := by omega
      have hhn : h < n := by omega
      have hla : h < (tri bs).length := by rw [HL.out]; omega
      have hw1 : IntKind.i64.wrap ((k : Int) + (m : Int)) = ((k + m : Nat) : Int) := by rw [IntKind.wrap_i64]; omega
      obtain ⟨⟨x, y, z⟩, hxa⟩ : ∃ q, (tri bs)[h] = q := ⟨_, rfl⟩
      have HX := hid hxa
      obtain ⟨da0, da1, da2⟩ := (HV.out.same HK.out).tri h hla _ _ _ hxa
      have kf := findHold1_any (x, y, z) id wr
      dsimp only at kf
      clear hxa
      by_cases hcmp : x < id
      · have HI2 : Hid ((∀ (q : Nat) (h' : q < (tri bs).length), q < h + 1 → (tri bs)[q].1 < id) ∧ (∀ (q : Nat) (h' : q < (tri bs).length), m ≤ q → id ≤ (tri bs)[q].1)) := ⟨fun q h' hq => by
          by_cases e : q = h
          · subst e; rw [HX.out]; exact hcmp
          · have h1 := (List.pairwise_iff_getElem.1 HR.out) q h h' hla (by omega)
            rw [HX.out] at h1
            exact Int.lt_trans h1 hcmp, HI.out.2⟩
        rw [show cmpI x id = -1 from if_pos hcmp] at kf
        clear HI hcmp
        subst hh
        go_wp2_with fail
        refine kf.mono ?_
        rintro e w1 ⟨rfl, hk1⟩
        have HK1 := hid (HK.out.trans hk1)
        clear da0 da1 da2 kf hk1
        go_wp2
        go_roundw
        case rel => exact ⟨(k + m) / 2 + 1, m, by omega, by omega, by go_num, rfl, HI2, HK1⟩
        case measure => simp [intOf]; omega
      · have HI2 : Hid ((∀ (q : Nat) (h' : q < (tri bs).length), q < k → (tri bs)[q].1 < id) ∧ (∀ (q : Nat) (h' : q < (tri bs).length), h ≤ q → id ≤ (tri bs)[q].1)) := ⟨HI.out.1, fun q h' hq => by
          by_cases e : q = h
          · subst e; rw [HX.out]; exact Int.not_lt.1 hcmp
          · have h1 := (List.pairwise_iff_getElem.1 HR.out) h q hla h' (by omega)
            rw [HX.out] at h1
            exact Int.le_trans (Int.not_lt.1 hcmp) (Int.le_of_lt h1)⟩
        have hge : ¬ cmpI x id < 0 := by unfold cmpI; rw [if_neg hcmp]; split <;> omega
        obtain ⟨cq, hcq⟩ : ∃ cq, cmpI x id = cq := ⟨_, rfl⟩
        rw [hcq] at kf hge
        clear HI hcmp hcq
        subst hh
        go_wp2_with fail
        refine kf.mono ?_
        rintro e w1 ⟨rfl, hk1⟩
        have HK1 := hid (HK.out.trans hk1)
        clear da0 da1 da2 kf hk1
        go_wp2
        go_roundw
        case rel => exact ⟨k, (k + m) / 2, by omega, by omega, rfl, by go_num, HI2, HK1⟩
        case measure => simp [intOf]; omega
    · obtain rfl : k = m := by omega
      have HLB : Hid (LbH id (tri bs) k) := ⟨by rw [HL.out]; exact hmn, HI.out.1, HI.out.2⟩
      by_cases hkn : k < n
      · obtain ⟨b, off, ha, hc⟩ := HV.out.some (show 0 < n by omega)
        dsimp only at ha hc
        subst ha
        have hla : k < (tri bs).length := by rw [HL.out]; omega
        obtain ⟨⟨x, y, z⟩, hxa⟩ : ∃ q, (tri bs)[k] = q := ⟨_, rfl⟩
        have HX := hid hxa
        obtain ⟨da0, da1, da2⟩ := (HV.out.same HK.out).tri k hla _ _ _ hxa
        have kf := findHold1_any (x, y, z) id wr
        dsimp only at kf
        have HF : Hid (fndH id (tri bs) k = (cmpI x id == 0)) := by
          unfold Hid
          rw [fndH_at hla, hxa]
          unfold cmpI
          rw [Bool.eq_iff_iff]
          simp
          split <;> (try split) <;> omega
        obtain ⟨cq, hcq⟩ : ∃ cq, cmpI x id = cq := ⟨_, rfl⟩
        rw [hcq] at kf HF
        clear hxa HI hcq
        go_wp2_with fail
        refine kf.mono ?_
        rintro e w1 ⟨rfl, hk1⟩
        have HK1 := hid (HK.out.trans hk1)
        clear da0 da1 da2 kf hk1
        go_wp2
        go_ret2
        exact ⟨k, by rw [HF.out]; rfl, HLB.out, HK1.out⟩
      · have HF : Hid (fndH id (tri bs) k = false) := fndH_end (by rw [HL.out]; omega)
        clear HI
        go_wp2
        go_ret2
        exact ⟨k, by rw [HF.out]; rfl, HLB.out, HK.out⟩
theorem findHold_any (x : FR) (id : Int) (w : World) (hv : RdF 3 w x) (hn : x.n ≤ 1048576) (hr : RisH (tri x.bs)) :
    Calls Try.prog 44 #[x.v, .int .i64 id] w fun e w' => ∃ k : Nat, e = .returned (.tuple #[.int .i64 k, .bool (fndH id (tri x.bs) k)]) ∧ LbH id (tri x.bs) k ∧ Same w w' := by
  have k0 := bsearchH_any x id w hv hn hr
  generalize fndH id (tri x.bs) = F at k0 ⊢
  obtain ⟨xe, xa, n, xc, bs⟩ := x
  dsimp only [FR.v] at k0 ⊢
  clear hv hn hr
  go_enter Try.func44, Try.ntmps44
  go_wp2_with fail
  refine k0.mono ?_
  rintro e w1 ⟨k, rfl, hlb, hk1⟩
  have HLB := hid hlb
  clear hlb
  go_wp2
  go_ret2
  exact ⟨k, rfl, HLB.out, hk1⟩
theorem addr_add (B o j : Nat) : (⟨B, o, none⟩ : Addr).add j = ⟨B, o + j, none⟩ := by unfold Addr.add; split <;> simp_all
theorem Blk.loads {P : Program} {w : World} {B : Nat} {e : TypeId} {xs : List Value} (h : Blk w B e xs) (o n : Nat) (hn : o + n ≤ xs.length) : (loadCellsFrom ⟨B, o, none⟩ 0 n #[]).run P w = .ok ((xs.drop o).take n).toArray w := by
  have hl : ((xs.drop o).take n).length = n := by simp; omega
  have := run_loadCells_list (P := P) w ⟨B, o, none⟩ ((xs.drop o).take n) (fun j v hv => by
    rw [addr_add, h.cell]
    have hj : j < n := by have := (List.getElem?_eq_some_iff.1 hv).1; omega
    rw [List.getElem?_take_of_lt hj, List.getElem?_drop] at hv
    exact hv)
  simpa [loadCells, hl] using this
theorem Blk.setCells {B : Nat} {e : TypeId} : ∀ (vs : List Value) (o : Nat) {w : World} {xs : List Value}, Blk w B e xs → o + vs.length ≤ xs.length → Blk (w.setCells B o vs) B e (lay xs o vs)
  | [], o, w, xs, h, _ => by rw [lay_nil]; exact h
  | v :: vs, o, w, xs, h, hl => by
    simp only [List.length_cons] at hl
    have := Blk.setCells vs (o + 1) (h.stored o v) (by rw [List.length_set]; omega)
    rw [lay_cons _ _ _ _ hl] at this
    exact this
theorem Kept.setCells {R : Nat → Prop} {a : World} {B : Nat} (hB : a.heap.size ≤ B ∨ R B) : ∀ (vs : List Value) (o : Nat) {b : World}, Kept R a b → Kept R a (b.setCells B o vs)
  | [], _, _, h => h
  | v :: vs, o, b, h => Kept.setCells hB vs (o + 1) (h.setCell (p := ⟨B, o, none⟩) hB v)
theorem Blk.range {w : World} {B : Nat} {e : TypeId} {xs : List Value} (h : Blk w B e xs) (o : Nat) (cs : List Value) (hc : ∀ j v, cs[j]? = some v → xs[o + j]? = some v) : w.rangeAt B o cs := fun j v hv => by
  rw [h.cell]
  exact hc j v hv
theorem Blk.there {w : World} {B : Nat} {e : TypeId} {xs : List Value} (h : Blk w B e xs) (o n : Nat) (hn : o + n ≤ xs.length) : w.there B o n := fun j hj => ⟨by rw [h.cell, List.getElem?_eq_getElem (by omega)]; rfl, h.frozen _⟩
theorem run_copy_m {P : Program} (w : World) (dT sT ty elem : TypeId) (m b o dLen dCap : Nat) (a : Addr) (sLen sCap c : Nat) (cs : List Value)
    (hu : P.underlying dT = some (.slice elem)) (hs : (P.info? elem).map (·.size) = some m) (hc0 : Nat.min sLen dLen = c) (hn : c * m = cs.length)
    (hsrc : ∀ j v, cs[j]? = some v → w.cell? (a.add j) = some v) (hc : ∀ j, j < cs.length → (w.cell? ⟨b, o + j, none⟩).isSome = true) (hf : ∀ j, j < cs.length → w.frozen? ⟨b, o + j, none⟩ = false) (h1 : ∀ v ∈ cs, v.oneCell' = true) :
    (Builtin.copy_ #[dT, sT] ty #[.slice (some ⟨b, o, none⟩) dLen dCap, .slice (some a) sLen sCap]).run P w = .ok (goInt c) (w.setCells b o cs) := by
  have hl := run_loadCells_list (P := P) w a cs hsrc
  have hst := run_storeCells_cells (P := P) b o cs 0 w (by simpa using hc) (by simpa using hf) h1
  cases hq : P.info? elem with
  | none => simp [hq] at hs
  | some i =>
    have hi : i.size = m := by simpa [hq] using hs
    simp [Builtin.copy_, run_underlying hu, Builtin.lenOf, Builtin.firstCells, sizeOf, typeInfo, hq, hi, hc0, hn, hl, hst]
section
variable {P : Program} {ops : Array Oper} {o : Oper} {a : Act} {w : World} {K : Act → World → Prop} {Q : Exit → Act → World → Prop} {E : Prop}
theorem step_copy_m {B off dl dc sl sc m c : Nat} {e tb : TypeId} {ad : Addr} {xs : List Value} (hgd : o.guard = none) (d s : Operand) (T : TypeId) (ho : o.op = .call { callee := .builtin .copy, args := #[d, s], argTypes := #[T, T] })
    (hu : P.underlying T = some (.slice tb)) (hsz : (P.info? tb).map (·.size) = some m) (cs : List Value) (hb : Blk w B e xs) (hd : a.eval d = .slice (some ⟨B, off, none⟩) dl dc) (hs : a.eval s = .slice (some ad) sl sc)
    (hc0 : Nat.min sl dl = c) (hn : c * m = cs.length) (hsrc : ∀ j v, cs[j]? = some v → w.cell? (ad.add j) = some v) (hfit : off + cs.length ≤ xs.length) (h1 : ∀ v ∈ cs, v.oneCell' = true)
    (h : K (a.put o.dst (goInt c)) (w.setCells B off cs)) :
    if Region.wanted o (yielded ops a.tmps) = true then Oper.wp P o a w K Q else E := by
  have hw : Region.wanted o (yielded ops a.tmps) = true := by simp [Region.wanted, hgd]
  rw [if_pos hw]
  have hrun := run_copy_m (P := P) w T T o.type tb m B off dl dc ad sl sc c cs hu hsz hc0 hn hsrc (fun j hj => by rw [hb.cell, List.getElem?_eq_getElem (by omega)]; rfl) (fun j _ => hb.frozen _) h1
  unfold Oper.wp
  simp [execOp, ho, resolve, invoke, builtin, hd, hs, hrun, Result.andThen]
  exact h
end
end Go.Proofs.Ytmpfpgelaipmnaa
