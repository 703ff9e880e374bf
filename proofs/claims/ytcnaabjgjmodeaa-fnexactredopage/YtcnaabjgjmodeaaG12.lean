import Derived.Test.YtcnaabjgjmodeaaG00
import Derived.Test.YtcnaabjgjmodeaaG06
import Derived.Deep.DeepCutAuto
import Derived.Deep.RegionHeld3
namespace Go.Proofs.Ytcnaabjgjmodeaa
set_option maxRecDepth 100000
set_option maxHeartbeats 2000000
open Go.ChangeShapes Go.WideShapes Go.ChangeAt Go.RowKit
set_option linter.unusedVariables false
set_option linter.unusedSimpArgs false
section
variable {H : Type} {enc : TypeId × Value → H} {w : World} {base : Nat} {spare : Nat → Bool} {held : Bool}
theorem read_rows {E : Type} [Inhabited E] (K : RowK E) (Q : E → Prop) {t e : TypeId} (hm0 : 0 < K.m) (ht : Try.prog.underlying t = some (.slice e)) (hc : Try.prog.cellsOf e = K.m)
    (he : ∀ (n : Nat) (cs : List Value) (x : DataW H × List MemPlace), cs.length = K.m → DataW.trod enc Try.prog w base spare held n e cs = some x → ∃ p : E, cs = K.cells p ∧ Rd .u8 w (K.v p) (K.bs p) ∧ Q p)
    {fuel : Nat} {v : Value} {x : DataW H × List MemPlace} (h : DataW.trod enc Try.prog w base spare held fuel t [v] = some x) : ∃ ps : List E, RdR K w v ps ∧ ∀ p ∈ ps, Q p := by
  rcases Deep.open_slice ht h with ⟨hcs, _⟩ | ⟨a, len, cap, m', n, D, Pl, hcs, hb, hl, hm, hmm, _, hx⟩
  · simp at hcs
    subst hcs
    exact ⟨[], ⟨Nat.zero_le _, .inl ⟨rfl, _, _, rfl⟩, fun p hp => by simp at hp⟩, fun p hp => by simp at hp⟩
  · simp at hcs
    subst hcs
    have hlm : len ≤ m' := by rw [hmm]; split <;> omega
    have each : ∀ i, i < len → ∃ p : E, (∀ j, j < K.m → w.cell? ((a.add (i * K.m)).add j) = (K.cells p)[j]?) ∧ Rd .u8 w (K.v p) (K.bs p) ∧ Q p := fun i hi => by
      obtain ⟨cs', h1, h2⟩ := hx i (by omega)
      rw [hc] at h1
      obtain ⟨_, hlen, hcell⟩ := World.cells?_some h1
      obtain ⟨p, rfl, hr, hq⟩ := he _ _ _ (by omega) h2
      exact ⟨p, fun j hj => hcell j (by omega), hr, hq⟩
    obtain ⟨f, hf⟩ := Deep.choose_lt each
    refine ⟨(List.range len).map f, ⟨by simp; omega, ?_, fun p hp => ?_⟩, fun p hp => ?_⟩
    · by_cases h0 : len = 0
      · subst h0
        exact .inl ⟨by simp, _, _, rfl⟩
      · have ha : ∃ b off, a = ⟨b, off, none⟩ := by
          have h1 := (hf 0 (by omega)).1 0 hm0
          rw [Nat.zero_mul, List.getElem?_eq_getElem (by rw [K.len]; exact hm0)] at h1
          have e0 : a.add 0 = a := by cases a; simp [Addr.add]
          rw [e0] at h1
          exact addr_form (a := a) h1
        obtain ⟨b, off, rfl⟩ := ha
        refine .inr ⟨b, off, cap, by simp, fun j i hj hi => ?_⟩
        have hj' : j < len := by simpa using hj
        have h1 := (hf j hj').1 i hi
        rw [add_none, add_none, Nat.add_assoc] at h1
        simpa using h1
    · obtain ⟨i, hi, rfl⟩ := List.mem_map.1 hp
      exact (hf i (List.mem_range.1 hi)).2.1
    · obtain ⟨i, hi, rfl⟩ := List.mem_map.1 hp
      exact (hf i (List.mem_range.1 hi)).2.2
end
end Go.Proofs.Ytcnaabjgjmodeaa

namespace Go.Proofs.Ytcnaabjgjmodeaa
open Go.RowKit
set_option linter.unusedVariables false
set_option linter.unusedSimpArgs false
def RdF (m : Nat) (w : World) (x : FR) : Prop :=
  x.n ≤ maxLen ∧ x.bs.length = x.n * m ∧ (x.n = 0 ∨ ∃ b off, x.a = some ⟨b, off, none⟩ ∧ x.n ≤ x.c ∧ ∀ i, i < x.n * m → w.cell? ⟨b, off + i, none⟩ = some (.int .i64 (x.bs.getD i 0)))
theorem RdF.kept {R : Nat → Prop} {m : Nat} {w w' : World} {x : FR} (h : RdF m w x) (hk : Kept R w w') (hr : ∀ b, x.v.ownBlock = some b → ¬ R b) : RdF m w' x := by
  refine ⟨h.1, h.2.1, ?_⟩
  rcases h.2.2 with h | ⟨b, off, he, hle, hc⟩
  · exact .inl h
  · exact .inr ⟨b, off, he, hle, fun i hi => hk.cellOf (hc i hi) (hr b (by simp [FR.v, he, Value.ownBlock]))⟩
theorem RdF.same {m : Nat} {w w' : World} {x : FR} (h : RdF m w x) (hk : Same w w') : RdF m w' x := h.kept hk (fun _ _ => id)
def OwnF (m : Nat) (e : TypeId) (w : World) (g n c : Nat) (bs : List Int) : Prop := w.ownsRow 0 e m (.slice (some ⟨g, 0, none⟩) n c) n (vals .i64 bs)
theorem FR.own_one {m : Nat} {w : World} {x : FR} (h : OwnL w (x.rows m)) : w.ownsRow 0 x.e m x.v x.n (vals .i64 x.bs) := h.own _ (List.mem_singleton.2 rfl)
theorem FR.own_len {m : Nat} {w : World} {x : FR} (h : OwnL w (x.rows m)) : x.bs.length = x.n * m := by
  have := (FR.own_one h).1
  rwa [vals_length] at this
theorem FR.own_form {m : Nat} {w : World} {x : FR} (h : OwnL w (x.rows m)) : (x.n = 0 ∧ x.a = none ∧ x.c = 0) ∨ ∃ g, x.a = some ⟨g, 0, none⟩ ∧ x.n ≤ x.c ∧ x.c ≤ maxLen ∧ OwnF m x.e w g x.n x.c x.bs := by
  have h1 := FR.own_one h
  rcases h1.2 with ⟨h2, h3⟩ | ⟨g, cap, cur, hv, hb, hgg, hc, hm, hs, ht⟩
  · simp only [FR.v] at h2
    injection h2 with a1 a2 a3
    exact .inl ⟨a2, a1, a3⟩
  · have hv' := hv
    simp only [FR.v] at hv'
    injection hv' with a1 a2 a3
    refine .inr ⟨g, a1, by omega, by omega, ?_⟩
    unfold OwnF
    rw [a3, ← hv]
    exact h1
theorem OwnF.cell {m : Nat} {e : TypeId} {w : World} {g n c : Nat} {bs : List Int} (h : OwnF m e w g n c bs) (j : Nat) (hj : j < n * m) : w.cell? ⟨g, j, none⟩ = some (.int .i64 (bs.getD j 0)) := by
  have h1 := h.1
  rw [vals_length] at h1
  rw [World.ownsRow.cellAt h j hj, vals_at .i64 bs j (by omega)]
theorem OwnF.frozen {m : Nat} {e : TypeId} {w : World} {g n c : Nat} {bs : List Int} (h : OwnF m e w g n c bs) (j : Nat) : w.frozen? ⟨g, j, none⟩ = false := World.ownsRow.frozenAt h j
theorem OwnF.stored {m : Nat} {e : TypeId} {w : World} {g n c : Nat} {bs : List Int} (h : OwnF m e w g n c bs) (j : Nat) (x : Int) : OwnF m e (w.setCell ⟨g, j, none⟩ (.int .i64 x)) g n c (bs.set j x) := by
  have := (World.ownsRow.stored h j (.int .i64 x)).1
  unfold OwnF
  have e : vals .i64 (bs.set j x) = (vals .i64 bs).set j (.int .i64 x) := by simp [vals]
  rw [e]
  exact this
theorem OwnF.same {m : Nat} {e : TypeId} {w w' : World} {g n c : Nat} {bs : List Int} (h : OwnF m e w g n c bs) (hk : Same w w') : OwnF m e w' g n c bs := hk.owns h (fun _ _ => id)
theorem OwnF.out {m : Nat} {e : TypeId} {w : World} {g n c : Nat} {bs : List Int} (h : OwnF m e w g n c bs) : OwnL w (FR.rows m ⟨e, some ⟨g, 0, none⟩, n, c, bs⟩) :=
  ⟨fun r hr => by rw [List.mem_singleton.1 hr]; exact h, List.pairwise_singleton _ _⟩
theorem FR.own_rd {m : Nat} {w : World} {x : FR} (h : OwnL w (x.rows m)) : RdF m w x := by
  have hl := FR.own_len h
  rcases FR.own_form h with ⟨h1, h2, h3⟩ | ⟨g, h1, h2, h3, h4⟩
  · exact ⟨by rw [h1]; exact Nat.zero_le _, hl, .inl h1⟩
  · exact ⟨by omega, hl, .inr ⟨g, 0, h1, h2, fun i hi => by rw [Nat.zero_add]; exact h4.cell i hi⟩⟩
theorem ownF_made {m : Nat} {e : TypeId} {w : World} {g n : Nat} {z : Value} (hm : 0 < m) (hz : z.cells = (List.replicate m (Value.int .i64 0)).toArray) (h : w.ownsRow 0 e m (.slice (some ⟨g, 0, none⟩) n n) n (madeCells z.cells (n * m)).toList) : OwnF m e w g n n (List.replicate (n * m) 0) := by
  have e : (madeCells z.cells (n * m)).toList = vals .i64 (List.replicate (n * m) 0) := by
    rw [hz]
    apply List.ext_getElem?
    intro j
    by_cases hj : j < n * m
    · have h2 : j % m < m := Nat.mod_lt _ hm
      simp [madeCells, vals, hj, h2]
    · rw [List.getElem?_eq_none (by simp [madeCells]; omega), List.getElem?_eq_none (by simp [vals]; omega)]
  rw [e] at h
  exact h
def partI (k : Int) (bs : List Int) (j : Nat) : List Int := marksI k j ++ bs.drop j
theorem partI_zero (k : Int) (bs : List Int) : partI k bs 0 = bs := by simp [partI, marksI]
theorem partI_all (k : Int) (bs : List Int) : partI k bs bs.length = marksI k bs.length := by simp [partI]
theorem partI_step (k : Int) (bs : List Int) (j : Nat) (h : j < bs.length) : (partI k bs j).set j (k + j) = partI k bs (j + 1) := by
  unfold partI
  rw [List.set_append_right (h := by simp [marksI_length]), marksI_length, Nat.sub_self, List.drop_eq_getElem_cons h, List.set_cons_zero]
  have e : marksI k (j + 1) = marksI k j ++ [k + j] := by simp [marksI, List.range_succ]
  rw [e, List.append_assoc]
  rfl
end Go.Proofs.Ytcnaabjgjmodeaa

namespace Go.Proofs.Ytcnaabjgjmodeaa
set_option maxHeartbeats 2000000
open Go.RowKit
set_option linter.unusedVariables false
set_option linter.unusedSimpArgs false
theorem Try.infoDirtyEntry : (Try.prog.info? 124).map (fun i => (i.zero, i.size, i.bytes)) = some (some (.agg #[.int .i64 0, .int .i64 0]), 2, 16) := by kernel_rfl
theorem eqDirtyEntry_any (x0 x1 : Int) (w : World) : Calls Try.prog 108 #[.agg #[.int .i64 x0, .int .i64 x1], .agg #[.int .i64 x0, .int .i64 x1]] w fun e w' => e = .returned (.bool true) ∧ Same w w' := by
  go_enter Try.func108, Try.ntmps108
  go_wp2
  go_ret
  exact ⟨rfl, ((Kept.refl _ _).alloc _).alloc _⟩
theorem toDirtyEntry_any (x0 x1 : Int) (w : World) : Calls Try.prog 106 #[.agg #[.int .i64 x0, .int .i64 x1]] w fun e w' => e = .returned (.agg #[.int .i64 x0, .int .i64 x1]) ∧ Same w w' := by
  go_enter Try.func106, Try.ntmps106
  go_wp2
  refine bodyPost_ret (v := .agg #[.int .i64 x0, .int .i64 x1]) (by simp [results, Try.results106, go_sem]) rfl ⟨rfl, ?_⟩
  repeat (first | exact Kept.refl _ _ | refine Kept.alloc ?_ _ | refine Kept.setCell ?_ (.inl (by simp)) _)
theorem eqDirtyEntryS_own (x y : FR) (w : World) (hn : (x.bs.length : Int) ≤ 1125899906842624) (hd : x.bs = y.bs) (ha : OwnL w (x.rows 2)) (hb : OwnL w (y.rows 2)) :
    Calls Try.prog 102 #[x.v, y.v] w fun e w' => e = .returned (.bool true) ∧ Same w w' := by
  have hla := FR.own_len ha
  have hlb := FR.own_len hb
  have hfa := FR.own_form ha
  have hfb := FR.own_form hb
  obtain ⟨xe, xa, xn, xc, bs⟩ := x
  obtain ⟨ye, ya, yn, yc, bs'⟩ := y
  dsimp only at hn hd hla hlb hfa hfb
  subst hd
  obtain rfl : xn = yn := by omega
  dsimp only [FR.v]
  clear ha hb
  rcases hfa with ⟨rfl, rfl, rfl⟩ | ⟨ga, rfl, hac, hcm, hoa⟩
  · have hz : (0 : Nat) = 0 := rfl
    go_enter Try.func102, Try.ntmps102
    go_wp2
    refine wp_loop_rounds 1 ?_
    rw [rounds_succ]
    go_wp2
    go_ret
    exact ⟨rfl, Kept.refl _ _⟩
  rcases hfb with ⟨rfl, rfl, rfl⟩ | ⟨gb, rfl, hbc, hcm', hob⟩
  · clear hoa
    go_enter Try.func102, Try.ntmps102
    go_wp2
    refine wp_loop_rounds 1 ?_
    rw [rounds_succ]
    go_wp2
    go_ret
    exact ⟨rfl, Kept.refl _ _⟩
  have HA := (show Hid (OwnF 2 xe w ga xn xc bs) from hoa)
  have HB := (show Hid (OwnF 2 ye w gb xn yc bs) from hob)
  have hxn : (xn : Int) ≤ 1125899906842624 := by omega
  clear hoa hob hla hlb hn
  go_enter Try.func102, Try.ntmps102
  go_wp2
  go_loopw [5] (fun i wr => ∃ (k : Nat), k ≤ xn ∧ i = .int .i64 k ∧ Hid (Same w wr)) (fun i _ => xn - (intOf i).toNat)
  case atStart => exact ⟨0, Nat.zero_le _, rfl, Kept.refl _ _⟩
  case round =>
    obtain ⟨k, hk, rfl, HK⟩ := hrel
    by_cases hlt : k < xn
    · have hoa := HA.out.same HK.out
      have hob := HB.out.same HK.out
      have ha0 : wr.cell? ⟨ga, k * 2, none⟩ = some (.int .i64 (bs.getD (k * 2) 0)) := hoa.cell _ (by omega)
      have ha1 : wr.cell? ⟨ga, k * 2 + 1, none⟩ = some (.int .i64 (bs.getD (k * 2 + 1) 0)) := hoa.cell _ (by omega)
      have hb0 : wr.cell? ⟨gb, k * 2, none⟩ = some (.int .i64 (bs.getD (k * 2) 0)) := hob.cell _ (by omega)
      have hb1 : wr.cell? ⟨gb, k * 2 + 1, none⟩ = some (.int .i64 (bs.getD (k * 2 + 1) 0)) := hob.cell _ (by omega)
      clear hoa hob
      generalize bs.getD (k * 2) 0 = x0 at *
      generalize bs.getD (k * 2 + 1) 0 = x1 at *
      go_wp2_with fail
      go_region_with (go_at_call 108; refine (eqDirtyEntry_any x0 x1 _).mono ?_; rintro e w1 ⟨rfl, hk1⟩)
      all_goals
        have HK1 : Hid (Same w w1) := HK.out.drew.trans hk1
        clear hk1 ha0 hb0 ha1 hb1
        go_wp2
        go_roundw
        case rel => exact ⟨k + 1, by omega, by go_num, HK1⟩
        case measure => simp [intOf]; omega
    · go_wp2
      go_ret
      exact ⟨rfl, HK.out⟩
theorem szDirtyEntryS_any (a : Option Addr) (n c : Nat) (left : Int) (w : World) (h0 : 0 ≤ left) (h1 : left ≤ 1048576) (hn : n ≤ maxLen) :
    Calls Try.prog 98 #[.slice a n c, .int .i64 left] w fun e w' => ∃ r : Int, e = .returned (.int .i64 r) ∧ ((r = -1 ∧ left < n) ∨ (r = left - n ∧ 0 ≤ r)) ∧ w' = w := by
  unfold maxLen at hn
  by_cases h : left < n
  · go_enter Try.func98, Try.ntmps98
    go_wp2
    go_ret
    exact ⟨_, rfl, .inl ⟨rfl, h⟩, rfl⟩
  · go_enter Try.func98, Try.ntmps98
    go_wp2
    go_ret
    exact ⟨_, rfl, .inr ⟨rfl, by omega⟩, rfl⟩
theorem toDirtyEntryS_any (x : FR) (w : World) (hn : (x.n : Int) ≤ 1073741824) (hv : RdF 2 w x) :
    Calls Try.prog 100 #[x.v] w fun e w' => ∃ y : FR, e = .returned y.v ∧ y.bs = x.bs ∧ y.n = x.n ∧ (∀ b, FootL (y.rows 2) b → w.heap.size ≤ b) ∧ OwnL w' (y.rows 2) ∧ Same w w' := by
  obtain ⟨i0, hi, hz0, hz1, hz2⟩ := info_parts Try.infoDirtyEntry
  obtain ⟨hmax, hlen, hform⟩ := hv
  obtain ⟨xe, xa, len, xc, bs⟩ := x
  dsimp only [FR.v] at *
  by_cases h0 : len = 0
  · subst h0
    obtain rfl : bs = [] := List.length_eq_zero_iff.1 (by omega)
    clear hform hmax hlen hn
    go_enter Try.func100, Try.ntmps100
    go_wp2_with (at_make; refine wpList_make_full _ rfl (.tmp 6) (.tmp 6) 97 rfl 0 124 i0 (.agg #[.int .i64 0, .int .i64 0]) 2 Try.underlying97 hi hz0 hz1 .i64 .i64 _ _ 0 rfl rfl (by simp) (by simp) (by simp) (by simp) (Nat.zero_le _) ?_; intro w1 hown1 hgrow1; have HO : Hid (OwnF 2 124 w1 w.heap.size 0 0 (List.replicate (0 * 2) 0)) := ownF_made (z := .agg #[.int .i64 0, .int .i64 0]) (by decide) (by simp [Value.cells, List.replicate]) (by simpa using hown1); have HK : Hid (Same w w1) := Kept.of_grown hgrow1 (fun k e => by cases e); clear hown1 hgrow1)
    refine wp_loop_rounds 1 ?_
    rw [rounds_succ]
    go_wp2
    go_ret
    exact ⟨⟨124, some ⟨w.heap.size, 0, none⟩, 0, 0, []⟩, rfl, rfl, rfl, fun b hb => by have h := (FootL_one _ _).1 hb; simp [FR.v, Value.ownBlock] at h; omega, HO.out.out, HK.out⟩
  · obtain ⟨b, off, rfl, hle, hc⟩ := hform.resolve_left h0
    have HC := (show Hid (∀ i, i < len * 2 → w.cell? ⟨b, off + i, none⟩ = some (.int .i64 (bs.getD i 0))) from hc)
    have HLB := (show Hid (bs.length = len * 2) from hlen)
    clear hc hform hlen
    go_enter Try.func100, Try.ntmps100
    go_wp2_with (at_make; refine wpList_make_full _ rfl (.tmp 6) (.tmp 6) 97 rfl 0 124 i0 (.agg #[.int .i64 0, .int .i64 0]) 2 Try.underlying97 hi hz0 hz1 .i64 .i64 _ _ len rfl rfl (by simp) (by simp) (by rw [hz2]; omega) (by unfold maxLen; omega) (Nat.zero_le _) ?_; intro w1 hown1 hgrow1; have HO : Hid (OwnF 2 124 w1 w.heap.size len len (List.replicate (len * 2) 0)) := ownF_made (z := .agg #[.int .i64 0, .int .i64 0]) (by decide) (by simp [Value.cells, List.replicate]) (by simpa using hown1); have HK : Hid (Same w w1) := Kept.of_grown hgrow1 (fun k e => by cases e); clear hown1 hgrow1)
    go_loopw [4] (fun i wr => ∃ (k : Nat), k ≤ len ∧ i = .int .i64 k ∧ Hid (OwnF 2 124 wr w.heap.size len len (fillUp bs (k * 2))) ∧ Hid (Same w wr)) (fun i _ => len - (intOf i).toNat)
    case atStart => exact ⟨0, Nat.zero_le _, rfl, by rw [Nat.zero_mul, fillUp_zero, HLB.out]; exact HO, HK⟩
    case round =>
      obtain ⟨k, hk, rfl, HOr, HKr⟩ := hrel
      by_cases hlt : k < len
      · have q0 : wr.cell? ⟨b, off + k * 2, none⟩ = some (.int .i64 (bs.getD (k * 2) 0)) := by have h := HKr.out.cellOf (HC.out (k * 2) (by omega)) id; simpa only [Nat.add_assoc] using h
        have q1 : wr.cell? ⟨b, off + k * 2 + 1, none⟩ = some (.int .i64 (bs.getD (k * 2 + 1) 0)) := by have h := HKr.out.cellOf (HC.out (k * 2 + 1) (by omega)) id; simpa only [Nat.add_assoc] using h
        go_wp2_with fail
        refine (toDirtyEntry_any (bs.getD (k * 2) 0) (bs.getD (k * 2 + 1) 0) _).mono ?_
        rintro e w2 ⟨rfl, hk2⟩
        have HO2 := hid (HOr.out.same hk2)
        have HK2 := (show Hid (Same w w2) from HKr.out.trans hk2)
        clear hk2
        have r0 := HO2.out.cell (k * 2) (by omega)
        have f0 := HO2.out.frozen (k * 2)
        have r1 := HO2.out.cell (k * 2 + 1) (by omega)
        have f1 := HO2.out.frozen (k * 2 + 1)
        go_wp2
        go_roundw
        case rel =>
          have h0 := HO2.out
          have h1 := h0.stored (k * 2) (bs.getD (k * 2) 0)
          rw [fillUp_step _ _ (by have := HLB.out; omega)] at h1
          have h2 := h1.stored (k * 2 + 1) (bs.getD (k * 2 + 1) 0)
          rw [fillUp_step _ _ (by have := HLB.out; omega)] at h2
          refine ⟨k + 1, by omega, by go_num, ?_, ?_⟩
          · rw [show (k + 1) * 2 = k * 2 + 1 + 1 from by omega]; simpa [List.getD, Hid] using h2
          · exact ((HK2.out.setCell (.inl (Nat.le_refl _)) _).setCell (.inl (Nat.le_refl _)) _)
        case measure => simp [intOf]; omega
      · go_wp2
        go_ret
        obtain rfl : k = len := by omega
        have h := HOr.out
        rw [← HLB.out, fillUp_all] at h
        exact ⟨⟨124, some ⟨w.heap.size, 0, none⟩, k, k, bs⟩, rfl, rfl, rfl, fun b hb => by have h := (FootL_one _ _).1 hb; simp [FR.v, Value.ownBlock] at h; omega, h.out, HKr.out⟩
end Go.Proofs.Ytcnaabjgjmodeaa

namespace Go.Proofs.Ytcnaabjgjmodeaa
set_option maxHeartbeats 2000000
open Go.RowKit
set_option linter.unusedVariables false
set_option linter.unusedSimpArgs false
theorem Try.infoTxnEntry : (Try.prog.info? 122).map (fun i => (i.zero, i.size, i.bytes)) = some (some (.agg #[.int .i64 0, .int .i64 0, .int .i64 0, .int .i64 0]), 4, 32) := by kernel_rfl
theorem eqTxnEntry_any (x0 x1 x2 x3 : Int) (w : World) : Calls Try.prog 107 #[.agg #[.int .i64 x0, .int .i64 x1, .int .i64 x2, .int .i64 x3], .agg #[.int .i64 x0, .int .i64 x1, .int .i64 x2, .int .i64 x3]] w fun e w' => e = .returned (.bool true) ∧ Same w w' := by
  go_enter Try.func107, Try.ntmps107
  go_wp2
  go_ret
  exact ⟨rfl, ((Kept.refl _ _).alloc _).alloc _⟩
theorem toTxnEntry_any (x0 x1 x2 x3 : Int) (w : World) : Calls Try.prog 105 #[.agg #[.int .i64 x0, .int .i64 x1, .int .i64 x2, .int .i64 x3]] w fun e w' => e = .returned (.agg #[.int .i64 x0, .int .i64 x1, .int .i64 x2, .int .i64 x3]) ∧ Same w w' := by
  go_enter Try.func105, Try.ntmps105
  go_wp2
  refine bodyPost_ret (v := .agg #[.int .i64 x0, .int .i64 x1, .int .i64 x2, .int .i64 x3]) (by simp [results, Try.results105, go_sem]) rfl ⟨rfl, ?_⟩
  repeat (first | exact Kept.refl _ _ | refine Kept.alloc ?_ _ | refine Kept.setCell ?_ (.inl (by simp)) _)
theorem eqTxnEntryS_own (x y : FR) (w : World) (hn : (x.bs.length : Int) ≤ 1125899906842624) (hd : x.bs = y.bs) (ha : OwnL w (x.rows 4)) (hb : OwnL w (y.rows 4)) :
    Calls Try.prog 101 #[x.v, y.v] w fun e w' => e = .returned (.bool true) ∧ Same w w' := by
  have hla := FR.own_len ha
  have hlb := FR.own_len hb
  have hfa := FR.own_form ha
  have hfb := FR.own_form hb
  obtain ⟨xe, xa, xn, xc, bs⟩ := x
  obtain ⟨ye, ya, yn, yc, bs'⟩ := y
  dsimp only at hn hd hla hlb hfa hfb
  subst hd
  obtain rfl : xn = yn := by omega
  dsimp only [FR.v]
  clear ha hb
  rcases hfa with ⟨rfl, rfl, rfl⟩ | ⟨ga, rfl, hac, hcm, hoa⟩
  · have hz : (0 : Nat) = 0 := rfl
    go_enter Try.func101, Try.ntmps101
    go_wp2
    refine wp_loop_rounds 1 ?_
    rw [rounds_succ]
    go_wp2
    go_ret
    exact ⟨rfl, Kept.refl _ _⟩
  rcases hfb with ⟨rfl, rfl, rfl⟩ | ⟨gb, rfl, hbc, hcm', hob⟩
  · clear hoa
    go_enter Try.func101, Try.ntmps101
    go_wp2
    refine wp_loop_rounds 1 ?_
    rw [rounds_succ]
    go_wp2
    go_ret
    exact ⟨rfl, Kept.refl _ _⟩
  have HA := (show Hid (OwnF 4 xe w ga xn xc bs) from hoa)
  have HB := (show Hid (OwnF 4 ye w gb xn yc bs) from hob)
  have hxn : (xn : Int) ≤ 1125899906842624 := by omega
  clear hoa hob hla hlb hn
  go_enter Try.func101, Try.ntmps101
  go_wp2
  go_loopw [5] (fun i wr => ∃ (k : Nat), k ≤ xn ∧ i = .int .i64 k ∧ Hid (Same w wr)) (fun i _ => xn - (intOf i).toNat)
  case atStart => exact ⟨0, Nat.zero_le _, rfl, Kept.refl _ _⟩
  case round =>
    obtain ⟨k, hk, rfl, HK⟩ := hrel
    by_cases hlt : k < xn
    · have hoa := HA.out.same HK.out
      have hob := HB.out.same HK.out
      have ha0 : wr.cell? ⟨ga, k * 4, none⟩ = some (.int .i64 (bs.getD (k * 4) 0)) := hoa.cell _ (by omega)
      have ha1 : wr.cell? ⟨ga, k * 4 + 1, none⟩ = some (.int .i64 (bs.getD (k * 4 + 1) 0)) := hoa.cell _ (by omega)
      have ha2 : wr.cell? ⟨ga, k * 4 + 2, none⟩ = some (.int .i64 (bs.getD (k * 4 + 2) 0)) := hoa.cell _ (by omega)
      have ha3 : wr.cell? ⟨ga, k * 4 + 3, none⟩ = some (.int .i64 (bs.getD (k * 4 + 3) 0)) := hoa.cell _ (by omega)
      have hb0 : wr.cell? ⟨gb, k * 4, none⟩ = some (.int .i64 (bs.getD (k * 4) 0)) := hob.cell _ (by omega)
      have hb1 : wr.cell? ⟨gb, k * 4 + 1, none⟩ = some (.int .i64 (bs.getD (k * 4 + 1) 0)) := hob.cell _ (by omega)
      have hb2 : wr.cell? ⟨gb, k * 4 + 2, none⟩ = some (.int .i64 (bs.getD (k * 4 + 2) 0)) := hob.cell _ (by omega)
      have hb3 : wr.cell? ⟨gb, k * 4 + 3, none⟩ = some (.int .i64 (bs.getD (k * 4 + 3) 0)) := hob.cell _ (by omega)
      clear hoa hob
      generalize bs.getD (k * 4) 0 = x0 at *
      generalize bs.getD (k * 4 + 1) 0 = x1 at *
      generalize bs.getD (k * 4 + 2) 0 = x2 at *
      generalize bs.getD (k * 4 + 3) 0 = x3 at *
      go_wp2_with fail
      go_region_with (go_at_call 107; refine (eqTxnEntry_any x0 x1 x2 x3 _).mono ?_; rintro e w1 ⟨rfl, hk1⟩)
      all_goals
        have HK1 : Hid (Same w w1) := HK.out.drew.trans hk1
        clear hk1 ha0 hb0 ha1 hb1 ha2 hb2 ha3 hb3
        go_wp2
        go_roundw
        case rel => exact ⟨k + 1, by omega, by go_num, HK1⟩
        case measure => simp [intOf]; omega
    · go_wp2
      go_ret
      exact ⟨rfl, HK.out⟩
theorem szTxnEntryS_any (a : Option Addr) (n c : Nat) (left : Int) (w : World) (h0 : 0 ≤ left) (h1 : left ≤ 1048576) (hn : n ≤ maxLen) :
    Calls Try.prog 97 #[.slice a n c, .int .i64 left] w fun e w' => ∃ r : Int, e = .returned (.int .i64 r) ∧ ((r = -1 ∧ left < n) ∨ (r = left - n ∧ 0 ≤ r)) ∧ w' = w := by
  unfold maxLen at hn
  by_cases h : left < n
  · go_enter Try.func97, Try.ntmps97
    go_wp2
    go_ret
    exact ⟨_, rfl, .inl ⟨rfl, h⟩, rfl⟩
  · go_enter Try.func97, Try.ntmps97
    go_wp2
    go_ret
    exact ⟨_, rfl, .inr ⟨rfl, by omega⟩, rfl⟩
theorem toTxnEntryS_any (x : FR) (w : World) (hn : (x.n : Int) ≤ 1073741824) (hv : RdF 4 w x) :
    Calls Try.prog 99 #[x.v] w fun e w' => ∃ y : FR, e = .returned y.v ∧ y.bs = x.bs ∧ y.n = x.n ∧ (∀ b, FootL (y.rows 4) b → w.heap.size ≤ b) ∧ OwnL w' (y.rows 4) ∧ Same w w' := by
  obtain ⟨i0, hi, hz0, hz1, hz2⟩ := info_parts Try.infoTxnEntry
  obtain ⟨hmax, hlen, hform⟩ := hv
  obtain ⟨xe, xa, len, xc, bs⟩ := x
  dsimp only [FR.v] at *
  by_cases h0 : len = 0
  · subst h0
    obtain rfl : bs = [] := List.length_eq_zero_iff.1 (by omega)
    clear hform hmax hlen hn
    go_enter Try.func99, Try.ntmps99
    go_wp2_with (at_make; refine wpList_make_full _ rfl (.tmp 6) (.tmp 6) 96 rfl 0 122 i0 (.agg #[.int .i64 0, .int .i64 0, .int .i64 0, .int .i64 0]) 4 Try.underlying96 hi hz0 hz1 .i64 .i64 _ _ 0 rfl rfl (by simp) (by simp) (by simp) (by simp) (Nat.zero_le _) ?_; intro w1 hown1 hgrow1; have HO : Hid (OwnF 4 122 w1 w.heap.size 0 0 (List.replicate (0 * 4) 0)) := ownF_made (z := .agg #[.int .i64 0, .int .i64 0, .int .i64 0, .int .i64 0]) (by decide) (by simp [Value.cells, List.replicate]) (by simpa using hown1); have HK : Hid (Same w w1) := Kept.of_grown hgrow1 (fun k e => by cases e); clear hown1 hgrow1)
    refine wp_loop_rounds 1 ?_
    rw [rounds_succ]
    go_wp2
    go_ret
    exact ⟨⟨122, some ⟨w.heap.size, 0, none⟩, 0, 0, []⟩, rfl, rfl, rfl, fun b hb => by have h := (FootL_one _ _).1 hb; simp [FR.v, Value.ownBlock] at h; omega, HO.out.out, HK.out⟩
  · obtain ⟨b, off, rfl, hle, hc⟩ := hform.resolve_left h0
    have HC := (show Hid (∀ i, i < len * 4 → w.cell? ⟨b, off + i, none⟩ = some (.int .i64 (bs.getD i 0))) from hc)
    have HLB := (show Hid (bs.length = len * 4) from hlen)
    clear hc hform hlen
    go_enter Try.func99, Try.ntmps99
    go_wp2_with (at_make; refine wpList_make_full _ rfl (.tmp 6) (.tmp 6) 96 rfl 0 122 i0 (.agg #[.int .i64 0, .int .i64 0, .int .i64 0, .int .i64 0]) 4 Try.underlying96 hi hz0 hz1 .i64 .i64 _ _ len rfl rfl (by simp) (by simp) (by rw [hz2]; omega) (by unfold maxLen; omega) (Nat.zero_le _) ?_; intro w1 hown1 hgrow1; have HO : Hid (OwnF 4 122 w1 w.heap.size len len (List.replicate (len * 4) 0)) := ownF_made (z := .agg #[.int .i64 0, .int .i64 0, .int .i64 0, .int .i64 0]) (by decide) (by simp [Value.cells, List.replicate]) (by simpa using hown1); have HK : Hid (Same w w1) := Kept.of_grown hgrow1 (fun k e => by cases e); clear hown1 hgrow1)
    go_loopw [4] (fun i wr => ∃ (k : Nat), k ≤ len ∧ i = .int .i64 k ∧ Hid (OwnF 4 122 wr w.heap.size len len (fillUp bs (k * 4))) ∧ Hid (Same w wr)) (fun i _ => len - (intOf i).toNat)
    case atStart => exact ⟨0, Nat.zero_le _, rfl, by rw [Nat.zero_mul, fillUp_zero, HLB.out]; exact HO, HK⟩
    case round =>
      obtain ⟨k, hk, rfl, HOr, HKr⟩ := hrel
      by_cases hlt : k < len
      · have q0 : wr.cell? ⟨b, off + k * 4, none⟩ = some (.int .i64 (bs.getD (k * 4) 0)) := by have h := HKr.out.cellOf (HC.out (k * 4) (by omega)) id; simpa only [Nat.add_assoc] using h
        have q1 : wr.cell? ⟨b, off + k * 4 + 1, none⟩ = some (.int .i64 (bs.getD (k * 4 + 1) 0)) := by have h := HKr.out.cellOf (HC.out (k * 4 + 1) (by omega)) id; simpa only [Nat.add_assoc] using h
        have q2 : wr.cell? ⟨b, off + k * 4 + 2, none⟩ = some (.int .i64 (bs.getD (k * 4 + 2) 0)) := by have h := HKr.out.cellOf (HC.out (k * 4 + 2) (by omega)) id; simpa only [Nat.add_assoc] using h
        have q3 : wr.cell? ⟨b, off + k * 4 + 3, none⟩ = some (.int .i64 (bs.getD (k * 4 + 3) 0)) := by have h := HKr.out.cellOf (HC.out (k * 4 + 3) (by omega)) id; simpa only [Nat.add_assoc] using h
        go_wp2_with fail
        refine (toTxnEntry_any (bs.getD (k * 4) 0) (bs.getD (k * 4 + 1) 0) (bs.getD (k * 4 + 2) 0) (bs.getD (k * 4 + 3) 0) _).mono ?_
        rintro e w2 ⟨rfl, hk2⟩
        have HO2 := hid (HOr.out.same hk2)
        have HK2 := (show Hid (Same w w2) from HKr.out.trans hk2)
        clear hk2
        have r0 := HO2.out.cell (k * 4) (by omega)
        have f0 := HO2.out.frozen (k * 4)
        have r1 := HO2.out.cell (k * 4 + 1) (by omega)
        have f1 := HO2.out.frozen (k * 4 + 1)
        have r2 := HO2.out.cell (k * 4 + 2) (by omega)
        have f2 := HO2.out.frozen (k * 4 + 2)
        have r3 := HO2.out.cell (k * 4 + 3) (by omega)
        have f3 := HO2.out.frozen (k * 4 + 3)
        go_wp2
        go_roundw
        case rel =>
          have h0 := HO2.out
          have h1 := h0.stored (k * 4) (bs.getD (k * 4) 0)
          rw [fillUp_step _ _ (by have := HLB.out; omega)] at h1
          have h2 := h1.stored (k * 4 + 1) (bs.getD (k * 4 + 1) 0)
          rw [fillUp_step _ _ (by have := HLB.out; omega)] at h2
          have h3 := h2.stored (k * 4 + 2) (bs.getD (k * 4 + 2) 0)
          rw [fillUp_step _ _ (by have := HLB.out; omega)] at h3
          have h4 := h3.stored (k * 4 + 3) (bs.getD (k * 4 + 3) 0)
          rw [fillUp_step _ _ (by have := HLB.out; omega)] at h4
          refine ⟨k + 1, by omega, by go_num, ?_, ?_⟩
          · rw [show (k + 1) * 4 = k * 4 + 1 + 1 + 1 + 1 from by omega]; simpa [List.getD, Hid] using h4
          · exact ((((HK2.out.setCell (.inl (Nat.le_refl _)) _).setCell (.inl (Nat.le_refl _)) _).setCell (.inl (Nat.le_refl _)) _).setCell (.inl (Nat.le_refl _)) _)
        case measure => simp [intOf]; omega
      · go_wp2
        go_ret
        obtain rfl : k = len := by omega
        have h := HOr.out
        rw [← HLB.out, fillUp_all] at h
        exact ⟨⟨122, some ⟨w.heap.size, 0, none⟩, k, k, bs⟩, rfl, rfl, rfl, fun b hb => by have h := (FootL_one _ _).1 hb; simp [FR.v, Value.ownBlock] at h; omega, h.out, HKr.out⟩
end Go.Proofs.Ytcnaabjgjmodeaa
