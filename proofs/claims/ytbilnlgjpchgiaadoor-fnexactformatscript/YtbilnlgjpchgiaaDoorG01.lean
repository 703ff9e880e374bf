import Derived.Test.YtbilnlgjpchgiaaDoorG00
import Derived.Deep.RegionWith
import Derived.Deep.DeepMust
import Derived.Deep.DeepCutAuto
import Derived.Laws.AppendOwnNone
namespace Go.Proofs.YtbilnlgjpchgiaaDoor
set_option maxHeartbeats 8000000
set_option linter.unusedVariables false
set_option linter.unusedSimpArgs false
set_option maxRecDepth 100000
open Go.RowKit Go
theorem Tryd.infoByte' : (Tryd.prog.info? 5).map (fun i => (i.zero, i.size, i.bytes)) = some (some (.int .u8 0), 1, 1) := by kernel_rfl
def fillUp (bs : List Int) (k : Nat) : List Int := bs.take k ++ List.replicate (bs.length - k) 0
theorem fillUp_length (bs : List Int) (k : Nat) (h : k ≤ bs.length) : (fillUp bs k).length = bs.length := by simp [fillUp]; omega
theorem fillUp_zero (bs : List Int) : fillUp bs 0 = List.replicate bs.length 0 := by simp [fillUp]
theorem fillUp_all (bs : List Int) : fillUp bs bs.length = bs := by simp [fillUp]
theorem fillUp_step (bs : List Int) (k : Nat) (h : k < bs.length) : (fillUp bs k).set k (bs.getD k 0) = fillUp bs (k + 1) := by
 unfold fillUp
 have e : bs.length - k = (bs.length - (k + 1)) + 1 := by omega
 have e2 : bs.getD k 0 = bs[k] := by simp [h, List.getD]
 rw [e2, List.set_append_right (h := by simp; omega), List.length_take, Nat.min_eq_left (Nat.le_of_lt h), Nat.sub_self, e, List.replicate_succ, List.set_cons_zero, List.take_succ_eq_append_getElem h, List.append_assoc]
 rfl
theorem toByteS_any (v : Value) (bs : List Int) (w : World) (hn : bs.length ≤ 1099511627776) (hv : Rd .u8 w v bs) :
  Calls Tryd.prog 56 #[v] w fun e w' => ∃ g, e = .returned (.slice (some ⟨g, 0, none⟩) bs.length bs.length) ∧ w.heap.size ≤ g ∧ Own 0 5 .u8 w' (.slice (some ⟨g, 0, none⟩) bs.length bs.length) bs ∧ Same w w' := by
 obtain ⟨i0, hi, hz0, hz1, hz2⟩ := info_parts Tryd.infoByte'
 rcases hv.2 with ⟨rfl, a, c, rfl, _⟩ | ⟨b, off, c, rfl, _, hc⟩
 ·clear hv hn
  go_enter Tryd.func56, Tryd.ntmps56
  go_wp2_with (at_make; refine wpList_make_full _ rfl (.tmp 6) (.tmp 6) 34 rfl 0 5 i0 (.int .u8 0) 1 Tryd.underlying34 hi hz0 hz1 .i64 .i64 _ _ 0 rfl rfl (by simp) (by simp) (by simp) (by simp) (Nat.zero_le _) ?_; intro w1 hown1 hgrow1; have HO : Hid (Own 0 5 .u8 w1 (.slice (some ⟨w.heap.size, 0, none⟩) 0 0) []) := own_made (n := 0) (by simpa using hown1); have HK : Hid (Same w w1) := Kept.of_grown hgrow1 (fun k e => by cases e); clear hown1 hgrow1)
  refine wp_loop_rounds 1 ?_
  rw [rounds_succ]
  go_wp2
  go_ret
  exact ⟨w.heap.size, rfl, Nat.le_refl _, HO.out, HK.out⟩
 ·have HC : Hid (∀ i, i < bs.length → w.cell? ⟨b, off + i, none⟩ = some (.int .u8 (bs.getD i 0))) := hc
  clear hc hv
  generalize hl : bs.length = len at hn ⊢
  have HL : Hid (bs.length = len) := hl
  clear hl
  go_enter Tryd.func56, Tryd.ntmps56
  go_wp2_with (at_make; refine wpList_make_full _ rfl (.tmp 6) (.tmp 6) 34 rfl 0 5 i0 (.int .u8 0) 1 Tryd.underlying34 hi hz0 hz1 .i64 .i64 _ _ len rfl rfl (by simp) (by simp) (by rw [hz2]; omega) (by unfold maxLen; omega) (Nat.zero_le _) ?_; intro w1 hown1 hgrow1; have HO : Hid (Own 0 5 .u8 w1 (.slice (some ⟨w.heap.size, 0, none⟩) len len) (List.replicate len 0)) := own_made (by simpa using hown1); have HK : Hid (Same w w1) := Kept.of_grown hgrow1 (fun k e => by cases e); clear hown1 hgrow1)
  go_loopw [4] (fun i wr => ∃ (k : Nat), k ≤ len ∧ i = .int .i64 k ∧ Hid (Own 0 5 .u8 wr (.slice (some ⟨w.heap.size, 0, none⟩) len len) (fillUp bs k)) ∧ Hid (Same w wr)) (fun i _ => len - (intOf i).toNat)
  case atStart => exact ⟨0, Nat.zero_le _, rfl, by rw [fillUp_zero, HL.out]; exact HO, HK⟩
  case round =>
   obtain ⟨k, hk, rfl, HOr, HKr⟩ := hrel
   by_cases hlt : k < len
   ·have hlp : k < bs.length := by rw [HL.out]; exact hlt
    have q1 := HKr.out.cellOf (HC.out k hlp) id
    have q2 := HOr.out.frozen (by rw [fillUp_length _ _ (by have := HL.out; omega)]; exact HL.out.symm) k
    have q3 := HOr.out.cell (by rw [fillUp_length _ _ (by have := HL.out; omega)]; exact HL.out.symm) k hlt
    go_wp2
    go_roundw
    case rel =>
     have h := HOr.out.stored (by rw [fillUp_length _ _ (by have := HL.out; omega)]; exact HL.out.symm) k (bs.getD k 0)
     rw [fillUp_step _ _ hlp] at h
     refine ⟨k + 1, by omega, by go_num, ?_, ?_⟩
     ·simpa [hlp, List.getD, Hid] using h
     ·exact HKr.out.setCell (.inl (Nat.le_refl _)) _
    case measure => simp [intOf]; omega
   ·go_wp2
    go_ret
    obtain rfl : k = len := by omega
    have h := HOr.out
    have h2 := HL.out
    rw [← h2, fillUp_all, h2] at h
    exact ⟨w.heap.size, rfl, Nat.le_refl _, h, HKr.out⟩
theorem szByteS_any (a : Option Addr) (n c : Nat) (left : Int) (w : World) (h0 : 0 ≤ left) (h1 : left ≤ 1048576) (hn : n ≤ maxLen) :
  Calls Tryd.prog 51 #[.slice a n c, .int .i64 left] w fun e w' => ∃ r : Int, e = .returned (.int .i64 r) ∧ ((r = -1 ∧ left < n) ∨ (r = left - n ∧ 0 ≤ r)) ∧ w' = w := by
 unfold maxLen at hn
 by_cases h : left < n
 ·go_enter Tryd.func51, Tryd.ntmps51
  go_wp2
  go_ret
  exact ⟨_, rfl, .inl ⟨rfl, h⟩, rfl⟩
 ·go_enter Tryd.func51, Tryd.ntmps51
  go_wp2
  go_ret
  exact ⟨_, rfl, .inr ⟨rfl, by omega⟩, rfl⟩
theorem Tryd.infoI64 : (Tryd.prog.info? 2).map (fun i => (i.zero, i.size, i.bytes)) = some (some (.int .i64 0), 1, 8) := by kernel_rfl
theorem eqInt64S_own {ea eb : TypeId} (base : Nat) (va vb : Value) (bs : List Int) (w : World) (hn : bs.length ≤ 1125899906842624)
  (ha : Own base ea .i64 w va bs) (hb : Own base eb .i64 w vb bs) :
  Calls Tryd.prog 50 #[va, vb] w fun e w' => e = .returned (.bool true) ∧ ∃ n, w' = w.drewN n := by
 by_cases h0 : bs.length = 0
 ·obtain rfl : bs = [] := List.length_eq_zero_iff.1 h0
  obtain ⟨aa, ca, rfl⟩ : ∃ aa ca, va = .slice aa 0 ca := by rcases ha.form with ⟨rfl, _⟩ | ⟨g, cap, rfl, _⟩ <;> exact ⟨_, _, rfl⟩
  obtain ⟨ab, cb, rfl⟩ : ∃ aa ca, vb = .slice aa 0 ca := by rcases hb.form with ⟨rfl, _⟩ | ⟨g, cap, rfl, _⟩ <;> exact ⟨_, _, rfl⟩
  clear ha hb hn h0
  go_enter Tryd.func50, Tryd.ntmps50
  go_wp2
  refine wp_loop_rounds 1 ?_
  rw [rounds_succ]
  go_wp2
  go_ret
  exact ⟨rfl, 0, rfl⟩
 ·obtain ⟨ga, ca, rfl, _, _, _, _⟩ : ∃ g cap, va = .slice (some ⟨g, 0, none⟩) bs.length cap ∧ base ≤ g ∧ g < w.heap.size ∧ bs.length ≤ cap ∧ cap ≤ maxLen := by
   rcases ha.form with ⟨_, rfl⟩ | h
   ·simp at h0
   ·exact h
  obtain ⟨gb, cb, rfl, _, _, _, _⟩ : ∃ g cap, vb = .slice (some ⟨g, 0, none⟩) bs.length cap ∧ base ≤ g ∧ g < w.heap.size ∧ bs.length ≤ cap ∧ cap ≤ maxLen := by
   rcases hb.form with ⟨_, rfl⟩ | h
   ·simp at h0
   ·exact h
  have hca : ∀ j, j < bs.length → w.cell? ⟨ga, j, none⟩ = some (.int .i64 (bs.getD j 0)) := fun j hj => ha.cell rfl j hj
  have hcb : ∀ j, j < bs.length → w.cell? ⟨gb, j, none⟩ = some (.int .i64 (bs.getD j 0)) := fun j hj => hb.cell rfl j hj
  clear ha hb
  generalize hl : bs.length = len at *
  go_enter Tryd.func50, Tryd.ntmps50
  go_wp2
  go_loopw [5] (fun i wr => ∃ k n : Nat, k ≤ len ∧ i = .int .i64 k ∧ wr = w.drewN n) (fun i _ => len - (intOf i).toNat)
  case atStart => exact ⟨0, 0, Nat.zero_le _, rfl, rfl⟩
  case round =>
   obtain ⟨k, n, hk, rfl, rfl⟩ := hrel
   by_cases hlt : k < len
   ·have h1 := hca k hlt
    have h2 := hcb k hlt
    clear hca hcb
    go_wp2
    go_quiet (fail)
    go_wp2
    go_roundw
    case rel => exact ⟨k + 1, _, by omega, by go_num, rfl⟩
    case measure => simp [intOf]; omega
   ·go_wp2
    go_ret
    exact ⟨rfl, _, rfl⟩
theorem toInt64S_any (v : Value) (bs : List Int) (w : World) (hn : bs.length ≤ 1099511627776) (hv : Rd .i64 w v bs) :
  Calls Tryd.prog 41 #[v] w fun e w' => ∃ g, e = .returned (.slice (some ⟨g, 0, none⟩) bs.length bs.length) ∧ w.heap.size ≤ g ∧ Own 0 2 .i64 w' (.slice (some ⟨g, 0, none⟩) bs.length bs.length) bs ∧ Same w w' := by
 obtain ⟨i0, hi, hz0, hz1, hz2⟩ := info_parts Tryd.infoI64
 rcases hv.2 with ⟨rfl, a, c, rfl, _⟩ | ⟨b, off, c, rfl, _, hc⟩
 ·clear hv hn
  go_enter Tryd.func41, Tryd.ntmps41
  go_wp2_with (at_make; refine wpList_make_full _ rfl (.tmp 6) (.tmp 6) 40 rfl 0 2 i0 (.int .i64 0) 1 Tryd.underlying40 hi hz0 hz1 .i64 .i64 _ _ 0 rfl rfl (by simp) (by simp) (by simp) (by simp) (Nat.zero_le _) ?_; intro w1 hown1 hgrow1; have HO : Hid (Own 0 2 .i64 w1 (.slice (some ⟨w.heap.size, 0, none⟩) 0 0) []) := own_made (n := 0) (by simpa using hown1); have HK : Hid (Same w w1) := Kept.of_grown hgrow1 (fun k e => by cases e); clear hown1 hgrow1)
  refine wp_loop_rounds 1 ?_
  rw [rounds_succ]
  go_wp2
  go_ret
  exact ⟨w.heap.size, rfl, Nat.le_refl _, HO.out, HK.out⟩
 ·have HC : Hid (∀ i, i < bs.length → w.cell? ⟨b, off + i, none⟩ = some (.int .i64 (bs.getD i 0))) := hc
  clear hc hv
  generalize hl : bs.length = len at hn ⊢
  have HL : Hid (bs.length = len) := hl
  clear hl
  go_enter Tryd.func41, Tryd.ntmps41
  go_wp2_with (at_make; refine wpList_make_full _ rfl (.tmp 6) (.tmp 6) 40 rfl 0 2 i0 (.int .i64 0) 1 Tryd.underlying40 hi hz0 hz1 .i64 .i64 _ _ len rfl rfl (by simp) (by simp) (by rw [hz2]; omega) (by unfold maxLen; omega) (Nat.zero_le _) ?_; intro w1 hown1 hgrow1; have HO : Hid (Own 0 2 .i64 w1 (.slice (some ⟨w.heap.size, 0, none⟩) len len) (List.replicate len 0)) := own_made (by simpa using hown1); have HK : Hid (Same w w1) := Kept.of_grown hgrow1 (fun k e => by cases e); clear hown1 hgrow1)
  go_loopw [4] (fun i wr => ∃ (k : Nat), k ≤ len ∧ i = .int .i64 k ∧ Hid (Own 0 2 .i64 wr (.slice (some ⟨w.heap.size, 0, none⟩) len len) (fillUp bs k)) ∧ Hid (Same w wr)) (fun i _ => len - (intOf i).toNat)
  case atStart => exact ⟨0, Nat.zero_le _, rfl, by rw [fillUp_zero, HL.out]; exact HO, HK⟩
  case round =>
   obtain ⟨k, hk, rfl, HOr, HKr⟩ := hrel
   by_cases hlt : k < len
   ·have hlp : k < bs.length := by rw [HL.out]; exact hlt
    have q1 := HKr.out.cellOf (HC.out k hlp) id
    have q2 := HOr.out.frozen (by rw [fillUp_length _ _ (by have := HL.out; omega)]; exact HL.out.symm) k
    have q3 := HOr.out.cell (by rw [fillUp_length _ _ (by have := HL.out; omega)]; exact HL.out.symm) k hlt
    go_wp2
    go_roundw
    case rel =>
     have h := HOr.out.stored (by rw [fillUp_length _ _ (by have := HL.out; omega)]; exact HL.out.symm) k (bs.getD k 0)
     rw [fillUp_step _ _ hlp] at h
     refine ⟨k + 1, by omega, by go_num, ?_, ?_⟩
     ·simpa [hlp, List.getD, Hid] using h
     ·exact HKr.out.setCell (.inl (Nat.le_refl _)) _
    case measure => simp [intOf]; omega
   ·go_wp2
    go_ret
    obtain rfl : k = len := by omega
    have h := HOr.out
    have h2 := HL.out
    rw [← h2, fillUp_all, h2] at h
    exact ⟨w.heap.size, rfl, Nat.le_refl _, h, HKr.out⟩
def RdF (m : Nat) (w : World) (x : FR) : Prop :=
 x.n ≤ maxLen ∧ x.bs.length = x.n * m ∧ (x.n = 0 ∨ ∃ b off, x.a = some ⟨b, off, none⟩ ∧ x.n ≤ x.c ∧ ∀ i, i < x.n * m → w.cell? ⟨b, off + i, none⟩ = some (.int .i64 (x.bs.getD i 0)))
theorem RdF.kept {R : Nat → Prop} {m : Nat} {w w' : World} {x : FR} (h : RdF m w x) (hk : Kept R w w') (hr : ∀ b, x.v.ownBlock = some b → ¬ R b) : RdF m w' x := by
 refine ⟨h.1, h.2.1, ?_⟩
 rcases h.2.2 with h | ⟨b, off, he, hle, hc⟩
 ·exact .inl h
 ·exact .inr ⟨b, off, he, hle, fun i hi => hk.cellOf (hc i hi) (hr b (by simp [FR.v, he, Value.ownBlock]))⟩
theorem RdF.same {m : Nat} {w w' : World} {x : FR} (h : RdF m w x) (hk : Same w w') : RdF m w' x := h.kept hk (fun _ _ => id)
def OwnF (m : Nat) (e : TypeId) (w : World) (g n c : Nat) (bs : List Int) : Prop := w.ownsRow 0 e m (.slice (some ⟨g, 0, none⟩) n c) n (vals .i64 bs)
theorem FR.own_one {m : Nat} {w : World} {x : FR} (h : OwnL w (x.rows m)) : w.ownsRow 0 x.e m x.v x.n (vals .i64 x.bs) := h.own _ (List.mem_singleton.2 rfl)
theorem FR.own_len {m : Nat} {w : World} {x : FR} (h : OwnL w (x.rows m)) : x.bs.length = x.n * m := by
 have := (FR.own_one h).1
 rwa [vals_length] at this
theorem FR.own_form {m : Nat} {w : World} {x : FR} (h : OwnL w (x.rows m)) : (x.n = 0 ∧ x.a = none ∧ x.c = 0) ∨ ∃ g, x.a = some ⟨g, 0, none⟩ ∧ x.n ≤ x.c ∧ x.c ≤ maxLen ∧ OwnF m x.e w g x.n x.c x.bs := by
 have h1 := FR.own_one h
 rcases h1.2 with ⟨h2, h3⟩ | ⟨g, cap, cur, hv, hb, hgg, hc, hm, hs, ht⟩
 ·simp only [FR.v] at h2
  injection h2 with a1 a2 a3
  exact .inl ⟨a2, a1, a3⟩
 ·have hv' := hv
  simp only [FR.v] at hv'
  injection hv' with a1 a2 a3
  refine .inr ⟨g, a1, by omega, by omega, ?_⟩
  unfold OwnF
  rw [a3, ← hv]
  exact h1
theorem OwnF.cell {m : Nat} {e : TypeId} {w : World} {g n c : Nat} {bs : List Int} (h : OwnF m e w g n c bs) (j : Nat) (hj : j < n * m) : w.cell? ⟨g, j, none⟩ = some (.int .i64 (bs.getD j 0)) := by
 have h1 := h.1
 rw [vals_length] at h1
 rw [World.ownsRow.cellAt h j hj, vals_at .i64 bs j (by omega)]
theorem OwnF.frozen {m : Nat} {e : TypeId} {w : World} {g n c : Nat} {bs : List Int} (h : OwnF m e w g n c bs) (j : Nat) : w.frozen? ⟨g, j, none⟩ = false := World.ownsRow.frozenAt h j
theorem OwnF.stored {m : Nat} {e : TypeId} {w : World} {g n c : Nat} {bs : List Int} (h : OwnF m e w g n c bs) (j : Nat) (x : Int) : OwnF m e (w.setCell ⟨g, j, none⟩ (.int .i64 x)) g n c (bs.set j x) := by
 have := (World.ownsRow.stored h j (.int .i64 x)).1
 unfold OwnF
 have e : vals .i64 (bs.set j x) = (vals .i64 bs).set j (.int .i64 x) := by simp [vals]
 rw [e]
 exact this
theorem OwnF.same {m : Nat} {e : TypeId} {w w' : World} {g n c : Nat} {bs : List Int} (h : OwnF m e w g n c bs) (hk : Same w w') : OwnF m e w' g n c bs := hk.owns h (fun _ _ => id)
theorem OwnF.out {m : Nat} {e : TypeId} {w : World} {g n c : Nat} {bs : List Int} (h : OwnF m e w g n c bs) : OwnL w (FR.rows m ⟨e, some ⟨g, 0, none⟩, n, c, bs⟩) :=
 ⟨fun r hr => by rw [List.mem_singleton.1 hr]; exact h, List.pairwise_singleton _ _⟩
theorem FR.own_rd {m : Nat} {w : World} {x : FR} (h : OwnL w (x.rows m)) : RdF m w x := by
 have hl := FR.own_len h
 rcases FR.own_form h with ⟨h1, h2, h3⟩ | ⟨g, h1, h2, h3, h4⟩
 ·exact ⟨by rw [h1]; exact Nat.zero_le _, hl, .inl h1⟩
 ·exact ⟨by omega, hl, .inr ⟨g, 0, h1, h2, fun i hi => by rw [Nat.zero_add]; exact h4.cell i hi⟩⟩
theorem FR.own_ints {w : World} {x : FR} (h : OwnL w (x.rows 1)) : Own 0 x.e .i64 w x.v x.bs := by
 have h1 := FR.own_one h
 have h2 : x.n = x.bs.length := by have := FR.own_len h; omega
 rw [h2] at h1
 exact h1
theorem eqInt64SF_own (x y : FR) (w : World) (hn : (x.bs.length : Int) ≤ 1125899906842624) (hd : x.bs = y.bs) (ha : OwnL w (x.rows 1)) (hb : OwnL w (y.rows 1)) :
  Calls Tryd.prog 50 #[x.v, y.v] w fun e w' => e = .returned (.bool true) ∧ Same w w' := by
 have h1 := FR.own_ints ha
 have h2 := FR.own_ints hb
 rw [← hd] at h2
 refine (eqInt64S_own 0 x.v y.v x.bs w (by omega) h1 h2).mono ?_
 rintro e w' ⟨rfl, n, rfl⟩
 exact ⟨rfl, (Kept.refl _ _).drewN _⟩
theorem szInt64SF_any (a : Option Addr) (n c : Nat) (left : Int) (w : World) (h0 : 0 ≤ left) (h1 : left ≤ 1048576) (hn : n ≤ maxLen) :
  Calls Tryd.prog 35 #[.slice a n c, .int .i64 left] w fun e w' => ∃ r : Int, e = .returned (.int .i64 r) ∧ ((r = -1 ∧ left < n) ∨ (r = left - n ∧ 0 ≤ r)) ∧ w' = w := by
 unfold maxLen at hn
 by_cases h : left < n
 ·go_enter Tryd.func35, Tryd.ntmps35
  go_wp2
  go_ret
  exact ⟨_, rfl, .inl ⟨rfl, h⟩, rfl⟩
 ·go_enter Tryd.func35, Tryd.ntmps35
  go_wp2
  go_ret
  exact ⟨_, rfl, .inr ⟨rfl, by omega⟩, rfl⟩
theorem RdF.ints {w : World} {x : FR} (h : RdF 1 w x) (h0 : x.n ≠ 0) : Rd .i64 w x.v x.bs := by
 obtain ⟨h1, h2, h3⟩ := h
 have hl : x.n = x.bs.length := by omega
 rcases h3 with h3 | ⟨b, off, e, hc, hx⟩
 ·exact absurd h3 h0
 ·refine ⟨by omega, .inr ⟨b, off, x.c, ?_, by omega, fun i hi => hx i (by omega)⟩⟩
  simp only [FR.v, e, hl]
theorem Rd.flat {w : World} {v : Value} {bs : List Int} (h : Rd .i64 w v bs) : ∃ a c, v = .slice a bs.length c ∧ RdF 1 w ⟨0, a, bs.length, c, bs⟩ := by
 rcases h.2 with ⟨rfl, a, c, rfl, _⟩ | ⟨b, off, c, rfl, hc, hx⟩
 ·exact ⟨a, c, rfl, Nat.zero_le _, rfl, .inl rfl⟩
 ·exact ⟨_, c, rfl, h.1, (Nat.mul_one _).symm, .inr ⟨b, off, rfl, hc, fun i hi => hx i (by simpa using hi)⟩⟩
theorem toInt64SF_any (x : FR) (w : World) (hn : (x.n : Int) ≤ 1073741824) (hv : RdF 1 w x) :
  Calls Tryd.prog 41 #[x.v] w fun e w' => ∃ y : FR, e = .returned y.v ∧ y.bs = x.bs ∧ y.n = x.n ∧ (∀ b, FootL (y.rows 1) b → w.heap.size ≤ b) ∧ OwnL w' (y.rows 1) ∧ Same w w' := by
 have hl : x.bs.length = x.n := by have := hv.2.1; omega
 have key : ∀ (e : Ending) (w' : World), (∃ g, e = .returned (.slice (some ⟨g, 0, none⟩) x.bs.length x.bs.length) ∧ w.heap.size ≤ g ∧ Own 0 2 .i64 w' (.slice (some ⟨g, 0, none⟩) x.bs.length x.bs.length) x.bs ∧ Same w w') →
   ∃ y : FR, e = .returned y.v ∧ y.bs = x.bs ∧ y.n = x.n ∧ (∀ b, FootL (y.rows 1) b → w.heap.size ≤ b) ∧ OwnL w' (y.rows 1) ∧ Same w w' := by
  rintro e w' ⟨g, rfl, hg, ho, hk⟩
  refine ⟨⟨2, some ⟨g, 0, none⟩, x.bs.length, x.bs.length, x.bs⟩, rfl, rfl, hl, fun b hb => ?_, OwnL.one ho, hk⟩
  have hb := (FootL_one _ _).1 hb
  simp only [FR.v, Value.ownBlock] at hb
  cases hb
  exact hg
 by_cases h0 : x.n = 0
 ·obtain ⟨xe, xa, xn, xc, bs⟩ := x
  dsimp only [FR.v] at *
  subst h0
  obtain rfl : bs = [] := List.length_eq_zero_iff.1 hl
  refine Calls.mono ?_ key
  obtain ⟨i0, hi, hz0, hz1, hz2⟩ := info_parts Tryd.infoI64
  clear hv hn key hl
  go_enter Tryd.func41, Tryd.ntmps41
  go_wp2_with (at_make; refine wpList_make_full _ rfl (.tmp 6) (.tmp 6) 40 rfl 0 2 i0 (.int .i64 0) 1 Tryd.underlying40 hi hz0 hz1 .i64 .i64 _ _ 0 rfl rfl (by simp) (by simp) (by simp) (by simp) (Nat.zero_le _) ?_; intro w1 hown1 hgrow1; have HO : Hid (Own 0 2 .i64 w1 (.slice (some ⟨w.heap.size, 0, none⟩) 0 0) []) := own_made (n := 0) (by simpa using hown1); have HK : Hid (Same w w1) := Kept.of_grown hgrow1 (fun k e => by cases e); clear hown1 hgrow1)
  refine wp_loop_rounds 1 ?_
  rw [rounds_succ]
  go_wp2
  go_ret
  exact ⟨w.heap.size, rfl, Nat.le_refl _, HO.out, HK.out⟩
 ·exact (toInt64S_any x.v x.bs w (by omega) (hv.ints h0)).mono key
structure StStep where
 kd : Int
 tx : Int
 rid : Int
 cnt : Int
 data : BS
 keep : FR
def StStep.val (x : StStep) : Value := .agg #[.int .i64 x.kd, .int .i64 x.tx, .int .i64 x.rid, .int .i64 x.cnt, x.data.v, x.keep.v]
def StStep.rows (x : StStep) : List Row := x.data.rows ++ ((x.keep).rows 1)
def StStep.dat (x : StStep) : Int × Int × Int × Int × List Int × List Int := (x.kd, x.tx, x.rid, x.cnt, x.data.bs, x.keep.bs)
def StStep.size (x : StStep) : Int := (x.data.bs.length : Int) + (x.keep.bs.length : Int)
def StStep.marked (x : StStep) (k : Int) : StStep := ⟨x.kd, x.tx, x.rid, x.cnt, x.data.marked (k), x.keep.marked (k + (x.data.bs.length : Int))⟩
def StStep.rd (w : World) (x : StStep) : Prop := Rd .u8 w x.data.v x.data.bs ∧ RdF 1 w x.keep
theorem StStep.rd.kept {R : Nat → Prop} {w w' : World} {x : StStep} (h : StStep.rd w x) (hk : Kept R w w') (hr : ∀ b, FootL x.rows b → ¬ R b) : StStep.rd w' x :=
 ⟨Rd.kept (h.1) hk (fun b hb => hr b ((FootL_append _ _ _).2 (.inl ((footL_ints _ _ _ _ _).2 hb)))), RdF.kept (h.2) hk (fun b hb => hr b ((FootL_append _ _ _).2 (.inr (((FootL_one _ _).2 hb)))))⟩
theorem StStep.rd.same {w w' : World} {x : StStep} (h : StStep.rd w x) (hk : Same w w') : StStep.rd w' x := h.kept hk (fun _ _ => id)
theorem StStep.own_rd {w : World} {x : StStep} (h : OwnL w x.rows) : StStep.rd w x :=
 ⟨(OwnL.of_one h.left).rd, (FR.own_rd h.right)⟩
def StStep.szs (x : StStep) : Int := (x.data.bs.length : Int) + (x.keep.n : Int)
theorem StStep.szs_le (x : StStep) : 0 ≤ x.szs := by
 unfold StStep.szs
 omega
set_option maxRecDepth 100000 in
set_option maxHeartbeats 4000000 in
theorem eqStep_own (x y : StStep) (w : World) (hn : x.size ≤ 1125899906842624) (hd : x.dat = y.dat) (ha : OwnL w x.rows) (hb : OwnL w y.rows) :
  Calls Tryd.prog 30 #[x.val, y.val] w fun e w' => e = .returned (.bool true) ∧ Same w w' := by
 obtain ⟨xkd, xtx, xrid, xcnt, ⟨xdata_e, xdata_a, xdata_c, xdata_b⟩, ⟨xkeep_e, xkeep_a, xkeep_n, xkeep_c, xkeep_b⟩⟩ := x
 obtain ⟨ykd, ytx, yrid, ycnt, ⟨ydata_e, ydata_a, ydata_c, ydata_b⟩, ⟨ykeep_e, ykeep_a, ykeep_n, ykeep_c, ykeep_b⟩⟩ := y
 simp only [StStep.dat, Prod.mk.injEq] at hd
 obtain ⟨rfl, rfl, rfl, rfl, rfl, rfl⟩ := hd
 simp only [StStep.size] at hn
 have Hx0 := (show Hid (OwnL w [ints xdata_e .u8 (.slice xdata_a xdata_b.length xdata_c) xdata_b]) from ha.left)
 have Hy0 := (show Hid (OwnL w [ints ydata_e .u8 (.slice ydata_a xdata_b.length ydata_c) xdata_b]) from hb.left)
 have Hx1 := (show Hid (OwnL w [⟨xkeep_e, 1, .slice xkeep_a xkeep_n xkeep_c, xkeep_n, vals .i64 xkeep_b⟩]) from ha.right)
 have Hy1 := (show Hid (OwnL w [⟨ykeep_e, 1, .slice ykeep_a ykeep_n ykeep_c, ykeep_n, vals .i64 xkeep_b⟩]) from hb.right)
 clear ha hb
 dsimp only [StStep.val, BS.v, FR.v]
 go_enter Tryd.func30, Tryd.ntmps30
 have hk0 : Same w ((w.alloc (.cells #[.int .i64 xkd, .int .i64 xtx, .int .i64 xrid, .int .i64 xcnt, .slice xdata_a xdata_b.length xdata_c, .slice xkeep_a xkeep_n xkeep_c] 61)).alloc (.cells #[.int .i64 xkd, .int .i64 xtx, .int .i64 xrid, .int .i64 xcnt, .slice ydata_a xdata_b.length ydata_c, .slice ykeep_a ykeep_n ykeep_c] 61)) := ((Kept.refl _ _).alloc _).alloc _
 have HK0 := (show Hid (Same w _) from hk0)
 have HBx0 := (show Hid (Blk ((w.alloc (.cells #[.int .i64 xkd, .int .i64 xtx, .int .i64 xrid, .int .i64 xcnt, .slice xdata_a xdata_b.length xdata_c, .slice xkeep_a xkeep_n xkeep_c] 61)).alloc (.cells #[.int .i64 xkd, .int .i64 xtx, .int .i64 xrid, .int .i64 xcnt, .slice ydata_a xdata_b.length ydata_c, .slice ykeep_a ykeep_n ykeep_c] 61)) w.heap.size 61 [.int .i64 xkd, .int .i64 xtx, .int .i64 xrid, .int .i64 xcnt, .slice xdata_a xdata_b.length xdata_c, .slice xkeep_a xkeep_n xkeep_c]) from (Blk.new w #[.int .i64 xkd, .int .i64 xtx, .int .i64 xrid, .int .i64 xcnt, .slice xdata_a xdata_b.length xdata_c, .slice xkeep_a xkeep_n xkeep_c] 61).alloc _)
 have HBy0 := (show Hid (Blk ((w.alloc (.cells #[.int .i64 xkd, .int .i64 xtx, .int .i64 xrid, .int .i64 xcnt, .slice xdata_a xdata_b.length xdata_c, .slice xkeep_a xkeep_n xkeep_c] 61)).alloc (.cells #[.int .i64 xkd, .int .i64 xtx, .int .i64 xrid, .int .i64 xcnt, .slice ydata_a xdata_b.length ydata_c, .slice ykeep_a ykeep_n ykeep_c] 61)) (w.heap.size + 1) 61 [.int .i64 xkd, .int .i64 xtx, .int .i64 xrid, .int .i64 xcnt, .slice ydata_a xdata_b.length ydata_c, .slice ykeep_a ykeep_n ykeep_c]) from by have h := Blk.new (w.alloc (.cells #[.int .i64 xkd, .int .i64 xtx, .int .i64 xrid, .int .i64 xcnt, .slice xdata_a xdata_b.length xdata_c, .slice xkeep_a xkeep_n xkeep_c] 61)) #[.int .i64 xkd, .int .i64 xtx, .int .i64 xrid, .int .i64 xcnt, .slice ydata_a xdata_b.length ydata_c, .slice ykeep_a ykeep_n ykeep_c] 61; rwa [World.size_alloc] at h)
 clear hk0
 go_wp2_with fail
 refine (eqByteS_own 0 _ _ xdata_b _ (by omega) (Hx0.out.of_one.same HK0.out) (Hy0.out.of_one.same HK0.out)).mono ?_
 rintro e w1 ⟨rfl, nn, hww⟩
 have hk : Same ((w.alloc (.cells #[.int .i64 xkd, .int .i64 xtx, .int .i64 xrid, .int .i64 xcnt, .slice xdata_a xdata_b.length xdata_c, .slice xkeep_a xkeep_n xkeep_c] 61)).alloc (.cells #[.int .i64 xkd, .int .i64 xtx, .int .i64 xrid, .int .i64 xcnt, .slice ydata_a xdata_b.length ydata_c, .slice ykeep_a ykeep_n ykeep_c] 61)) w1 := by rw [hww]; exact (Kept.refl _ _).drewN _
 clear hww
 have HK1 := hid (HK0.out.trans hk)
 have HBx1 := (show Hid (Blk w1 w.heap.size 61 [.int .i64 xkd, .int .i64 xtx, .int .i64 xrid, .int .i64 xcnt, .slice xdata_a xdata_b.length xdata_c, .slice xkeep_a xkeep_n xkeep_c]) from HBx0.out.same hk)
 have HBy1 := (show Hid (Blk w1 (w.heap.size + 1) 61 [.int .i64 xkd, .int .i64 xtx, .int .i64 xrid, .int .i64 xcnt, .slice ydata_a xdata_b.length ydata_c, .slice ykeep_a ykeep_n ykeep_c]) from HBy0.out.same hk)
 clear hk HK0 HBx0 HBy0
 have dx0_5 : w1.cell? ⟨w.heap.size, 5, none⟩ = some (.slice xkeep_a xkeep_n xkeep_c) := HBx1.out.cell 5
 have dy0_5 : w1.cell? ⟨w.heap.size + 1, 5, none⟩ = some (.slice ykeep_a ykeep_n ykeep_c) := HBy1.out.cell 5
 go_wp2_with fail
 refine (eqInt64SF_own ⟨xkeep_e, xkeep_a, xkeep_n, xkeep_c, xkeep_b⟩ ⟨ykeep_e, ykeep_a, ykeep_n, ykeep_c, xkeep_b⟩ _ (by dsimp only; omega) rfl (Hx1.out.same HK1.out) (Hy1.out.same HK1.out)).mono ?_
 rintro e w2 ⟨rfl, hk⟩
 have HK2 := hid (HK1.out.trans hk)
 have HBx2 := (show Hid (Blk w2 w.heap.size 61 [.int .i64 xkd, .int .i64 xtx, .int .i64 xrid, .int .i64 xcnt, .slice xdata_a xdata_b.length xdata_c, .slice xkeep_a xkeep_n xkeep_c]) from HBx1.out.same hk)
 have HBy2 := (show Hid (Blk w2 (w.heap.size + 1) 61 [.int .i64 xkd, .int .i64 xtx, .int .i64 xrid, .int .i64 xcnt, .slice ydata_a xdata_b.length ydata_c, .slice ykeep_a ykeep_n ykeep_c]) from HBy1.out.same hk)
 clear hk HK1 HBx1 HBy1
 go_wp2
 go_ret
 exact ⟨rfl, HK2.out⟩
set_option maxRecDepth 100000 in
set_option maxHeartbeats 4000000 in
theorem szStep_any (x : StStep) (left : Int) (w : World) (h0 : 0 ≤ left) (h1 : left ≤ 1048576) (ha : StStep.rd w x) :
  Calls Tryd.prog 16 #[x.val, .int .i64 left] w fun e w' => ∃ r : Int, e = .returned (.int .i64 r) ∧ (r = -1 ∨ (r = left - x.szs ∧ 0 ≤ r)) ∧ Same w w' := by
 obtain ⟨xkd, xtx, xrid, xcnt, ⟨xdata_e, xdata_a, xdata_c, xdata_b⟩, ⟨xkeep_e, xkeep_a, xkeep_n, xkeep_c, xkeep_b⟩⟩ := x
 have hm0 : xdata_b.length ≤ maxLen := (ha.1).1
 have hm1 : xkeep_n ≤ maxLen := (ha.2).1
 clear ha
 dsimp only [StStep.val, BS.v, FR.v]
 go_enter Tryd.func16, Tryd.ntmps16
 have HK0 := (show Hid (Same w (w.alloc (.cells #[.int .i64 xkd, .int .i64 xtx, .int .i64 xrid, .int .i64 xcnt, .slice xdata_a xdata_b.length xdata_c, .slice xkeep_a xkeep_n xkeep_c] 58))) from (Kept.refl _ _).alloc _)
 have HB0 := (show Hid (Blk (w.alloc (.cells #[.int .i64 xkd, .int .i64 xtx, .int .i64 xrid, .int .i64 xcnt, .slice xdata_a xdata_b.length xdata_c, .slice xkeep_a xkeep_n xkeep_c] 58)) w.heap.size 58 [.int .i64 xkd, .int .i64 xtx, .int .i64 xrid, .int .i64 xcnt, .slice xdata_a xdata_b.length xdata_c, .slice xkeep_a xkeep_n xkeep_c]) from Blk.new w #[.int .i64 xkd, .int .i64 xtx, .int .i64 xrid, .int .i64 xcnt, .slice xdata_a xdata_b.length xdata_c, .slice xkeep_a xkeep_n xkeep_c] 58)
 go_wp2_with fail
 refine (szByteS_any _ _ _ left _ (by omega) (by omega) hm0).mono ?_
 rintro e w1 ⟨r1, rfl, hr, hww⟩
 have hk : Same (w.alloc (.cells #[.int .i64 xkd, .int .i64 xtx, .int .i64 xrid, .int .i64 xcnt, .slice xdata_a xdata_b.length xdata_c, .slice xkeep_a xkeep_n xkeep_c] 58)) w1 := by rw [hww]; exact Kept.refl _ _
 clear hww
 replace hr : r1 = -1 ∨ (r1 = left - xdata_b.length ∧ 0 ≤ r1) := by omega
 have HK1 := hid (HK0.out.trans hk)
 have HB1 := (show Hid (Blk w1 w.heap.size 58 [.int .i64 xkd, .int .i64 xtx, .int .i64 xrid, .int .i64 xcnt, .slice xdata_a xdata_b.length xdata_c, .slice xkeep_a xkeep_n xkeep_c]) from HB0.out.same hk)
 clear hk
 rcases hr with rfl | ⟨hr, hr1⟩
 ·go_wp2
  go_ret
  exact ⟨_, rfl, .inl rfl, HK1.out⟩
 have hle1 : r1 ≤ 1048576 := by omega
 have HR1 := (show Hid (_ = _) from hr)
 clear hr
 have d0_5 : w1.cell? ⟨w.heap.size, 5, none⟩ = some (.slice xkeep_a xkeep_n xkeep_c) := HB1.out.cell 5
 go_wp2_with fail
 refine (szInt64SF_any _ _ _ r1 _ (by omega) (by omega) hm1).mono ?_
 rintro e w2 ⟨r2, rfl, hr, hww⟩
 have hk : Same w1 w2 := by rw [hww]; exact Kept.refl _ _
 clear hww
 replace hr : r2 = -1 ∨ (r2 = r1 - xkeep_n ∧ 0 ≤ r2) := by omega
 have HK2 := hid (HK1.out.trans hk)
 have HB2 := (show Hid (Blk w2 w.heap.size 58 [.int .i64 xkd, .int .i64 xtx, .int .i64 xrid, .int .i64 xcnt, .slice xdata_a xdata_b.length xdata_c, .slice xkeep_a xkeep_n xkeep_c]) from HB1.out.same hk)
 clear hk
 rcases hr with rfl | ⟨hr, hr2⟩
 ·go_wp2
  go_ret
  exact ⟨_, rfl, .inl rfl, HK2.out⟩
 have hle2 : r2 ≤ 1048576 := by omega
 have HR2 := (show Hid (_ = _) from hr)
 clear hr
 go_wp2
 go_ret
 exact ⟨_, rfl, .inr ⟨by have e1 := HR1.out; have e2 := HR2.out; simp only [StStep.szs]; omega, hr2⟩, HK2.out⟩
set_option maxRecDepth 100000 in
set_option maxHeartbeats 16000000 in
theorem toStep_any (x : StStep) (w : World) (hn : x.szs ≤ 1073741824) (ha : StStep.rd w x) :
  Calls Tryd.prog 21 #[x.val] w fun e w' => ∃ y : StStep, e = .returned y.val ∧ y.dat = x.dat ∧ y.szs = x.szs ∧ (∀ b, FootL y.rows b → w.heap.size ≤ b) ∧ OwnL w' y.rows ∧ Same w w' := by
 obtain ⟨xkd, xtx, xrid, xcnt, ⟨xdata_e, xdata_a, xdata_c, xdata_b⟩, ⟨xkeep_e, xkeep_a, xkeep_n, xkeep_c, xkeep_b⟩⟩ := x
 have HV0 := (show Hid (Rd .u8 w (.slice xdata_a xdata_b.length xdata_c) xdata_b) from ha.1)
 have HV1 := (show Hid (RdF 1 w ⟨xkeep_e, xkeep_a, xkeep_n, xkeep_c, xkeep_b⟩) from ha.2)
 clear ha
 simp only [StStep.szs] at hn
 dsimp only [StStep.val, BS.v, FR.v]
 go_enter Tryd.func21, Tryd.ntmps21
 have hk0 : Same w (((w.alloc (.cells #[.int .i64 xkd, .int .i64 xtx, .int .i64 xrid, .int .i64 xcnt, .slice xdata_a xdata_b.length xdata_c, .slice xkeep_a xkeep_n xkeep_c] 58)).alloc (.cells #[.int .i64 0, .int .i64 0, .int .i64 0, .int .i64 0, .slice none 0 0, .slice none 0 0] 61)).alloc (.cells #[.int .i64 xkd, .int .i64 xtx, .int .i64 xrid, .int .i64 xcnt, .slice none 0 0, .slice none 0 0] 61)) := (((Kept.refl _ _).alloc _).alloc _).alloc _
 have b0 : Blk (((w.alloc (.cells #[.int .i64 xkd, .int .i64 xtx, .int .i64 xrid, .int .i64 xcnt, .slice xdata_a xdata_b.length xdata_c, .slice xkeep_a xkeep_n xkeep_c] 58)).alloc (.cells #[.int .i64 0, .int .i64 0, .int .i64 0, .int .i64 0, .slice none 0 0, .slice none 0 0] 61)).alloc (.cells #[.int .i64 xkd, .int .i64 xtx, .int .i64 xrid, .int .i64 xcnt, .slice none 0 0, .slice none 0 0] 61)) (w.heap.size) 58 [.int .i64 xkd, .int .i64 xtx, .int .i64 xrid, .int .i64 xcnt, .slice xdata_a xdata_b.length xdata_c, .slice xkeep_a xkeep_n xkeep_c] := ((Blk.new w #[.int .i64 xkd, .int .i64 xtx, .int .i64 xrid, .int .i64 xcnt, .slice xdata_a xdata_b.length xdata_c, .slice xkeep_a xkeep_n xkeep_c] 58).alloc _).alloc _
 have b1 : Blk (((w.alloc (.cells #[.int .i64 xkd, .int .i64 xtx, .int .i64 xrid, .int .i64 xcnt, .slice xdata_a xdata_b.length xdata_c, .slice xkeep_a xkeep_n xkeep_c] 58)).alloc (.cells #[.int .i64 0, .int .i64 0, .int .i64 0, .int .i64 0, .slice none 0 0, .slice none 0 0] 61)).alloc (.cells #[.int .i64 xkd, .int .i64 xtx, .int .i64 xrid, .int .i64 xcnt, .slice none 0 0, .slice none 0 0] 61)) (w.heap.size + 1) 61 [.int .i64 0, .int .i64 0, .int .i64 0, .int .i64 0, .slice none 0 0, .slice none 0 0] := by have h := (Blk.new (w.alloc (.cells #[.int .i64 xkd, .int .i64 xtx, .int .i64 xrid, .int .i64 xcnt, .slice xdata_a xdata_b.length xdata_c, .slice xkeep_a xkeep_n xkeep_c] 58)) #[.int .i64 0, .int .i64 0, .int .i64 0, .int .i64 0, .slice none 0 0, .slice none 0 0] 61).alloc (.cells #[.int .i64 xkd, .int .i64 xtx, .int .i64 xrid, .int .i64 xcnt, .slice none 0 0, .slice none 0 0] 61); rwa [World.size_alloc] at h
 have b2 : Blk (((w.alloc (.cells #[.int .i64 xkd, .int .i64 xtx, .int .i64 xrid, .int .i64 xcnt, .slice xdata_a xdata_b.length xdata_c, .slice xkeep_a xkeep_n xkeep_c] 58)).alloc (.cells #[.int .i64 0, .int .i64 0, .int .i64 0, .int .i64 0, .slice none 0 0, .slice none 0 0] 61)).alloc (.cells #[.int .i64 xkd, .int .i64 xtx, .int .i64 xrid, .int .i64 xcnt, .slice none 0 0, .slice none 0 0] 61)) (w.heap.size + 1 + 1) 61 [.int .i64 xkd, .int .i64 xtx, .int .i64 xrid, .int .i64 xcnt, .slice none 0 0, .slice none 0 0] := by have h := Blk.new ((w.alloc (.cells #[.int .i64 xkd, .int .i64 xtx, .int .i64 xrid, .int .i64 xcnt, .slice xdata_a xdata_b.length xdata_c, .slice xkeep_a xkeep_n xkeep_c] 58)).alloc (.cells #[.int .i64 0, .int .i64 0, .int .i64 0, .int .i64 0, .slice none 0 0, .slice none 0 0] 61)) #[.int .i64 xkd, .int .i64 xtx, .int .i64 xrid, .int .i64 xcnt, .slice none 0 0, .slice none 0 0] 61; rwa [World.size_alloc, World.size_alloc] at h
 have hsz : (((w.alloc (.cells #[.int .i64 xkd, .int .i64 xtx, .int .i64 xrid, .int .i64 xcnt, .slice xdata_a xdata_b.length xdata_c, .slice xkeep_a xkeep_n xkeep_c] 58)).alloc (.cells #[.int .i64 0, .int .i64 0, .int .i64 0, .int .i64 0, .slice none 0 0, .slice none 0 0] 61)).alloc (.cells #[.int .i64 xkd, .int .i64 xtx, .int .i64 xrid, .int .i64 xcnt, .slice none 0 0, .slice none 0 0] 61)).heap.size = w.heap.size + 1 + 1 + 1 := by simp only [World.size_alloc]
 go_wp2_with fail
 refine (toByteS_any _ xdata_b _ (by omega) (HV0.out.same hk0)).mono ?_
 rintro e w1 ⟨g0, rfl, hg, ho, hk⟩
 have O0 : OwnL w1 (BS.rows ⟨5, some ⟨g0, 0, none⟩, xdata_b.length, xdata_b⟩) := OwnL.one ho
 have F0 : ∀ b, FootL (BS.rows ⟨5, some ⟨g0, 0, none⟩, xdata_b.length, xdata_b⟩) b → w.heap.size + 1 + 1 < b := fun b hb => by have h := (footL_ints _ _ _ _ _).1 hb; have h2 : g0 = b := Option.some.inj h; have h3 := hg; omega
 clear ho
 have hk1 : Same w w1 := hk0.trans hk
 replace b0 : Blk w1 (w.heap.size) 58 [.int .i64 xkd, .int .i64 xtx, .int .i64 xrid, .int .i64 xcnt, .slice xdata_a xdata_b.length xdata_c, .slice xkeep_a xkeep_n xkeep_c] := b0.same hk
 replace b1 : Blk w1 (w.heap.size + 1) 61 [.int .i64 0, .int .i64 0, .int .i64 0, .int .i64 0, .slice none 0 0, .slice none 0 0] := b1.same hk
 replace b2 : Blk w1 (w.heap.size + 1 + 1) 61 [.int .i64 xkd, .int .i64 xtx, .int .i64 xrid, .int .i64 xcnt, .slice none 0 0, .slice none 0 0] := b2.same hk
 replace hsz : w.heap.size + 1 + 1 + 1 ≤ w1.heap.size := by have := hk.size; omega
 clear hk hg
 have da1_0 : w1.cell? ⟨w.heap.size, 0, none⟩ = some (.int .i64 xkd) := b0.cell 0
 have dr1_0 : w1.cell? ⟨w.heap.size + 1, 0, none⟩ = some (.int .i64 0) := b1.cell 0
 have fr1_0 : w1.frozen? ⟨w.heap.size + 1, 0, none⟩ = false := b1.frozen 0
 have do1_0 : w1.cell? ⟨w.heap.size + 1 + 1, 0, none⟩ = some (.int .i64 xkd) := b2.cell 0
 have fo1_0 : w1.frozen? ⟨w.heap.size + 1 + 1, 0, none⟩ = false := b2.frozen 0
 have da1_1 : w1.cell? ⟨w.heap.size, 1, none⟩ = some (.int .i64 xtx) := b0.cell 1
 have dr1_1 : w1.cell? ⟨w.heap.size + 1, 1, none⟩ = some (.int .i64 0) := b1.cell 1
 have fr1_1 : w1.frozen? ⟨w.heap.size + 1, 1, none⟩ = false := b1.frozen 1
 have do1_1 : w1.cell? ⟨w.heap.size + 1 + 1, 1, none⟩ = some (.int .i64 xtx) := b2.cell 1
 have fo1_1 : w1.frozen? ⟨w.heap.size + 1 + 1, 1, none⟩ = false := b2.frozen 1
 have da1_2 : w1.cell? ⟨w.heap.size, 2, none⟩ = some (.int .i64 xrid) := b0.cell 2
 have dr1_2 : w1.cell? ⟨w.heap.size + 1, 2, none⟩ = some (.int .i64 0) := b1.cell 2
 have fr1_2 : w1.frozen? ⟨w.heap.size + 1, 2, none⟩ = false := b1.frozen 2
 have do1_2 : w1.cell? ⟨w.heap.size + 1 + 1, 2, none⟩ = some (.int .i64 xrid) := b2.cell 2
 have fo1_2 : w1.frozen? ⟨w.heap.size + 1 + 1, 2, none⟩ = false := b2.frozen 2
 have da1_3 : w1.cell? ⟨w.heap.size, 3, none⟩ = some (.int .i64 xcnt) := b0.cell 3
 have dr1_3 : w1.cell? ⟨w.heap.size + 1, 3, none⟩ = some (.int .i64 0) := b1.cell 3
 have fr1_3 : w1.frozen? ⟨w.heap.size + 1, 3, none⟩ = false := b1.frozen 3
 have do1_3 : w1.cell? ⟨w.heap.size + 1 + 1, 3, none⟩ = some (.int .i64 xcnt) := b2.cell 3
 have fo1_3 : w1.frozen? ⟨w.heap.size + 1 + 1, 3, none⟩ = false := b2.frozen 3
 have da1_4 : w1.cell? ⟨w.heap.size, 4, none⟩ = some (.slice xdata_a xdata_b.length xdata_c) := b0.cell 4
 have dr1_4 : w1.cell? ⟨w.heap.size + 1, 4, none⟩ = some (.slice none 0 0) := b1.cell 4
 have fr1_4 : w1.frozen? ⟨w.heap.size + 1, 4, none⟩ = false := b1.frozen 4
 have do1_4 : w1.cell? ⟨w.heap.size + 1 + 1, 4, none⟩ = some (.slice none 0 0) := b2.cell 4
 have fo1_4 : w1.frozen? ⟨w.heap.size + 1 + 1, 4, none⟩ = false := b2.frozen 4
 have da1_5 : w1.cell? ⟨w.heap.size, 5, none⟩ = some (.slice xkeep_a xkeep_n xkeep_c) := b0.cell 5
 have dr1_5 : w1.cell? ⟨w.heap.size + 1, 5, none⟩ = some (.slice none 0 0) := b1.cell 5
 have fr1_5 : w1.frozen? ⟨w.heap.size + 1, 5, none⟩ = false := b1.frozen 5
 have do1_5 : w1.cell? ⟨w.heap.size + 1 + 1, 5, none⟩ = some (.slice none 0 0) := b2.cell 5
 have fo1_5 : w1.frozen? ⟨w.heap.size + 1 + 1, 5, none⟩ = false := b2.frozen 5
 have hk2 : Same w (w1.setCell ⟨w.heap.size + 1 + 1, 4, none⟩ (.slice (some ⟨g0, 0, none⟩) xdata_b.length xdata_b.length)) := hk1.setCell (.inl (by simp only []; omega)) _
 replace b0 : Blk (w1.setCell ⟨w.heap.size + 1 + 1, 4, none⟩ (.slice (some ⟨g0, 0, none⟩) xdata_b.length xdata_b.length)) (w.heap.size) 58 [.int .i64 xkd, .int .i64 xtx, .int .i64 xrid, .int .i64 xcnt, .slice xdata_a xdata_b.length xdata_c, .slice xkeep_a xkeep_n xkeep_c] := b0.other (by simp only []; omega) _
 replace b1 : Blk (w1.setCell ⟨w.heap.size + 1 + 1, 4, none⟩ (.slice (some ⟨g0, 0, none⟩) xdata_b.length xdata_b.length)) (w.heap.size + 1) 61 [.int .i64 0, .int .i64 0, .int .i64 0, .int .i64 0, .slice none 0 0, .slice none 0 0] := b1.other (by simp only []; omega) _
 replace b2 : Blk (w1.setCell ⟨w.heap.size + 1 + 1, 4, none⟩ (.slice (some ⟨g0, 0, none⟩) xdata_b.length xdata_b.length)) (w.heap.size + 1 + 1) 61 [.int .i64 xkd, .int .i64 xtx, .int .i64 xrid, .int .i64 xcnt, .slice (some ⟨g0, 0, none⟩) xdata_b.length xdata_b.length, .slice none 0 0] := b2.stored 4 _
 replace O0 : OwnL (w1.setCell ⟨w.heap.size + 1 + 1, 4, none⟩ (.slice (some ⟨g0, 0, none⟩) xdata_b.length xdata_b.length)) (BS.rows ⟨5, some ⟨g0, 0, none⟩, xdata_b.length, xdata_b⟩) := O0.kept (Kept.setCell (Kept.refl (fun b => b = w.heap.size + 1 + 1) _) (.inr rfl) _) (fun b hb e => by have := F0 b hb; omega)
 replace hsz : w.heap.size + 1 + 1 + 1 ≤ (w1.setCell ⟨w.heap.size + 1 + 1, 4, none⟩ (.slice (some ⟨g0, 0, none⟩) xdata_b.length xdata_b.length)).heap.size := by rw [World.size_setCell]; exact hsz
 go_wp2_with fail
 refine (toInt64SF_any ⟨xkeep_e, xkeep_a, xkeep_n, xkeep_c, xkeep_b⟩ _ (by dsimp only; omega) (HV1.out.same hk2)).mono ?_
 rintro e w2 ⟨⟨y1e, y1a, y1n, y1c, y1b⟩, rfl, hd1, hz1, hg, O1, hk⟩
 have HZ1 := (show Hid (y1n = xkeep_n) from hz1)
 clear hz1
 have F1 : ∀ b, FootL (FR.rows 1 ⟨y1e, y1a, y1n, y1c, y1b⟩) b → w.heap.size + 1 + 1 < b := fun b hb => by have h := hg b hb; omega
 dsimp only [FR.v]
 have X0_1 : ∀ b, FootL (BS.rows ⟨5, some ⟨g0, 0, none⟩, xdata_b.length, xdata_b⟩) b → ¬ FootL (FR.rows 1 ⟨y1e, y1a, y1n, y1c, y1b⟩) b := fun b hb e => by have h1 := O0.lt b hb; have h2 := hg b e; omega
 replace O0 : OwnL w2 (BS.rows ⟨5, some ⟨g0, 0, none⟩, xdata_b.length, xdata_b⟩) := O0.same hk
 have hk3 : Same w w2 := hk2.trans hk
 replace b0 : Blk w2 (w.heap.size) 58 [.int .i64 xkd, .int .i64 xtx, .int .i64 xrid, .int .i64 xcnt, .slice xdata_a xdata_b.length xdata_c, .slice xkeep_a xkeep_n xkeep_c] := b0.same hk
 replace b1 : Blk w2 (w.heap.size + 1) 61 [.int .i64 0, .int .i64 0, .int .i64 0, .int .i64 0, .slice none 0 0, .slice none 0 0] := b1.same hk
 replace b2 : Blk w2 (w.heap.size + 1 + 1) 61 [.int .i64 xkd, .int .i64 xtx, .int .i64 xrid, .int .i64 xcnt, .slice (some ⟨g0, 0, none⟩) xdata_b.length xdata_b.length, .slice none 0 0] := b2.same hk
 replace hsz : w.heap.size + 1 + 1 + 1 ≤ w2.heap.size := by have := hk.size; omega
 clear hk hg
 have da2_0 : w2.cell? ⟨w.heap.size, 0, none⟩ = some (.int .i64 xkd) := b0.cell 0
 have dr2_0 : w2.cell? ⟨w.heap.size + 1, 0, none⟩ = some (.int .i64 0) := b1.cell 0
 have fr2_0 : w2.frozen? ⟨w.heap.size + 1, 0, none⟩ = false := b1.frozen 0
 have do2_0 : w2.cell? ⟨w.heap.size + 1 + 1, 0, none⟩ = some (.int .i64 xkd) := b2.cell 0
 have fo2_0 : w2.frozen? ⟨w.heap.size + 1 + 1, 0, none⟩ = false := b2.frozen 0
 have da2_1 : w2.cell? ⟨w.heap.size, 1, none⟩ = some (.int .i64 xtx) := b0.cell 1
 have dr2_1 : w2.cell? ⟨w.heap.size + 1, 1, none⟩ = some (.int .i64 0) := b1.cell 1
 have fr2_1 : w2.frozen? ⟨w.heap.size + 1, 1, none⟩ = false := b1.frozen 1
 have do2_1 : w2.cell? ⟨w.heap.size + 1 + 1, 1, none⟩ = some (.int .i64 xtx) := b2.cell 1
 have fo2_1 : w2.frozen? ⟨w.heap.size + 1 + 1, 1, none⟩ = false := b2.frozen 1
 have da2_2 : w2.cell? ⟨w.heap.size, 2, none⟩ = some (.int .i64 xrid) := b0.cell 2
 have dr2_2 : w2.cell? ⟨w.heap.size + 1, 2, none⟩ = some (.int .i64 0) := b1.cell 2
 have fr2_2 : w2.frozen? ⟨w.heap.size + 1, 2, none⟩ = false := b1.frozen 2
 have do2_2 : w2.cell? ⟨w.heap.size + 1 + 1, 2, none⟩ = some (.int .i64 xrid) := b2.cell 2
 have fo2_2 : w2.frozen? ⟨w.heap.size + 1 + 1, 2, none⟩ = false := b2.frozen 2
 have da2_3 : w2.cell? ⟨w.heap.size, 3, none⟩ = some (.int .i64 xcnt) := b0.cell 3
 have dr2_3 : w2.cell? ⟨w.heap.size + 1, 3, none⟩ = some (.int .i64 0) := b1.cell 3
 have fr2_3 : w2.frozen? ⟨w.heap.size + 1, 3, none⟩ = false := b1.frozen 3
 have do2_3 : w2.cell? ⟨w.heap.size + 1 + 1, 3, none⟩ = some (.int .i64 xcnt) := b2.cell 3
 have fo2_3 : w2.frozen? ⟨w.heap.size + 1 + 1, 3, none⟩ = false := b2.frozen 3
 have da2_4 : w2.cell? ⟨w.heap.size, 4, none⟩ = some (.slice xdata_a xdata_b.length xdata_c) := b0.cell 4
 have dr2_4 : w2.cell? ⟨w.heap.size + 1, 4, none⟩ = some (.slice none 0 0) := b1.cell 4
 have fr2_4 : w2.frozen? ⟨w.heap.size + 1, 4, none⟩ = false := b1.frozen 4
 have do2_4 : w2.cell? ⟨w.heap.size + 1 + 1, 4, none⟩ = some (.slice (some ⟨g0, 0, none⟩) xdata_b.length xdata_b.length) := b2.cell 4
 have fo2_4 : w2.frozen? ⟨w.heap.size + 1 + 1, 4, none⟩ = false := b2.frozen 4
 have da2_5 : w2.cell? ⟨w.heap.size, 5, none⟩ = some (.slice xkeep_a xkeep_n xkeep_c) := b0.cell 5
 have dr2_5 : w2.cell? ⟨w.heap.size + 1, 5, none⟩ = some (.slice none 0 0) := b1.cell 5
 have fr2_5 : w2.frozen? ⟨w.heap.size + 1, 5, none⟩ = false := b1.frozen 5
 have do2_5 : w2.cell? ⟨w.heap.size + 1 + 1, 5, none⟩ = some (.slice none 0 0) := b2.cell 5
 have fo2_5 : w2.frozen? ⟨w.heap.size + 1 + 1, 5, none⟩ = false := b2.frozen 5
 have HKz := (show Hid (Same w w2) from hk3)
 have HB1 := (show Hid (Blk w2 (w.heap.size + 1) 61 [.int .i64 0, .int .i64 0, .int .i64 0, .int .i64 0, .slice none 0 0, .slice none 0 0]) from b1)
 have HO0 := (show Hid (OwnL w2 (BS.rows ⟨5, some ⟨g0, 0, none⟩, xdata_b.length, xdata_b⟩)) from O0)
 have HF0 := (show Hid (∀ b, FootL (BS.rows ⟨5, some ⟨g0, 0, none⟩, xdata_b.length, xdata_b⟩) b → w.heap.size + 1 + 1 < b) from F0)
 have HO1 := (show Hid (OwnL w2 (FR.rows 1 ⟨y1e, y1a, y1n, y1c, y1b⟩)) from O1)
 have HF1 := (show Hid (∀ b, FootL (FR.rows 1 ⟨y1e, y1a, y1n, y1c, y1b⟩) b → w.heap.size + 1 + 1 < b) from F1)
 have HX0_1 := (show Hid (∀ b, FootL (BS.rows ⟨5, some ⟨g0, 0, none⟩, xdata_b.length, xdata_b⟩) b → ¬ FootL (FR.rows 1 ⟨y1e, y1a, y1n, y1c, y1b⟩) b) from X0_1)
 clear b0 b1 b2 hk0 hk1 hk2 hk3 O0 O1 F0 F1 X0_1
 go_wp2
 refine bodyPost_ret (v := StStep.val ⟨xkd, xtx, xrid, xcnt, ⟨5, some ⟨g0, 0, none⟩, xdata_b.length, xdata_b⟩, ⟨y1e, y1a, y1n, y1c, y1b⟩⟩) (by simp [StStep.val, StStep.val, BS.v, FR.v, results, Tryd.results21, go_sem, dr2_0, dr2_1, dr2_2, dr2_3, dr2_4, dr2_5]) rfl ⟨⟨xkd, xtx, xrid, xcnt, ⟨5, some ⟨g0, 0, none⟩, xdata_b.length, xdata_b⟩, ⟨y1e, y1a, y1n, y1c, y1b⟩⟩, rfl, ?_, ?_, ?_, ?_, ?_⟩
 ·simp only [StStep.dat]; exact Prod.ext_iff.2 (by simp [hd1])
 ·have z1 := HZ1.out; simp only [StStep.szs]; omega
 ·exact fun b hb => ((FootL_append _ _ _).1 hb).elim (fun e0 => by have := HF0.out b (e0); omega) (fun e0 => by have := HF1.out b (e0); omega)
 ·refine OwnL.kept (R := fun b => b = w.heap.size + 1 ∨ b = w.heap.size + 1 + 1) (show OwnL _ (StStep.rows ⟨xkd, xtx, xrid, xcnt, ⟨5, some ⟨g0, 0, none⟩, xdata_b.length, xdata_b⟩, ⟨y1e, y1a, y1n, y1c, y1b⟩⟩) from (HO0.out).append (HO1.out) (fun b hb e => HX0_1.out b hb e)) ?_ ?_
  ·exact (Kept.setCell (Kept.setCell (Kept.setCell (Kept.setCell (Kept.setCell (Kept.setCell (Kept.setCell (Kept.refl (fun b => b = w.heap.size + 1 ∨ b = w.heap.size + 1 + 1) _) (p := ⟨w.heap.size + 1 + 1, 5, none⟩) (.inr (.inr rfl)) _) (p := ⟨w.heap.size + 1, 0, none⟩) (.inr (.inl rfl)) _) (p := ⟨w.heap.size + 1, 1, none⟩) (.inr (.inl rfl)) _) (p := ⟨w.heap.size + 1, 2, none⟩) (.inr (.inl rfl)) _) (p := ⟨w.heap.size + 1, 3, none⟩) (.inr (.inl rfl)) _) (p := ⟨w.heap.size + 1, 4, none⟩) (.inr (.inl rfl)) _) (p := ⟨w.heap.size + 1, 5, none⟩) (.inr (.inl rfl)) _)
  ·exact fun b hb e => ((FootL_append _ _ _).1 hb).elim (fun e0 => by have := HF0.out b (e0); omega) (fun e0 => by have := HF1.out b (e0); omega)
 ·exact (Kept.setCell (Kept.setCell (Kept.setCell (Kept.setCell (Kept.setCell (Kept.setCell (Kept.setCell HKz.out (p := ⟨w.heap.size + 1 + 1, 5, none⟩) (.inl (by simp only []; omega)) _) (p := ⟨w.heap.size + 1, 0, none⟩) (.inl (by simp only []; omega)) _) (p := ⟨w.heap.size + 1, 1, none⟩) (.inl (by simp only []; omega)) _) (p := ⟨w.heap.size + 1, 2, none⟩) (.inl (by simp only []; omega)) _) (p := ⟨w.heap.size + 1, 3, none⟩) (.inl (by simp only []; omega)) _) (p := ⟨w.heap.size + 1, 4, none⟩) (.inl (by simp only []; omega)) _) (p := ⟨w.heap.size + 1, 5, none⟩) (.inl (by simp only []; omega)) _)
def StStep.cells (x : StStep) : List Value := [.int .i64 x.kd, .int .i64 x.tx, .int .i64 x.rid, .int .i64 x.cnt, x.data.v, x.keep.v]
def kSp : RowK StStep := ⟨6, StStep.cells, fun _ => rfl, fun _ => .slice none 0 0, fun _ => []⟩
def zSp : StStep := ⟨0, 0, 0, 0, ⟨0, none, 0, []⟩, ⟨0, none, 0, 0, []⟩⟩
def datSp (ps : List StStep) := ps.map StStep.dat
def szsSp (ps : List StStep) := ps.map StStep.szs
def spRows (ps : List StStep) : List Row := ps.flatMap StStep.rows
theorem datSp_length (ps : List StStep) : (datSp ps).length = ps.length := by simp [datSp]
theorem datSp_at {ps qs : List StStep} (h : datSp ps = datSp qs) (k : Nat) (h1 : k < ps.length) (h2 : k < qs.length) : ps[k].dat = qs[k].dat := by
 have e : (datSp ps)[k]'(by rw [datSp_length]; exact h1) = (datSp qs)[k]'(by rw [datSp_length]; exact h2) := by simp only [h]
 simpa [datSp] using e
theorem spRows_append (ps qs : List StStep) : spRows (ps ++ qs) = spRows ps ++ spRows qs := by simp [spRows]
theorem spRows_cons (p : StStep) (ps : List StStep) : spRows (p :: ps) = p.rows ++ spRows ps := by simp [spRows]
structure OwnSp (w : World) (v : Value) (ps : List StStep) : Prop where
 own : OwnR kSp 0 61 5 w v ps
 rows : OwnL w (spRows ps)
 out : ∀ b, v.ownBlock = some b → ¬ FootL (spRows ps) b
def footSp (v : Value) (ps : List StStep) (b : Nat) : Prop := v.ownBlock = some b ∨ FootL (spRows ps) b
structure RdSp (w : World) (v : Value) (ps : List StStep) : Prop where
 row : RdR kSp w v ps
 data : ∀ p ∈ ps, StStep.rd w p
theorem footSp_head {v : Value} {ps : List StStep} {b : Nat} (h : footR kSp v ps b) : v.ownBlock = some b := by
 rcases h with h | ⟨p, _, h⟩
 ·exact h
 ·simp [kSp, Value.ownBlock] at h
theorem OwnSp.kept {R : Nat → Prop} {w w' : World} {v : Value} {ps : List StStep} (h : OwnSp w v ps) (hk : Kept R w w') (hr : ∀ b, footSp v ps b → ¬ R b) : OwnSp w' v ps :=
 ⟨h.own.kept hk (fun b hb => hr b (.inl (footSp_head hb))), h.rows.kept hk (fun b hb => hr b (.inr hb)), h.out⟩
theorem OwnSp.same {w w' : World} {v : Value} {ps : List StStep} (h : OwnSp w v ps) (hk : Same w w') : OwnSp w' v ps := h.kept hk (fun _ _ => id)
theorem OwnSp.lt {w : World} {v : Value} {ps : List StStep} (h : OwnSp w v ps) (b : Nat) (hb : footSp v ps b) : b < w.heap.size := by
 rcases hb with hb | hb
 ·exact (h.own.lt b (.inl hb)).2
 ·exact h.rows.lt b hb
theorem OwnL.memSp {w : World} {ps : List StStep} (h : OwnL w (spRows ps)) (p : StStep) (hp : p ∈ ps) : OwnL w p.rows := by
 obtain ⟨a, c, rfl⟩ := List.append_of_mem hp
 rw [spRows_append, spRows_cons] at h
 exact h.right.left
theorem OwnSp.rd {w : World} {v : Value} {ps : List StStep} (h : OwnSp w v ps) : RdSp w v ps := ⟨h.own.rd, fun p hp => StStep.own_rd (h.rows.memSp p hp)⟩
theorem RdSp.same {w w' : World} {v : Value} {ps : List StStep} (h : RdSp w v ps) (hk : Same w w') : RdSp w' v ps := ⟨h.row.same hk, fun p hp => (h.data p hp).same hk⟩
theorem RdSp.form {w : World} {v : Value} {ps : List StStep} (h : RdSp w v ps) : ∃ a c, v = .slice a ps.length c := h.row.form
def sizeSp : List StStep → Int
 | [] => 0
 | p :: ps => p.szs + sizeSp ps
theorem sizeSp_append (ps qs : List StStep) : sizeSp (ps ++ qs) = sizeSp ps + sizeSp qs := by
 induction ps with
 | nil => simp [sizeSp]
 | cons p ps ih => simp only [List.cons_append, sizeSp, ih]; omega
theorem sizeSp_step (ps : List StStep) (j : Nat) (h : j < ps.length) : sizeSp (ps.take (j + 1)) = sizeSp (ps.take j) + ps[j].szs := by
 rw [List.take_succ_eq_append_getElem h, sizeSp_append]
 simp [sizeSp]
theorem sizeSp_nonneg (ps : List StStep) : 0 ≤ sizeSp ps := by
 induction ps with
 | nil => exact Int.le_refl _
 | cons p ps ih => have := p.szs_le; simp only [sizeSp]; omega
theorem sizeSp_mem (ps : List StStep) (p : StStep) (h : p ∈ ps) : p.szs ≤ sizeSp ps := by
 induction ps with
 | nil => simp at h
 | cons q ps ih =>
  have h1 := sizeSp_nonneg ps
  have h2 := q.szs_le
  rcases List.mem_cons.1 h with rfl | h
  ·simp only [sizeSp]; omega
  ·have := ih h; simp only [sizeSp]; omega
theorem sizeSp_szs {ps qs : List StStep} (h : szsSp qs = szsSp ps) : sizeSp qs = sizeSp ps := by
 have key : ∀ rs : List StStep, sizeSp rs = (szsSp rs).sum := fun rs => by
  induction rs with
  | nil => rfl
  | cons p rs ih => simp only [sizeSp, szsSp, List.map_cons, List.sum_cons]; rw [ih]; rfl
 rw [key, key, h]
end Go.Proofs.YtbilnlgjpchgiaaDoor
