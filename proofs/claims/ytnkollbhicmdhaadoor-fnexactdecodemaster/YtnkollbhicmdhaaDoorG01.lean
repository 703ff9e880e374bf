import Derived.Test.YtnkollbhicmdhaaDoorG00
import Derived.Test.YtnkollbhicmdhaaDoorRows
import Derived.Stop.LaidTwo
import Derived.LaidLaws
import Derived.LaidHandle
import Derived.ChangeVars
namespace Go.Proofs.YtnkollbhicmdhaaDoor
open Go.RowKit
set_option linter.unusedSimpArgs false
def Blk (w : World) (B : Nat) (e : TypeId) (xs : List Value) : Prop := w.heap[B]? = some (.cells xs.toArray e (0, 0))
theorem Blk.lt {w : World} {B : Nat} {e : TypeId} {xs : List Value} (h : Blk w B e xs) : B < w.heap.size := (Array.getElem?_eq_some_iff.1 h).1
theorem Blk.cell {w : World} {B : Nat} {e : TypeId} {xs : List Value} (h : Blk w B e xs) (j : Nat) : w.cell? ⟨B, j, none⟩ = xs[j]? := by
  unfold Blk at h
  simp [World.cell?, h]
theorem Blk.frozen {w : World} {B : Nat} {e : TypeId} {xs : List Value} (h : Blk w B e xs) (j : Nat) : w.frozen? ⟨B, j, none⟩ = false := by
  unfold Blk at h
  simp [World.frozen?, h]
theorem Blk.kept {R : Nat → Prop} {w w' : World} {B : Nat} {e : TypeId} {xs : List Value} (h : Blk w B e xs) (hk : Kept R w w') (hr : ¬ R B) : Blk w' B e xs := hk.heap h hr
theorem Blk.same {w w' : World} {B : Nat} {e : TypeId} {xs : List Value} (h : Blk w B e xs) (hk : Same w w') : Blk w' B e xs := hk.heap h id
theorem Blk.new (w : World) (xs : Array Value) (e : TypeId) : Blk (w.alloc (.cells xs e)) w.heap.size e xs.toList := by
  unfold Blk World.alloc
  rw [Array.toArray_toList]
  exact Array.getElem?_push_size
theorem Blk.newL (w : World) (xs : List Value) (e : TypeId) : Blk (w.alloc (.cells xs.toArray e)) w.heap.size e xs := Blk.new w xs.toArray e
theorem Blk.c0 {w : World} {B : Nat} {e : TypeId} {v0 : Value} {t : List Value} (h : Blk w B e (v0 :: t)) : w.cell? ⟨B, 0, none⟩ = some v0 := h.cell 0
theorem Blk.c1 {w : World} {B : Nat} {e : TypeId} {v0 v1 : Value} {t : List Value} (h : Blk w B e (v0 :: v1 :: t)) : w.cell? ⟨B, 1, none⟩ = some v1 := h.cell 1
theorem Blk.c2 {w : World} {B : Nat} {e : TypeId} {v0 v1 v2 : Value} {t : List Value} (h : Blk w B e (v0 :: v1 :: v2 :: t)) : w.cell? ⟨B, 2, none⟩ = some v2 := h.cell 2
theorem Blk.c3 {w : World} {B : Nat} {e : TypeId} {v0 v1 v2 v3 : Value} {t : List Value} (h : Blk w B e (v0 :: v1 :: v2 :: v3 :: t)) : w.cell? ⟨B, 3, none⟩ = some v3 := h.cell 3
theorem Blk.c4 {w : World} {B : Nat} {e : TypeId} {v0 v1 v2 v3 v4 : Value} {t : List Value} (h : Blk w B e (v0 :: v1 :: v2 :: v3 :: v4 :: t)) : w.cell? ⟨B, 4, none⟩ = some v4 := h.cell 4
theorem Blk.c5 {w : World} {B : Nat} {e : TypeId} {v0 v1 v2 v3 v4 v5 : Value} {t : List Value} (h : Blk w B e (v0 :: v1 :: v2 :: v3 :: v4 :: v5 :: t)) : w.cell? ⟨B, 5, none⟩ = some v5 := h.cell 5
theorem Blk.c6 {w : World} {B : Nat} {e : TypeId} {v0 v1 v2 v3 v4 v5 v6 : Value} {t : List Value} (h : Blk w B e (v0 :: v1 :: v2 :: v3 :: v4 :: v5 :: v6 :: t)) : w.cell? ⟨B, 6, none⟩ = some v6 := h.cell 6
theorem Blk.c7 {w : World} {B : Nat} {e : TypeId} {v0 v1 v2 v3 v4 v5 v6 v7 : Value} {t : List Value} (h : Blk w B e (v0 :: v1 :: v2 :: v3 :: v4 :: v5 :: v6 :: v7 :: t)) : w.cell? ⟨B, 7, none⟩ = some v7 := h.cell 7
theorem Blk.c9 {w : World} {B : Nat} {e : TypeId} {v0 v1 v2 v3 v4 v5 v6 v7 v8 v9 : Value} {t : List Value} (h : Blk w B e (v0 :: v1 :: v2 :: v3 :: v4 :: v5 :: v6 :: v7 :: v8 :: v9 :: t)) : w.cell? ⟨B, 9, none⟩ = some v9 := h.cell 9
theorem Blk.c10 {w : World} {B : Nat} {e : TypeId} {v0 v1 v2 v3 v4 v5 v6 v7 v8 v9 v10 : Value} {t : List Value} (h : Blk w B e (v0 :: v1 :: v2 :: v3 :: v4 :: v5 :: v6 :: v7 :: v8 :: v9 :: v10 :: t)) : w.cell? ⟨B, 10, none⟩ = some v10 := h.cell 10
theorem Blk.all2 {w : World} {B : Nat} {e : TypeId} {v0 v1 : Value} (h : Blk w B e [v0, v1]) : w.cell? ⟨B, 0, none⟩ = some v0 ∧ w.cell? ⟨B, 1, none⟩ = some v1 := ⟨h.cell 0, h.cell 1⟩
theorem Blk.all3 {w : World} {B : Nat} {e : TypeId} {v0 v1 v2 : Value} (h : Blk w B e [v0, v1, v2]) : w.cell? ⟨B, 0, none⟩ = some v0 ∧ w.cell? ⟨B, 1, none⟩ = some v1 ∧ w.cell? ⟨B, 2, none⟩ = some v2 := ⟨h.cell 0, h.cell 1, h.cell 2⟩
theorem Blk.all4 {w : World} {B : Nat} {e : TypeId} {v0 v1 v2 v3 : Value} (h : Blk w B e [v0, v1, v2, v3]) : w.cell? ⟨B, 0, none⟩ = some v0 ∧ w.cell? ⟨B, 1, none⟩ = some v1 ∧ w.cell? ⟨B, 2, none⟩ = some v2 ∧ w.cell? ⟨B, 3, none⟩ = some v3 := ⟨h.cell 0, h.cell 1, h.cell 2, h.cell 3⟩
theorem Blk.all6 {w : World} {B : Nat} {e : TypeId} {v0 v1 v2 v3 v4 v5 : Value} (h : Blk w B e [v0, v1, v2, v3, v4, v5]) : w.cell? ⟨B, 0, none⟩ = some v0 ∧ w.cell? ⟨B, 1, none⟩ = some v1 ∧ w.cell? ⟨B, 2, none⟩ = some v2 ∧ w.cell? ⟨B, 3, none⟩ = some v3 ∧ w.cell? ⟨B, 4, none⟩ = some v4 ∧ w.cell? ⟨B, 5, none⟩ = some v5 := ⟨h.cell 0, h.cell 1, h.cell 2, h.cell 3, h.cell 4, h.cell 5⟩
theorem sameA (w : World) (xs : List Value) (e : TypeId) : Same w (w.alloc (.cells xs.toArray e)) := (Kept.refl _ _).alloc _
theorem Blk.newA (w : World) (xs : List Value) (e : TypeId) (ys : List Value) (e' : TypeId) : Blk ((w.alloc (.cells xs.toArray e)).alloc (.cells ys.toArray e')) w.heap.size e xs := by
  have h := Blk.newL w xs e
  have := Below.heap_alloc (w.alloc (.cells xs.toArray e)) (.cells ys.toArray e') w.heap.size h.lt
  unfold Blk at *
  rw [this]
  exact h
theorem Blk.newB (w : World) (xs : List Value) (e : TypeId) (ys : List Value) (e' : TypeId) : Blk ((w.alloc (.cells xs.toArray e)).alloc (.cells ys.toArray e')) (w.heap.size + 1) e' ys := by
  have h := Blk.newL (w.alloc (.cells xs.toArray e)) ys e'
  rwa [World.size_alloc] at h
theorem sameA2 (w : World) (xs : List Value) (e : TypeId) (ys : List Value) (e' : TypeId) : Same w ((w.alloc (.cells xs.toArray e)).alloc (.cells ys.toArray e')) := ((Kept.refl _ _).alloc _).alloc _
theorem Blk.drew {w : World} {B : Nat} {e : TypeId} {xs : List Value} (h : Blk w B e xs) : Blk w.drew B e xs := h
theorem Blk.alloc {w : World} {B : Nat} {e : TypeId} {xs : List Value} (h : Blk w B e xs) (o : Obj) : Blk (w.alloc o) B e xs := by
  have := Below.heap_alloc w o B h.lt
  unfold Blk
  rw [this]
  exact h
theorem Blk.stored {w : World} {B : Nat} {e : TypeId} {xs : List Value} (h : Blk w B e xs) (j : Nat) (v : Value) : Blk (w.setCell ⟨B, j, none⟩ v) B e (xs.set j v) := by
  unfold Blk at h ⊢
  have hl := (Array.getElem?_eq_some_iff.1 h).1
  have hg := (Array.getElem?_eq_some_iff.1 h).2
  simp [World.setCell, hl, Array.getElem_modify, hg]
theorem Blk.other {w : World} {B : Nat} {e : TypeId} {xs : List Value} (h : Blk w B e xs) {p : Addr} (hp : p.block ≠ B) (v : Value) : Blk (w.setCell p v) B e xs := by
  unfold Blk
  rw [Below.heap_setCell _ _ _ _ (fun e => hp e.symm)]
  exact h
theorem Own.blk {w : World} {base g n : Nat} {e : TypeId} {k : IntKind} {bs : List Int} (h : Own base e k w (.slice (some ⟨g, 0, none⟩) n n) bs) : Blk w g e (vals k bs) := by
  rcases h.2 with ⟨h, _⟩ | ⟨g', cap, cur, h, _, hg, _, _, hs, ht⟩
  · cases h
  · cases h
    have hl : cur.toList.length = bs.length * 1 := by simpa using hs
    rw [List.take_of_length_le (by omega)] at ht
    unfold Blk
    rw [← ht]
    simpa using hg
theorem Blk.own {w : World} {g : Nat} {e : TypeId} {k : IntKind} {bs : List Int} (h : Blk w g e (vals k bs)) (hm : bs.length ≤ maxLen) : Own 0 e k w (.slice (some ⟨g, 0, none⟩) bs.length bs.length) bs :=
  ⟨by simp [vals], .inr ⟨g, bs.length, (vals k bs).toArray, rfl, Nat.zero_le _, h, Nat.le_refl _, hm, by simp [vals], by simp only [Nat.mul_one]; exact List.take_of_length_le (by simp [vals])⟩⟩
def lay (xs : List Value) (o : Nat) (vs : List Value) : List Value := xs.take o ++ (vs ++ xs.drop (o + vs.length))
theorem lay_length (xs : List Value) (o : Nat) (vs : List Value) (h : o + vs.length ≤ xs.length) : (lay xs o vs).length = xs.length := by simp [lay]; omega
theorem lay_cons (xs : List Value) (o : Nat) (v : Value) (vs : List Value) (h : o + (vs.length + 1) ≤ xs.length) : lay (xs.set o v) (o + 1) vs = lay xs o (v :: vs) := by
  have hlt : o < xs.length := by omega
  apply List.ext_getElem?
  intro j
  unfold lay
  simp only [List.getElem?_append, List.length_take, List.length_set, List.getElem?_take, List.getElem?_drop, List.length_cons]
  by_cases h1 : j < o
  · rw [if_pos (by omega), if_pos (by omega), if_pos (by omega), if_pos h1, List.getElem?_set_ne (by omega)]
  · by_cases h2 : j = o
    · subst h2
      rw [if_pos (by omega), if_pos (by omega), if_neg (by omega), if_pos (by omega)]
      have e : j - min j xs.length = 0 := by omega
      simp [hlt, e]
    · by_cases h3 : j < o + 1 + vs.length
      · rw [if_neg (by omega), if_pos (by omega), if_neg (by omega), if_pos (by omega)]
        have e : j - min o xs.length = (j - min (o + 1) xs.length) + 1 := by omega
        rw [e, List.getElem?_cons_succ]
      · rw [if_neg (by omega), if_neg (by omega), if_neg (by omega), if_neg (by omega), List.getElem?_set_ne (by omega)]
        congr 1
        omega
theorem lay_set (xs : List Value) (o : Nat) (v : Value) (vs : List Value) (h : o + (vs.length + 1) ≤ xs.length) : (lay xs (o + 1) vs).set o v = lay xs o (v :: vs) := by
  rw [← lay_cons xs o v vs h]
  unfold lay
  rw [List.set_append_left (h := by simp; omega), List.take_set, List.drop_set_of_lt (by omega)]
theorem lay_nil (xs : List Value) (o : Nat) : lay xs o [] = xs := by simp [lay]
theorem lay_all (xs vs : List Value) (h : vs.length = xs.length) : lay xs 0 vs = vs := by simp [lay, h]
end Go.Proofs.YtnkollbhicmdhaaDoor

namespace Go.Proofs.YtnkollbhicmdhaaDoor
set_option maxRecDepth 100000
set_option maxHeartbeats 2000000
open Go.RowKit
set_option linter.unusedVariables false
set_option linter.unusedSimpArgs false
def mF (s e c l : Int) : Int := if ¬ (1 ≤ s ∧ s ≤ 1099511627776) then 1 else if ¬ (1 ≤ e ∧ e ≤ 4294967295) then 2 else if l < 512 ∨ c < l ∨ 1099511627776 < c then 3 else 0
structure Errs (w : World) (a0 a1 a2 : Addr) : Prop where
  c0 : w.cell? ⟨0, 0, none⟩ = some (.iface 179 (.pointer (some a0)))
  c1 : w.cell? ⟨1, 0, none⟩ = some (.iface 179 (.pointer (some a1)))
  c2 : w.cell? ⟨2, 0, none⟩ = some (.iface 179 (.pointer (some a2)))
theorem Errs.same {w w' : World} {a0 a1 a2 : Addr} (h : Errs w a0 a1 a2) (hk : Same w w') : Errs w' a0 a1 a2 := ⟨hk.cellOf h.c0 id, hk.cellOf h.c1 id, hk.cellOf h.c2 id⟩
structure ErrsD (w : World) (a0 a1 a2 : Addr) : Prop where
  errs : Errs w a0 a1 a2
  n01 : a0 ≠ a1
  n02 : a0 ≠ a2
  n12 : a1 ≠ a2
  b0 : ∃ c t, w.heap[a0.block]? = some (.cells c t (0, 0))
  b1 : ∃ c t, w.heap[a1.block]? = some (.cells c t (0, 0))
  b2 : ∃ c t, w.heap[a2.block]? = some (.cells c t (0, 0))
theorem ErrsD.same {w w' : World} {a0 a1 a2 : Addr} (h : ErrsD w a0 a1 a2) (hk : Same w w') : ErrsD w' a0 a1 a2 :=
  ⟨h.errs.same hk, h.n01, h.n02, h.n12, (by obtain ⟨c, t, hb⟩ := h.b0; exact ⟨c, t, hk.heap hb id⟩), (by obtain ⟨c, t, hb⟩ := h.b1; exact ⟨c, t, hk.heap hb id⟩), (by obtain ⟨c, t, hb⟩ := h.b2; exact ⟨c, t, hk.heap hb id⟩)⟩
def errV (a0 a1 a2 : Addr) (k : Int) : Value := if k = 1 then .iface 179 (.pointer (some a0)) else if k = 2 then .iface 179 (.pointer (some a1)) else if k = 3 then .iface 179 (.pointer (some a2)) else .nilIface
theorem toMaster_any (s e c l : Int) (w : World) : Calls Tryd.prog 25 #[.agg #[.int .i64 s, .int .i64 e, .int .i64 c, .int .i64 l]] w fun ex w' => ex = .returned (.agg #[.int .i64 s, .int .i64 e, .int .i64 c, .int .i64 l]) ∧ Same w w' := by
  go_enter Tryd.func25, Tryd.ntmps25
  go_wp2
  refine bodyPost_ret (v := .agg #[.int .i64 s, .int .i64 e, .int .i64 c, .int .i64 l]) (by simp [results, Tryd.results25, go_sem]) rfl ⟨rfl, ?_⟩
  repeat (first | exact Kept.refl _ _ | refine Kept.alloc ?_ _ | refine Kept.setCell ?_ (.inl (by simp)) _)
theorem mF1 {s e c l : Int} (h : ¬ (1 ≤ s ∧ s ≤ 1099511627776)) : mF s e c l = 1 := by unfold mF; rw [if_pos h]
theorem mF2 {s e c l : Int} (h : 1 ≤ s ∧ s ≤ 1099511627776) (h2 : ¬ (1 ≤ e ∧ e ≤ 4294967295)) : mF s e c l = 2 := by unfold mF; rw [if_neg (not_not_intro h), if_pos h2]
theorem mF3 {s e c l : Int} (h : 1 ≤ s ∧ s ≤ 1099511627776) (h2 : 1 ≤ e ∧ e ≤ 4294967295) (h3 : l < 512 ∨ c < l ∨ 1099511627776 < c) : mF s e c l = 3 := by unfold mF; rw [if_neg (not_not_intro h), if_neg (not_not_intro h2), if_pos h3]
theorem mF0 {s e c l : Int} (h : 1 ≤ s ∧ s ≤ 1099511627776) (h2 : 1 ≤ e ∧ e ≤ 4294967295) (h3 : ¬ (l < 512 ∨ c < l ∨ 1099511627776 < c)) : mF s e c l = 0 := by unfold mF; rw [if_neg (not_not_intro h), if_neg (not_not_intro h2), if_neg h3]
theorem mF_good {s e c l : Int} (h : mF s e c l = 0) : (1 ≤ s ∧ s ≤ 1099511627776) ∧ (1 ≤ e ∧ e ≤ 4294967295) ∧ 512 ≤ l ∧ l ≤ c ∧ c ≤ 1099511627776 := by
  unfold mF at h
  split at h
  · cases h
  · split at h
    · cases h
    · split at h
      · cases h
      · omega
theorem mF_cases (s e c l : Int) : mF s e c l = 0 ∨ mF s e c l = 1 ∨ mF s e c l = 2 ∨ mF s e c l = 3 := by
  unfold mF
  split
  · simp
  · split
    · simp
    · split <;> simp
theorem specMF_any (s e c l : Int) (w : World) : Calls Tryd.prog 14 #[.agg #[.int .i64 s, .int .i64 e, .int .i64 c, .int .i64 l]] w fun ex w' => ex = .returned (.int .i64 (mF s e c l)) ∧ Same w w' := by
  have k1 := fun wx => l4In_any s 1 1099511627776 wx
  have k2 := fun wx => l4In_any e 1 4294967295 wx
  have b0 := Blk.new w #[.int .i64 s, .int .i64 e, .int .i64 c, .int .i64 l] 28
  have HK0 := hid (sameA w [.int .i64 s, .int .i64 e, .int .i64 c, .int .i64 l] 28)
  by_cases hs : 1 ≤ s ∧ s ≤ 1099511627776
  · rw [show inB s 1 1099511627776 = true from by simp [inB, hs.1, hs.2]] at k1
    by_cases he : 1 ≤ e ∧ e ≤ 4294967295
    · rw [show inB e 1 4294967295 = true from by simp [inB, he.1, he.2]] at k2
      by_cases h3 : l < 512 ∨ c < l ∨ 1099511627776 < c
      · rw [mF3 hs he h3]
        clear hs he
        by_cases h1 : l < 512
        · clear h3
          go_enter Tryd.func14, Tryd.ntmps14
          go_wp2_with (first
            | (go_at_call 49; (with_reducible refine (k1 _).mono ?_); rintro ex w1 ⟨rfl, hk1⟩; have b1 := b0.same hk1; obtain ⟨d0, d1, d2, d3⟩ := b1.all4)
            | (go_at_call 49; (with_reducible refine (k2 _).mono ?_); rintro ex w2 ⟨rfl, hk2⟩; have b2 := b1.same hk2; obtain ⟨e0, e1, e2, e3⟩ := b2.all4))
          go_ret
          exact ⟨rfl, (HK0.out.trans hk1).trans hk2⟩
        · by_cases h2 : c < l
          · clear h3
            go_enter Tryd.func14, Tryd.ntmps14
            go_wp2_with (first
              | (go_at_call 49; (with_reducible refine (k1 _).mono ?_); rintro ex w1 ⟨rfl, hk1⟩; have b1 := b0.same hk1; obtain ⟨d0, d1, d2, d3⟩ := b1.all4)
              | (go_at_call 49; (with_reducible refine (k2 _).mono ?_); rintro ex w2 ⟨rfl, hk2⟩; have b2 := b1.same hk2; obtain ⟨e0, e1, e2, e3⟩ := b2.all4))
            go_ret
            exact ⟨rfl, (HK0.out.trans hk1).trans hk2⟩
          · have h4 : 1099511627776 < c := by omega
            clear h3
            go_enter Tryd.func14, Tryd.ntmps14
            go_wp2_with (first
              | (go_at_call 49; (with_reducible refine (k1 _).mono ?_); rintro ex w1 ⟨rfl, hk1⟩; have b1 := b0.same hk1; obtain ⟨d0, d1, d2, d3⟩ := b1.all4)
              | (go_at_call 49; (with_reducible refine (k2 _).mono ?_); rintro ex w2 ⟨rfl, hk2⟩; have b2 := b1.same hk2; obtain ⟨e0, e1, e2, e3⟩ := b2.all4))
            go_ret
            exact ⟨rfl, (HK0.out.trans hk1).trans hk2⟩
      · rw [mF0 hs he h3]
        have h1 : ¬ l < 512 := by omega
        have h2 : ¬ c < l := by omega
        have h4 : ¬ 1099511627776 < c := by omega
        clear hs he h3
        go_enter Tryd.func14, Tryd.ntmps14
        go_wp2_with (first
          | (go_at_call 49; (with_reducible refine (k1 _).mono ?_); rintro ex w1 ⟨rfl, hk1⟩; have b1 := b0.same hk1; obtain ⟨d0, d1, d2, d3⟩ := b1.all4)
          | (go_at_call 49; (with_reducible refine (k2 _).mono ?_); rintro ex w2 ⟨rfl, hk2⟩; have b2 := b1.same hk2; obtain ⟨e0, e1, e2, e3⟩ := b2.all4))
        go_ret
        exact ⟨rfl, (HK0.out.trans hk1).trans hk2⟩
    · rw [mF2 hs he, show inB e 1 4294967295 = false from by simp [inB]; omega] at *
      go_enter Tryd.func14, Tryd.ntmps14
      go_wp2_with (first
        | (go_at_call 49; (with_reducible refine (k1 _).mono ?_); rintro ex w1 ⟨rfl, hk1⟩; have b1 := b0.same hk1; obtain ⟨d0, d1, d2, d3⟩ := b1.all4)
        | (go_at_call 49; (with_reducible refine (k2 _).mono ?_); rintro ex w2 ⟨rfl, hk2⟩; have b2 := b1.same hk2; obtain ⟨e0, e1, e2, e3⟩ := b2.all4))
      go_ret
      exact ⟨rfl, (HK0.out.trans hk1).trans hk2⟩
  · rw [mF1 hs, show inB s 1 1099511627776 = false from by simp [inB]; omega] at *
    go_enter Tryd.func14, Tryd.ntmps14
    go_wp2_with (go_at_call 49; (with_reducible refine (k1 _).mono ?_); rintro ex w1 ⟨rfl, hk1⟩)
    go_ret
    exact ⟨rfl, HK0.out.trans hk1⟩
theorem wrongMaster_any (s e c l : Int) (a0 a1 a2 : Addr) (w : World) (hE : Errs w a0 a1 a2) : Calls Tryd.prog 58 #[.agg #[.int .i64 s, .int .i64 e, .int .i64 c, .int .i64 l]] w fun ex w' => ex = .returned (errV a0 a1 a2 (mF s e c l)) ∧ Same w w' := by
  have HK0 := hid (sameA w [.int .i64 s, .int .i64 e, .int .i64 c, .int .i64 l] 28)
  have v0 := (hE.same HK0.out).c0
  have v1 := (hE.same HK0.out).c1
  have v2 := (hE.same HK0.out).c2
  clear hE
  by_cases hs : 1 ≤ s ∧ s ≤ 1099511627776
  · have s1 : ¬ s < 1 := by omega
    have s2 : ¬ 1099511627776 < s := by omega
    by_cases he : 1 ≤ e ∧ e ≤ 4294967295
    · have e1 : ¬ e < 1 := by omega
      have e2 : ¬ 4294967295 < e := by omega
      by_cases h3 : l < 512 ∨ c < l ∨ 1099511627776 < c
      · rw [mF3 hs he h3]
        clear hs he
        by_cases h1 : l < 512
        · clear h3
          go_enter Tryd.func58, Tryd.ntmps58
          go_wp2
          go_ret
          exact ⟨rfl, HK0.out⟩
        · by_cases h2 : c < l
          · clear h3
            go_enter Tryd.func58, Tryd.ntmps58
            go_wp2
            go_ret
            exact ⟨rfl, HK0.out⟩
          · have h4 : 1099511627776 < c := by omega
            clear h3
            go_enter Tryd.func58, Tryd.ntmps58
            go_wp2
            go_ret
            exact ⟨rfl, HK0.out⟩
      · rw [mF0 hs he h3]
        have h1 : ¬ l < 512 := by omega
        have h2 : ¬ c < l := by omega
        have h4 : ¬ 1099511627776 < c := by omega
        clear hs he h3
        go_enter Tryd.func58, Tryd.ntmps58
        go_wp2
        go_ret
        exact ⟨rfl, HK0.out⟩
    · rw [mF2 hs he]
      clear hs
      by_cases e1 : e < 1
      · clear he
        go_enter Tryd.func58, Tryd.ntmps58
        go_wp2
        go_ret
        exact ⟨rfl, HK0.out⟩
      · have e2 : 4294967295 < e := by omega
        clear he
        go_enter Tryd.func58, Tryd.ntmps58
        go_wp2
        go_ret
        exact ⟨rfl, HK0.out⟩
  · rw [mF1 hs]
    by_cases s1 : s < 1
    · clear hs
      go_enter Tryd.func58, Tryd.ntmps58
      go_wp2
      go_ret
      exact ⟨rfl, HK0.out⟩
    · have s2 : 1099511627776 < s := by omega
      clear hs
      go_enter Tryd.func58, Tryd.ntmps58
      go_wp2
      go_ret
      exact ⟨rfl, HK0.out⟩
theorem implMF_any (s e c l : Int) (a0 a1 a2 : Addr) (w : World) (hE : ErrsD w a0 a1 a2) : Calls Tryd.prog 29 #[.agg #[.int .i64 s, .int .i64 e, .int .i64 c, .int .i64 l]] w fun ex w' => ex = .returned (.int .i64 (mF s e c l)) ∧ Same w w' := by
  have HK0 := hid (sameA w [.int .i64 s, .int .i64 e, .int .i64 c, .int .i64 l] 28)
  have HE := (show Hid (ErrsD w a0 a1 a2) from hE)
  have k1 := fun wx (hk : Same w wx) => wrongMaster_any s e c l a0 a1 a2 wx (hE.errs.same hk)
  clear hE
  rcases mF_cases s e c l with h | h | h | h
  · rw [h] at k1 ⊢
    go_enter Tryd.func29, Tryd.ntmps29
    go_wp2_with (first
      | (go_at_call 58; (with_reducible refine (k1 _ HK0.out).mono ?_); rintro ex w1 ⟨rfl, hk1⟩; have HK1 := (show Hid (Same w w1) from HK0.out.trans hk1); have v0 := (HE.out.same HK1.out).errs.c0; have v1 := (HE.out.same HK1.out).errs.c1; have v2 := (HE.out.same HK1.out).errs.c2; have he : errV a0 a1 a2 0 = .nilIface := rfl)
      | (go_at_call 60; refine (is_nil _ _).mono ?_; rintro ex wz ⟨rfl, rfl⟩))
    go_ret
    exact ⟨rfl, HK1.out⟩
  · rw [h] at k1 ⊢
    go_enter Tryd.func29, Tryd.ntmps29
    go_wp2_with (first
      | (go_at_call 58; (with_reducible refine (k1 _ HK0.out).mono ?_); rintro ex w1 ⟨rfl, hk1⟩; have HK1 := (show Hid (Same w w1) from HK0.out.trans hk1); have hE := HE.out.same HK1.out; have v0 := hE.errs.c0; have v1 := hE.errs.c1; have v2 := hE.errs.c2; obtain ⟨y0, z0, q0⟩ := hE.b0; obtain ⟨y1, z1, q1⟩ := hE.b1; obtain ⟨y2, z2, q2⟩ := hE.b2; clear hE; have he : errV a0 a1 a2 1 = .iface 179 (.pointer (some a0)) := rfl; rw [he])
      | (go_at_call 60; (with_reducible refine ((is_same _ _)).mono ?_); rintro ex wz ⟨rfl, rfl⟩))
    go_ret
    exact ⟨rfl, HK1.out⟩
  · rw [h] at k1 ⊢
    go_enter Tryd.func29, Tryd.ntmps29
    go_wp2_with (first
      | (go_at_call 58; (with_reducible refine (k1 _ HK0.out).mono ?_); rintro ex w1 ⟨rfl, hk1⟩; have HK1 := (show Hid (Same w w1) from HK0.out.trans hk1); have hE := HE.out.same HK1.out; have v0 := hE.errs.c0; have v1 := hE.errs.c1; have v2 := hE.errs.c2; obtain ⟨y0, z0, q0⟩ := hE.b0; obtain ⟨y1, z1, q1⟩ := hE.b1; obtain ⟨y2, z2, q2⟩ := hE.b2; clear hE; have he : errV a0 a1 a2 2 = .iface 179 (.pointer (some a1)) := rfl; rw [he])
      | (go_at_call 60; (with_reducible refine ((is_other a1 a0 _ _ _ _ _ HE.out.n01.symm q1 q0)).mono ?_); rintro ex wz ⟨rfl, rfl⟩)
      | (go_at_call 60; (with_reducible refine ((is_same _ _)).mono ?_); rintro ex wz ⟨rfl, rfl⟩))
    go_ret
    exact ⟨rfl, HK1.out⟩
  · rw [h] at k1 ⊢
    go_enter Tryd.func29, Tryd.ntmps29
    go_wp2_with (first
      | (go_at_call 58; (with_reducible refine (k1 _ HK0.out).mono ?_); rintro ex w1 ⟨rfl, hk1⟩; have HK1 := (show Hid (Same w w1) from HK0.out.trans hk1); have hE := HE.out.same HK1.out; have v0 := hE.errs.c0; have v1 := hE.errs.c1; have v2 := hE.errs.c2; obtain ⟨y0, z0, q0⟩ := hE.b0; obtain ⟨y1, z1, q1⟩ := hE.b1; obtain ⟨y2, z2, q2⟩ := hE.b2; clear hE; have he : errV a0 a1 a2 3 = .iface 179 (.pointer (some a2)) := rfl; rw [he])
      | (go_at_call 60; (with_reducible refine ((is_other a2 a0 _ _ _ _ _ HE.out.n02.symm q2 q0)).mono ?_); rintro ex wz ⟨rfl, rfl⟩)
      | (go_at_call 60; (with_reducible refine ((is_other a2 a1 _ _ _ _ _ HE.out.n12.symm q2 q1)).mono ?_); rintro ex wz ⟨rfl, rfl⟩)
      | (go_at_call 60; (with_reducible refine ((is_same _ _)).mono ?_); rintro ex wz ⟨rfl, rfl⟩))
    go_ret
    exact ⟨rfl, HK1.out⟩
end Go.Proofs.YtnkollbhicmdhaaDoor

namespace Go.Proofs.YtnkollbhicmdhaaDoor
open Go.ChangeShapes Go.WideShapes Go.RowKit
set_option linter.unusedVariables false
set_option maxRecDepth 100000
theorem Tryd.gn0 : Tryd.prog.globalNamed "loop.example/s02544/impl.errMasterSeq" = some 0 := by kernel_rfl
theorem Tryd.gt0 : (Tryd.prog.globals[0]?).map (·.type) = some 86 := by kernel_rfl
abbrev txt0 : ByteArray := { data := #[116, 104, 101, 32, 110, 117, 109, 98, 101, 114, 32, 111, 102, 32, 116, 104, 101, 32, 109, 97, 115, 116, 101, 114, 32, 105, 115, 32, 111, 117, 116, 32, 111, 102, 32, 105, 116, 115, 32, 98, 111, 117, 110, 100, 115] }
abbrev L0 : String × DataW Unit := ("loop.example/s02544/impl.errMasterSeq", .iface "*errors.errorString" (.ptr (.agg [.lit (.string [116, 104, 101, 32, 110, 117, 109, 98, 101, 114, 32, 111, 102, 32, 116, 104, 101, 32, 109, 97, 115, 116, 101, 114, 32, 105, 115, 32, 111, 117, 116, 32, 111, 102, 32, 105, 116, 115, 32, 98, 111, 117, 110, 100, 115])])))
theorem Tryd.gn1 : Tryd.prog.globalNamed "loop.example/s02544/impl.errMasterEpoch" = some 1 := by kernel_rfl
theorem Tryd.gt1 : (Tryd.prog.globals[1]?).map (·.type) = some 86 := by kernel_rfl
abbrev txt1 : ByteArray := { data := #[116, 104, 101, 32, 101, 112, 111, 99, 104, 32, 111, 102, 32, 116, 104, 101, 32, 109, 97, 115, 116, 101, 114, 32, 105, 115, 32, 111, 117, 116, 32, 111, 102, 32, 105, 116, 115, 32, 98, 111, 117, 110, 100, 115] }
abbrev L1 : String × DataW Unit := ("loop.example/s02544/impl.errMasterEpoch", .iface "*errors.errorString" (.ptr (.agg [.lit (.string [116, 104, 101, 32, 101, 112, 111, 99, 104, 32, 111, 102, 32, 116, 104, 101, 32, 109, 97, 115, 116, 101, 114, 32, 105, 115, 32, 111, 117, 116, 32, 111, 102, 32, 105, 116, 115, 32, 98, 111, 117, 110, 100, 115])])))
theorem Tryd.gn2 : Tryd.prog.globalNamed "loop.example/s02544/impl.errMasterPlaces" = some 2 := by kernel_rfl
theorem Tryd.gt2 : (Tryd.prog.globals[2]?).map (·.type) = some 86 := by kernel_rfl
abbrev txt2 : ByteArray := { data := #[116, 104, 101, 32, 112, 108, 97, 99, 101, 115, 32, 111, 102, 32, 116, 104, 101, 32, 109, 97, 115, 116, 101, 114, 32, 97, 114, 101, 32, 111, 117, 116, 32, 111, 102, 32, 116, 104, 101, 105, 114, 32, 111, 114, 100, 101, 114] }
abbrev L2 : String × DataW Unit := ("loop.example/s02544/impl.errMasterPlaces", .iface "*errors.errorString" (.ptr (.agg [.lit (.string [116, 104, 101, 32, 112, 108, 97, 99, 101, 115, 32, 111, 102, 32, 116, 104, 101, 32, 109, 97, 115, 116, 101, 114, 32, 97, 114, 101, 32, 111, 117, 116, 32, 111, 102, 32, 116, 104, 101, 105, 114, 32, 111, 114, 100, 101, 114])])))
theorem Tryd.gn3 : Tryd.prog.globalNamed "loop.example/s02544/impl.errMasterLength" = some 3 := by kernel_rfl
theorem Tryd.gt3 : (Tryd.prog.globals[3]?).map (·.type) = some 86 := by kernel_rfl
abbrev txt3 : ByteArray := { data := #[116, 104, 101, 32, 98, 121, 116, 101, 115, 32, 97, 114, 101, 32, 110, 111, 32, 119, 104, 111, 108, 101, 32, 115, 101, 99, 116, 111, 114] }
abbrev L3 : String × DataW Unit := ("loop.example/s02544/impl.errMasterLength", .iface "*errors.errorString" (.ptr (.agg [.lit (.string [116, 104, 101, 32, 98, 121, 116, 101, 115, 32, 97, 114, 101, 32, 110, 111, 32, 119, 104, 111, 108, 101, 32, 115, 101, 99, 116, 111, 114])])))
theorem Tryd.gn4 : Tryd.prog.globalNamed "loop.example/s02544/impl.errMasterForm" = some 4 := by kernel_rfl
theorem Tryd.gt4 : (Tryd.prog.globals[4]?).map (·.type) = some 86 := by kernel_rfl
abbrev txt4 : ByteArray := { data := #[116, 104, 101, 32, 115, 101, 99, 116, 111, 114, 32, 105, 115, 32, 110, 111, 116, 32, 116, 104, 101, 32, 111, 110, 101, 32, 116, 104, 97, 116, 32, 105, 116, 115, 32, 110, 117, 109, 98, 101, 114, 115, 32, 109, 97, 107, 101] }
abbrev L4 : String × DataW Unit := ("loop.example/s02544/impl.errMasterForm", .iface "*errors.errorString" (.ptr (.agg [.lit (.string [116, 104, 101, 32, 115, 101, 99, 116, 111, 114, 32, 105, 115, 32, 110, 111, 116, 32, 116, 104, 101, 32, 111, 110, 101, 32, 116, 104, 97, 116, 32, 105, 116, 115, 32, 110, 117, 109, 98, 101, 114, 115, 32, 109, 97, 107, 101])])))
theorem Tryd.cellsE : Tryd.prog.cellsOf 204 = 1 := by kernel_rfl
theorem Tryd.cellsS : Tryd.prog.cellsOf 9 = 1 := by kernel_rfl
theorem Tryd.star : "*" ++ "errors.errorString" = "*errors.errorString" := by decide
theorem Tryd.rowE (u : TypeId) (h : Tryd.prog.typeName? 3 u = some "*errors.errorString") : u = 179 :=
  typeName_ptr_named (nm := "errors.errorString") (by rw [Tryd.star]; kernel_rfl) (by kernel_rfl) (by decide) u (by rw [Tryd.star]; exact h)
abbrev errAt (a : Addr) : Value := .iface 179 (.pointer (some a))
theorem laid3 {W : World} {r : List (String × DataW Unit)} (h : laidMet Tryd.prog (L0 :: L1 :: L2 :: r) W) :
    ∃ a0 a1 a2 : Addr, W.var? Tryd.prog L0.1 = some #[errAt a0] ∧ W.var? Tryd.prog L1.1 = some #[errAt a1] ∧ W.var? Tryd.prog L2.1 = some #[errAt a2] ∧ ErrsD W a0 a1 a2 := by
  obtain ⟨a0, a1, s0, s1, c0, c1, t0, t1, hv0, hv1, hc0, hs0, hz0, hc1, hs1, hz1, hne, hb0, hb1⟩ := laid_sentinels2 h Tryd.gn0 Tryd.gt0 Tryd.gn1 Tryd.gt1 Tryd.underlying86 Tryd.rowE Tryd.underlying179 Tryd.underlying204 rfl rfl Tryd.underlying9 Tryd.cellsE Tryd.cellsS
  obtain ⟨a1', a2, s1', s2, c1', c2, t1', t2, hv1', hv2, _, _, _, hc2, hs2, hz2, hne2, hb1', hb2⟩ := laid_sentinels2 h.tail Tryd.gn1 Tryd.gt1 Tryd.gn2 Tryd.gt2 Tryd.underlying86 Tryd.rowE Tryd.underlying179 Tryd.underlying204 rfl rfl Tryd.underlying9 Tryd.cellsE Tryd.cellsS
  obtain rfl : a1 = a1' := by have := hv1.symm.trans hv1'; simpa using this
  refine ⟨a0, a1, a2, hv0, hv1, hv2, ⟨by simpa using World.var?_cell Tryd.gn0 hv0 0, by simpa using World.var?_cell Tryd.gn1 hv1 0, by simpa using World.var?_cell Tryd.gn2 hv2 0⟩, hne, ?_, hne2, ⟨_, _, hb0⟩, ⟨_, _, hb1⟩, ⟨_, _, hb2⟩⟩
  rintro rfl
  have := hs0.symm.trans ((congrArg (fun s => s.data.toList) (by simpa using hc0.symm.trans hc2 : s0 = s2)).trans hs2)
  exact absurd this (by decide)
theorem laid_one {W : World} {r : List (String × DataW Unit)} (h : laidMet Tryd.prog (L3 :: r) W) : ∃ a : Addr, W.var? Tryd.prog L3.1 = some #[errAt a] := by
  obtain ⟨a, s, hv, _⟩ := laid_sentinel h Tryd.gn3 Tryd.gt3 Tryd.underlying86 Tryd.rowE Tryd.underlying179 Tryd.underlying204 rfl rfl Tryd.underlying9 Tryd.cellsE Tryd.cellsS
  exact ⟨a, hv⟩
theorem laid_two {W : World} {r : List (String × DataW Unit)} (h : laidMet Tryd.prog (L4 :: r) W) : ∃ a : Addr, W.var? Tryd.prog L4.1 = some #[errAt a] := by
  obtain ⟨a, s, hv, _⟩ := laid_sentinel h Tryd.gn4 Tryd.gt4 Tryd.underlying86 Tryd.rowE Tryd.underlying179 Tryd.underlying204 rfl rfl Tryd.underlying9 Tryd.cellsE Tryd.cellsS
  exact ⟨a, hv⟩
theorem var_same {W W' : World} {n : String} {cs : Array Value} (hk : Same W W') (h : W.var? Tryd.prog n = some cs) : W'.var? Tryd.prog n = some cs := by
  unfold World.var? at h ⊢
  cases hg : Tryd.prog.globalNamed n with
  | none => simp [hg] at h
  | some g =>
    simp only [hg, Option.bind_some] at h ⊢
    cases ho : W.heap[g]? with
    | none => simp [ho] at h
    | some ob => rw [hk.heap ho id]; rw [ho] at h; exact h
def putG (h : Array Obj) (g n : Nat) : Array Obj := h.modify g fun
  | .cells _ t frozen => .cells #[.iface 179 (.pointer (some ⟨n, 0, none⟩))] t frozen
  | o => o
abbrev laidOnObj : Array Obj := #[.cells #[.string txt0] 204, .cells #[.string txt1] 204, .cells #[.string txt2] 204, .cells #[.string txt3] 204, .cells #[.string txt4] 204]
def laidOn (w0 : World) (low : Nat) : World :=
  { w0 with heap := putG (putG (putG (putG (putG (w0.heap) 0 (low + 0)) 1 (low + 1)) 2 (low + 2)) 3 (low + 3)) 4 (low + 4) }
theorem laid_met3 (os : Os) (args : Array Value) : laidMetH Tryd.prog [L0, L1, L2] ((laidOn (World.holding Tryd.prog os ⟨laidOnObj, #[], []⟩) (World.holding Tryd.prog default ⟨#[], #[], []⟩).heap.size).forCall (fun _ _ => 0) ⟨#[], args, []⟩).memory :=
  (laidMet_of_run (ps := [.cell 0 0, .cell ((World.holding Tryd.prog default ⟨#[], #[], []⟩).heap.size + 0) 0, .cell 1 0, .cell ((World.holding Tryd.prog default ⟨#[], #[], []⟩).heap.size + 1) 0, .cell 2 0, .cell ((World.holding Tryd.prog default ⟨#[], #[], []⟩).heap.size + 2) 0]) 8 (by kernel_rfl) (by kernel_rfl) (by kernel_rfl) : laidMet Tryd.prog _ _)
theorem laid_met5 (os : Os) (args : Array Value) : laidMetH Tryd.prog [L0, L1, L2, L3, L4] ((laidOn (World.holding Tryd.prog os ⟨laidOnObj, #[], []⟩) (World.holding Tryd.prog default ⟨#[], #[], []⟩).heap.size).forCall (fun _ _ => 0) ⟨#[], args, []⟩).memory :=
  (laidMet_of_run (ps := [.cell 0 0, .cell ((World.holding Tryd.prog default ⟨#[], #[], []⟩).heap.size + 0) 0, .cell 1 0, .cell ((World.holding Tryd.prog default ⟨#[], #[], []⟩).heap.size + 1) 0, .cell 2 0, .cell ((World.holding Tryd.prog default ⟨#[], #[], []⟩).heap.size + 2) 0, .cell 3 0, .cell ((World.holding Tryd.prog default ⟨#[], #[], []⟩).heap.size + 3) 0, .cell 4 0, .cell ((World.holding Tryd.prog default ⟨#[], #[], []⟩).heap.size + 4) 0]) 8 (by kernel_rfl) (by kernel_rfl) (by kernel_rfl) : laidMet Tryd.prog _ _)
theorem vars3 {H : Type} (enc : TypeId × Value → H) {X : World} {a0 a1 a2 : Addr} (x0 : X.var? Tryd.prog L0.1 = some #[errAt a0]) (x1 : X.var? Tryd.prog L1.1 = some #[errAt a1]) (x2 : X.var? Tryd.prog L2.1 = some #[errAt a2]) (sp : Nat → Bool) :
    DataW.TrodVars enc Tryd.prog X sp [L0.1, L1.1, L2.1] [tok enc (errAt a0), tok enc (errAt a1), tok enc (errAt a2)] [.cell 0 0, .cell 1 0, .cell 2 0] :=
  ⟨0, 86, #[errAt a0], 1, [], [.cell 1 0, .cell 2 0], Tryd.gn0, Tryd.gt0, x0, trod_held Tryd.underlying86 (show IsIface (errAt a0) from trivial) 0, ⟨1, 86, #[errAt a1], 1, [], [.cell 2 0], Tryd.gn1, Tryd.gt1, x1, trod_held Tryd.underlying86 (show IsIface (errAt a1) from trivial) 0, ⟨2, 86, #[errAt a2], 1, [], [], Tryd.gn2, Tryd.gt2, x2, trod_held Tryd.underlying86 (show IsIface (errAt a2) from trivial) 0, rfl, rfl⟩, rfl⟩, rfl⟩
theorem vars5 {H : Type} (enc : TypeId × Value → H) {X : World} {a0 a1 a2 a3 a4 : Addr} (x0 : X.var? Tryd.prog L0.1 = some #[errAt a0]) (x1 : X.var? Tryd.prog L1.1 = some #[errAt a1]) (x2 : X.var? Tryd.prog L2.1 = some #[errAt a2]) (x3 : X.var? Tryd.prog L3.1 = some #[errAt a3]) (x4 : X.var? Tryd.prog L4.1 = some #[errAt a4]) (sp : Nat → Bool) :
    DataW.TrodVars enc Tryd.prog X sp [L3.1, L4.1, L0.1, L1.1, L2.1] [tok enc (errAt a3), tok enc (errAt a4), tok enc (errAt a0), tok enc (errAt a1), tok enc (errAt a2)] [.cell 3 0, .cell 4 0, .cell 0 0, .cell 1 0, .cell 2 0] :=
  ⟨3, 86, #[errAt a3], 1, [], [.cell 4 0, .cell 0 0, .cell 1 0, .cell 2 0], Tryd.gn3, Tryd.gt3, x3, trod_held Tryd.underlying86 (show IsIface (errAt a3) from trivial) 0, ⟨4, 86, #[errAt a4], 1, [], [.cell 0 0, .cell 1 0, .cell 2 0], Tryd.gn4, Tryd.gt4, x4, trod_held Tryd.underlying86 (show IsIface (errAt a4) from trivial) 0, ⟨0, 86, #[errAt a0], 1, [], [.cell 1 0, .cell 2 0], Tryd.gn0, Tryd.gt0, x0, trod_held Tryd.underlying86 (show IsIface (errAt a0) from trivial) 0, ⟨1, 86, #[errAt a1], 1, [], [.cell 2 0], Tryd.gn1, Tryd.gt1, x1, trod_held Tryd.underlying86 (show IsIface (errAt a1) from trivial) 0, ⟨2, 86, #[errAt a2], 1, [], [], Tryd.gn2, Tryd.gt2, x2, trod_held Tryd.underlying86 (show IsIface (errAt a2) from trivial) 0, rfl, rfl⟩, rfl⟩, rfl⟩, rfl⟩, rfl⟩
end Go.Proofs.YtnkollbhicmdhaaDoor
