import Derived.Test.YtaojjcnmififoaaGreatProg
import Derived.Test.YtaojjcnmififoaaGreatG00
import Derived.WalkLawsBesides
import Derived.Deep.QuietTactic
import Derived.BigQuiet
import Derived.Deep.LoopGhost
import Derived.Deep.DeepCutAuto
import Derived.Deep.RegionHeld3
namespace Go.Proofs.YtaojjcnmififoaaGreat
set_option linter.unusedSimpArgs false
set_option maxHeartbeats 16000000
set_option maxRecDepth 100000
set_option linter.unusedVariables false
open Go.RowKit
set_option maxHeartbeats 400000 in
theorem UN {ea eb : TypeId} (base : Nat) (va vb : Value) (bs : List Int) (w : World) (hn : bs.length ≤ 1125899906842624)
  (ha : Own base ea .u8 w va bs) (hb : Own base eb .u8 w vb bs) :
  Calls Tryz.prog 28 #[va, vb] w fun e w' => e = .returned (.bool true) ∧ ∃ n, w' = w.drewN n := by
 by_cases h0 : bs.length = 0
 ·obtain rfl : bs = [] := List.length_eq_zero_iff.1 h0
  obtain ⟨aa, ca, rfl⟩ : ∃ aa ca, va = .slice aa 0 ca := by rcases ha.form with ⟨rfl, _⟩ | ⟨g, cap, rfl, _⟩ <;> exact ⟨_, _, rfl⟩
  obtain ⟨ab, cb, rfl⟩ : ∃ aa ca, vb = .slice aa 0 ca := by rcases hb.form with ⟨rfl, _⟩ | ⟨g, cap, rfl, _⟩ <;> exact ⟨_, _, rfl⟩
  clear ha hb hn h0
  go_enter Tryz.func28, Tryz.ntmps28
  go_wp2
  refine wp_loop_rounds 1 ?_
  rw [rounds_succ]
  go_wp2
  go_ret
  exact ⟨rfl, 0, rfl⟩
 ·obtain ⟨ga, ca, rfl, _, _, _, _⟩ : ∃ g cap, va = .slice (some ⟨g, 0, none⟩) bs.length cap ∧ base ≤ g ∧ g < w.heap.size ∧ bs.length ≤ cap ∧ cap ≤ maxLen := by
   rcases ha.form with ⟨_, rfl⟩ | h
   ·simp at h0
   ·exact h
  obtain ⟨gb, cb, rfl, _, _, _, _⟩ : ∃ g cap, vb = .slice (some ⟨g, 0, none⟩) bs.length cap ∧ base ≤ g ∧ g < w.heap.size ∧ bs.length ≤ cap ∧ cap ≤ maxLen := by
   rcases hb.form with ⟨_, rfl⟩ | h
   ·simp at h0
   ·exact h
  have Jl : ∀ j, j < bs.length → w.cell? ⟨ga, j, none⟩ = some (.int .u8 (bs.getD j 0)) := fun j hj => ha.cell rfl j hj
  have Is : ∀ j, j < bs.length → w.cell? ⟨gb, j, none⟩ = some (.int .u8 (bs.getD j 0)) := fun j hj => hb.cell rfl j hj
  clear ha hb
  generalize hl : bs.length = len at *
  go_enter Tryz.func28, Tryz.ntmps28
  go_wp2
  go_loopw [5] (fun i wr => ∃ k n : Nat, k ≤ len ∧ i = .int .i64 k ∧ wr = w.drewN n) (fun i _ => len - (intOf i).toNat)
  case atStart => exact ⟨0, 0, Nat.zero_le _, rfl, rfl⟩
  case round =>
   obtain ⟨k, n, hk, rfl, rfl⟩ := hrel
   by_cases bH : k < len
   ·have h1 := Jl k bH
    have h2 := Is k bH
    clear Jl Is
    go_wp2
    go_quiet (fail)
    go_wp2
    go_roundw
    case rel => exact ⟨k + 1, _, by omega, by go_num, rfl⟩
    case measure => simp [intOf]; omega
   ·go_wp2
    go_ret
    exact ⟨rfl, _, rfl⟩
set_option maxHeartbeats 400000 in
theorem TP {ea : TypeId} (base : Nat) (va : Value) (bs : List Int) (k0 : Int) (w : World) (hn : bs.length ≤ 1125899906842624) (h0 : 0 ≤ k0) (h1 : k0 ≤ 1125899906842624)
  (ha : Own base ea .u8 w va bs) :
  Calls Tryz.prog 30 #[va, .int .i64 k0] w fun e w' => e = .returned (.int .i64 (k0 + bs.length)) ∧ Own base ea .u8 w' va (marks k0 bs.length) ∧ Kept (fun b => va.ownBlock = some b) w w' := by
 by_cases hz : bs.length = 0
 ·obtain rfl : bs = [] := List.length_eq_zero_iff.1 hz
  obtain ⟨aa, ca, rfl⟩ : ∃ aa ca, va = .slice aa 0 ca := by rcases ha.form with ⟨rfl, _⟩ | ⟨g, cap, rfl, _⟩ <;> exact ⟨_, _, rfl⟩
  have HA : Hid (Own base ea .u8 w (.slice aa 0 ca) []) := ha
  clear ha hn hz
  go_enter Tryz.func30, Tryz.ntmps30
  go_wp2
  refine wp_loop_rounds 1 ?_
  rw [rounds_succ]
  go_wp2
  go_ret
  exact ⟨by simp, by simpa [marks] using HA.out, kZ0⟩
 ·obtain ⟨g, cap, rfl, hb, bH, _, _⟩ : ∃ g cap, va = .slice (some ⟨g, 0, none⟩) bs.length cap ∧ base ≤ g ∧ g < w.heap.size ∧ bs.length ≤ cap ∧ cap ≤ maxLen := by
   rcases ha.form with ⟨_, rfl⟩ | h
   ·simp at hz
   ·exact h
  generalize hl : bs.length = len at *
  have HL : Hid (bs.length = len) := hl
  clear hl
  go_enter Tryz.func30, Tryz.ntmps30
  go_wp2
  go_loopw [1, 5] (fun v i wr => ∃ k : Nat, k ≤ len ∧ i = .int .i64 k ∧ v = .int .i64 (k0 + k) ∧ Hid (Own base ea .u8 wr (.slice (some ⟨g, 0, none⟩) len cap) (part k0 bs k)) ∧ Hid (Kept (fun b => b = g) w wr)) (fun _ i _ => len - (intOf i).toNat)
  case atStart => exact ⟨0, Nat.zero_le _, rfl, by simp, by rw [jcA]; exact ha, kZ0⟩
  case round =>
   obtain ⟨k, hk, rfl, rfl, HO, HK⟩ := hrel
   by_cases bH : k < len
   ·have hf := HO.out.frozen (by rw [Vt _ _ _ (by have := HL.out; omega)]; exact HL.out.symm) k
    have hc := HO.out.cell (by rw [Vt _ _ _ (by have := HL.out; omega)]; exact HL.out.symm) k bH
    clear ha
    go_wp2
    go_roundw
    case rel =>
     have hl := HL.out
     refine ⟨k + 1, by omega, by go_num, by go_num, ?_, HK.out.setCell (.inr rfl) _⟩
     have := HO.out.stored (by rw [Vt _ _ _ (by omega)]; omega) k ((k0 + k) % 256)
     rwa [jcB _ _ _ (by omega)] at this
    case measure => simp [intOf]; omega
   ·go_wp2
    go_ret
    obtain rfl : k = len := by omega
    have hl := HL.out
    refine ⟨rfl, ?_, HK.out.mono (fun b _ e => by simp [Value.ownBlock, e])⟩
    have := HO.out
    rw [← hl, jdi, hl] at this
    exact this
set_option maxHeartbeats 400000 in
theorem U0 {ea : TypeId} (base : Nat) (va : Value) (n : Nat) (k0 : Int) (w : World) (hn : n ≤ 1125899906842624) (h0 : 0 ≤ k0) (h1 : k0 ≤ 1125899906842624)
  (ha : Own base ea .u8 w va (marks k0 n)) :
  Calls Tryz.prog 57 #[va, .int .i64 k0] w fun e w' => e = .returned (.int .i64 (k0 + n)) ∧ w' = w := by
 by_cases hz : n = 0
 ·subst hz
  obtain ⟨aa, ca, rfl⟩ : ∃ aa ca, va = .slice aa 0 ca := by rcases ha.form with ⟨rfl, _⟩ | ⟨g, cap, rfl, _⟩ <;> exact ⟨_, _, rfl⟩
  clear ha hn
  go_enter Tryz.func57, Tryz.ntmps57
  go_wp2
  refine wp_loop_rounds 1 ?_
  rw [rounds_succ]
  go_wp2
  go_ret
  exact ⟨by simp, rfl⟩
 ·obtain ⟨g, cap, rfl⟩ : ∃ g cap, va = .slice (some ⟨g, 0, none⟩) n cap := by
   rcases ha.form with ⟨_, h⟩ | ⟨g, cap, h, _⟩
   ·have := congrArg List.length h; simp [Tj] at this; omega
   ·exact ⟨g, cap, by rw [h, Tj]⟩
  have hc : ∀ j, j < n → w.cell? ⟨g, j, none⟩ = some (.int .u8 ((k0 + j) % 256)) := fun j hj => by
   rw [ha.cell (Tj _ _).symm j hj, jdh _ _ _ hj]
  clear ha
  go_enter Tryz.func57, Tryz.ntmps57
  go_wp2
  go_loop [1, 5] (fun v i => ∃ k : Nat, k ≤ n ∧ i = .int .i64 k ∧ v = .int .i64 (k0 + k)) (fun _ i => n - (intOf i).toNat)
  case atStart => exact ⟨0, Nat.zero_le _, rfl, by simp⟩
  case round =>
   obtain ⟨k, hk, rfl, rfl⟩ := hrel
   by_cases bH : k < n
   ·have h2 := hc k bH
    clear hc
    go_wp2
    go_round
    case rel => exact ⟨k + 1, by omega, by go_num, by go_num⟩
    case measure => simp [intOf]; omega
   ·go_wp2
    go_ret
    obtain rfl : k = n := by omega
    exact ⟨rfl, rfl⟩
def Blk (w : World) (B : Nat) (e : TypeId) (xs : List Value) : Prop := w.heap[B]? = some (.cells xs.toArray e (0, 0))
theorem Blk.lt {w : World} {B : Nat} {e : TypeId} {xs : List Value} (h : Blk w B e xs) : B < w.heap.size := (Array.getElem?_eq_some_iff.1 h).1
theorem Blk.cell {w : World} {B : Nat} {e : TypeId} {xs : List Value} (h : Blk w B e xs) (j : Nat) : w.cell? ⟨B, j, none⟩ = xs[j]? := by
 unfold Blk at h
 simp [World.cell?, h]
theorem Blk.frozen {w : World} {B : Nat} {e : TypeId} {xs : List Value} (h : Blk w B e xs) (j : Nat) : w.frozen? ⟨B, j, none⟩ = false := by
 unfold Blk at h
 simp [World.frozen?, h]
theorem Blk.kept {R : Nat → Prop} {w w' : World} {B : Nat} {e : TypeId} {xs : List Value} (h : Blk w B e xs) (hk : Kept R w w') (hr : ¬ R B) : Blk w' B e xs := hk.heap h hr
theorem Blk.same {w w' : World} {B : Nat} {e : TypeId} {xs : List Value} (h : Blk w B e xs) (hk : Same w w') : Blk w' B e xs := hk.heap h id
theorem Blk.new (w : World) (xs : Array Value) (e : TypeId) : Blk (w.alloc (.cells xs e)) w.heap.size e xs.toList := by
 unfold Blk World.alloc
 rw [Array.toArray_toList]
 exact Array.getElem?_push_size
theorem Blk.newL (w : World) (xs : List Value) (e : TypeId) : Blk (w.alloc (.cells xs.toArray e)) w.heap.size e xs := Blk.new w xs.toArray e
theorem Blk.c0 {w : World} {B : Nat} {e : TypeId} {v0 : Value} {t : List Value} (h : Blk w B e (v0 :: t)) : w.cell? ⟨B, 0, none⟩ = some v0 := h.cell 0
theorem Blk.c1 {w : World} {B : Nat} {e : TypeId} {v0 v1 : Value} {t : List Value} (h : Blk w B e (v0 :: v1 :: t)) : w.cell? ⟨B, 1, none⟩ = some v1 := h.cell 1
theorem Blk.c2 {w : World} {B : Nat} {e : TypeId} {v0 v1 v2 : Value} {t : List Value} (h : Blk w B e (v0 :: v1 :: v2 :: t)) : w.cell? ⟨B, 2, none⟩ = some v2 := h.cell 2
theorem Blk.c3 {w : World} {B : Nat} {e : TypeId} {v0 v1 v2 v3 : Value} {t : List Value} (h : Blk w B e (v0 :: v1 :: v2 :: v3 :: t)) : w.cell? ⟨B, 3, none⟩ = some v3 := h.cell 3
theorem Blk.c4 {w : World} {B : Nat} {e : TypeId} {v0 v1 v2 v3 v4 : Value} {t : List Value} (h : Blk w B e (v0 :: v1 :: v2 :: v3 :: v4 :: t)) : w.cell? ⟨B, 4, none⟩ = some v4 := h.cell 4
theorem Blk.c5 {w : World} {B : Nat} {e : TypeId} {v0 v1 v2 v3 v4 v5 : Value} {t : List Value} (h : Blk w B e (v0 :: v1 :: v2 :: v3 :: v4 :: v5 :: t)) : w.cell? ⟨B, 5, none⟩ = some v5 := h.cell 5
theorem Blk.c6 {w : World} {B : Nat} {e : TypeId} {v0 v1 v2 v3 v4 v5 v6 : Value} {t : List Value} (h : Blk w B e (v0 :: v1 :: v2 :: v3 :: v4 :: v5 :: v6 :: t)) : w.cell? ⟨B, 6, none⟩ = some v6 := h.cell 6
theorem Blk.c7 {w : World} {B : Nat} {e : TypeId} {v0 v1 v2 v3 v4 v5 v6 v7 : Value} {t : List Value} (h : Blk w B e (v0 :: v1 :: v2 :: v3 :: v4 :: v5 :: v6 :: v7 :: t)) : w.cell? ⟨B, 7, none⟩ = some v7 := h.cell 7
theorem Blk.c8 {w : World} {B : Nat} {e : TypeId} {v0 v1 v2 v3 v4 v5 v6 v7 v8 : Value} {t : List Value} (h : Blk w B e (v0 :: v1 :: v2 :: v3 :: v4 :: v5 :: v6 :: v7 :: v8 :: t)) : w.cell? ⟨B, 8, none⟩ = some v8 := h.cell 8
theorem Blk.c9 {w : World} {B : Nat} {e : TypeId} {v0 v1 v2 v3 v4 v5 v6 v7 v8 v9 : Value} {t : List Value} (h : Blk w B e (v0 :: v1 :: v2 :: v3 :: v4 :: v5 :: v6 :: v7 :: v8 :: v9 :: t)) : w.cell? ⟨B, 9, none⟩ = some v9 := h.cell 9
theorem Blk.c10 {w : World} {B : Nat} {e : TypeId} {v0 v1 v2 v3 v4 v5 v6 v7 v8 v9 v10 : Value} {t : List Value} (h : Blk w B e (v0 :: v1 :: v2 :: v3 :: v4 :: v5 :: v6 :: v7 :: v8 :: v9 :: v10 :: t)) : w.cell? ⟨B, 10, none⟩ = some v10 := h.cell 10
theorem Blk.c11 {w : World} {B : Nat} {e : TypeId} {v0 v1 v2 v3 v4 v5 v6 v7 v8 v9 v10 v11 : Value} {t : List Value} (h : Blk w B e (v0 :: v1 :: v2 :: v3 :: v4 :: v5 :: v6 :: v7 :: v8 :: v9 :: v10 :: v11 :: t)) : w.cell? ⟨B, 11, none⟩ = some v11 := h.cell 11
theorem Blk.c12 {w : World} {B : Nat} {e : TypeId} {v0 v1 v2 v3 v4 v5 v6 v7 v8 v9 v10 v11 kh : Value} {t : List Value} (h : Blk w B e (v0 :: v1 :: v2 :: v3 :: v4 :: v5 :: v6 :: v7 :: v8 :: v9 :: v10 :: v11 :: kh :: t)) : w.cell? ⟨B, 12, none⟩ = some kh := h.cell 12
theorem Blk.c13 {w : World} {B : Nat} {e : TypeId} {v0 v1 v2 v3 v4 v5 v6 v7 v8 v9 v10 v11 kh kL : Value} {t : List Value} (h : Blk w B e (v0 :: v1 :: v2 :: v3 :: v4 :: v5 :: v6 :: v7 :: v8 :: v9 :: v10 :: v11 :: kh :: kL :: t)) : w.cell? ⟨B, 13, none⟩ = some kL := h.cell 13
theorem Blk.all2 {w : World} {B : Nat} {e : TypeId} {v0 v1 : Value} (h : Blk w B e [v0, v1]) : w.cell? ⟨B, 0, none⟩ = some v0 ∧ w.cell? ⟨B, 1, none⟩ = some v1 := ⟨h.cell 0, h.cell 1⟩
theorem Blk.all4 {w : World} {B : Nat} {e : TypeId} {v0 v1 v2 v3 : Value} (h : Blk w B e [v0, v1, v2, v3]) : w.cell? ⟨B, 0, none⟩ = some v0 ∧ w.cell? ⟨B, 1, none⟩ = some v1 ∧ w.cell? ⟨B, 2, none⟩ = some v2 ∧ w.cell? ⟨B, 3, none⟩ = some v3 := ⟨h.cell 0, h.cell 1, h.cell 2, h.cell 3⟩
theorem Blk.all14 {w : World} {B : Nat} {e : TypeId} {v0 v1 v2 v3 v4 v5 v6 v7 v8 v9 v10 v11 kh kL : Value} (h : Blk w B e [v0, v1, v2, v3, v4, v5, v6, v7, v8, v9, v10, v11, kh, kL]) : w.cell? ⟨B, 0, none⟩ = some v0 ∧ w.cell? ⟨B, 1, none⟩ = some v1 ∧ w.cell? ⟨B, 2, none⟩ = some v2 ∧ w.cell? ⟨B, 3, none⟩ = some v3 ∧ w.cell? ⟨B, 4, none⟩ = some v4 ∧ w.cell? ⟨B, 5, none⟩ = some v5 ∧ w.cell? ⟨B, 6, none⟩ = some v6 ∧ w.cell? ⟨B, 7, none⟩ = some v7 ∧ w.cell? ⟨B, 8, none⟩ = some v8 ∧ w.cell? ⟨B, 9, none⟩ = some v9 ∧ w.cell? ⟨B, 10, none⟩ = some v10 ∧ w.cell? ⟨B, 11, none⟩ = some v11 ∧ w.cell? ⟨B, 12, none⟩ = some kh ∧ w.cell? ⟨B, 13, none⟩ = some kL := ⟨h.cell 0, h.cell 1, h.cell 2, h.cell 3, h.cell 4, h.cell 5, h.cell 6, h.cell 7, h.cell 8, h.cell 9, h.cell 10, h.cell 11, h.cell 12, h.cell 13⟩
theorem Xx (w : World) (xs : List Value) (e : TypeId) : Same w (w.alloc (.cells xs.toArray e)) := kZ0.alloc _
theorem Blk.newA (w : World) (xs : List Value) (e : TypeId) (ys : List Value) (e' : TypeId) : Blk ((w.alloc (.cells xs.toArray e)).alloc (.cells ys.toArray e')) w.heap.size e xs := by
 have h := Blk.newL w xs e
 have := Below.heap_alloc (w.alloc (.cells xs.toArray e)) (.cells ys.toArray e') w.heap.size h.lt
 unfold Blk at *
 rw [this]
 exact h
theorem Blk.newB (w : World) (xs : List Value) (e : TypeId) (ys : List Value) (e' : TypeId) : Blk ((w.alloc (.cells xs.toArray e)).alloc (.cells ys.toArray e')) (w.heap.size + 1) e' ys := by
 have h := Blk.newL (w.alloc (.cells xs.toArray e)) ys e'
 rwa [World.size_alloc] at h
theorem jbI (w : World) (xs : List Value) (e : TypeId) (ys : List Value) (e' : TypeId) : Same w ((w.alloc (.cells xs.toArray e)).alloc (.cells ys.toArray e')) := (kZ0.alloc _).alloc _
theorem new1 (w : World) (xs : List Value) (e : TypeId) : Hid (Same w (w.alloc (.cells xs.toArray e))) ∧ Hid (Blk (w.alloc (.cells xs.toArray e)) w.heap.size e xs) := ⟨Xx w xs e, Blk.newL w xs e⟩
theorem new2 (w : World) (xs : List Value) (e : TypeId) (ys : List Value) (e' : TypeId) : Hid (Same w ((w.alloc (.cells xs.toArray e)).alloc (.cells ys.toArray e'))) ∧ Hid (Blk ((w.alloc (.cells xs.toArray e)).alloc (.cells ys.toArray e')) w.heap.size e xs) ∧ Hid (Blk ((w.alloc (.cells xs.toArray e)).alloc (.cells ys.toArray e')) (w.heap.size + 1) e' ys) := ⟨jbI w xs e ys e', Blk.newA w xs e ys e', Blk.newB w xs e ys e'⟩
theorem Blk.drew {w : World} {B : Nat} {e : TypeId} {xs : List Value} (h : Blk w B e xs) : Blk w.drew B e xs := h
theorem Blk.alloc {w : World} {B : Nat} {e : TypeId} {xs : List Value} (h : Blk w B e xs) (o : Obj) : Blk (w.alloc o) B e xs := by
 have := Below.heap_alloc w o B h.lt
 unfold Blk
 rw [this]
 exact h
theorem Blk.stored {w : World} {B : Nat} {e : TypeId} {xs : List Value} (h : Blk w B e xs) (j : Nat) (v : Value) : Blk (w.setCell ⟨B, j, none⟩ v) B e (xs.set j v) := by
 unfold Blk at h ⊢
 have hl := (Array.getElem?_eq_some_iff.1 h).1
 have hg := (Array.getElem?_eq_some_iff.1 h).2
 simp [World.setCell, hl, Array.getElem_modify, hg]
theorem Blk.other {w : World} {B : Nat} {e : TypeId} {xs : List Value} (h : Blk w B e xs) {p : Addr} (hp : p.block ≠ B) (v : Value) : Blk (w.setCell p v) B e xs := by
 unfold Blk
 rw [Below.heap_setCell _ _ _ _ (fun e => hp e.symm)]
 exact h
theorem Own.blk {w : World} {base g n : Nat} {e : TypeId} {k : IntKind} {bs : List Int} (h : Own base e k w (.slice (some ⟨g, 0, none⟩) n n) bs) : Blk w g e (vals k bs) := by
 rcases h.2 with ⟨h, _⟩ | ⟨g', cap, cur, h, _, hg, _, _, hs, ht⟩
 ·cases h
 ·cases h
  have hl : cur.toList.length = bs.length * 1 := by simpa using hs
  rw [List.take_of_length_le (by omega)] at ht
  unfold Blk
  rw [← ht]
  simpa using hg
theorem Blk.own {w : World} {g : Nat} {e : TypeId} {k : IntKind} {bs : List Int} (h : Blk w g e (vals k bs)) (hm : bs.length ≤ maxLen) : Own 0 e k w (.slice (some ⟨g, 0, none⟩) bs.length bs.length) bs :=
 ⟨by simp [vals], .inr ⟨g, bs.length, (vals k bs).toArray, rfl, Nat.zero_le _, h, Nat.le_refl _, hm, by simp [vals], by simp only [Nat.mul_one]; exact List.take_of_length_le (by simp [vals])⟩⟩
def lay (xs : List Value) (o : Nat) (vs : List Value) : List Value := xs.take o ++ (vs ++ xs.drop (o + vs.length))
theorem jbJ (xs : List Value) (o : Nat) (vs : List Value) (h : o + vs.length ≤ xs.length) : (lay xs o vs).length = xs.length := by simp [lay]; omega
theorem jaA (xs : List Value) (o : Nat) (v : Value) (vs : List Value) (h : o + (vs.length + 1) ≤ xs.length) : lay (xs.set o v) (o + 1) vs = lay xs o (v :: vs) := by
 have bH : o < xs.length := by omega
 apply List.ext_getElem?
 intro j
 unfold lay
 simp only [List.getElem?_append, List.length_take, List.length_set, List.getElem?_take, List.getElem?_drop, List.length_cons]
 by_cases h1 : j < o
 ·rw [if_pos (by omega), if_pos (by omega), if_pos (by omega), if_pos h1, List.getElem?_set_ne (by omega)]
 ·by_cases h2 : j = o
  ·subst h2
   rw [if_pos (by omega), if_pos (by omega), if_neg (by omega), if_pos (by omega)]
   have e : j - min j xs.length = 0 := by omega
   simp [bH, e]
  ·by_cases h3 : j < o + 1 + vs.length
   ·rw [if_neg (by omega), if_pos (by omega), if_neg (by omega), if_pos (by omega)]
    have e : j - min o xs.length = (j - min (o + 1) xs.length) + 1 := by omega
    rw [e, List.getElem?_cons_succ]
   ·rw [if_neg (by omega), if_neg (by omega), if_neg (by omega), if_neg (by omega), List.getElem?_set_ne (by omega)]
    congr 1
    omega
theorem jei (xs : List Value) (o : Nat) (v : Value) (vs : List Value) (h : o + (vs.length + 1) ≤ xs.length) : (lay xs (o + 1) vs).set o v = lay xs o (v :: vs) := by
 rw [← jaA xs o v vs h]
 unfold lay
 rw [List.set_append_left (h := by simp; omega), List.take_set, List.drop_set_of_lt (by omega)]
theorem jco (xs : List Value) (o : Nat) : lay xs o [] = xs := by simp [lay]
theorem lay_all (xs vs : List Value) (h : vs.length = xs.length) : lay xs 0 vs = vs := by simp [lay, h]
theorem Tryz.infoByte' : (Tryz.prog.info? 5).map (fun i => (i.zero, i.size, i.bytes)) = some (some (.int .u8 0), 1, 1) := by kernel_rfl
def U1 (bs : List Int) (k : Nat) : List Int := bs.take k ++ List.replicate (bs.length - k) 0
theorem U2 (bs : List Int) (k : Nat) (h : k ≤ bs.length) : (U1 bs k).length = bs.length := by simp [U1]; omega
theorem jaB (bs : List Int) : U1 bs 0 = List.replicate bs.length 0 := by simp [U1]
theorem jbK (bs : List Int) : U1 bs bs.length = bs := by simp [U1]
theorem jaC (bs : List Int) (k : Nat) (h : k < bs.length) : (U1 bs k).set k (bs.getD k 0) = U1 bs (k + 1) := by
 unfold U1
 have e : bs.length - k = (bs.length - (k + 1)) + 1 := by omega
 have e2 : bs.getD k 0 = bs[k] := by simp [h, List.getD]
 rw [e2, List.set_append_right (h := by simp; omega), List.length_take, Nat.min_eq_left (Nat.le_of_lt h), Nat.sub_self, e, List.replicate_succ, List.set_cons_zero, List.take_succ_eq_append_getElem h, List.append_assoc]
 rfl
theorem Xy (v : Value) (bs : List Int) (w : World) (hn : bs.length ≤ 1099511627776) (hv : Rd .u8 w v bs) :
  Calls Tryz.prog 19 #[v] w fun e w' => ∃ g, e = .returned (.slice (some ⟨g, 0, none⟩) bs.length bs.length) ∧ w.heap.size ≤ g ∧ Own 0 5 .u8 w' (.slice (some ⟨g, 0, none⟩) bs.length bs.length) bs ∧ Same w w' := by
 obtain ⟨i0, hi, eL, eT, fM⟩ := info_parts Tryz.infoByte'
 rcases hv.2 with ⟨rfl, a, c, rfl, _⟩ | ⟨b, off, c, rfl, _, hc⟩
 ·clear hv hn
  go_enter Tryz.func19, Tryz.ntmps19
  go_wp2_with (at_make; refine wpList_make_full _ rfl (.tmp 6) (.tmp 6) 22 rfl 0 5 i0 (.int .u8 0) 1 Tryz.underlying22 hi eL eT .i64 .i64 _ _ 0 rfl rfl (by simp) (by simp) (by simp) (by simp) (Nat.zero_le _) ?_; intro w1 cy bS; have HO : Hid (Own 0 5 .u8 w1 (.slice (some ⟨w.heap.size, 0, none⟩) 0 0) []) := Vw (n := 0) (by simpa using cy); have HK : Hid (Same w w1) := Kept.of_grown bS (fun k e => by cases e); clear cy bS)
  refine wp_loop_rounds 1 ?_
  rw [rounds_succ]
  go_wp2
  go_ret
  exact ⟨w.heap.size, rfl, Nat.le_refl _, HO.out, HK.out⟩
 ·have HC : Hid (∀ i, i < bs.length → w.cell? ⟨b, off + i, none⟩ = some (.int .u8 (bs.getD i 0))) := hc
  clear hc hv
  generalize hl : bs.length = len at hn ⊢
  have HL : Hid (bs.length = len) := hl
  clear hl
  go_enter Tryz.func19, Tryz.ntmps19
  go_wp2_with (at_make; refine wpList_make_full _ rfl (.tmp 6) (.tmp 6) 22 rfl 0 5 i0 (.int .u8 0) 1 Tryz.underlying22 hi eL eT .i64 .i64 _ _ len rfl rfl (by simp) (by simp) (by rw [fM]; omega) (by unfold maxLen; omega) (Nat.zero_le _) ?_; intro w1 cy bS; have HO : Hid (Own 0 5 .u8 w1 (.slice (some ⟨w.heap.size, 0, none⟩) len len) (List.replicate len 0)) := Vw (by simpa using cy); have HK : Hid (Same w w1) := Kept.of_grown bS (fun k e => by cases e); clear cy bS)
  go_loopw [4] (fun i wr => ∃ (k : Nat), k ≤ len ∧ i = .int .i64 k ∧ Hid (Own 0 5 .u8 wr (.slice (some ⟨w.heap.size, 0, none⟩) len len) (U1 bs k)) ∧ Hid (Same w wr)) (fun i _ => len - (intOf i).toNat)
  case atStart => exact ⟨0, Nat.zero_le _, rfl, by rw [jaB, HL.out]; exact HO, HK⟩
  case round =>
   obtain ⟨k, hk, rfl, HOr, dO⟩ := hrel
   by_cases bH : k < len
   ·have dh : k < bs.length := by rw [HL.out]; exact bH
    have q1 := dO.out.cellOf (HC.out k dh) id
    have q2 := HOr.out.frozen (by rw [U2 _ _ (by have := HL.out; omega)]; exact HL.out.symm) k
    have q3 := HOr.out.cell (by rw [U2 _ _ (by have := HL.out; omega)]; exact HL.out.symm) k bH
    go_wp2
    go_roundw
    case rel =>
     have h := HOr.out.stored (by rw [U2 _ _ (by have := HL.out; omega)]; exact HL.out.symm) k (bs.getD k 0)
     rw [jaC _ _ dh] at h
     refine ⟨k + 1, by omega, by go_num, ?_, ?_⟩
     ·simpa [dh, List.getD, Hid] using h
     ·exact dO.out.setCell (.inl (Nat.le_refl _)) _
    case measure => simp [intOf]; omega
   ·go_wp2
    go_ret
    obtain rfl : k = len := by omega
    have h := HOr.out
    have h2 := HL.out
    rw [← h2, jbK, h2] at h
    exact ⟨w.heap.size, rfl, Nat.le_refl _, h, dO.out⟩
theorem Xz (a : Option Addr) (n c : Nat) (left : Int) (w : World) (h0 : 0 ≤ left) (h1 : left ≤ 1048576) (hn : n ≤ maxLen) :
  Calls Tryz.prog 13 #[.slice a n c, .int .i64 left] w fun e w' => ∃ r : Int, e = .returned (.int .i64 r) ∧ ((r = -1 ∧ left < n) ∨ (r = left - n ∧ 0 ≤ r)) ∧ w' = w := by
 unfold maxLen at hn
 by_cases h : left < n
 ·go_enter Tryz.func13, Tryz.ntmps13
  go_wp2
  go_ret
  exact ⟨_, rfl, .inl ⟨rfl, h⟩, rfl⟩
 ·go_enter Tryz.func13, Tryz.ntmps13
  go_wp2
  go_ret
  exact ⟨_, rfl, .inr ⟨rfl, by omega⟩, rfl⟩
structure StPageRecord where
 used : Bool
 data : BS
def StPageRecord.val (x : StPageRecord) : Value := .agg #[.bool x.used, x.data.v]
def StPageRecord.rows (x : StPageRecord) : List Row := x.data.rows
def StPageRecord.dat (x : StPageRecord) : Bool × List Int := (x.used, x.data.bs)
def StPageRecord.size (x : StPageRecord) : Int := (x.data.bs.length : Int)
theorem StPageRecord.size_le (x : StPageRecord) : 0 ≤ x.size := by
 unfold StPageRecord.size
 omega
def StPageRecord.marked (x : StPageRecord) (k : Int) : StPageRecord := ⟨x.used, x.data.marked (k)⟩
theorem StPageRecord.foot_marked (x : StPageRecord) (k : Int) (b : Nat) : Rf (x.marked k).rows b ↔ Rf x.rows b := by
 exact BS.foot_marked _ _ b
def StPageRecord.rd (w : World) (x : StPageRecord) : Prop := Rd .u8 w x.data.v x.data.bs
theorem StPageRecord.rd.kept {R : Nat → Prop} {w w' : World} {x : StPageRecord} (h : StPageRecord.rd w x) (hk : Kept R w w') (hr : ∀ b, Rf x.rows b → ¬ R b) : StPageRecord.rd w' x :=
 Rd.kept (h) hk (fun b hb => hr b (((RF _ _ _ _ _).2 hb)))
theorem StPageRecord.rd.same {w w' : World} {x : StPageRecord} (h : StPageRecord.rd w x) (hk : Same w w') : StPageRecord.rd w' x := h.kept hk (fun _ _ => id)
theorem StPageRecord.own_rd {w : World} {x : StPageRecord} (h : OwnL w x.rows) : StPageRecord.rd w x :=
 (OwnL.of_one h).rd
def StPageRecord.szs (x : StPageRecord) : Int := (x.data.bs.length : Int)
theorem StPageRecord.szs_le (x : StPageRecord) : 0 ≤ x.szs := by
 unfold StPageRecord.szs
 omega
theorem U9 (x y : StPageRecord) (w : World) (hn : x.size ≤ 1125899906842624) (hd : x.dat = y.dat) (ha : OwnL w x.rows) (hb : OwnL w y.rows) :
  Calls Tryz.prog 102 #[x.val, y.val] w fun e w' => e = .returned (.bool true) ∧ Same w w' := by
 obtain ⟨j2, ⟨qB, i5, ja, eE⟩⟩ := x
 obtain ⟨Jc, ⟨qI, i4, i9, Bp⟩⟩ := y
 simp only [StPageRecord.dat, Prod.mk.injEq] at hd
 obtain ⟨rfl, rfl⟩ := hd
 simp only [StPageRecord.size] at hn
 have zv := (show Hid (OwnL w [ints qB .u8 (.slice i5 eE.length ja) eE]) from ha)
 have yZ := (show Hid (OwnL w [ints qI .u8 (.slice i4 eE.length i9) eE]) from hb)
 clear ha hb
 dsimp only [StPageRecord.val, BS.v]
 go_enter Tryz.func102, Tryz.ntmps102
 have du : Same w ((w.alloc (.cells #[.bool j2, .slice i5 eE.length ja] 46)).alloc (.cells #[.bool j2, .slice i4 eE.length i9] 46)) := (kZ0.alloc _).alloc _
 have aJ := (show Hid (Same w _) from du)
 obtain ⟨_, kQ, kz⟩ := new2 w [.bool j2, .slice i5 eE.length ja] 46 [.bool j2, .slice i4 eE.length i9] 46
 clear du
 go_wp2_with fail
 refine (UN 0 _ _ eE _ (by omega) (zv.out.of_one.same aJ.out) (yZ.out.of_one.same aJ.out)).mono ?_
 rintro e w1 ⟨rfl, nn, yF⟩
 have hk : Same ((w.alloc (.cells #[.bool j2, .slice i5 eE.length ja] 46)).alloc (.cells #[.bool j2, .slice i4 eE.length i9] 46)) w1 := by rw [yF]; exact kZ0.drewN _
 clear yF
 have aM := hid (aJ.out.trans hk)
 have jm := hid (kQ.out.same hk)
 have jf := hid (kz.out.same hk)
 clear hk aJ kQ kz
 go_wp2
 go_ret
 exact ⟨rfl, aM.out⟩
def RdF (m : Nat) (w : World) (x : FR) : Prop :=
 x.n ≤ maxLen ∧ x.bs.length = x.n * m ∧ (x.n = 0 ∨ ∃ b off, x.a = some ⟨b, off, none⟩ ∧ x.n ≤ x.c ∧ ∀ i, i < x.n * m → w.cell? ⟨b, off + i, none⟩ = some (.int .i64 (x.bs.getD i 0)))
theorem RdF.kept {R : Nat → Prop} {m : Nat} {w w' : World} {x : FR} (h : RdF m w x) (hk : Kept R w w') (hr : ∀ b, x.v.ownBlock = some b → ¬ R b) : RdF m w' x := by
 refine ⟨h.1, h.2.1, ?_⟩
 rcases h.2.2 with h | ⟨b, off, he, kx, hc⟩
 ·exact .inl h
 ·exact .inr ⟨b, off, he, kx, fun i hi => hk.cellOf (hc i hi) (hr b (by simp [FR.v, he, Value.ownBlock]))⟩
theorem RdF.same {m : Nat} {w w' : World} {x : FR} (h : RdF m w x) (hk : Same w w') : RdF m w' x := h.kept hk (fun _ _ => id)
def OwnF (m : Nat) (e : TypeId) (w : World) (g n c : Nat) (bs : List Int) : Prop := w.ownsRow 0 e m (.slice (some ⟨g, 0, none⟩) n c) n (vals .i64 bs)
theorem FR.own_one {m : Nat} {w : World} {x : FR} (h : OwnL w (x.rows m)) : w.ownsRow 0 x.e m x.v x.n (vals .i64 x.bs) := h.own _ (List.mem_singleton.2 rfl)
theorem FR.own_len {m : Nat} {w : World} {x : FR} (h : OwnL w (x.rows m)) : x.bs.length = x.n * m := by
 have := (FR.own_one h).1
 rwa [Rb] at this
theorem FR.own_form {m : Nat} {w : World} {x : FR} (h : OwnL w (x.rows m)) : (x.n = 0 ∧ x.a = none ∧ x.c = 0) ∨ ∃ g, x.a = some ⟨g, 0, none⟩ ∧ x.n ≤ x.c ∧ x.c ≤ maxLen ∧ OwnF m x.e w g x.n x.c x.bs := by
 have h1 := FR.own_one h
 rcases h1.2 with ⟨h2, h3⟩ | ⟨g, cap, cur, hv, hb, nO, hc, hm, hs, ht⟩
 ·simp only [FR.v] at h2
  injection h2 with a1 a2 a3
  exact .inl ⟨a2, a1, a3⟩
 ·have K1 := hv
  simp only [FR.v] at K1
  injection K1 with a1 a2 a3
  refine .inr ⟨g, a1, by omega, by omega, ?_⟩
  unfold OwnF
  rw [a3, ← hv]
  exact h1
theorem OwnF.cell {m : Nat} {e : TypeId} {w : World} {g n c : Nat} {bs : List Int} (h : OwnF m e w g n c bs) (j : Nat) (hj : j < n * m) : w.cell? ⟨g, j, none⟩ = some (.int .i64 (bs.getD j 0)) := by
 have h1 := h.1
 rw [Rb] at h1
 rw [World.ownsRow.cellAt h j hj, SK .i64 bs j (by omega)]
theorem OwnF.frozen {m : Nat} {e : TypeId} {w : World} {g n c : Nat} {bs : List Int} (h : OwnF m e w g n c bs) (j : Nat) : w.frozen? ⟨g, j, none⟩ = false := World.ownsRow.frozenAt h j
theorem OwnF.stored {m : Nat} {e : TypeId} {w : World} {g n c : Nat} {bs : List Int} (h : OwnF m e w g n c bs) (j : Nat) (x : Int) : OwnF m e (w.setCell ⟨g, j, none⟩ (.int .i64 x)) g n c (bs.set j x) := by
 have := (World.ownsRow.stored h j (.int .i64 x)).1
 unfold OwnF
 have e : vals .i64 (bs.set j x) = (vals .i64 bs).set j (.int .i64 x) := by simp [vals]
 rw [e]
 exact this
theorem OwnF.same {m : Nat} {e : TypeId} {w w' : World} {g n c : Nat} {bs : List Int} (h : OwnF m e w g n c bs) (hk : Same w w') : OwnF m e w' g n c bs := hk.owns h (fun _ _ => id)
theorem OwnF.out {m : Nat} {e : TypeId} {w : World} {g n c : Nat} {bs : List Int} (h : OwnF m e w g n c bs) : OwnL w (FR.rows m ⟨e, some ⟨g, 0, none⟩, n, c, bs⟩) :=
 ⟨fun r hr => by rw [List.mem_singleton.1 hr]; exact h, List.pairwise_singleton _ _⟩
theorem FR.own_rd {m : Nat} {w : World} {x : FR} (h : OwnL w (x.rows m)) : RdF m w x := by
 have hl := FR.own_len h
 rcases FR.own_form h with ⟨h1, h2, h3⟩ | ⟨g, h1, h2, h3, h4⟩
 ·exact ⟨by rw [h1]; exact Nat.zero_le _, hl, .inl h1⟩
 ·exact ⟨by omega, hl, .inr ⟨g, 0, h1, h2, fun i hi => by rw [Nat.zero_add]; exact h4.cell i hi⟩⟩
def Wy (k : Int) (bs : List Int) (j : Nat) : List Int := UF k j ++ bs.drop j
theorem X4 (k : Int) (bs : List Int) : Wy k bs 0 = bs := by simp [Wy, UF]
theorem Zu (k : Int) (bs : List Int) : Wy k bs bs.length = UF k bs.length := by simp [Wy]
theorem Ue (k : Int) (bs : List Int) (j : Nat) (h : j < bs.length) : (Wy k bs j).set j (k + j) = Wy k bs (j + 1) := by
 unfold Wy
 rw [List.set_append_right (h := by simp [Ul]), Ul, Nat.sub_self, List.drop_eq_getElem_cons h, List.set_cons_zero]
 have e : UF k (j + 1) = UF k j ++ [k + j] := by simp [UF, List.range_succ]
 rw [e, List.append_assoc]
 rfl
theorem Zv (k : Int) (n j : Nat) (h : j < n) : (UF k n).getD j 0 = k + j := by simp [UF, h, List.getD]
theorem Xd (x0 x1 : Int) (w : World) : Calls Tryz.prog 113 #[.agg #[.int .i64 x0, .int .i64 x1], .agg #[.int .i64 x0, .int .i64 x1]] w fun e w' => e = .returned (.bool true) ∧ Same w w' := by
 go_enter Tryz.func113, Tryz.ntmps113
 go_wp2
 go_ret
 exact ⟨rfl, (kZ0.alloc _).alloc _⟩
theorem Wz (x y : FR) (w : World) (hn : (x.bs.length : Int) ≤ 1125899906842624) (hd : x.bs = y.bs) (ha : OwnL w (x.rows 2)) (hb : OwnL w (y.rows 2)) :
  Calls Tryz.prog 104 #[x.v, y.v] w fun e w' => e = .returned (.bool true) ∧ Same w w' := by
 have xL := FR.own_len ha
 have xH := FR.own_len hb
 have yY := FR.own_form ha
 have zt := FR.own_form hb
 obtain ⟨xe, xa, xn, xc, bs⟩ := x
 obtain ⟨ye, ya, yn, yc, N1⟩ := y
 dsimp only at hn hd xL xH yY zt
 subst hd
 obtain rfl : xn = yn := by omega
 dsimp only [FR.v]
 clear ha hb
 rcases yY with ⟨rfl, rfl, rfl⟩ | ⟨ga, rfl, kl, jY, fD⟩
 ·have hz : (0 : Nat) = 0 := rfl
  go_enter Tryz.func104, Tryz.ntmps104
  go_wp2
  refine wp_loop_rounds 1 ?_
  rw [rounds_succ]
  go_wp2
  go_ret
  exact ⟨rfl, kZ0⟩
 rcases zt with ⟨rfl, rfl, rfl⟩ | ⟨gb, rfl, O4, tM, fS⟩
 ·clear fD
  go_enter Tryz.func104, Tryz.ntmps104
  go_wp2
  refine wp_loop_rounds 1 ?_
  rw [rounds_succ]
  go_wp2
  go_ret
  exact ⟨rfl, kZ0⟩
 have HA := (show Hid (OwnF 2 xe w ga xn xc bs) from fD)
 have HB := (show Hid (OwnF 2 ye w gb xn yc bs) from fS)
 have Ah : (xn : Int) ≤ 1125899906842624 := by omega
 clear fD fS xL xH hn
 go_enter Tryz.func104, Tryz.ntmps104
 go_wp2
 go_loopw [5] (fun i wr => ∃ (k : Nat), k ≤ xn ∧ i = .int .i64 k ∧ Hid (Same w wr)) (fun i _ => xn - (intOf i).toNat)
 case atStart => exact ⟨0, Nat.zero_le _, rfl, kZ0⟩
 case round =>
  obtain ⟨k, hk, rfl, HK⟩ := hrel
  by_cases bH : k < xn
  ·have fD := HA.out.same HK.out
   have fS := HB.out.same HK.out
   have uK : wr.cell? ⟨ga, k * 2, none⟩ = some (.int .i64 (bs.getD (k * 2) 0)) := fD.cell _ (by omega)
   have rI : wr.cell? ⟨ga, k * 2 + 1, none⟩ = some (.int .i64 (bs.getD (k * 2 + 1) 0)) := fD.cell _ (by omega)
   have a8 : wr.cell? ⟨gb, k * 2, none⟩ = some (.int .i64 (bs.getD (k * 2) 0)) := fS.cell _ (by omega)
   have cN : wr.cell? ⟨gb, k * 2 + 1, none⟩ = some (.int .i64 (bs.getD (k * 2 + 1) 0)) := fS.cell _ (by omega)
   clear fD fS
   generalize bs.getD (k * 2) 0 = x0 at *
   generalize bs.getD (k * 2 + 1) 0 = x1 at *
   go_wp2_with fail
   go_region_with (go_at_call 113; refine (Xd x0 x1 _).mono ?_; rintro e w1 ⟨rfl, aH⟩)
   all_goals
    have aM : Hid (Same w w1) := HK.out.drew.trans aH
    clear aH uK a8 rI cN
    go_wp2
    go_roundw
    case rel => exact ⟨k + 1, by omega, by go_num, aM⟩
    case measure => simp [intOf]; omega
  ·go_wp2
   go_ret
   exact ⟨rfl, HK.out⟩
theorem X5 (x0 x1 x2 x3 : Int) (w : World) : Calls Tryz.prog 112 #[.agg #[.int .i64 x0, .int .i64 x1, .int .i64 x2, .int .i64 x3], .agg #[.int .i64 x0, .int .i64 x1, .int .i64 x2, .int .i64 x3]] w fun e w' => e = .returned (.bool true) ∧ Same w w' := by
 go_enter Tryz.func112, Tryz.ntmps112
 go_wp2
 go_ret
 exact ⟨rfl, (kZ0.alloc _).alloc _⟩
theorem XP (x y : FR) (w : World) (hn : (x.bs.length : Int) ≤ 1125899906842624) (hd : x.bs = y.bs) (ha : OwnL w (x.rows 4)) (hb : OwnL w (y.rows 4)) :
  Calls Tryz.prog 103 #[x.v, y.v] w fun e w' => e = .returned (.bool true) ∧ Same w w' := by
 have xL := FR.own_len ha
 have xH := FR.own_len hb
 have yY := FR.own_form ha
 have zt := FR.own_form hb
 obtain ⟨xe, xa, xn, xc, bs⟩ := x
 obtain ⟨ye, ya, yn, yc, N1⟩ := y
 dsimp only at hn hd xL xH yY zt
 subst hd
 obtain rfl : xn = yn := by omega
 dsimp only [FR.v]
 clear ha hb
 rcases yY with ⟨rfl, rfl, rfl⟩ | ⟨ga, rfl, kl, jY, fD⟩
 ·have hz : (0 : Nat) = 0 := rfl
  go_enter Tryz.func103, Tryz.ntmps103
  go_wp2
  refine wp_loop_rounds 1 ?_
  rw [rounds_succ]
  go_wp2
  go_ret
  exact ⟨rfl, kZ0⟩
 rcases zt with ⟨rfl, rfl, rfl⟩ | ⟨gb, rfl, O4, tM, fS⟩
 ·clear fD
  go_enter Tryz.func103, Tryz.ntmps103
  go_wp2
  refine wp_loop_rounds 1 ?_
  rw [rounds_succ]
  go_wp2
  go_ret
  exact ⟨rfl, kZ0⟩
 have HA := (show Hid (OwnF 4 xe w ga xn xc bs) from fD)
 have HB := (show Hid (OwnF 4 ye w gb xn yc bs) from fS)
 have Ah : (xn : Int) ≤ 1125899906842624 := by omega
 clear fD fS xL xH hn
 go_enter Tryz.func103, Tryz.ntmps103
 go_wp2
 go_loopw [5] (fun i wr => ∃ (k : Nat), k ≤ xn ∧ i = .int .i64 k ∧ Hid (Same w wr)) (fun i _ => xn - (intOf i).toNat)
 case atStart => exact ⟨0, Nat.zero_le _, rfl, kZ0⟩
 case round =>
  obtain ⟨k, hk, rfl, HK⟩ := hrel
  by_cases bH : k < xn
  ·have fD := HA.out.same HK.out
   have fS := HB.out.same HK.out
   have uK : wr.cell? ⟨ga, k * 4, none⟩ = some (.int .i64 (bs.getD (k * 4) 0)) := fD.cell _ (by omega)
   have rI : wr.cell? ⟨ga, k * 4 + 1, none⟩ = some (.int .i64 (bs.getD (k * 4 + 1) 0)) := fD.cell _ (by omega)
   have vN : wr.cell? ⟨ga, k * 4 + 2, none⟩ = some (.int .i64 (bs.getD (k * 4 + 2) 0)) := fD.cell _ (by omega)
   have AR : wr.cell? ⟨ga, k * 4 + 3, none⟩ = some (.int .i64 (bs.getD (k * 4 + 3) 0)) := fD.cell _ (by omega)
   have a8 : wr.cell? ⟨gb, k * 4, none⟩ = some (.int .i64 (bs.getD (k * 4) 0)) := fS.cell _ (by omega)
   have cN : wr.cell? ⟨gb, k * 4 + 1, none⟩ = some (.int .i64 (bs.getD (k * 4 + 1) 0)) := fS.cell _ (by omega)
   have dL : wr.cell? ⟨gb, k * 4 + 2, none⟩ = some (.int .i64 (bs.getD (k * 4 + 2) 0)) := fS.cell _ (by omega)
   have lr : wr.cell? ⟨gb, k * 4 + 3, none⟩ = some (.int .i64 (bs.getD (k * 4 + 3) 0)) := fS.cell _ (by omega)
   clear fD fS
   generalize bs.getD (k * 4) 0 = x0 at *
   generalize bs.getD (k * 4 + 1) 0 = x1 at *
   generalize bs.getD (k * 4 + 2) 0 = x2 at *
   generalize bs.getD (k * 4 + 3) 0 = x3 at *
   go_wp2_with fail
   go_region_with (go_at_call 112; refine (X5 x0 x1 x2 x3 _).mono ?_; rintro e w1 ⟨rfl, aH⟩)
   all_goals
    have aM : Hid (Same w w1) := HK.out.drew.trans aH
    clear aH uK a8 rI cN vN dL AR lr
    go_wp2
    go_roundw
    case rel => exact ⟨k + 1, by omega, by go_num, aM⟩
    case measure => simp [intOf]; omega
  ·go_wp2
   go_ret
   exact ⟨rfl, HK.out⟩
structure StLogRecord where
 kind : Int
 txn : Int
 prev : Int
 page : Int
 slot : Int
 before : StPageRecord
 after : StPageRecord
 uN : Int
 nT : Int
 txns : FR
 dirty : FR
 image : BS
def StLogRecord.val (x : StLogRecord) : Value := .agg #[.int .i64 x.kind, .int .i64 x.txn, .int .i64 x.prev, .int .i64 x.page, .int .i64 x.slot, .bool x.before.used, x.before.data.v, .bool x.after.used, x.after.data.v, .int .i64 x.uN, .int .i64 x.nT, x.txns.v, x.dirty.v, x.image.v]
def StLogRecord.rows (x : StLogRecord) : List Row := x.before.rows ++ (x.after.rows ++ ((x.txns).rows 4 ++ ((x.dirty).rows 2 ++ (x.image.rows))))
def StLogRecord.dat (x : StLogRecord) : Int × Int × Int × Int × Int × (Bool × List Int) × (Bool × List Int) × Int × Int × List Int × List Int × List Int := (x.kind, x.txn, x.prev, x.page, x.slot, x.before.dat, x.after.dat, x.uN, x.nT, x.txns.bs, x.dirty.bs, x.image.bs)
def StLogRecord.size (x : StLogRecord) : Int := x.before.size + x.after.size + (x.txns.bs.length : Int) + (x.dirty.bs.length : Int) + (x.image.bs.length : Int)
theorem StLogRecord.size_le (x : StLogRecord) : 0 ≤ x.size := by
 unfold StLogRecord.size
 have h0 := x.before.size_le
 have h1 := x.after.size_le
 omega
def StLogRecord.marked (x : StLogRecord) (k : Int) : StLogRecord := ⟨x.kind, x.txn, x.prev, x.page, x.slot, x.before.marked (k), x.after.marked (k + x.before.size), x.uN, x.nT, x.txns.marked (k + x.before.size + x.after.size), x.dirty.marked (k + x.before.size + x.after.size + (x.txns.bs.length : Int)), x.image.marked (k + x.before.size + x.after.size + (x.txns.bs.length : Int) + (x.dirty.bs.length : Int))⟩
theorem StLogRecord.foot_marked (x : StLogRecord) (k : Int) (b : Nat) : Rf (x.marked k).rows b ↔ Rf x.rows b := by
 simp only [StLogRecord.rows, Q7]
 exact or_congr (StPageRecord.foot_marked _ _ b) (or_congr (StPageRecord.foot_marked _ _ b) (or_congr (FR.foot_marked 4 _ _ b) (or_congr (FR.foot_marked 2 _ _ b) (BS.foot_marked _ _ b))))
def StLogRecord.rd (w : World) (x : StLogRecord) : Prop := StPageRecord.rd w x.before ∧ StPageRecord.rd w x.after ∧ RdF 4 w x.txns ∧ RdF 2 w x.dirty ∧ Rd .u8 w x.image.v x.image.bs
theorem StLogRecord.rd.kept {R : Nat → Prop} {w w' : World} {x : StLogRecord} (h : StLogRecord.rd w x) (hk : Kept R w w') (hr : ∀ b, Rf x.rows b → ¬ R b) : StLogRecord.rd w' x :=
 ⟨StPageRecord.rd.kept (h.1) hk (fun b hb => hr b ((Q7 _ _ _).2 (.inl hb))), StPageRecord.rd.kept (h.2.1) hk (fun b hb => hr b ((Q7 _ _ _).2 (.inr ((Q7 _ _ _).2 (.inl hb))))), RdF.kept (h.2.2.1) hk (fun b hb => hr b ((Q7 _ _ _).2 (.inr ((Q7 _ _ _).2 (.inr ((Q7 _ _ _).2 (.inl ((Rw _ _).2 hb)))))))), RdF.kept (h.2.2.2.1) hk (fun b hb => hr b ((Q7 _ _ _).2 (.inr ((Q7 _ _ _).2 (.inr ((Q7 _ _ _).2 (.inr ((Q7 _ _ _).2 (.inl ((Rw _ _).2 hb)))))))))), Rd.kept (h.2.2.2.2) hk (fun b hb => hr b ((Q7 _ _ _).2 (.inr ((Q7 _ _ _).2 (.inr ((Q7 _ _ _).2 (.inr ((Q7 _ _ _).2 (.inr (((RF _ _ _ _ _).2 hb)))))))))))⟩
theorem StLogRecord.rd.same {w w' : World} {x : StLogRecord} (h : StLogRecord.rd w x) (hk : Same w w') : StLogRecord.rd w' x := h.kept hk (fun _ _ => id)
theorem StLogRecord.own_rd {w : World} {x : StLogRecord} (h : OwnL w x.rows) : StLogRecord.rd w x :=
 ⟨(StPageRecord.own_rd h.left), (StPageRecord.own_rd h.right.left), (FR.own_rd h.right.right.left), (FR.own_rd h.right.right.right.left), (OwnL.of_one h.right.right.right.right).rd⟩
def StLogRecord.szs (x : StLogRecord) : Int := x.before.szs + x.after.szs + (x.txns.n : Int) + (x.dirty.n : Int) + (x.image.bs.length : Int)
theorem StLogRecord.szs_le (x : StLogRecord) : 0 ≤ x.szs := by
 unfold StLogRecord.szs
 have h0 := x.before.szs_le
 have h1 := x.after.szs_le
 omega
theorem XQ (x y : StLogRecord) (w : World) (hn : x.size ≤ 1125899906842624) (hd : x.dat = y.dat) (ha : OwnL w x.rows) (hb : OwnL w y.rows) :
  Calls Tryz.prog 73 #[x.val, y.val] w fun e w' => e = .returned (.bool true) ∧ Same w w' := by
 obtain ⟨ms, rV, my, mA, mJ, ⟨r8, ⟨yr, rG, rf, kM⟩⟩, ⟨tH, ⟨yj, rN, qM, kE⟩⟩, Bc, A9, ⟨AK, qh, pE, qu, qo⟩, ⟨yO, rL, pA, rD, rJ⟩, ⟨EV, ve, vK, j6⟩⟩ := x
 obtain ⟨Hf, Mc, JV, IB, Hy, ⟨QX, ⟨xu, ry, qw, L8⟩⟩, ⟨Qg, ⟨yt, qm, qy, MP⟩⟩, Ps, Qi, ⟨yi, rA, oh, qz, Ph⟩, ⟨zl, qW, oP, qA, OL⟩, ⟨FE, uw, vn, Mz⟩⟩ := y
 simp only [StLogRecord.dat, StPageRecord.dat, Prod.mk.injEq] at hd
 obtain ⟨rfl, rfl, rfl, rfl, rfl, ⟨rfl, rfl⟩, ⟨rfl, rfl⟩, rfl, rfl, rfl, rfl, rfl⟩ := hd
 simp only [StLogRecord.size, StPageRecord.size] at hn
 have zv := (show Hid (OwnL w (StPageRecord.rows ⟨r8, ⟨yr, rG, rf, kM⟩⟩)) from ha.left)
 have yZ := (show Hid (OwnL w (StPageRecord.rows ⟨r8, ⟨xu, ry, qw, kM⟩⟩)) from hb.left)
 have Pj := (show Hid (OwnL w (StPageRecord.rows ⟨tH, ⟨yj, rN, qM, kE⟩⟩)) from ha.right.left)
 have Ny := (show Hid (OwnL w (StPageRecord.rows ⟨tH, ⟨yt, qm, qy, kE⟩⟩)) from hb.right.left)
 have K8 := (show Hid (OwnL w [⟨AK, 4, .slice qh pE qu, pE, vals .i64 qo⟩]) from ha.right.right.left)
 have Lx := (show Hid (OwnL w [⟨yi, 4, .slice rA oh qz, oh, vals .i64 qo⟩]) from hb.right.right.left)
 have MA := (show Hid (OwnL w [⟨yO, 2, .slice rL pA rD, pA, vals .i64 rJ⟩]) from ha.right.right.right.left)
 have OI := (show Hid (OwnL w [⟨zl, 2, .slice qW oP qA, oP, vals .i64 rJ⟩]) from hb.right.right.right.left)
 have My := (show Hid (OwnL w [ints EV .u8 (.slice ve j6.length vK) j6]) from ha.right.right.right.right)
 have MU := (show Hid (OwnL w [ints FE .u8 (.slice uw j6.length vn) j6]) from hb.right.right.right.right)
 clear ha hb
 dsimp only [StLogRecord.val, StPageRecord.val, BS.v, FR.v]
 go_enter Tryz.func73, Tryz.ntmps73
 have du : Same w ((w.alloc (.cells #[.int .i64 ms, .int .i64 rV, .int .i64 my, .int .i64 mA, .int .i64 mJ, .bool r8, .slice rG kM.length rf, .bool tH, .slice rN kE.length qM, .int .i64 Bc, .int .i64 A9, .slice qh pE qu, .slice rL pA rD, .slice ve j6.length vK] 50)).alloc (.cells #[.int .i64 ms, .int .i64 rV, .int .i64 my, .int .i64 mA, .int .i64 mJ, .bool r8, .slice ry kM.length qw, .bool tH, .slice qm kE.length qy, .int .i64 Bc, .int .i64 A9, .slice rA oh qz, .slice qW oP qA, .slice uw j6.length vn] 50)) := (kZ0.alloc _).alloc _
 have aJ := (show Hid (Same w _) from du)
 obtain ⟨_, kQ, kz⟩ := new2 w [.int .i64 ms, .int .i64 rV, .int .i64 my, .int .i64 mA, .int .i64 mJ, .bool r8, .slice rG kM.length rf, .bool tH, .slice rN kE.length qM, .int .i64 Bc, .int .i64 A9, .slice qh pE qu, .slice rL pA rD, .slice ve j6.length vK] 50 [.int .i64 ms, .int .i64 rV, .int .i64 my, .int .i64 mA, .int .i64 mJ, .bool r8, .slice ry kM.length qw, .bool tH, .slice qm kE.length qy, .int .i64 Bc, .int .i64 A9, .slice rA oh qz, .slice qW oP qA, .slice uw j6.length vn] 50
 clear du
 go_wp2_with fail
 refine (U9 ⟨r8, ⟨yr, rG, rf, kM⟩⟩ ⟨r8, ⟨xu, ry, qw, kM⟩⟩ _ (by simp only [StPageRecord.size]; omega) rfl (zv.out.same aJ.out) (yZ.out.same aJ.out)).mono ?_
 rintro e w1 ⟨rfl, hk⟩
 have aM := hid (aJ.out.trans hk)
 have jm := hid (kQ.out.same hk)
 have jf := hid (kz.out.same hk)
 clear hk aJ kQ kz
 have Ko := jm.out.c7
 have JU := jm.out.c8
 have Ho := jm.out.c9
 have Cx := jm.out.c10
 have FV := jm.out.c11
 have Df := jm.out.c12
 have Cu := jm.out.c13
 have Kk := jf.out.c7
 have JK := jf.out.c8
 have H9 := jf.out.c9
 have D2 := jf.out.c10
 have Dk := jf.out.c11
 have FT := jf.out.c12
 have EA := jf.out.c13
 go_wp2_with fail
 refine (U9 ⟨tH, ⟨yj, rN, qM, kE⟩⟩ ⟨tH, ⟨yt, qm, qy, kE⟩⟩ _ (by simp only [StPageRecord.size]; omega) rfl (Pj.out.same aM.out) (Ny.out.same aM.out)).mono ?_
 rintro e w2 ⟨rfl, hk⟩
 have aY := hid (aM.out.trans hk)
 have mj := hid (jm.out.same hk)
 have lN := hid (jf.out.same hk)
 clear hk aM jm jf
 have Je := mj.out.c9
 have EN := mj.out.c10
 have C3 := mj.out.c11
 have GF := mj.out.c12
 have EI := mj.out.c13
 have J1 := lN.out.c9
 have Ek := lN.out.c10
 have G9 := lN.out.c11
 have Dx := lN.out.c12
 have CK := lN.out.c13
 go_wp2_with fail
 refine (XP ⟨AK, qh, pE, qu, qo⟩ ⟨yi, rA, oh, qz, qo⟩ _ (by dsimp only; omega) rfl (K8.out.same aY.out) (Lx.out.same aY.out)).mono ?_
 rintro e w3 ⟨rfl, hk⟩
 have dt := hid (aY.out.trans hk)
 have rE := hid (mj.out.same hk)
 have qx := hid (lN.out.same hk)
 clear hk aY mj lN
 have Et := rE.out.c12
 have D7 := rE.out.c13
 have FY := qx.out.c12
 have CZ := qx.out.c13
 go_wp2_with fail
 refine (Wz ⟨yO, rL, pA, rD, rJ⟩ ⟨zl, qW, oP, qA, rJ⟩ _ (by dsimp only; omega) rfl (MA.out.same dt.out) (OI.out.same dt.out)).mono ?_
 rintro e w4 ⟨rfl, hk⟩
 have cu := hid (dt.out.trans hk)
 have uH := hid (rE.out.same hk)
 have vz := hid (qx.out.same hk)
 clear hk dt rE qx
 have DN := uH.out.c13
 have Di := vz.out.c13
 go_wp2_with fail
 refine (UN 0 _ _ j6 _ (by omega) (My.out.of_one.same cu.out) (MU.out.of_one.same cu.out)).mono ?_
 rintro e w5 ⟨rfl, nn, yF⟩
 have hk : Same w4 w5 := by rw [yF]; exact kZ0.drewN _
 clear yF
 have dp := hid (cu.out.trans hk)
 have Mw := hid (uH.out.same hk)
 have LH := hid (vz.out.same hk)
 clear hk cu uH vz
 go_wp2
 go_ret
 exact ⟨rfl, dp.out⟩
structure StFrameResult where
 code : Int
 fsz : Int
 epoch : Int
 record : StLogRecord
def StFrameResult.val (x : StFrameResult) : Value := .agg #[.int .i64 x.code, .int .i64 x.fsz, .int .i64 x.epoch, .int .i64 x.record.kind, .int .i64 x.record.txn, .int .i64 x.record.prev, .int .i64 x.record.page, .int .i64 x.record.slot, .bool x.record.before.used, x.record.before.data.v, .bool x.record.after.used, x.record.after.data.v, .int .i64 x.record.uN, .int .i64 x.record.nT, x.record.txns.v, x.record.dirty.v, x.record.image.v]
def StFrameResult.rows (x : StFrameResult) : List Row := x.record.rows
def StFrameResult.dat (x : StFrameResult) : Int × Int × Int × (Int × Int × Int × Int × Int × (Bool × List Int) × (Bool × List Int) × Int × Int × List Int × List Int × List Int) := (x.code, x.fsz, x.epoch, x.record.dat)
def StFrameResult.size (x : StFrameResult) : Int := x.record.size
theorem StFrameResult.size_le (x : StFrameResult) : 0 ≤ x.size := by
 unfold StFrameResult.size
 have h0 := x.record.size_le
 omega
def StFrameResult.marked (x : StFrameResult) (k : Int) : StFrameResult := ⟨x.code, x.fsz, x.epoch, x.record.marked (k)⟩
theorem StFrameResult.foot_marked (x : StFrameResult) (k : Int) (b : Nat) : Rf (x.marked k).rows b ↔ Rf x.rows b := by
 exact StLogRecord.foot_marked _ _ b
def StFrameResult.rd (w : World) (x : StFrameResult) : Prop := StLogRecord.rd w x.record
theorem StFrameResult.rd.kept {R : Nat → Prop} {w w' : World} {x : StFrameResult} (h : StFrameResult.rd w x) (hk : Kept R w w') (hr : ∀ b, Rf x.rows b → ¬ R b) : StFrameResult.rd w' x :=
 StLogRecord.rd.kept (h) hk (fun b hb => hr b (hb))
theorem StFrameResult.rd.same {w w' : World} {x : StFrameResult} (h : StFrameResult.rd w x) (hk : Same w w') : StFrameResult.rd w' x := h.kept hk (fun _ _ => id)
theorem StFrameResult.own_rd {w : World} {x : StFrameResult} (h : OwnL w x.rows) : StFrameResult.rd w x :=
 (StLogRecord.own_rd h)
def StFrameResult.szs (x : StFrameResult) : Int := x.record.szs
theorem StFrameResult.szs_le (x : StFrameResult) : 0 ≤ x.szs := by
 unfold StFrameResult.szs
 have h0 := x.record.szs_le
 omega
end Go.Proofs.YtaojjcnmififoaaGreat
