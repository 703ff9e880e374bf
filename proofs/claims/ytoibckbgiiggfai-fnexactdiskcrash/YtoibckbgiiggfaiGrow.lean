/-
  slices.Grow of a nil slice, at bytes and at pending writes.
-/
import Derived.Test.YtoibckbgiiggfaiSync
import Derived.Lib.AppendZerosOnto
namespace Go.Proofs.Ytoibckbgiiggfai
open Go.RowKit
set_option linter.unusedSimpArgs false

section
variable {P : Program} {ops : Array Oper} {rest : List Oper} {o : Oper} {a : Act} {Q : Exit → Act → World → Prop}
/-- 'append([]T(nil), make([]T, n)...)': a new row with room for n. -/
theorem wpList_grow_nil (w : World) (hgd : o.guard = none) (s x : Operand) (t tn : TypeId) (ho : o.op = .call { callee := .builtin .append, args := #[s, x], argTypes := #[t, tn] })
    (e : TypeId) (i : TypeInfo) (z : Value) (size : Nat) (kn : IntKind) (ht : P.underlying t = some (.slice e)) (htn : P.underlying tn = some (.int kn)) (hi : P.info? e = some i) (hz : i.zero = some z) (hsz : i.size = size) (hzs : z.cells.size = size) (h1 : 0 < size)
    (k : IntKind) (n : Nat) (hs : a.eval s = .slice none 0 0) (hx : a.eval x = .int k n) (h0 : 0 < n) (h63 : n ≤ maxLen) (h48 : n * i.bytes ≤ 281474976710656)
    (h : ∀ cap w', n ≤ cap → cap ≤ maxLen → w'.ownsRow 0 e size (.slice (some ⟨w.heap.size, 0, none⟩) 0 cap) 0 [] → w.grownBy w' none → wpList P ops Q rest (a.put o.dst (.slice (some ⟨w.heap.size, 0, none⟩) n cap)) w') :
    wpList P ops Q (o :: rest) a w := by
  refine wpList_plain hgd fun K hK => ?_
  have hrun := Lib.run_append_nil_zeros (P := P) w t tn o.type e i z k kn ht htn hi hz n h0 (by omega) (by unfold maxLen at h63; omega) h48
  unfold Oper.wp
  simp [execOp, ho, resolve, invoke, builtin, hs, hx, hrun, Result.andThen]
  refine hK _ _ (h _ _ (grownCap_ge w n 0 e) (grownCap_le_maxLen w n 0 e h63) ⟨by simp, .inr ⟨w.heap.size, grownCap w n 0 e, _, rfl, Nat.zero_le _, heap_alloc_new w.drew _, Nat.zero_le _, grownCap_le_maxLen w n 0 e h63, ?_, by simp⟩⟩ ⟨rfl, rfl, rfl, by simp, fun k hk _ => Below.heap_alloc w.drew _ k hk⟩)
  have hc := grownCap_ge w n 0 e
  rw [Array.size_append, size_zeroCells, size_zeroCells, hzs, ← Nat.add_mul]
  congr 1
  omega
end

set_option maxHeartbeats 1000000 in
theorem growB_any (n : Nat) (w : World) (hn : n ≤ 1099511627776) :
    Calls Try.prog 67 #[.slice none 0 0, .int .i64 n] w fun e w' => ∃ a c, e = .returned (.slice a 0 c) ∧ w'.ownsRow 0 5 1 (.slice a 0 c) 0 [] ∧ (∀ b, (Value.slice a 0 c).ownBlock = some b → w.heap.size ≤ b) ∧ Same w w' := by
  by_cases h : n = 0
  · subst h
    go_enter Try.func67, Try.ntmps67
    go_wp2
    go_ret
    exact ⟨none, 0, rfl, World.ownsRow_nil _ _ _ _, fun b hb => by simp [Value.ownBlock] at hb, Kept.refl _ _⟩
  · have h1 : (0 : Int) < (n : Int) := by omega
    go_enter Try.func67, Try.ntmps67
    obtain ⟨i0, hi, hz0, hz1, hz2⟩ := info_parts Try.infoByte'
    go_wp2_with (at_builtin; refine wpList_grow_nil _ rfl (.tmp 20) (.tmp 21) 22 3 rfl 5 i0 (.int .u8 0) 1 .i64 Try.underlying22 Try.underlying3 hi hz0 hz1 rfl (by omega) .i64 n rfl rfl (by omega) (by unfold maxLen; omega) (by rw [hz2]; omega) ?_; intro cap w1 hc1 hc2 ho hg; have HO := (show Hid (w1.ownsRow 0 5 1 (.slice (some ⟨w.heap.size, 0, none⟩) 0 cap) 0 []) from ho); have HG := (show Hid (Same w w1) from Kept.of_grown hg (fun k e => by cases e)); clear ho hg)
    go_ret
    exact ⟨_, _, rfl, HO.out, fun b hb => by simp [Value.ownBlock] at hb; omega, HG.out⟩

set_option maxHeartbeats 1000000 in
theorem growP_any (n : Nat) (w : World) (hn : n ≤ 1073741824) :
    Calls Try.prog 68 #[.slice none 0 0, .int .i64 n] w fun e w' => ∃ a c, e = .returned (.slice a 0 c) ∧ w'.ownsRow 0 65 2 (.slice a 0 c) 0 [] ∧ (∀ b, (Value.slice a 0 c).ownBlock = some b → w.heap.size ≤ b) ∧ Same w w' := by
  by_cases h : n = 0
  · subst h
    go_enter Try.func68, Try.ntmps68
    go_wp2
    go_ret
    exact ⟨none, 0, rfl, World.ownsRow_nil _ _ _ _, fun b hb => by simp [Value.ownBlock] at hb, Kept.refl _ _⟩
  · have h1 : (0 : Int) < (n : Int) := by omega
    go_enter Try.func68, Try.ntmps68
    obtain ⟨i0, hi, hz0, hz1, hz2⟩ := info_parts Try.infoSW
    go_wp2_with (at_builtin; refine wpList_grow_nil _ rfl (.tmp 20) (.tmp 21) 28 3 rfl 65 i0 (.agg #[.int .i64 0, .slice none 0 0]) 2 .i64 Try.underlying28 Try.underlying3 hi hz0 hz1 rfl (by omega) .i64 n rfl rfl (by omega) (by unfold maxLen; omega) (by rw [hz2]; omega) ?_; intro cap w1 hc1 hc2 ho hg; have HO := (show Hid (w1.ownsRow 0 65 2 (.slice (some ⟨w.heap.size, 0, none⟩) 0 cap) 0 []) from ho); have HG := (show Hid (Same w w1) from Kept.of_grown hg (fun k e => by cases e)); clear ho hg)
    go_ret
    exact ⟨_, _, rfl, HO.out, fun b hb => by simp [Value.ownBlock] at hb; omega, HG.out⟩
end Go.Proofs.Ytoibckbgiiggfai
