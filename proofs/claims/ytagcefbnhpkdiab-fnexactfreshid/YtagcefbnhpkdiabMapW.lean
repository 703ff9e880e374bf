/-
  MAPS KEYED BY int64: the operations as steps of a region (wpList).
-/
import Derived.Test.YtagcefbnhpkdiabMapI
namespace Go.Proofs.Ytagcefbnhpkdiab
open Go Go.RowKit Go.MapKept
set_option linter.unusedVariables false
set_option linter.unusedSimpArgs false
section
variable {P : Program} {ops : Array Oper} {rest : List Oper} {o : Oper} {a : Act} {w : World} {Q : Exit → Act → World → Prop} {B ck : Nat} {T K E : TypeId} {kv pre post : List KV} {x : Int} {v u z : Value} {b : Nat}
/-- 'm[k]', the key is there -/
theorem wpList_lookup_hit (hg : o.guard = none) (m k : Operand) {ok : Bool} (hop : o.op = Op.lookup T m k ok) (hm : a.eval m = .map (some B)) (hx : a.eval k = .int .i64 x) (ht : P.underlying T = some (.map K E)) (hk : P.underlying K = some (.int .i64)) (hb : MapB w B (pre ++ (x, v, b) :: post) ck) (hp : ∀ e ∈ pre, e.1 ≠ x)
    (h : wpList P ops Q rest (a.put o.dst (if ok = true then .tuple #[v, .bool true] else v)) w) : wpList P ops Q (o :: rest) a w := by
  refine wpList_plain hg fun K' hK' => ?_
  have hr := run_lookup_hit (P := P) ht hk hb hp ok
  unfold Oper.wp
  simp only [execOp, hop, hm, hx, Sem.run_bind, hr, Result.andThen, Sem.run_pure]
  exact hK' _ _ h
/-- 'm[k]', the key is not there -/
theorem wpList_lookup_miss (hg : o.guard = none) (m k : Operand) {ok : Bool} (hop : o.op = Op.lookup T m k ok) (hm : a.eval m = .map (some B)) (hx : a.eval k = .int .i64 x) (ht : P.underlying T = some (.map K E)) (hk : P.underlying K = some (.int .i64)) (hz : (zeroValue E).run P w = .ok z w) (hb : MapB w B kv ck) (hp : ∀ e ∈ kv, e.1 ≠ x)
    (h : wpList P ops Q rest (a.put o.dst (if ok = true then .tuple #[z, .bool false] else z)) w) : wpList P ops Q (o :: rest) a w := by
  refine wpList_plain hg fun K' hK' => ?_
  have hr := run_lookup_miss (P := P) ht hk hb hp hz ok
  unfold Oper.wp
  simp only [execOp, hop, hm, hx, Sem.run_bind, hr, Result.andThen, Sem.run_pure]
  exact hK' _ _ h
/-- 'm[k] = u', a new key -/
theorem wpList_update_new (hg : o.guard = none) (m k y : Operand) (hop : o.op = Op.mapUpdate T m k y) (hm : a.eval m = .map (some B)) (hx : a.eval k = .int .i64 x) (hy : a.eval y = u) (ht : P.underlying T = some (.map K E)) (hk : P.underlying K = some (.int .i64)) (hb : MapB w B kv ck) (hp : ∀ e ∈ kv, e.1 ≠ x)
    (h : wpList P ops Q rest (a.put o.dst undef) (setM w B (kv ++ [(x, u, ck)]) (ck + 1))) : wpList P ops Q (o :: rest) a w := by
  refine wpList_plain hg fun K' hK' => ?_
  have hr := run_update_new (P := P) (v := u) ht hk hb hp
  unfold Oper.wp
  simp only [execOp, hop, hm, hx, hy, Sem.run_bind, hr, Result.andThen, Sem.run_pure]
  exact hK' _ _ h
/-- 'm[k] = u', the key is there -/
theorem wpList_update_hit (hg : o.guard = none) (m k y : Operand) (hop : o.op = Op.mapUpdate T m k y) (hm : a.eval m = .map (some B)) (hx : a.eval k = .int .i64 x) (hy : a.eval y = u) (ht : P.underlying T = some (.map K E)) (hk : P.underlying K = some (.int .i64)) (hb : MapB w B (pre ++ (x, v, b) :: post) ck) (hp : ∀ e ∈ pre, e.1 ≠ x)
    (h : wpList P ops Q rest (a.put o.dst undef) (setM w B (pre ++ (x, u, b) :: post) ck)) : wpList P ops Q (o :: rest) a w := by
  refine wpList_plain hg fun K' hK' => ?_
  have hr := run_update_hit (P := P) (u := u) ht hk hb hp
  unfold Oper.wp
  simp only [execOp, hop, hm, hx, hy, Sem.run_bind, hr, Result.andThen, Sem.run_pure]
  exact hK' _ _ h
/-- 'range m' -/
theorem wpList_range_kv (hg : o.guard = none) (m : Operand) (hop : o.op = Op.range T m) (hm : a.eval m = .map (some B)) (ht : P.underlying T = some (.map K E)) (hb : MapB w B kv ck)
    (h : wpList P ops Q rest (a.put o.dst (.pointer (some ⟨w.heap.size, 0, none⟩))) (w.alloc (.mapIter (some B) ck #[] ck))) : wpList P ops Q (o :: rest) a w := by
  refine wpList_plain hg fun K' hK' => ?_
  have hr := run_range_map (P := P) ht hb
  unfold Oper.wp
  simp only [execOp, hop, hm, Sem.run_bind, hr, Result.andThen, Sem.run_pure]
  exact hK' _ _ h
/-- the step of a loop over a map -/
theorem wpList_next_kv {r since c0 : Nat} {seen : Array Nat} (hg : o.guard = none) (it : Operand) (hop : o.op = Op.next it false) (hit : a.eval it = .pointer (some ⟨r, 0, none⟩)) (hr : IterB w r B since seen c0) (hb : MapB w B kv ck) (hold : ∀ e ∈ kv, e.2.2 < since) (hsc : since ≤ c0)
    (hDone : leftKV kv seen = [] → wpList P ops Q rest (a.put o.dst (.tuple #[.bool false])) w)
    (hMore : ∀ e ∈ leftKV kv seen, ∀ w1 : World, (w1 = w ∨ w1 = w.drew) → wpList P ops Q rest (a.put o.dst (.tuple #[.bool true, .int .i64 e.1, e.2.1])) (setIt w1 r B since (seen.push e.2.2) ck)) : wpList P ops Q (o :: rest) a w := by
  refine wpList_plain hg fun K' hK' => ?_
  unfold Oper.wp
  rcases run_next_kv (P := P) (ty := o.type) hr hb hold hsc with ⟨h0, hrun⟩ | ⟨e, he, w1, hw, hrun⟩
  · simp only [execOp, hop, hit, Sem.run_bind, hrun, Result.andThen, Sem.run_pure]
    exact hK' _ _ (hDone h0)
  · simp only [execOp, hop, hit, Sem.run_bind, hrun, Result.andThen, Sem.run_pure]
    exact hK' _ _ (hMore e he w1 hw)
/-- the round's key and element -/
theorem wpList_entry_kv {r since : Nat} {seen : Array Nat} {e : KV} (hg : o.guard = none) (it : Operand) (hop : o.op = Op.entry it) (hit : a.eval it = .pointer (some ⟨r, 0, none⟩)) (hr : IterB w r B since (seen.push e.2.2) ck) (hb : MapB w B kv ck) (he : e ∈ kv) (hn : KVok kv ck)
    (h : wpList P ops Q rest (a.put o.dst (.tuple #[.int .i64 e.1, e.2.1])) w) : wpList P ops Q (o :: rest) a w := by
  refine wpList_plain hg fun K' hK' => ?_
  have hrun := run_entry_kv (P := P) hr hb he hn
  unfold Oper.wp
  simp only [execOp, hop, hit, Sem.run_bind, hrun, Result.andThen, Sem.run_pure]
  exact hK' _ _ h
/-- 'delete(m, k)', the key is there -/
theorem wpList_delete_hit (hg : o.guard = none) (m k : Operand) (hop : o.op = Op.call { callee := Callee.builtin Builtin.delete, args := #[m, k], argTypes := #[T, K] }) (hm : a.eval m = .map (some B)) (hx : a.eval k = .int .i64 x) (ht : P.underlying T = some (.map K E)) (hk : P.underlying K = some (.int .i64)) (hb : MapB w B (pre ++ (x, v, b) :: post) ck) (hp : ∀ e ∈ pre, e.1 ≠ x)
    (h : wpList P ops Q rest (a.put o.dst (.tuple #[])) (setM w B (pre ++ post) ck)) : wpList P ops Q (o :: rest) a w := by
  refine wpList_plain hg fun K' hK' => ?_
  have hr := run_delete_hit (P := P) (ty := o.type) ht hk hb hp
  unfold Oper.wp
  simp [execOp, hop, resolve, invoke, builtin, hm, hx, hr, Result.andThen]
  exact hK' _ _ h
/-- 'delete(m, k)', the key is not there -/
theorem wpList_delete_miss (hg : o.guard = none) (m k : Operand) (hop : o.op = Op.call { callee := Callee.builtin Builtin.delete, args := #[m, k], argTypes := #[T, K] }) (hm : a.eval m = .map (some B)) (hx : a.eval k = .int .i64 x) (ht : P.underlying T = some (.map K E)) (hk : P.underlying K = some (.int .i64)) (hb : MapB w B kv ck) (hp : ∀ e ∈ kv, e.1 ≠ x)
    (h : wpList P ops Q rest (a.put o.dst (.tuple #[])) (setM w B kv ck)) : wpList P ops Q (o :: rest) a w := by
  refine wpList_plain hg fun K' hK' => ?_
  have hr := run_delete_miss (P := P) (ty := o.type) ht hk hb hp
  unfold Oper.wp
  simp [execOp, hop, resolve, invoke, builtin, hm, hx, hr, Result.andThen]
  exact hK' _ _ h
end
theorem Kept.setIt {w : World} {r B since c0 : Nat} {seen : Array Nat} : Kept (fun b => b = r) w (setIt w r B since seen c0) :=
  ⟨rfl, rfl, rfl, by simp [Go.Proofs.Ytagcefbnhpkdiab.setIt], fun k hk hr => by
    show (w.heap.setIfInBounds r _)[k]? = _
    rw [Array.getElem?_setIfInBounds_ne (fun e => hr e.symm)]⟩
theorem IterB.set {w : World} {r B since since' c0 c1 B' : Nat} {seen seen' : Array Nat} (h : IterB w r B since seen c0) : IterB (setIt w r B' since' seen' c1) r B' since' seen' c1 := (heap_set h).1
theorem IterB.new (w : World) (B ck : Nat) : IterB (w.alloc (.mapIter (some B) ck #[] ck)) w.heap.size B ck #[] ck := by
  unfold IterB World.alloc
  simp
theorem IterB.ne {w : World} {r B B' since c0 ck : Nat} {seen : Array Nat} {kv : List KV} (h : IterB w r B since seen c0) (hb : MapB w B' kv ck) : B' ≠ r := by
  intro e
  unfold IterB at h
  unfold MapB at hb
  rw [e, h] at hb
  simp at hb
/-- how many are left, read from the world: a loop's measure -/
def leftN (w : World) (r B : Nat) : Nat :=
  match w.heap[r]?, w.heap[B]? with
  | some (.mapIter _ _ seen _), some (.map es _) => (leftOf es seen).toList.length
  | _, _ => 0
theorem leftN_eq {w : World} {r B since c0 ck : Nat} {seen : Array Nat} {kv : List KV} (hr : IterB w r B since seen c0) (hb : MapB w B kv ck) : leftN w r B = (leftKV kv seen).length := by
  unfold IterB at hr
  unfold MapB at hb
  unfold leftN
  simp only [hr, hb]
  rw [leftOf_kv]
  simp [ents]
theorem mem_left {kv : List KV} {seen : Array Nat} {e : KV} (h : e ∈ leftKV kv seen) : e ∈ kv := (List.mem_filter.1 h).1
/-- what is behind a step: the map as it was, the iterator one further, all else as it was -/
theorem next_facts {w w1 : World} {r B since c0 ck : Nat} {seen : Array Nat} {kv : List KV} {e : KV} (hr : IterB w r B since seen c0) (hb : MapB w B kv ck) (hw : w1 = w ∨ w1 = w.drew) :
    IterB (setIt w1 r B since (seen.push e.2.2) ck) r B since (seen.push e.2.2) ck ∧ MapB (setIt w1 r B since (seen.push e.2.2) ck) B kv ck ∧ Kept (fun b => b = r) w (setIt w1 r B since (seen.push e.2.2) ck) := by
  have hne := hr.ne hb
  have hr1 : IterB w1 r B since seen c0 := by rcases hw with rfl | rfl <;> exact hr
  have hb1 : MapB w1 B kv ck := by rcases hw with rfl | rfl <;> exact hb
  have hs : Same w w1 := by rcases hw with rfl | rfl; exact Kept.refl _ _; exact (Kept.refl _ _).drew
  have hk := Kept.setIt (w := w1) (r := r) (B := B) (since := since) (c0 := ck) (seen := seen.push e.2.2)
  exact ⟨hr1.set, hb1.kept hk hne, (Kept.mono hs (fun _ _ h => h.elim)).trans hk⟩
end Go.Proofs.Ytagcefbnhpkdiab
