/-
  A pending sector built of its parts, and laid in a row of its own.
-/
import Derived.Test.YtoibckbgiiggfaiPlat
namespace Go.Proofs.Ytoibckbgiiggfai
open Go.RowKit

/-- A slice of 512 bytes as a pointer to an array. -/
theorem run_arrayAt (w : World) (ad : Option Addr) (n c : Nat) (hn : ¬ n < 512) : (Instr.arrayAt 91 (.slice ad n c)).run Try.prog w = .ok (.pointer ad) w := by
  simp [Instr.arrayAt, run_underlying Try.underlying91, hn]

def zeros93 : Array Value := (Value.int .i64 0 :: List.replicate 512 (Value.int .u8 0)).toArray
theorem Try.built93 (parts : List (Nat × Value)) : Try.prog.built 93 parts = Instr.fill (fun i => (#[(0, 1), (1, 512)] : Array (Nat × Nat))[i]?) zeros93 parts := by kernel_rfl
theorem Try.info93 : (Try.prog.info? 93).map (fun i => (i.zero, i.size, i.bytes)) = some (some (.agg zeros93), 513, 520) := by kernel_rfl
theorem Try.info91 : (Try.prog.info? 91).map (fun i => (i.zero, i.size, i.bytes)) = some (some (.agg (List.replicate 512 (Value.int .u8 0)).toArray), 512, 512) := by kernel_rfl

theorem fill93 (sec : Int) (cs : List Value) (hl : cs.length = 512) :
    Instr.fill (fun i => (#[(0, 1), (1, 512)] : Array (Nat × Nat))[i]?) zeros93 [(0, .int .i64 sec), (1, .agg cs.toArray)] = some (Value.int .i64 sec :: cs).toArray := by
  have hz : zeros93.size = 513 := by kernel_rfl
  generalize zeros93 = Z at hz ⊢
  obtain ⟨s1, g1⟩ := Great.foldl_set 0 [Value.int .i64 sec] 0 Z
  obtain ⟨s2, g2⟩ := Great.foldl_set 1 cs 0 (([Value.int .i64 sec].zipIdx 0).foldl (fun cs (x : Value × Nat) => cs.setIfInBounds (0 + x.2) x.1) Z)
  have step1 : Instr.fill (fun i => (#[(0, 1), (1, 512)] : Array (Nat × Nat))[i]?) Z [(0, .int .i64 sec), (1, .agg cs.toArray)] =
      Instr.fill (fun i => (#[(0, 1), (1, 512)] : Array (Nat × Nat))[i]?) (([Value.int .i64 sec].zipIdx 0).foldl (fun cs (x : Value × Nat) => cs.setIfInBounds (0 + x.2) x.1) Z) [(1, .agg cs.toArray)] := by
    simp [Instr.fill, Value.cells, hz]
  have step2 : Instr.fill (fun i => (#[(0, 1), (1, 512)] : Array (Nat × Nat))[i]?) (([Value.int .i64 sec].zipIdx 0).foldl (fun cs (x : Value × Nat) => cs.setIfInBounds (0 + x.2) x.1) Z) [(1, .agg cs.toArray)] =
      some ((cs.zipIdx 0).foldl (fun cs (x : Value × Nat) => cs.setIfInBounds (1 + x.2) x.1) (([Value.int .i64 sec].zipIdx 0).foldl (fun cs (x : Value × Nat) => cs.setIfInBounds (0 + x.2) x.1) Z)) := by
    simp [Instr.fill, Value.cells, hl, hz]
  rw [step1, step2]
  refine congrArg some (Array.ext_getElem? fun k => ?_)
  rw [g2 k, s1, hz, g1 k, hz]
  simp only [List.getElem?_toArray, Nat.add_zero, List.length_singleton, Nat.zero_add]
  cases k with
  | zero => rw [if_neg (by omega), if_pos (by omega)]; rfl
  | succ k =>
    rw [List.getElem?_cons_succ]
    by_cases h : k < 512
    · rw [if_pos (by omega)]
      rfl
    · rw [if_neg (by omega), if_neg (by omega), Array.getElem?_eq_none (by omega), List.getElem?_eq_none (by omega)]

section
variable {P : Program} {ops : Array Oper} {S : World → Prop} {o : Oper} {a : Act} {w : World} {K : Act → World → Prop} {Q : Exit → Act → World → Prop} {E : Prop}
/-- A pending sector, built of a number and an array. -/
theorem yields_build93 (hgd : o.guard = none) (x y : Operand) (hop : o.op = Op.build 93 #[(0, x), (1, y)]) (sec : Int) (cs : List Value) (hx : a.eval x = .int .i64 sec) (hy : a.eval y = .agg cs.toArray) (hl : cs.length = 512) :
    YieldsIf Try.prog ops S o (.agg (Value.int .i64 sec :: cs).toArray) a := by
  have hw : Region.wanted o (yielded ops a.tmps) = true := by simp [Region.wanted, hgd]
  have hb : Try.prog.built 93 (#[(0, Value.int .i64 sec), (1, Value.agg cs.toArray)] : Array (Nat × Value)).toList = some (Value.int .i64 sec :: cs).toArray := by
    rw [Try.built93]
    exact fill93 sec cs hl
  refine .inl ⟨hw, fun w _ => ?_⟩
  have hrun := run_build (P := Try.prog) w _ #[(0, Value.int .i64 sec), (1, Value.agg cs.toArray)] _ hb
  unfold execOp
  simp only [hop]
  have e : (#[(0, x), (1, y)] : Array (Nat × Operand)).map (fun (i, x) => (i, a.eval x)) = #[(0, Value.int .i64 sec), (1, Value.agg cs.toArray)] := by simp [hx, hy]
  rw [e]
  simp only [Sem.run_bind, hrun, Result.andThen_ok]
  rfl
/-- A row of one pending sector. -/
theorem step_row93 (hgd : o.guard = none) (x : Operand) (hop : o.op = Op.buildSlice 87 1 #[(0, x)]) (cs : List Value) (hx : a.eval x = .agg cs.toArray) (hl : cs.length = 513) (N : Nat) (hN : w.heap.size = N)
    (h : K (a.put o.dst (.slice (some ⟨N, 0, none⟩) 1 1)) (w.alloc (.cells cs.toArray 93))) :
    if Region.wanted o (yielded ops a.tmps) = true then Oper.wp Try.prog o a w K Q else E := by
  have hw : Region.wanted o (yielded ops a.tmps) = true := by simp [Region.wanted, hgd]
  rw [if_pos hw]
  subst hN
  obtain ⟨i0, hi, hz0, hz1, hz2⟩ := info_parts Try.info93
  refine wp_buildSlice 87 93 1 _ hop cs.toArray i0 _ Try.underlying87 hi hz0 (by rw [hz1]; omega) (by rw [hz1]; omega) ?_ h
  rw [hz1]
  have hf := Great.fill_whole (s := 513) (by omega) [Value.agg cs.toArray] ((Array.range (1 * 513)).map ((Value.agg zeros93).cells[· % (Value.agg zeros93).cells.size]!)) (by simp [Value.cells, hl]) (by simp)
  simpa [hx, Value.cells] using hf
end
end Go.Proofs.Ytoibckbgiiggfai
