import Derived.Test.YteacihpankkhkaaG05
import Derived.Deep.MidRow
import Derived.Great.BuildSlice
import Derived.Deep.DeepCutAuto
namespace Go.Proofs.Yteacihpankkhkaa
set_option linter.unusedSimpArgs false
set_option maxRecDepth 100000
set_option maxHeartbeats 8000000
open Go.RowKit
def penCells : List (Int × List Int) → List Value
 | [] => []
 | p :: ds => .int .i64 p.1 :: (vals .u8 p.2 ++ penCells ds)
theorem penCells_append (ds es : List (Int × List Int)) : penCells (ds ++ es) = penCells ds ++ penCells es := by
 induction ds with
 | nil => rfl
 | cons p ds ih => simp [penCells, ih]
theorem penCells_length (ds : List (Int × List Int)) (h : ∀ p ∈ ds, p.2.length = 512) : (penCells ds).length = ds.length * 513 := by
 induction ds with
 | nil => rfl
 | cons p ds ih =>
  have h1 := ih (fun q hq => h q (List.mem_cons_of_mem _ hq))
  have h2 := h p (List.mem_cons_self ..)
  simp only [penCells, List.length_cons, List.length_append, vals_length, h1, h2]
  omega
theorem penCells_at (ds : List (Int × List Int)) (h : ∀ p ∈ ds, p.2.length = 512) (k : Nat) (hk : k < ds.length) : (penCells ds).drop (k * 513) = .int .i64 ds[k].1 :: (vals .u8 ds[k].2 ++ penCells (ds.drop (k + 1))) := by
 have e : penCells ds = penCells (ds.take k) ++ penCells (ds.drop k) := by rw [← penCells_append, List.take_append_drop]
 have hl : (penCells (ds.take k)).length = k * 513 := by
  rw [penCells_length _ (fun p hp => h p (List.mem_of_mem_take hp)), List.length_take, Nat.min_eq_left (by omega)]
 rw [e, ← hl, List.drop_left, List.drop_eq_getElem_cons hk]
 rfl
theorem owns_setCellsP {base : Nat} {e : TypeId} {size g n cap : Nat} : ∀ (vs : List Value) (o : Nat) (w : World) (xs : List Value), w.ownsRow base e size (.slice (some ⟨g, 0, none⟩) n cap) n xs → o + vs.length ≤ xs.length →
  (w.setCells g o vs).ownsRow base e size (.slice (some ⟨g, 0, none⟩) n cap) n (lay xs o vs) ∧ w.grownBy (w.setCells g o vs) (some g)
 | [], o, w, xs, h, _ => by
  refine ⟨?_, ⟨rfl, rfl, rfl, Nat.le_refl _, fun _ _ _ => rfl⟩⟩
  have e : lay xs o [] = xs := by simp [lay]
  rw [e]
  exact h
 | v :: vs, o, w, xs, h, hl => by
  obtain ⟨h1, h2⟩ := World.ownsRow.stored h o v
  simp only [List.length_cons] at hl
  obtain ⟨h3, h4⟩ := owns_setCellsP vs (o + 1) _ _ h1 (by rw [List.length_set]; omega)
  rw [lay_cons _ _ _ _ hl] at h3
  refine ⟨h3, ⟨h4.os.trans h2.os, h4.tape.trans h2.tape, h4.output.trans h2.output, Nat.le_trans h2.size h4.size, fun k hk hn => ?_⟩⟩
  exact (h4.block k (Nat.lt_of_lt_of_le hk h2.size) hn).trans (h2.block k hk hn)
theorem owns_there {base : Nat} {e : TypeId} {size g n cap : Nat} {w : World} {xs : List Value} (h : w.ownsRow base e size (.slice (some ⟨g, 0, none⟩) n cap) n xs) (o m : Nat) (hm : o + m ≤ xs.length) : w.there g o m := fun j hj => by
 have hl := h.1
 refine ⟨?_, World.ownsRow.frozenAt h _⟩
 rw [World.ownsRow.cellAt h (o + j) (by omega)]
 simp
 omega
theorem owns_range {base : Nat} {e : TypeId} {size g n cap : Nat} {w : World} {xs : List Value} (h : w.ownsRow base e size (.slice (some ⟨g, 0, none⟩) n cap) n xs) (o m : Nat) (hm : o + m ≤ xs.length) : w.rangeAt g o ((xs.drop o).take m) := fun j v hv => by
 have hl := h.1
 have hj : j < m := by have := (List.getElem?_eq_some_iff.1 hv).1; simp at this; omega
 rw [World.ownsRow.cellAt h (o + j) (by omega), ← hv]
 simp [hj]
theorem lay_fill (dur : List Int) (a : Nat) (h : a + 512 ≤ dur.length) : lay (vals .u8 (fillUp dur a)) a (vals .u8 ((dur.drop a).take 512)) = vals .u8 (fillUp dur (a + 512)) := by
 have hl : ((dur.drop a).take 512).length = 512 := by rw [List.length_take, List.length_drop]; omega
 have e1 : (fillUp dur a).take a = dur.take a := by
  unfold fillUp
  rw [List.take_append, List.take_take, Nat.min_self, List.length_take, Nat.min_eq_left (by omega), Nat.sub_self, List.take_zero, List.append_nil]
 have e2 : (fillUp dur a).drop (a + 512) = List.replicate (dur.length - (a + 512)) 0 := by
  unfold fillUp
  have e3 : (dur.take a).drop (a + 512) = [] := List.drop_eq_nil_of_le (by rw [List.length_take]; omega)
  rw [List.drop_append, e3, List.nil_append, List.length_take, Nat.min_eq_left (by omega), List.drop_replicate, show dur.length - a - (a + 512 - a) = dur.length - (a + 512) from by omega]
 have e4 : dur.take (a + 512) = dur.take a ++ (dur.drop a).take 512 := List.take_add
 unfold lay vals
 rw [← List.map_take, List.length_map, hl, ← List.map_drop, e1, e2, ← List.map_append, ← List.map_append]
 unfold fillUp
 rw [e4, List.append_assoc]
section
variable {P : Program} {ops : Array Oper} {S : World → Prop} {o : Oper} {a : Act} {w : World} {K : Act → World → Prop} {Q : Exit → Act → World → Prop} {E : Prop}
theorem step_make (hgd : o.guard = none) (x y : Operand) (t : TypeId) (hop : o.op = Op.makeSlice t x y) (base : Nat) (e : TypeId) (i : TypeInfo) (z : Value) (size : Nat) (h1 : P.underlying t = some (.slice e)) (h2 : P.info? e = some i) (h3 : i.zero = some z) (h4 : i.size = size)
  (kl kc : IntKind) (L C : Int) (l c : Nat) (hl : a.eval x = .int kl L) (hc : a.eval y = .int kc C) (hL : L = l) (hC : C = c) (hlc : l ≤ c) (b2 : i.bytes * c ≤ 281474976710656) (b3 : c ≤ maxLen) (hb : base ≤ w.heap.size)
  (h : ∀ w', w'.ownsRow base e size (.slice (some ⟨w.heap.size, 0, none⟩) l c) l ((madeCells z.cells (c * size)).toList.take (l * size)) → w.grownBy w' none → w.heap.size < w'.heap.size → K (a.put o.dst (.slice (some ⟨w.heap.size, 0, none⟩) l c)) w') :
  if Region.wanted o (yielded ops a.tmps) = true then Oper.wp P o a w K Q else E := by
 have hw : Region.wanted o (yielded ops a.tmps) = true := by simp [Region.wanted, hgd]
 rw [if_pos hw]
 subst hL hC h4
 have hb' : (i.bytes : Int) * (c : Int) ≤ 281474976710656 := by
  have : ((i.bytes * c : Nat) : Int) ≤ 281474976710656 := by omega
  rwa [Int.natCast_mul] at this
 have hrun := run_make (P := P) w t e i z h1 h2 h3 kl kc l c (by omega) (by omega) hb' (by unfold maxLen at b3; omega)
 simp only [Int.toNat_natCast] at hrun
 unfold Oper.wp
 simp [execOp, hop, hl, hc, hrun, Result.andThen]
 refine h _ ⟨?_, .inr ⟨w.heap.size, c, _, rfl, hb, heap_alloc_new w _, hlc, b3, size_madeCells _ _, rfl⟩⟩ (World.grownBy_alloc w _ none) (by simp)
 rw [List.length_take, Array.length_toList, size_madeCells]
 exact Nat.min_eq_left (Nat.mul_le_mul_right _ hlc)
end
theorem run_arrayAt (w : World) (ad : Option Addr) (n c : Nat) (hn : ¬ n < 512) : (Instr.arrayAt 64 (.slice ad n c)).run Try.prog w = .ok (.pointer ad) w := by
 simp [Instr.arrayAt, run_underlying Try.underlying64, hn]
def zeros93 : Array Value := (Value.int .i64 0 :: List.replicate 512 (Value.int .u8 0)).toArray
theorem Try.built93 (parts : List (Nat × Value)) : Try.prog.built 66 parts = Instr.fill (fun i => (#[(0, 1), (1, 512)] : Array (Nat × Nat))[i]?) zeros93 parts := by kernel_rfl
theorem Try.info93 : (Try.prog.info? 66).map (fun i => (i.zero, i.size, i.bytes)) = some (some (.agg zeros93), 513, 520) := by kernel_rfl
theorem Try.info91 : (Try.prog.info? 64).map (fun i => (i.zero, i.size, i.bytes)) = some (some (.agg (List.replicate 512 (Value.int .u8 0)).toArray), 512, 512) := by kernel_rfl
theorem fill93 (sec : Int) (cs : List Value) (hl : cs.length = 512) :
  Instr.fill (fun i => (#[(0, 1), (1, 512)] : Array (Nat × Nat))[i]?) zeros93 [(0, .int .i64 sec), (1, .agg cs.toArray)] = some (Value.int .i64 sec :: cs).toArray := by
 have hz : zeros93.size = 513 := by kernel_rfl
 generalize zeros93 = Z at hz ⊢
 obtain ⟨s1, g1⟩ := Great.foldl_set 0 [Value.int .i64 sec] 0 Z
 obtain ⟨s2, g2⟩ := Great.foldl_set 1 cs 0 (([Value.int .i64 sec].zipIdx 0).foldl (fun cs (x : Value × Nat) => cs.setIfInBounds (0 + x.2) x.1) Z)
 have step1 : Instr.fill (fun i => (#[(0, 1), (1, 512)] : Array (Nat × Nat))[i]?) Z [(0, .int .i64 sec), (1, .agg cs.toArray)] =
   Instr.fill (fun i => (#[(0, 1), (1, 512)] : Array (Nat × Nat))[i]?) (([Value.int .i64 sec].zipIdx 0).foldl (fun cs (x : Value × Nat) => cs.setIfInBounds (0 + x.2) x.1) Z) [(1, .agg cs.toArray)] := by
  simp [Instr.fill, Value.cells, hz]
 have step2 : Instr.fill (fun i => (#[(0, 1), (1, 512)] : Array (Nat × Nat))[i]?) (([Value.int .i64 sec].zipIdx 0).foldl (fun cs (x : Value × Nat) => cs.setIfInBounds (0 + x.2) x.1) Z) [(1, .agg cs.toArray)] =
   some ((cs.zipIdx 0).foldl (fun cs (x : Value × Nat) => cs.setIfInBounds (1 + x.2) x.1) (([Value.int .i64 sec].zipIdx 0).foldl (fun cs (x : Value × Nat) => cs.setIfInBounds (0 + x.2) x.1) Z)) := by
  simp [Instr.fill, Value.cells, hl, hz]
 rw [step1, step2]
 refine congrArg some (Array.ext_getElem? fun k => ?_)
 rw [g2 k, s1, hz, g1 k, hz]
 simp only [List.getElem?_toArray, Nat.add_zero, List.length_singleton, Nat.zero_add]
 cases k with
 | zero => rw [if_neg (by omega), if_pos (by omega)]; rfl
 | succ k =>
  rw [List.getElem?_cons_succ]
  by_cases h : k < 512
  ·rw [if_pos (by omega)]
   rfl
  ·rw [if_neg (by omega), if_neg (by omega), Array.getElem?_eq_none (by omega), List.getElem?_eq_none (by omega)]
section
variable {P : Program} {ops : Array Oper} {S : World → Prop} {o : Oper} {a : Act} {w : World} {K : Act → World → Prop} {Q : Exit → Act → World → Prop} {E : Prop}
theorem yields_build93 (hgd : o.guard = none) (x y : Operand) (hop : o.op = Op.build 66 #[(0, x), (1, y)]) (sec : Int) (cs : List Value) (hx : a.eval x = .int .i64 sec) (hy : a.eval y = .agg cs.toArray) (hl : cs.length = 512) :
  YieldsIf Try.prog ops S o (.agg (Value.int .i64 sec :: cs).toArray) a := by
 have hw : Region.wanted o (yielded ops a.tmps) = true := by simp [Region.wanted, hgd]
 have hb : Try.prog.built 66 (#[(0, Value.int .i64 sec), (1, Value.agg cs.toArray)] : Array (Nat × Value)).toList = some (Value.int .i64 sec :: cs).toArray := by
  rw [Try.built93]
  exact fill93 sec cs hl
 refine .inl ⟨hw, fun w _ => ?_⟩
 have hrun := run_build (P := Try.prog) w _ #[(0, Value.int .i64 sec), (1, Value.agg cs.toArray)] _ hb
 unfold execOp
 simp only [hop]
 have e : (#[(0, x), (1, y)] : Array (Nat × Operand)).map (fun (i, x) => (i, a.eval x)) = #[(0, Value.int .i64 sec), (1, Value.agg cs.toArray)] := by simp [hx, hy]
 rw [e]
 simp only [Sem.run_bind, hrun, Result.andThen_ok]
 rfl
theorem step_row93 (hgd : o.guard = none) (x : Operand) (hop : o.op = Op.buildSlice 60 1 #[(0, x)]) (cs : List Value) (hx : a.eval x = .agg cs.toArray) (hl : cs.length = 513) (N : Nat) (hN : w.heap.size = N)
  (h : K (a.put o.dst (.slice (some ⟨N, 0, none⟩) 1 1)) (w.alloc (.cells cs.toArray 66))) :
  if Region.wanted o (yielded ops a.tmps) = true then Oper.wp Try.prog o a w K Q else E := by
 have hw : Region.wanted o (yielded ops a.tmps) = true := by simp [Region.wanted, hgd]
 rw [if_pos hw]
 subst hN
 obtain ⟨i0, hi, hz0, hz1, hz2⟩ := info_parts Try.info93
 refine wp_buildSlice 60 66 1 _ hop cs.toArray i0 _ Try.underlying60 hi hz0 (by rw [hz1]; omega) (by rw [hz1]; omega) ?_ h
 rw [hz1]
 have hf := Great.fill_whole (s := 513) (by omega) [Value.agg cs.toArray] ((Array.range (1 * 513)).map ((Value.agg zeros93).cells[· % (Value.agg zeros93).cells.size]!)) (by simp [Value.cells, hl]) (by simp)
 simpa [hx, Value.cells] using hf
end
structure Plat (w : World) (B : Nat) (dv pv : Value) (dur : List Int) (ds : List (Int × List Int)) : Prop where
 box : FBox w B dv pv
 dur : w.ownsRow 0 64 512 dv (dur.length / 512) (vals .u8 dur)
 pend : w.ownsRow 0 66 513 pv ds.length (penCells ds)
 a1 : dv.ownBlock ≠ some B
 a2 : pv.ownBlock ≠ some B
 a3 : Apart dv pv
theorem made_take {z : Value} {n m : Nat} (hz : z.cells = (List.replicate n (Value.int .u8 0)).toArray) (hn : 0 < n) : (madeCells z.cells (m * n)).toList.take (m * n) = vals .u8 (List.replicate (m * n) 0) := by
 rw [hz, List.take_of_length_le (by rw [Array.length_toList, size_madeCells]; exact Nat.le_refl _)]
 apply List.ext_getElem?
 intro j
 by_cases hj : j < m * n
 ·simp [madeCells, vals, hj, Nat.mod_lt _ hn]
 ·simp [madeCells, vals, hj]
theorem openDisk_any (dv pv : Value) (dur : List Int) (ps : List PW) (w : World) (hv : RdD w dv pv dur ps) (hval : Valid dur.length (dataP ps)) :
  Calls Try.prog 37 #[.agg #[dv, pv]] w fun e w' => ∃ B dv' pv', e = .returned (.pointer (some ⟨B, 0, none⟩)) ∧ Plat w' B dv' pv' dur (dataP ps) ∧
   (w.heap.size ≤ B ∧ (∀ b, dv'.ownBlock = some b → w.heap.size ≤ b) ∧ ∀ b, pv'.ownBlock = some b → w.heap.size ≤ b) ∧ Same w w' := by
 have hu91 := Try.underlying64
 obtain ⟨j0, hj, hy0, hy1, hy2⟩ := info_parts Try.info91
 obtain ⟨i0, hi, hz0, hz1, hz2⟩ := info_parts Try.info93
 have hpl : ps.length ≤ 8192 := by have := hval.1.2.2.2; rwa [dataP_length] at this
 have hdl : 512 ≤ dur.length := by have := hval.1.2.1; omega
 have hdm : dur.length ≤ maxLen := hv.dur.1
 obtain ⟨n, hn⟩ : ∃ n : Nat, dur.length = n * 512 := ⟨dur.length / 512, by have := hval.1.1; omega⟩
 have hn1 : n ≤ 1024 := by have := hval.1.2.2.1; omega
 obtain ⟨b0, o0, c1, rfl, hl0, hc0⟩ : ∃ b off c, dv = .slice (some ⟨b, off, none⟩) dur.length c ∧ dur.length ≤ c ∧ ∀ i, i < dur.length → w.cell? ⟨b, off + i, none⟩ = some (.int .u8 (dur.getD i 0)) := by
  rcases hv.dur.2 with ⟨rfl, _⟩ | h
  ·simp at hdl
  ·exact h
 obtain ⟨a2, c2, rfl⟩ := hv.pend.form
 have HP : Hid (RdP w (.slice a2 ps.length c2) ps) := hv.pend
 have HC0 : Hid (∀ i, i < dur.length → w.cell? ⟨b0, o0 + i, none⟩ = some (.int .u8 (dur.getD i 0))) := hc0
 have HV : Hid (Valid dur.length (dataP ps)) := hval
 have HN : Hid (dur.length = n * 512) := hn
 clear hv hval hc0 hn
 go_enter Try.func37, Try.ntmps37
 go_wp2_with fail
 go_cut [3] (fun v wc => ∃ (B gd gp : Nat), v = .pointer (some ⟨B, 0, none⟩) ∧ Hid (FBox wc B (.slice (some ⟨gd, 0, none⟩) n n) (.slice (some ⟨gp, 0, none⟩) 0 (ps.length + 1))) ∧ Hid (w.heap.size < B ∧ w.heap.size < gd ∧ w.heap.size < gp ∧ gd ≠ gp ∧ gd ≠ B ∧ gp ≠ B) ∧
   Hid (wc.ownsRow 0 64 512 (.slice (some ⟨gd, 0, none⟩) n n) n (vals .u8 (List.replicate (n * 512) 0))) ∧ Hid (wc.ownsRow 0 66 513 (.slice (some ⟨gp, 0, none⟩) 0 (ps.length + 1)) 0 []) ∧
   Hid (FBox wc w.heap.size (.slice (some ⟨b0, o0, none⟩) dur.length c1) (.slice a2 ps.length c2)) ∧ Hid (Same w wc))
 case first =>
  have hwp : IntKind.i64.wrap ((ps.length : Int) + 1) = (ps.length : Int) + 1 := by rw [IntKind.wrap_i64]; omega
  have HB0 := (show Hid (FBox (w.alloc (.cells #[.slice (some ⟨b0, o0, none⟩) dur.length c1, .slice a2 ps.length c2] 30)) w.heap.size (.slice (some ⟨b0, o0, none⟩) dur.length c1) (.slice a2 ps.length c2)) from FBox.new _ _ _ _)
  have hS : (fun w' => w'.cell? ⟨w.heap.size, 0, none⟩ = some (.slice (some ⟨b0, o0, none⟩) dur.length c1) ∧ w'.cell? ⟨w.heap.size, 1, none⟩ = some (.slice a2 ps.length c2)) (w.alloc (.cells #[.slice (some ⟨b0, o0, none⟩) dur.length c1, .slice a2 ps.length c2] 30)).drew := by go_keep
  refine wp_region_V (fun w' => w'.cell? ⟨w.heap.size, 0, none⟩ = some (.slice (some ⟨b0, o0, none⟩) dur.length c1) ∧ w'.cell? ⟨w.heap.size, 1, none⟩ = some (.slice a2 ps.length c2)) 99 11 rfl (by kernel_rfl) ?_
  refine tk 0 7 hS ?_
  refine tk 3 10 hS ?_
  refine tk 4 11 hS ?_
  refine tk 5 12 hS ?_
  refine tk 6 13 hS ?_
  refine wpAnyV_two (i := 1) (j := 7) (by kernel_rfl) rfl rfl (fun K hK => ?_) (fun K hK => ?_)
  ·go_simp
   refine (countSectors_any _ _ _ _ _ _ _ hdm).mono ?_
   rintro e wx ⟨rfl, hwx⟩
   have HGwx := (show Hid (Same (w.alloc (.cells #[.slice (some ⟨b0, o0, none⟩) dur.length c1, .slice a2 ps.length c2] 30)).drew wx) from (by rw [hwx]; exact (Kept.refl _ _).alloc _))
   have HKwx := (show Hid (Same (w.alloc (.cells #[.slice (some ⟨b0, o0, none⟩) dur.length c1, .slice a2 ps.length c2] 30)) wx) from (by rw [hwx]; exact ((Kept.refl (fun _ => False) (w.alloc (.cells #[.slice (some ⟨b0, o0, none⟩) dur.length c1, .slice a2 ps.length c2] 30))).drew).alloc _))
   clear hwx
   obtain ⟨ywx1, ywx2, _, _⟩ := HB0.out.same HKwx.out
   go_wp2_with fail
   have hSwx : (fun w' => w'.cell? ⟨w.heap.size, 0, none⟩ = some (.slice (some ⟨b0, o0, none⟩) dur.length c1) ∧ w'.cell? ⟨w.heap.size, 1, none⟩ = some (.slice a2 ps.length c2)) wx := by go_keep
   refine hK.out _ _ (fun _ => hSwx) ?_
   clear hK K
   try simp only [Act.put, sA, s0, sS]
   refine wpAnyV_two (i := 2) (j := 7) (by kernel_rfl) rfl rfl (fun K hK => ?_) (fun K hK => ?_)
   ·refine step_make (by rfl) (.tmp 8) (.tmp 8) 59 (by rfl) 0 64 j0 _ 512 Try.underlying59 hj hy0 hy1 .i64 .i64 _ _ n n (by rfl) (by rfl) (by have := HN.out; omega) (by have := HN.out; omega) (Nat.le_refl _) (by rw [hy2]; omega) (by unfold maxLen; omega) (Nat.zero_le _) ?_
    intro wy howy hgwy hlwy
    have HR86wy := (show Hid (wy.ownsRow 0 64 512 (.slice (some ⟨wx.heap.size, 0, none⟩) n n) n (vals .u8 (List.replicate (n * 512) 0))) from (by rw [made_take rfl (by omega)] at howy; exact howy))
    have HGwy := (show Hid (Same wx wy) from Kept.of_grown hgwy (fun k e => by cases e))
    have HKwy := hid (HKwx.out.trans HGwy.out)
    clear howy hgwy
    obtain ⟨ywy1, ywy2, _, _⟩ := HB0.out.same HKwy.out
    have hSwy : (fun w' => w'.cell? ⟨w.heap.size, 0, none⟩ = some (.slice (some ⟨b0, o0, none⟩) dur.length c1) ∧ w'.cell? ⟨w.heap.size, 1, none⟩ = some (.slice a2 ps.length c2)) wy := by go_keep
    refine hK.out _ _ (fun _ => hSwy) ?_
    clear hK K
    try simp only [Act.put, sA, s0, sS]
    refine wpAnyV_one (i := 7) (by kernel_rfl) rfl (fun K hK => ?_)
    refine step_make (by rfl) (.const (.int .i64 0)) (.tmp 13) 60 (by rfl) 0 66 i0 _ 513 Try.underlying60 hi hz0 hz1 .i64 .i64 _ _ 0 (ps.length + 1) (by rfl) (by rfl) (by rfl) (by omega) (Nat.zero_le _) (by rw [hz2]; omega) (by unfold maxLen; omega) (Nat.zero_le _) ?_
    intro wz howz hgwz hlwz
    have HR87wz := (show Hid (wz.ownsRow 0 66 513 (.slice (some ⟨wy.heap.size, 0, none⟩) 0 (ps.length + 1)) 0 []) from (by unfold Hid; simpa using howz))
    have HGwz := (show Hid (Same wy wz) from Kept.of_grown hgwz (fun k e => by cases e))
    have HKwz := hid (HKwy.out.trans HGwz.out)
    clear howz hgwz
    obtain ⟨ywz1, ywz2, _, _⟩ := HB0.out.same HKwz.out
    have hSwz : (fun w' => w'.cell? ⟨w.heap.size, 0, none⟩ = some (.slice (some ⟨b0, o0, none⟩) dur.length c1) ∧ w'.cell? ⟨w.heap.size, 1, none⟩ = some (.slice a2 ps.length c2)) wz := by go_keep
    refine hK.out _ _ (fun _ => hSwz) ?_
    clear hK K
    try simp only [Act.put, sA, s0, sS]
    refine tk 8 15 hSwz ?_
    refine wpAnyV_one (i := 9) (by kernel_rfl) rfl (fun K hK => ?_)
    go_simp
    have zz := (HB0.out.same HKwz.out).lt
    have hSq : (fun w' => w'.cell? ⟨w.heap.size, 0, none⟩ = some (.slice (some ⟨b0, o0, none⟩) dur.length c1) ∧ w'.cell? ⟨w.heap.size, 1, none⟩ = some (.slice a2 ps.length c2)) (wz.alloc (.cells #[.slice (some ⟨wx.heap.size, 0, none⟩) n n, .slice (some ⟨wy.heap.size, 0, none⟩) 0 (ps.length + 1)] 62)) := by go_keep
    refine hK.out _ _ (fun _ => hSq) ?_
    clear hK K
    try simp only [Act.put, sA, s0, sS]
    refine tk 10 3 hSq ?_
    refine wpAnyV_done (by kernel_rfl) ?_
    go_wp2_with fail
    go_meet
    case rel =>
     have k1 := HKwx.out.size
     have k2 := HGwy.out.size
     have k3 := HGwz.out.size
     simp only [World.size_alloc] at k1
     refine ⟨wz.heap.size, wx.heap.size, wy.heap.size, rfl, FBox.new _ _ _ _, ⟨by omega, by omega, by omega, by omega, by omega, by omega⟩, ?_, ?_, HB0.out.same (HKwz.out.alloc _), (((Kept.refl _ _).alloc _).trans HKwz.out).alloc _⟩
     ·exact Kept.owns (R := fun _ => False) (HGwz.out.alloc _) HR86wy.out (fun _ _ => id)
     ·exact Kept.owns (R := fun _ => False) ((Kept.refl _ _).alloc _) HR87wz.out (fun _ _ => id)
   ·refine step_make (by rfl) (.const (.int .i64 0)) (.tmp 13) 60 (by rfl) 0 66 i0 _ 513 Try.underlying60 hi hz0 hz1 .i64 .i64 _ _ 0 (ps.length + 1) (by rfl) (by rfl) (by rfl) (by omega) (Nat.zero_le _) (by rw [hz2]; omega) (by unfold maxLen; omega) (Nat.zero_le _) ?_
    intro wy howy hgwy hlwy
    have HR87wy := (show Hid (wy.ownsRow 0 66 513 (.slice (some ⟨wx.heap.size, 0, none⟩) 0 (ps.length + 1)) 0 []) from (by unfold Hid; simpa using howy))
    have HGwy := (show Hid (Same wx wy) from Kept.of_grown hgwy (fun k e => by cases e))
    have HKwy := hid (HKwx.out.trans HGwy.out)
    clear howy hgwy
    obtain ⟨ywy1, ywy2, _, _⟩ := HB0.out.same HKwy.out
    have hSwy : (fun w' => w'.cell? ⟨w.heap.size, 0, none⟩ = some (.slice (some ⟨b0, o0, none⟩) dur.length c1) ∧ w'.cell? ⟨w.heap.size, 1, none⟩ = some (.slice a2 ps.length c2)) wy := by go_keep
    refine hK.out _ _ (fun _ => hSwy) ?_
    clear hK K
    try simp only [Act.put, sA, s0, sS]
    refine wpAnyV_one (i := 2) (by kernel_rfl) rfl (fun K hK => ?_)
    refine step_make (by rfl) (.tmp 8) (.tmp 8) 59 (by rfl) 0 64 j0 _ 512 Try.underlying59 hj hy0 hy1 .i64 .i64 _ _ n n (by rfl) (by rfl) (by have := HN.out; omega) (by have := HN.out; omega) (Nat.le_refl _) (by rw [hy2]; omega) (by unfold maxLen; omega) (Nat.zero_le _) ?_
    intro wz howz hgwz hlwz
    have HR86wz := (show Hid (wz.ownsRow 0 64 512 (.slice (some ⟨wy.heap.size, 0, none⟩) n n) n (vals .u8 (List.replicate (n * 512) 0))) from (by rw [made_take rfl (by omega)] at howz; exact howz))
    have HGwz := (show Hid (Same wy wz) from Kept.of_grown hgwz (fun k e => by cases e))
    have HKwz := hid (HKwy.out.trans HGwz.out)
    clear howz hgwz
    obtain ⟨ywz1, ywz2, _, _⟩ := HB0.out.same HKwz.out
    have hSwz : (fun w' => w'.cell? ⟨w.heap.size, 0, none⟩ = some (.slice (some ⟨b0, o0, none⟩) dur.length c1) ∧ w'.cell? ⟨w.heap.size, 1, none⟩ = some (.slice a2 ps.length c2)) wz := by go_keep
    refine hK.out _ _ (fun _ => hSwz) ?_
    clear hK K
    try simp only [Act.put, sA, s0, sS]
    refine tk 8 15 hSwz ?_
    refine wpAnyV_one (i := 9) (by kernel_rfl) rfl (fun K hK => ?_)
    go_simp
    have zz := (HB0.out.same HKwz.out).lt
    have hSq : (fun w' => w'.cell? ⟨w.heap.size, 0, none⟩ = some (.slice (some ⟨b0, o0, none⟩) dur.length c1) ∧ w'.cell? ⟨w.heap.size, 1, none⟩ = some (.slice a2 ps.length c2)) (wz.alloc (.cells #[.slice (some ⟨wy.heap.size, 0, none⟩) n n, .slice (some ⟨wx.heap.size, 0, none⟩) 0 (ps.length + 1)] 62)) := by go_keep
    refine hK.out _ _ (fun _ => hSq) ?_
    clear hK K
    try simp only [Act.put, sA, s0, sS]
    refine tk 10 3 hSq ?_
    refine wpAnyV_done (by kernel_rfl) ?_
    go_wp2_with fail
    go_meet
    case rel =>
     have k1 := HKwx.out.size
     have k2 := HGwy.out.size
     have k3 := HGwz.out.size
     simp only [World.size_alloc] at k1
     refine ⟨wz.heap.size, wy.heap.size, wx.heap.size, rfl, FBox.new _ _ _ _, ⟨by omega, by omega, by omega, by omega, by omega, by omega⟩, ?_, ?_, HB0.out.same (HKwz.out.alloc _), (((Kept.refl _ _).alloc _).trans HKwz.out).alloc _⟩
     ·exact Kept.owns (R := fun _ => False) ((Kept.refl _ _).alloc _) HR86wz.out (fun _ _ => id)
     ·exact Kept.owns (R := fun _ => False) (HGwz.out.alloc _) HR87wy.out (fun _ _ => id)
  ·refine step_make (by rfl) (.const (.int .i64 0)) (.tmp 13) 60 (by rfl) 0 66 i0 _ 513 Try.underlying60 hi hz0 hz1 .i64 .i64 _ _ 0 (ps.length + 1) (by rfl) (by rfl) (by rfl) (by omega) (Nat.zero_le _) (by rw [hz2]; omega) (by unfold maxLen; omega) (Nat.zero_le _) ?_
   intro wx howx hgwx hlwx
   have HR87wx := (show Hid (wx.ownsRow 0 66 513 (.slice (some ⟨(w.alloc (.cells #[.slice (some ⟨b0, o0, none⟩) dur.length c1, .slice a2 ps.length c2] 30)).drew.heap.size, 0, none⟩) 0 (ps.length + 1)) 0 []) from (by unfold Hid; simpa using howx))
   have HGwx := (show Hid (Same (w.alloc (.cells #[.slice (some ⟨b0, o0, none⟩) dur.length c1, .slice a2 ps.length c2] 30)).drew wx) from Kept.of_grown hgwx (fun k e => by cases e))
   have HKwx := (show Hid (Same (w.alloc (.cells #[.slice (some ⟨b0, o0, none⟩) dur.length c1, .slice a2 ps.length c2] 30)) wx) from ((Kept.refl (fun _ => False) (w.alloc (.cells #[.slice (some ⟨b0, o0, none⟩) dur.length c1, .slice a2 ps.length c2] 30))).drew).trans HGwx.out)
   clear howx hgwx
   obtain ⟨ywx1, ywx2, _, _⟩ := HB0.out.same HKwx.out
   have hSwx : (fun w' => w'.cell? ⟨w.heap.size, 0, none⟩ = some (.slice (some ⟨b0, o0, none⟩) dur.length c1) ∧ w'.cell? ⟨w.heap.size, 1, none⟩ = some (.slice a2 ps.length c2)) wx := by go_keep
   refine hK.out _ _ (fun _ => hSwx) ?_
   clear hK K
   try simp only [Act.put, sA, s0, sS]
   refine wpAnyV_one (i := 1) (by kernel_rfl) rfl (fun K hK => ?_)
   go_simp
   refine (countSectors_any _ _ _ _ _ _ _ hdm).mono ?_
   rintro e wy ⟨rfl, hwy⟩
   have HGwy := (show Hid (Same wx wy) from (by rw [hwy]; exact (Kept.refl _ _).alloc _))
   have HKwy := (show Hid (Same (w.alloc (.cells #[.slice (some ⟨b0, o0, none⟩) dur.length c1, .slice a2 ps.length c2] 30)) wy) from (by rw [hwy]; exact HKwx.out.alloc _))
   clear hwy
   obtain ⟨ywy1, ywy2, _, _⟩ := HB0.out.same HKwy.out
   go_wp2_with fail
   have hSwy : (fun w' => w'.cell? ⟨w.heap.size, 0, none⟩ = some (.slice (some ⟨b0, o0, none⟩) dur.length c1) ∧ w'.cell? ⟨w.heap.size, 1, none⟩ = some (.slice a2 ps.length c2)) wy := by go_keep
   refine hK.out _ _ (fun _ => hSwy) ?_
   clear hK K
   try simp only [Act.put, sA, s0, sS]
   refine wpAnyV_one (i := 2) (by kernel_rfl) rfl (fun K hK => ?_)
   refine step_make (by rfl) (.tmp 8) (.tmp 8) 59 (by rfl) 0 64 j0 _ 512 Try.underlying59 hj hy0 hy1 .i64 .i64 _ _ n n (by rfl) (by rfl) (by have := HN.out; omega) (by have := HN.out; omega) (Nat.le_refl _) (by rw [hy2]; omega) (by unfold maxLen; omega) (Nat.zero_le _) ?_
   intro wz howz hgwz hlwz
   have HR86wz := (show Hid (wz.ownsRow 0 64 512 (.slice (some ⟨wy.heap.size, 0, none⟩) n n) n (vals .u8 (List.replicate (n * 512) 0))) from (by rw [made_take rfl (by omega)] at howz; exact howz))
   have HGwz := (show Hid (Same wy wz) from Kept.of_grown hgwz (fun k e => by cases e))
   have HKwz := hid (HKwy.out.trans HGwz.out)
   clear howz hgwz
   obtain ⟨ywz1, ywz2, _, _⟩ := HB0.out.same HKwz.out
   have hSwz : (fun w' => w'.cell? ⟨w.heap.size, 0, none⟩ = some (.slice (some ⟨b0, o0, none⟩) dur.length c1) ∧ w'.cell? ⟨w.heap.size, 1, none⟩ = some (.slice a2 ps.length c2)) wz := by go_keep
   refine hK.out _ _ (fun _ => hSwz) ?_
   clear hK K
   try simp only [Act.put, sA, s0, sS]
   refine tk 8 15 hSwz ?_
   refine wpAnyV_one (i := 9) (by kernel_rfl) rfl (fun K hK => ?_)
   go_simp
   have zz := (HB0.out.same HKwz.out).lt
   have hSq : (fun w' => w'.cell? ⟨w.heap.size, 0, none⟩ = some (.slice (some ⟨b0, o0, none⟩) dur.length c1) ∧ w'.cell? ⟨w.heap.size, 1, none⟩ = some (.slice a2 ps.length c2)) (wz.alloc (.cells #[.slice (some ⟨wy.heap.size, 0, none⟩) n n, .slice (some ⟨(w.heap.size + 1), 0, none⟩) 0 (ps.length + 1)] 62)) := by go_keep
   refine hK.out _ _ (fun _ => hSq) ?_
   clear hK K
   try simp only [Act.put, sA, s0, sS]
   refine tk 10 3 hSq ?_
   refine wpAnyV_done (by kernel_rfl) ?_
   go_wp2_with fail
   go_meet
   case rel =>
    have k1 := HKwx.out.size
    have k2 := HGwy.out.size
    have k3 := HGwz.out.size
    simp only [World.size_alloc] at k1
    have k0 : w.heap.size + 1 < wx.heap.size := by simpa using hlwx
    refine ⟨wz.heap.size, wy.heap.size, (w.heap.size + 1), rfl, FBox.new _ _ _ _, ⟨by omega, by omega, by omega, by omega, by omega, by omega⟩, ?_, ?_, HB0.out.same (HKwz.out.alloc _), (((Kept.refl _ _).alloc _).trans HKwz.out).alloc _⟩
    ·exact Kept.owns (R := fun _ => False) ((Kept.refl _ _).alloc _) HR86wz.out (fun _ _ => id)
    ·exact Kept.owns (R := fun _ => False) ((HGwy.out.trans HGwz.out).alloc _) (by simpa using HR87wx.out) (fun _ _ => id)
 case rest =>
  obtain ⟨B, gd, gp, rfl, HX, HD, HRD, HRP, HB0, HK⟩ := hcut
  obtain ⟨d1, d2, d3, d4, d5, d6⟩ := HD.out
  obtain ⟨x1, x2, x3, x4⟩ := HX.out
  go_wp2
  clear x1 x2 x3 x4
  go_loopw [22] (fun i wr => ∃ (k : Nat), k ≤ n ∧ i = .int .i64 k ∧ Hid (FBox wr B (.slice (some ⟨gd, 0, none⟩) n n) (.slice (some ⟨gp, 0, none⟩) 0 (ps.length + 1))) ∧ Hid (FBox wr w.heap.size (.slice (some ⟨b0, o0, none⟩) dur.length c1) (.slice a2 ps.length c2)) ∧
    Hid (wr.ownsRow 0 64 512 (.slice (some ⟨gd, 0, none⟩) n n) n (vals .u8 (fillUp dur (k * 512)))) ∧ Hid (wr.ownsRow 0 66 513 (.slice (some ⟨gp, 0, none⟩) 0 (ps.length + 1)) 0 []) ∧ Hid (Same w wr)) (fun i _ => n - (intOf i).toNat)
  case atStart => exact ⟨0, Nat.zero_le _, rfl, HX, HB0, by rw [Nat.zero_mul, fillUp_zero, HN.out]; exact HRD, HRP, HK⟩
  case round =>
   obtain ⟨k, hk, rfl, HXr, HB0r, HRDr, HRPr, HKr⟩ := hrel
   by_cases hlt : k < n
   ·obtain ⟨x1, x2, x3, x4⟩ := HXr.out
    obtain ⟨u1, u2, _, _⟩ := HB0r.out
    have hnn := HN.out
    have hb0w : b0 < w.heap.size := World.block_lt_of_cell? w _ (HC0.out 0 (by omega))
    have hcl : (vals .u8 ((dur.drop (k * 512)).take 512)).length = 512 := by rw [vals_length, List.length_take, List.length_drop]; omega
    have RG : Hid (wr.drew.rangeAt b0 (o0 + k * 512) (vals .u8 ((dur.drop (k * 512)).take 512))) := fun j v hjv => by
     have hj : j < 512 := by have := (List.getElem?_eq_some_iff.1 hjv).1; omega
     have h1 := HKr.out.cellOf (HC0.out (k * 512 + j) (by omega)) id
     rw [← Nat.add_assoc] at h1
     rw [vals_at _ _ _ (by rw [← vals_length .u8]; omega)] at hjv
     rw [← hjv]
     show wr.cell? _ = _
     rw [h1]
     simp [List.getD, hj]
    have HTH : Hid (wr.drew.there gd (k * 512) (vals .u8 ((dur.drop (k * 512)).take 512)).toArray.size) := by
     rw [List.size_toArray, hcl]
     exact owns_there (HRDr.out.drew) (k * 512) 512 (by rw [vals_length, fillUp_length _ _ (by omega)]; omega)
    have hi91 : (Try.prog.info? 64).map (·.size) = some (vals .u8 ((dur.drop (k * 512)).take 512)).length := by rw [hcl, hj]; simp [hy1]
    have HIN : Hid ((Try.prog.info? 64).map (·.size) = some (vals .u8 ((dur.drop (k * 512)).take 512)).toArray.size) := by rw [List.size_toArray]; exact hi91
    have e1 : ((k : Int) * 512).toNat = k * 512 := by omega
    have e2 : (((k : Int) + 1) * 512).toNat = k * 512 + 512 := by omega
    have g0 : (0 : Int) ≤ (k : Int) := by omega
    have g1 : ((k : Int) + 1) * 512 ≤ (c1 : Int) := by omega
    have g2 : (0 : Int) ≤ ((k : Int) + 1) * 512 := by omega
    have g3 : (k : Int) * 512 ≤ ((k : Int) + 1) * 512 := by omega
    have g4 : (0 : Int) ≤ (k : Int) * 512 := by omega
    have g5 : IntKind.i64.wrap ((k : Int) * 512) = (k : Int) * 512 := by rw [IntKind.wrap_i64]; omega
    have g6 : IntKind.i64.wrap ((k : Int) + 1) = (k : Int) + 1 := by rw [IntKind.wrap_i64]; omega
    have g7 : IntKind.i64.wrap (((k : Int) + 1) * 512) = ((k : Int) + 1) * 512 := by rw [IntKind.wrap_i64]; omega
    have g8 : (k : Int) < (n : Int) := by omega
    have g9 : ¬ c1 = k * 512 := by omega
    have har := fun (wx : World) (ad : Option Addr) (c : Nat) => run_arrayAt wx ad 512 c (by omega)
    have g10 : (k : Int) * 512 ≤ (k : Int) * 512 + 512 := by omega
    have HHI : Hid ((Try.prog.info? 64).map (·.size) = some (vals .u8 ((dur.drop (k * 512)).take 512)).length) := hi91
    clear hnn
    go_wp2_with fail
    have hS : (fun w' => w'.cell? ⟨B, 0, none⟩ = some (.slice (some ⟨gd, 0, none⟩) n n) ∧ w'.cell? ⟨w.heap.size, 0, none⟩ = some (.slice (some ⟨b0, o0, none⟩) dur.length c1) ∧ w'.rangeAt b0 (o0 + k * 512) (vals .u8 ((dur.drop (k * 512)).take 512))) wr.drew := by exact ⟨x1, u1, RG.out⟩
    refine wp_region_V (fun w' => w'.cell? ⟨B, 0, none⟩ = some (.slice (some ⟨gd, 0, none⟩) n n) ∧ w'.cell? ⟨w.heap.size, 0, none⟩ = some (.slice (some ⟨b0, o0, none⟩) dur.length c1) ∧ w'.rangeAt b0 (o0 + k * 512) (vals .u8 ((dur.drop (k * 512)).take 512))) 16 17 rfl (by kernel_rfl) ?_
    refine tk 0 25 hS ?_
    refine tk 1 26 hS ?_
    refine tk 2 27 hS ?_
    refine tk 3 28 hS ?_
    refine tk 4 29 hS ?_
    refine tk 5 30 hS ?_
    refine tk 6 31 hS ?_
    refine tk 7 32 hS ?_
    refine tk 8 33 hS ?_
    refine tk 9 34 hS ?_
    refine tk 10 35 hS ?_
    refine tk 11 36 hS ?_
    refine tk 12 37 hS ?_
    refine tk 13 38 hS ?_
    refine wpAnyV_take (i := 14) (v := .agg (vals .u8 ((dur.drop (k * 512)).take 512)).toArray) (some 39) rfl rfl (by kernel_rfl) (by kernel_rfl) (by kernel_rfl) (by kernel_rfl) (fun _ _ _ h => h) (yieldsIf_load_mid (by rfl) _ _ rfl _ _ rfl _ _ (fun w hSw => by (try dsimp (config := { zetaDelta := true }) only at hSw); exact hSw.2.2) hu91 rfl hi91) hS ?_
    try simp only [Act.put, sA, s0, sS]
    refine tk 15 40 hS ?_
    refine wpAnyV_one (i := 16) (by kernel_rfl) rfl (fun K hK => ?_)
    rw [if_pos (by rfl)]
    refine wp_store_mid _ _ _ rfl gd (k * 512) (vals .u8 ((dur.drop (k * 512)).take 512)).toArray rfl rfl ?hth1 ?hin1 (all_oneCell_toArray (fun v hv => vals_one v hv)) ?_
    case hth1 => exact HTH.out
    case hin1 => exact HIN.out
    simp only [List.getElem_toArray, List.getElem_cons_succ, List.getElem_cons_zero, List.toList_toArray]
    refine hK.out _ _ (fun h => absurd rfl h) ?_
    clear hK K
    refine wpAnyV_done (by kernel_rfl) ?_
    try simp only [Act.put, sA, s0, sS]
    obtain ⟨q1, q2⟩ := owns_setCellsP (vals .u8 ((dur.drop (k * 512)).take 512)) (k * 512) wr.drew _ HRDr.out.drew (by rw [hcl, vals_length, fillUp_length _ _ (by have := HN.out; omega)]; have := HN.out; omega)
    rw [lay_fill dur (k * 512) (by have := HN.out; omega)] at q1
    have hkk : Kept (fun b => b = gd) wr (wr.drew.setCells gd (k * 512) (vals .u8 ((dur.drop (k * 512)).take 512))) := (Kept.refl _ _).drew.trans (Kept.of_grown q2 (fun k e => (Option.some.inj e).symm))
    have HX2 := (show Hid (FBox _ B (.slice (some ⟨gd, 0, none⟩) n n) (.slice (some ⟨gp, 0, none⟩) 0 (ps.length + 1))) from HXr.out.kept hkk (by show ¬ B = gd; omega))
    have HB2 := (show Hid (FBox _ w.heap.size (.slice (some ⟨b0, o0, none⟩) dur.length c1) (.slice a2 ps.length c2)) from HB0r.out.kept hkk (by show ¬ w.heap.size = gd; omega))
    have HR2 := (show Hid (World.ownsRow _ 0 64 512 (.slice (some ⟨gd, 0, none⟩) n n) n (vals .u8 (fillUp dur (k * 512 + 512)))) from q1)
    have HP2 := (show Hid (World.ownsRow _ 0 66 513 (.slice (some ⟨gp, 0, none⟩) 0 (ps.length + 1)) 0 []) from hkk.owns HRPr.out (fun b hb => by have : b = gp := (Option.some.inj hb).symm; show ¬ b = gd; omega))
    have HK2 := (show Hid (Same w _) from HKr.out.next hkk (fun b hb e => by have e' : b = gd := e; omega))
    generalize wr.drew.setCells gd (k * 512) (vals .u8 ((dur.drop (k * 512)).take 512)) = wn at *
    clear q1 q2 hkk hS x1 x2 x3 x4 u1 u2
    go_wp2
    go_roundw
    case rel => exact ⟨k + 1, by omega, by go_num, HX2, HB2, by rw [show (k + 1) * 512 = k * 512 + 512 from by omega]; exact HR2, HP2, HK2⟩
    case measure => simp [intOf]; omega
   ·obtain rfl : k = n := by omega
    have HRF := (show Hid (wr.ownsRow 0 64 512 (.slice (some ⟨gd, 0, none⟩) k k) k (vals .u8 dur)) from (by have h := HRDr.out; rw [← HN.out, fillUp_all] at h; exact h))
    obtain ⟨x1, x2, x3, x4⟩ := HXr.out
    obtain ⟨u1, u2, _, _⟩ := HB0r.out
    obtain ⟨wo, rfl⟩ : ∃ wo : World, wo = wr := ⟨_, rfl⟩
    go_wp2
    clear x1 x2 x3 x4 u1 u2
    obtain ⟨nn, rfl⟩ : ∃ nn, nn = k := ⟨_, rfl⟩
    go_loopw [45] (fun i wr => ∃ (k gq cq : Nat), k ≤ ps.length ∧ i = .int .i64 k ∧ Hid (w.heap.size < gq ∧ gq ≠ B ∧ gq ≠ gd ∧ gq < wr.heap.size) ∧ Hid (FBox wr B (.slice (some ⟨gd, 0, none⟩) nn nn) (.slice (some ⟨gq, 0, none⟩) k cq)) ∧
      Hid (wr.ownsRow 0 64 512 (.slice (some ⟨gd, 0, none⟩) nn nn) nn (vals .u8 dur)) ∧ Hid (wr.ownsRow 0 66 513 (.slice (some ⟨gq, 0, none⟩) k cq) k (penCells (dataP (ps.take k)))) ∧ Hid (Same w wr)) (fun i _ => ps.length - (intOf i).toNat)
    case atStart => exact ⟨0, gp, ps.length + 1, Nat.zero_le _, rfl, ⟨d3, d6, fun e => d4 e.symm, (World.ownsRow.lt HRPr.out gp rfl).2⟩, HXr, HRF, HRPr, HKr⟩
    case round =>
     obtain ⟨k, gq, cq, hk, rfl, HGQ, HX, HRD2, HRP2, HKr⟩ := hrel
     by_cases hlt : k < ps.length
     ·obtain ⟨b, off, rfl, hc⟩ : ∃ b off, a2 = some ⟨b, off, none⟩ ∧ ∀ i (h : i < ps.length), w.cell? ⟨b, off + i * 2, none⟩ = some (.int .i64 ps[i].sec) ∧ w.cell? ⟨b, off + i * 2 + 1, none⟩ = some ps[i].v := by
       rcases HP.out.row with ⟨rfl, _⟩ | ⟨b, off, c, e, hc⟩
       ·simp at hlt
       ·simp only [Value.slice.injEq, true_and] at e
        obtain ⟨rfl, rfl⟩ := e
        exact ⟨b, off, rfl, hc⟩
      obtain ⟨v1, v2, v3⟩ := HV.out.2 (ps[k].sec, ps[k].bs) (List.mem_map.2 ⟨ps[k], List.getElem_mem hlt, rfl⟩)
      simp only at v1 v2 v3
      obtain ⟨b3, o3, c3, ev, hsrc⟩ : ∃ b3 o3 c3, ps[k].v = .slice (some ⟨b3, o3, none⟩) ps[k].bs.length c3 ∧ ∀ i, i < ps[k].bs.length → w.cell? ⟨b3, o3 + i, none⟩ = some (.int .u8 (ps[k].bs.getD i 0)) := by
       rcases (HP.out.data _ (List.getElem_mem hlt)).2 with ⟨h, _⟩ | ⟨b3, o3, c3, h, _, hc⟩
       ·simp [h] at v3
       ·exact ⟨b3, o3, c3, h, hc⟩
      have q1 := HKr.out.cellOf (hc k hlt).1 id
      have q2 := HKr.out.cellOf (hc k hlt).2 id
      rw [ev] at q2
      have HB3 : Hid (b3 < w.heap.size) := World.block_lt_of_cell? w _ (hsrc 0 (by omega))
      have hcl : (vals .u8 ps[k].bs).length = 512 := by rw [vals_length]; exact v3
      have RG0 := (show Hid ((wr.alloc (.cells #[.int .i64 ps[k].sec, .slice (some ⟨b3, o3, none⟩) ps[k].bs.length c3] 45)).rangeAt b3 o3 (vals .u8 ps[k].bs)) from fun j v hj => by
       have hjl : j < ps[k].bs.length := by have := (List.getElem?_eq_some_iff.1 hj).1; rwa [vals_length] at this
       rw [vals_at _ _ _ hjl] at hj
       rw [← hj]
       exact (HKr.out.alloc _).cellOf (hsrc j hjl) id)
      have RG := (show Hid ((wr.alloc (.cells #[.int .i64 ps[k].sec, .slice (some ⟨b3, o3, none⟩) ps[k].bs.length c3] 45)).drew.rangeAt b3 o3 (vals .u8 ps[k].bs)) from RG0.out)
      have hi91 : (Try.prog.info? 64).map (·.size) = some (vals .u8 ps[k].bs).length := by rw [hcl, hj]; simp [hy1]
      have har := fun (wx : World) (ad : Option Addr) (c : Nat) => run_arrayAt wx ad ps[k].bs.length c (by omega)
      have hzc : (Value.agg zeros93).cells.size = 513 := by kernel_rfl
      have HOB : Hid (∀ wx, Same (wr.alloc (.cells #[.int .i64 ps[k].sec, .slice (some ⟨b3, o3, none⟩) ps[k].bs.length c3] 45)) wx → wx.ownsRow 0 66 513 (.slice (some ⟨gq, 0, none⟩) k cq) k (penCells (dataP (ps.take k)))) := fun wx hx => (((Kept.refl (fun _ => False) wr).alloc _).trans hx).owns HRP2.out (fun _ _ => id)
      have HNB : Hid (∀ wx, wx = ((wr.alloc (.cells #[.int .i64 ps[k].sec, .slice (some ⟨b3, o3, none⟩) ps[k].bs.length c3] 45)).drew.alloc (.cells (Value.int .i64 ps[k].sec :: vals .u8 ps[k].bs).toArray 66)) → ∀ j u, (Value.int .i64 ps[k].sec :: vals .u8 ps[k].bs)[j]? = some u → wx.cell? ((⟨wr.heap.size + 1, 0, none⟩ : Addr).add j) = some u) := fun wx hx j u hj => by
       have h := World.news_of_block (w := wx) (B := wr.heap.size + 1) (cs := (Value.int .i64 ps[k].sec :: vals .u8 ps[k].bs).toArray) (t := 66) (fr := (0, 0)) (by rw [hx]; have := heap_alloc_new (wr.alloc (.cells #[.int .i64 ps[k].sec, .slice (some ⟨b3, o3, none⟩) ps[k].bs.length c3] 45)).drew (.cells (Value.int .i64 ps[k].sec :: vals .u8 ps[k].bs).toArray 66); simpa using this)
       exact h j u (by simpa using hj)
      have HONE : Hid (∀ u ∈ (Value.int .i64 ps[k].sec :: vals .u8 ps[k].bs), u.oneCell' = true) := fun u hu => by
       rcases List.mem_cons.1 hu with rfl | hu
       ·rfl
       ·exact vals_one u hu
      have HXa := (show Hid (FBox (wr.alloc (.cells #[.int .i64 ps[k].sec, .slice (some ⟨b3, o3, none⟩) ps[k].bs.length c3] 45)) B (.slice (some ⟨gd, 0, none⟩) nn nn) (.slice (some ⟨gq, 0, none⟩) k cq)) from HX.out.next _)
      have HBa := (show Hid (FBox (wr.alloc (.cells #[.int .i64 ps[k].sec, .slice (some ⟨b3, o3, none⟩) ps[k].bs.length c3] 45)) wr.heap.size (.int .i64 ps[k].sec) (.slice (some ⟨b3, o3, none⟩) ps[k].bs.length c3)) from FBox.new _ _ _ _)
      have HV3 : Hid (ps[k].bs.length = 512) := v3
      obtain ⟨t1, t2, t3, t4⟩ := HGQ.out
      have tB := HX.out.lt
      have hki : (k : Int) < (ps.length : Int) := by omega
      have hk0 : (0 : Int) ≤ (k : Int) := by omega
      obtain ⟨_, z1, _, z4⟩ := HXa.out
      obtain ⟨z2, z3, _, _⟩ := HBa.out
      clear ev hc hsrc v1 v2 v3
      go_wp2_with fail
      have hS : (fun w' => w'.cell? ⟨B, 1, none⟩ = some (.slice (some ⟨gq, 0, none⟩) k cq) ∧ w'.cell? ⟨wr.heap.size, 0, none⟩ = some (.int .i64 ps[k].sec) ∧ w'.cell? ⟨wr.heap.size, 1, none⟩ = some (.slice (some ⟨b3, o3, none⟩) ps[k].bs.length c3) ∧ w'.frozen? ⟨B, 1, none⟩ = false ∧ w'.rangeAt b3 o3 (vals .u8 ps[k].bs)) (wr.alloc (.cells #[.int .i64 ps[k].sec, .slice (some ⟨b3, o3, none⟩) ps[k].bs.length c3] 45)).drew := by exact ⟨z1, z2, z3, z4, RG.out⟩
      refine wp_region_V (fun w' => w'.cell? ⟨B, 1, none⟩ = some (.slice (some ⟨gq, 0, none⟩) k cq) ∧ w'.cell? ⟨wr.heap.size, 0, none⟩ = some (.int .i64 ps[k].sec) ∧ w'.cell? ⟨wr.heap.size, 1, none⟩ = some (.slice (some ⟨b3, o3, none⟩) ps[k].bs.length c3) ∧ w'.frozen? ⟨B, 1, none⟩ = false ∧ w'.rangeAt b3 o3 (vals .u8 ps[k].bs)) 16 17 rfl (by kernel_rfl) ?_
      refine tk 0 49 hS ?_
      refine tk 1 50 hS ?_
      refine tk 2 51 hS ?_
      refine tk 3 52 hS ?_
      refine tk 4 53 hS ?_
      refine tk 5 54 hS ?_
      refine tk 6 55 hS ?_
      refine tk 7 56 hS ?_
      refine tk 8 57 hS ?_
      refine tk 9 58 hS ?_
      refine wpAnyV_take (i := 10) (v := .agg (vals .u8 ps[k].bs).toArray) (some 59) rfl rfl (by kernel_rfl) (by kernel_rfl) (by kernel_rfl) (by kernel_rfl) (fun _ _ _ h => h) (yieldsIf_load_mid (by rfl) _ _ rfl _ _ rfl _ _ (fun w hSw => by (try dsimp (config := { zetaDelta := true }) only at hSw); exact hSw.2.2.2.2) hu91 rfl hi91) hS ?_
      try simp only [Act.put, sA, s0, sS]
      refine wpAnyV_take (i := 11) (v := .agg (Value.int .i64 ps[k].sec :: vals .u8 ps[k].bs).toArray) (some 60) rfl rfl (by kernel_rfl) (by kernel_rfl) (by kernel_rfl) (by kernel_rfl) (fun _ _ _ h => h) (yields_build93 (by rfl) _ _ rfl ps[k].sec (vals .u8 ps[k].bs) (by rfl) (by rfl) hcl) hS ?_
      try simp only [Act.put, sA, s0, sS]
      refine wpAnyV_one (i := 12) (by kernel_rfl) rfl (fun K hK => ?_)
      refine step_row93 (by rfl) (.tmp 60) (by rfl) (Value.int .i64 ps[k].sec :: vals .u8 ps[k].bs) (by rfl) (by rw [List.length_cons, hcl]) (wr.heap.size + 1) (by simp) ?_
      simp only [List.getElem_toArray, List.getElem_cons_succ, List.getElem_cons_zero]
      obtain ⟨wb, hwb⟩ : ∃ wb, wb = ((wr.alloc (.cells #[.int .i64 ps[k].sec, .slice (some ⟨b3, o3, none⟩) ps[k].bs.length c3] 45)).drew.alloc (.cells (Value.int .i64 ps[k].sec :: vals .u8 ps[k].bs).toArray 66)) := ⟨_, rfl⟩
      have HWB := (show Hid (wb = ((wr.alloc (.cells #[.int .i64 ps[k].sec, .slice (some ⟨b3, o3, none⟩) ps[k].bs.length c3] 45)).drew.alloc (.cells (Value.int .i64 ps[k].sec :: vals .u8 ps[k].bs).toArray 66))) from hwb)
      rw [← hwb]
      clear hwb
      have HKB := (show Hid (Same (wr.alloc (.cells #[.int .i64 ps[k].sec, .slice (some ⟨b3, o3, none⟩) ps[k].bs.length c3] 45)) wb) from (by rw [HWB.out]; exact (Kept.refl _ _).drew.alloc _))
      have hbs : wb.heap.size = wr.heap.size + 1 + 1 := by rw [HWB.out]; simp
      obtain ⟨_, y1, _, y4⟩ := HXa.out.same HKB.out
      obtain ⟨y2, y3, _, _⟩ := HBa.out.same HKB.out
      have RGB := (show Hid (wb.rangeAt b3 o3 (vals .u8 ps[k].bs)) from fun j v hj => HKB.out.cellOf (RG0.out j v hj) id)
      have hS2 : (fun w' => w'.cell? ⟨B, 1, none⟩ = some (.slice (some ⟨gq, 0, none⟩) k cq) ∧ w'.cell? ⟨wr.heap.size, 0, none⟩ = some (.int .i64 ps[k].sec) ∧ w'.cell? ⟨wr.heap.size, 1, none⟩ = some (.slice (some ⟨b3, o3, none⟩) ps[k].bs.length c3) ∧ w'.frozen? ⟨B, 1, none⟩ = false ∧ w'.rangeAt b3 o3 (vals .u8 ps[k].bs)) wb := by exact ⟨y1, y2, y3, y4, RGB.out⟩
      refine hK.out _ _ (fun _ => hS2) ?_
      clear hK K
      try simp only [Act.put, sA, s0, sS]
      refine wpAnyV_one (i := 13) (by kernel_rfl) rfl (fun K hK => ?_)
      refine step_append_lies _ (by rfl) (.tmp 53) (.tmp 61) 60 (by rfl) 0 66 i0 _ 513 520 Try.underlying60 hi hz0 hz1 hz2 hzc (by omega) (.slice (some ⟨gq, 0, none⟩) k cq) k (penCells (dataP (ps.take k))) (by rfl) (by exact HOB.out wb HKB.out) ⟨wr.heap.size + 1, 0, none⟩ 1 1 (Value.int .i64 ps[k].sec :: vals .u8 ps[k].bs) (by rfl) (by rw [List.length_cons, hcl]) (by exact HNB.out wb HWB.out) (by exact HONE.out) (by omega) (by unfold maxLen; omega) (by omega) (Nat.zero_le _) (wr.heap.size + 1 + 1) hbs ?_
      intro g5 cap5 w3 hown5 hgrow5 hat5 hlt5
      simp only [List.getElem_toArray, List.getElem_cons_succ, List.getElem_cons_zero]
      have hk5 : Kept (fun b => b = gq) wb w3 := Kept.of_grown hgrow5 (fun k e => (Option.some.inj e).symm)
      have HK5 := (show Hid (Kept (fun b => b = gq) wb w3) from hk5)
      have HOWN5 := (show Hid (w3.ownsRow 0 66 513 (.slice (some ⟨g5, 0, none⟩) (k + 1) cap5) (k + 1) (penCells (dataP (ps.take k)) ++ (Value.int .i64 ps[k].sec :: vals .u8 ps[k].bs))) from hown5)
      have HAT5 : Hid (g5 = gq ∨ g5 = wr.heap.size + 1 + 1) := hat5.imp (fun e => (Option.some.inj e).symm) id
      obtain ⟨_, y11, _, y14⟩ := (HXa.out.same HKB.out).kept hk5 (by show ¬ B = gq; omega)
      obtain ⟨y12, y13, _, _⟩ := (HBa.out.same HKB.out).kept hk5 (by show ¬ wr.heap.size = gq; omega)
      have RG5 := (show Hid (w3.rangeAt b3 o3 (vals .u8 ps[k].bs)) from fun j v hj => hk5.cellOf (RGB.out j v hj) (by show ¬ b3 = gq; have := HB3.out; omega))
      clear hown5 hgrow5 hat5 hk5
      have hS4 : (fun w' => w'.cell? ⟨B, 1, none⟩ = some (.slice (some ⟨gq, 0, none⟩) k cq) ∧ w'.cell? ⟨wr.heap.size, 0, none⟩ = some (.int .i64 ps[k].sec) ∧ w'.cell? ⟨wr.heap.size, 1, none⟩ = some (.slice (some ⟨b3, o3, none⟩) ps[k].bs.length c3) ∧ w'.frozen? ⟨B, 1, none⟩ = false ∧ w'.rangeAt b3 o3 (vals .u8 ps[k].bs)) w3 := by exact ⟨y11, y12, y13, y14, RG5.out⟩
      refine hK.out _ _ (fun _ => hS4) ?_
      clear hK K
      try simp only [Act.put, sA, s0, sS]
      refine wpAnyV_one (i := 14) (by kernel_rfl) rfl (fun K hK => ?_)
      go_simp
      refine hK.out _ _ (fun _ => hS4) ?_
      clear hK K
      try simp only [Act.put, sA, s0, sS]
      refine wpAnyV_one (i := 15) (by kernel_rfl) rfl (fun K hK => ?_)
      go_simp
      refine hK.out _ _ (fun _ => hS4) ?_
      clear hK K
      try simp only [Act.put, sA, s0, sS]
      refine wpAnyV_one (i := 16) (by kernel_rfl) rfl (fun K hK => ?_)
      go_simp
      refine hK.out _ _ (fun h => absurd rfl h) ?_
      clear hK K
      refine wpAnyV_done (by kernel_rfl) ?_
      try simp only [Act.put, sA, s0, sS]
      have hkb : Same wr wb := ((Kept.refl _ _).alloc _).trans HKB.out
      have hk3 : Kept (fun b => b = gq ∨ b = B) wr (w3.setCell ⟨B, 1, none⟩ (.slice (some ⟨g5, 0, none⟩) (k + 1) cap5)) :=
       Kept.setCell ((hkb.mono (fun _ _ h => h.elim)).trans (HK5.out.mono (fun _ _ h => .inl h))) (p := ⟨B, 1, none⟩) (.inr (.inr rfl)) _
      have HX3 := (show Hid (FBox (w3.setCell ⟨B, 1, none⟩ (.slice (some ⟨g5, 0, none⟩) (k + 1) cap5)) B (.slice (some ⟨gd, 0, none⟩) nn nn) (.slice (some ⟨g5, 0, none⟩) (k + 1) cap5)) from ((HXa.out.same HKB.out).kept HK5.out (by show ¬ B = gq; omega)).set1 _)
      have hg5 : w.heap.size < g5 ∧ g5 ≠ B ∧ g5 ≠ gd ∧ g5 < w3.heap.size := by
       have h1 := (World.ownsRow.lt HOWN5.out g5 rfl).2
       have h2 := (World.ownsRow.lt HRD2.out gd rfl).2
       have h3 := HKr.out.size
       rcases HAT5.out with h | h
       ·exact ⟨by omega, by omega, by omega, h1⟩
       ·exact ⟨by omega, by omega, by omega, h1⟩
      have HG3 := (show Hid (w.heap.size < g5 ∧ g5 ≠ B ∧ g5 ≠ gd ∧ g5 < (w3.setCell ⟨B, 1, none⟩ (.slice (some ⟨g5, 0, none⟩) (k + 1) cap5)).heap.size) from ⟨hg5.1, hg5.2.1, hg5.2.2.1, by simpa [World.setCell] using hg5.2.2.2⟩)
      have HD3 := (show Hid (World.ownsRow (w3.setCell ⟨B, 1, none⟩ (.slice (some ⟨g5, 0, none⟩) (k + 1) cap5)) 0 64 512 (.slice (some ⟨gd, 0, none⟩) nn nn) nn (vals .u8 dur)) from hk3.owns HRD2.out (fun b hb => by have e : b = gd := (Option.some.inj hb).symm; show ¬ (b = gq ∨ b = B); omega))
      have HP3 := (show Hid (World.ownsRow (w3.setCell ⟨B, 1, none⟩ (.slice (some ⟨g5, 0, none⟩) (k + 1) cap5)) 0 66 513 (.slice (some ⟨g5, 0, none⟩) (k + 1) cap5) (k + 1) (penCells (dataP (ps.take (k + 1))))) from (by
       have e : penCells (dataP (ps.take (k + 1))) = penCells (dataP (ps.take k)) ++ (Value.int .i64 ps[k].sec :: vals .u8 ps[k].bs) := by
        rw [List.take_succ_eq_append_getElem hlt]
        unfold dataP
        rw [List.map_append, penCells_append]
        simp [penCells]
       rw [e]
       exact Kept.owns (R := fun b => b = B) (Kept.setCell (Kept.refl (fun b => b = B) w3) (p := ⟨B, 1, none⟩) (.inr rfl) _) HOWN5.out (fun b hb => by have e : b = g5 := (Option.some.inj hb).symm; show ¬ b = B; omega)))
      have HK3 := (show Hid (Same w (w3.setCell ⟨B, 1, none⟩ (.slice (some ⟨g5, 0, none⟩) (k + 1) cap5))) from HKr.out.next hk3 (fun b hb e => by rcases e with e | e <;> omega))
      clear hkb hk3 hg5 hS hS2 hS4 z1 z2 z3 z4 y1 y2 y3 y4 y11 y12 y13 y14 q1 q2
      go_wp2
      go_roundw
      case rel => exact ⟨k + 1, g5, cap5, by omega, by go_num, HG3, HX3, HD3, HP3, HK3⟩
      case measure => simp [intOf]; omega
     ·obtain rfl : k = ps.length := by omega
      go_wp2
      go_ret
      obtain ⟨t1, t2, t3, t4⟩ := HGQ.out
      have hnn := HN.out
      refine ⟨B, _, _, rfl, ⟨HX.out, ?_, ?_, ?_, ?_, ?_⟩, ⟨by omega, fun b hb => ?_, fun b hb => ?_⟩, HKr.out⟩
      ·have e : dur.length / 512 = nn := by omega
       rw [e]; exact HRD2.out
      ·have h := HRP2.out
       rw [List.take_length] at h
       rw [dataP_length]; exact h
      ·simp [Value.ownBlock]; omega
      ·simp [Value.ownBlock]; omega
      ·intro b hb hb'
       simp [Value.ownBlock] at hb hb'
       omega
      ·simp [Value.ownBlock] at hb; omega
      ·simp [Value.ownBlock] at hb; omega
end Go.Proofs.Yteacihpankkhkaa
