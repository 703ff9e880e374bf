import Derived.Test.YtdbpaadndaoihaaGreatDoorG12
import Derived.Test.YtdbpaadndaoihaaGreatDoorG23
import Derived.Test.YtdbpaadndaoihaaGreatDoorG01
import Derived.Test.YtdbpaadndaoihaaGreatDoorG20
import Derived.Test.YtdbpaadndaoihaaGreatDoorG00
import Derived.Deep.MidRow
import Derived.Great.BuildSlice
namespace Go.Proofs.YtdbpaadndaoihaaGreatDoor
set_option maxRecDepth 100000
set_option maxHeartbeats 8000000
set_option linter.unusedVariables false
set_option linter.unusedSimpArgs false
open Go.RowKit
def chunkP (bs : List Int) (k : Nat) : List Int := (bs.drop (512 * k)).take 512
def pgOpsK (s : Int) (bs : List Int) (k : Nat) : List (Int × Int × List Int) := (List.range k).map fun (j : Nat) => (1, s + (j : Int), chunkP bs j)
theorem pgOpsK_succ (s : Int) (bs : List Int) (k : Nat) : pgOpsK s bs (k + 1) = pgOpsK s bs k ++ [(1, s + (k : Int), chunkP bs k)] := by
 unfold pgOpsK; rw [List.range_succ, List.map_append]; rfl
theorem chunkP_length (bs : List Int) (k : Nat) (h : bs.length = 4096) (hk : k < 8) : (chunkP bs k).length = 512 := by
 unfold chunkP
 rw [List.length_take, List.length_drop]
 omega
def pgOps (p f l g : Int) (bs : List Int) : List (Int × Int × List Int) := if pgSec p f l g < 0 ∨ bs.length ≠ 4096 then [] else pgOpsK (pgSec p f l g) bs 8
def fitD (p f l : Int) (len : Nat) (ds : List (Int × List Int)) : Prop := geoF p f l = 0 ∧ Valid len ds ∧ ((len / 512 : Nat) : Int) = dskN p f l
theorem dskN_bad {p f l : Int} (h : ¬ geoF p f l = 0) : dskN p f l = -1 := if_neg h
theorem holds_any (p f l : Int) (dv pv : Value) (dur : List Int) (ps : List PW) (w : World) (hv : RdD w dv pv dur ps) :
  Calls Tryz.prog 51 #[.agg #[dv, pv], .agg #[.int .i64 p, .int .i64 f, .int .i64 l]] w fun e w' => Says e (fitD p f l dur.length (dataP ps)) ∧ Same w w' := by
 obtain ⟨a1, c1, rfl⟩ := hv.dur.form
 obtain ⟨a2, c2, rfl⟩ := hv.pend.form
 have hm := hv.dur.1
 have HV := hid hv
 obtain ⟨HK0, HA0, HG0⟩ := new2 w [.slice a1 dur.length c1, .slice a2 ps.length c2] 27 [.int .i64 p, .int .i64 f, .int .i64 l] 24
 obtain ⟨w0, hw0⟩ : ∃ x, (w.alloc (.cells [.slice a1 dur.length c1, .slice a2 ps.length c2].toArray 27)).alloc (.cells [.int .i64 p, .int .i64 f, .int .i64 l].toArray 24) = x := ⟨_, rfl⟩
 rw [hw0] at HK0 HA0 HG0
 have kV := fun wx (hk : Same w0 wx) => implValid_any _ _ dur ps wx (HV.out.same (HK0.out.trans hk))
 have kN := fun wx => countSectors_any a1 dur.length c1 a2 ps.length c2 wx hm
 have kD := fun wx => implDskN_any p f l wx
 clear hv HV
 generalize dur.length = n1 at *
 generalize ps.length = n2 at *
 obtain ⟨e0, e1⟩ := HA0.out.all2
 obtain ⟨e2, e3, e4⟩ := HG0.out.all3
 obtain ⟨B, hB⟩ : ∃ B : Bool, B = true ↔ Valid n1 (dataP ps) := by
  by_cases h : Valid n1 (dataP ps)
  ·exact ⟨true, fun _ => h, fun _ => rfl⟩
  ·exact ⟨false, Iff.intro (fun h2 => Bool.noConfusion h2) (fun h' => absurd h' h)⟩
 have kV : ∀ wx, Same w0 wx → Calls Tryz.prog 41 #[.agg #[.slice a1 n1 c1, .slice a2 n2 c2]] wx fun e w' => e = .returned (.bool B) ∧ Same wx w' := fun wx hk => (kV wx hk).mono (by
  rintro e w' ⟨⟨B', rfl, hB'⟩, hk⟩
  exact ⟨by rw [show B' = B from by cases B <;> cases B' <;> simp_all], hk⟩)
 have HW0 := hid hw0
 obtain ⟨D, hD⟩ : ∃ D, dskN p f l = D := ⟨_, rfl⟩
 rw [hD] at kD
 have hgeo : ((n1 / 512 : Nat) : Int) = D → geoF p f l = 0 := fun h => by
  by_cases hq : geoF p f l = 0
  ·exact hq
  ·rw [dskN_bad hq] at hD; omega
 have HGEO := hid hgeo
 have HD := hid hD
 clear hD hw0 hgeo
 cases B with
 | false =>
  have HBV : Hid (¬ Valid n1 (dataP ps)) := fun h => Bool.noConfusion (hB.2 h)
  clear hB
  go_enter Tryz.func51, Tryz.ntmps51
  go_wp2_with fail
  rw [show (w.alloc (.cells #[.slice a1 n1 c1, .slice a2 n2 c2] 27)).alloc (.cells #[.int .i64 p, .int .i64 f, .int .i64 l] 24) = w0 from HW0.out]
  have HKd : Hid (Same w0 w0.drew) := (Kept.refl _ _).drew
  let Y1 : World → Prop := fun wx : World => wx.cell? ⟨w.heap.size, 0, none⟩ = some (.slice a1 n1 c1) ∧ wx.cell? ⟨w.heap.size, 1, none⟩ = some (.slice a2 n2 c2) ∧ wx.cell? ⟨w.heap.size + 1, 0, none⟩ = some (.int .i64 p) ∧ wx.cell? ⟨w.heap.size + 1, 1, none⟩ = some (.int .i64 f) ∧ wx.cell? ⟨w.heap.size + 1, 2, none⟩ = some (.int .i64 l)
  have hS : Y1 w0.drew := ⟨e0, e1, e2, e3, e4⟩
  refine wp_region_V Y1 99 10 rfl (by kernel_rfl) ?_
  refine tk 0 5 hS ?_
  refine wpAnyV_one (i := 1) (by kernel_rfl) rfl (fun K hK => ?_)
  go_simp
  refine (kV _ HKd.out).mono ?_
  rintro e w1 ⟨rfl, hk⟩
  have HKw1 := hid (HKd.out.trans hk)
  clear hk
  have hS : Y1 w1 := ⟨HKw1.out.cellOf e0 id, HKw1.out.cellOf e1 id, HKw1.out.cellOf e2 id, HKw1.out.cellOf e3 id, HKw1.out.cellOf e4 id⟩
  refine hK.out _ _ (fun _ => hS) ?_
  clear hK K
  try simp only [Act.put, sA, s0, sS]
  refine tk 2 7 hS ?_
  refine tkS 3 8 hS ?_
  refine tkS 4 9 hS ?_
  refine tkS 5 10 hS ?_
  refine tkS 6 11 hS ?_
  refine tkS 7 12 hS ?_
  refine tk 8 13 hS ?_
  refine tk 9 4 hS ?_
  refine wpAnyV_done (by kernel_rfl) ?_
  go_wp2
  go_ret
  exact ⟨says_false (fun h => HBV.out h.2.1), HK0.out.trans HKw1.out⟩
 | true =>
  have HBV : Hid (Valid n1 (dataP ps)) := hB.1 rfl
  clear hB
  go_enter Tryz.func51, Tryz.ntmps51
  go_wp2_with fail
  rw [show (w.alloc (.cells #[.slice a1 n1 c1, .slice a2 n2 c2] 27)).alloc (.cells #[.int .i64 p, .int .i64 f, .int .i64 l] 24) = w0 from HW0.out]
  have HKd : Hid (Same w0 w0.drew) := (Kept.refl _ _).drew
  let Y2 : World → Prop := fun wx : World => wx.cell? ⟨w.heap.size, 0, none⟩ = some (.slice a1 n1 c1) ∧ wx.cell? ⟨w.heap.size, 1, none⟩ = some (.slice a2 n2 c2) ∧ wx.cell? ⟨w.heap.size + 1, 0, none⟩ = some (.int .i64 p) ∧ wx.cell? ⟨w.heap.size + 1, 1, none⟩ = some (.int .i64 f) ∧ wx.cell? ⟨w.heap.size + 1, 2, none⟩ = some (.int .i64 l)
  have hS : Y2 w0.drew := ⟨e0, e1, e2, e3, e4⟩
  refine wp_region_V Y2 99 10 rfl (by kernel_rfl) ?_
  refine tk 0 5 hS ?_
  refine wpAnyV_one (i := 1) (by kernel_rfl) rfl (fun K hK => ?_)
  go_simp
  refine (kV _ HKd.out).mono ?_
  rintro e w1 ⟨rfl, hk⟩
  have HKw1 := hid (HKd.out.trans hk)
  clear hk
  have hS : Y2 w1 := ⟨HKw1.out.cellOf e0 id, HKw1.out.cellOf e1 id, HKw1.out.cellOf e2 id, HKw1.out.cellOf e3 id, HKw1.out.cellOf e4 id⟩
  refine hK.out _ _ (fun _ => hS) ?_
  clear hK K
  try simp only [Act.put, sA, s0, sS]
  refine tk 2 7 hS ?_
  refine tk 3 8 hS ?_
  refine tk 5 10 hS ?_
  refine wpAnyV_one (i := 4) (by kernel_rfl) rfl (fun K hK => ?_)
  go_simp
  refine (kN _).mono ?_
  rintro e w3 ⟨rfl, hww⟩
  have HKw3 := (show Hid (Same w0 w3) from HKw1.out.trans (by rw [hww]; exact (Kept.refl _ _).alloc _))
  clear hww
  have hS : Y2 w3 := ⟨HKw3.out.cellOf e0 id, HKw3.out.cellOf e1 id, HKw3.out.cellOf e2 id, HKw3.out.cellOf e3 id, HKw3.out.cellOf e4 id⟩
  refine hK.out _ _ (fun _ => hS) ?_
  clear hK K
  try simp only [Act.put, sA, s0, sS]
  refine wpAnyV_one (i := 6) (by kernel_rfl) rfl (fun K hK => ?_)
  go_simp
  refine (kD _).mono ?_
  rintro e w4 ⟨rfl, hk⟩
  have HKw4 := hid (HKw3.out.trans hk)
  clear hk
  have hS : Y2 w4 := ⟨HKw4.out.cellOf e0 id, HKw4.out.cellOf e1 id, HKw4.out.cellOf e2 id, HKw4.out.cellOf e3 id, HKw4.out.cellOf e4 id⟩
  refine hK.out _ _ (fun _ => hS) ?_
  clear hK K
  try simp only [Act.put, sA, s0, sS]
  by_cases hd : ((n1 / 512 : Nat) : Int) = D
  ·refine tkV 7 12 (.bool true) hS ?_
   refine tk 8 13 hS ?_
   refine tk 9 4 hS ?_
   refine wpAnyV_done (by kernel_rfl) ?_
   go_wp2
   go_ret
   exact ⟨says_true ⟨HGEO.out hd, HBV.out, by rw [HD.out]; exact hd⟩, HK0.out.trans HKw4.out⟩
  ·refine tkV 7 12 (.bool false) hS ?_
   refine tk 8 13 hS ?_
   refine tk 9 4 hS ?_
   refine wpAnyV_done (by kernel_rfl) ?_
   go_wp2
   go_ret
   exact ⟨says_false (fun h => hd (by rw [← HD.out]; exact h.2.2)), HK0.out.trans HKw4.out⟩
def pgB (F : Int) (dur : List Int) (ds : List (Int × List Int)) : List Int := joinS (fun i => seeD (F + (i : Int)) dur ds) 8
theorem seeD_length {s : Int} {dur : List Int} {ds : List (Int × List Int)} (hV : Valid dur.length ds) (h1 : 0 ≤ s) (h2 : s < (dur.length / 512 : Nat)) : (seeD s dur ds).length = 512 := by
 unfold seeD
 cases hl : lastP s ds with
 | none => simp only [Option.getD_none, List.length_take, List.length_drop]; omega
 | some bs =>
  obtain ⟨p, hp, rfl⟩ := lastP_mem s ds bs hl
  exact (hV.2 p hp).2.2
theorem fit_sec {p f l g : Int} {len : Nat} {ds : List (Int × List Int)} (h : fitD p f l len ds) (h1 : 0 ≤ g) (h2 : g < p) : pgSec p f l g = 2 + l + g * 8 ∧ 2 + l + g * 8 + 8 ≤ ((len / 512 : Nat) : Int) ∧ 0 ≤ 2 + l + g * 8 := by
 have hg := geo_good h.1
 have h3 := h.2.2
 unfold dskN at h3
 rw [if_pos h.1] at h3
 exact ⟨pgSec_yes h.1 h1 h2, by omega, by omega⟩
theorem pgB_length {p f l g : Int} {dur : List Int} {ds : List (Int × List Int)} (h : fitD p f l dur.length ds) (h1 : 0 ≤ g) (h2 : g < p) : (pgB (2 + l + g * 8) dur ds).length = 4096 := by
 obtain ⟨_, h3, h4⟩ := fit_sec h h1 h2
 exact joinS_length _ 8 (fun i hi => seeD_length h.2.1 (by omega) (by omega))
def rdPgDec (p f l g : Int) (len : Nat) (ds : List (Int × List Int)) : Decidable (fitD p f l len ds ∧ 0 ≤ g ∧ g < p) := by unfold fitD Valid validHead validP; infer_instance
def rdPg (p f l g : Int) (dur : List Int) (ds : List (Int × List Int)) : List Int := @ite _ (fitD p f l dur.length ds ∧ 0 ≤ g ∧ g < p) (rdPgDec p f l g dur.length ds) (pgB (2 + l + g * 8) dur ds) []
theorem rdPg_yes {p f l g : Int} {dur : List Int} {ds : List (Int × List Int)} (h : fitD p f l dur.length ds) (h1 : 0 ≤ g) (h2 : g < p) : rdPg p f l g dur ds = pgB (2 + l + g * 8) dur ds := if_pos ⟨h, h1, h2⟩
theorem rdPg_no {p f l g : Int} {dur : List Int} {ds : List (Int × List Int)} (h : ¬ (fitD p f l dur.length ds ∧ 0 ≤ g ∧ g < p)) : rdPg p f l g dur ds = [] := if_neg h
def penCells : List (Int × List Int) → List Value
 | [] => []
 | p :: ds => .int .i64 p.1 :: (vals .u8 p.2 ++ penCells ds)
theorem penCells_append (ds es : List (Int × List Int)) : penCells (ds ++ es) = penCells ds ++ penCells es := by
 induction ds with
 | nil => rfl
 | cons p ds ih => simp [penCells, ih]
theorem penCells_length (ds : List (Int × List Int)) (h : ∀ p ∈ ds, p.2.length = 512) : (penCells ds).length = ds.length * 513 := by
 induction ds with
 | nil => rfl
 | cons p ds ih =>
  have h1 := ih (fun q hq => h q (List.mem_cons_of_mem _ hq))
  have h2 := h p (List.mem_cons_self ..)
  simp only [penCells, List.length_cons, List.length_append, vals_length, h1, h2]
  omega
theorem penCells_at (ds : List (Int × List Int)) (h : ∀ p ∈ ds, p.2.length = 512) (k : Nat) (hk : k < ds.length) : (penCells ds).drop (k * 513) = .int .i64 ds[k].1 :: (vals .u8 ds[k].2 ++ penCells (ds.drop (k + 1))) := by
 have e : penCells ds = penCells (ds.take k) ++ penCells (ds.drop k) := by rw [← penCells_append, List.take_append_drop]
 have hl : (penCells (ds.take k)).length = k * 513 := by
  rw [penCells_length _ (fun p hp => h p (List.mem_of_mem_take hp)), List.length_take, Nat.min_eq_left (by omega)]
 rw [e, ← hl, List.drop_left, List.drop_eq_getElem_cons hk]
 rfl
theorem owns_setCellsP {base : Nat} {e : TypeId} {size g n cap : Nat} : ∀ (vs : List Value) (o : Nat) (w : World) (xs : List Value), w.ownsRow base e size (.slice (some ⟨g, 0, none⟩) n cap) n xs → o + vs.length ≤ xs.length →
  (w.setCells g o vs).ownsRow base e size (.slice (some ⟨g, 0, none⟩) n cap) n (lay xs o vs) ∧ w.grownBy (w.setCells g o vs) (some g)
 | [], o, w, xs, h, _ => by
  refine ⟨?_, ⟨rfl, rfl, rfl, Nat.le_refl _, fun _ _ _ => rfl⟩⟩
  have e : lay xs o [] = xs := by simp [lay]
  rw [e]
  exact h
 | v :: vs, o, w, xs, h, hl => by
  obtain ⟨h1, h2⟩ := World.ownsRow.stored h o v
  simp only [List.length_cons] at hl
  obtain ⟨h3, h4⟩ := owns_setCellsP vs (o + 1) _ _ h1 (by rw [List.length_set]; omega)
  rw [lay_cons _ _ _ _ hl] at h3
  refine ⟨h3, ⟨h4.os.trans h2.os, h4.tape.trans h2.tape, h4.output.trans h2.output, Nat.le_trans h2.size h4.size, fun k hk hn => ?_⟩⟩
  exact (h4.block k (Nat.lt_of_lt_of_le hk h2.size) hn).trans (h2.block k hk hn)
theorem owns_there {base : Nat} {e : TypeId} {size g n cap : Nat} {w : World} {xs : List Value} (h : w.ownsRow base e size (.slice (some ⟨g, 0, none⟩) n cap) n xs) (o m : Nat) (hm : o + m ≤ xs.length) : w.there g o m := fun j hj => by
 have hl := h.1
 refine ⟨?_, World.ownsRow.frozenAt h _⟩
 rw [World.ownsRow.cellAt h (o + j) (by omega)]
 simp
 omega
theorem owns_range {base : Nat} {e : TypeId} {size g n cap : Nat} {w : World} {xs : List Value} (h : w.ownsRow base e size (.slice (some ⟨g, 0, none⟩) n cap) n xs) (o m : Nat) (hm : o + m ≤ xs.length) : w.rangeAt g o ((xs.drop o).take m) := fun j v hv => by
 have hl := h.1
 have hj : j < m := by have := (List.getElem?_eq_some_iff.1 hv).1; simp at this; omega
 rw [World.ownsRow.cellAt h (o + j) (by omega), ← hv]
 simp [hj]
theorem lay_fill (dur : List Int) (a : Nat) (h : a + 512 ≤ dur.length) : lay (vals .u8 (fillUp dur a)) a (vals .u8 ((dur.drop a).take 512)) = vals .u8 (fillUp dur (a + 512)) := by
 have hl : ((dur.drop a).take 512).length = 512 := by rw [List.length_take, List.length_drop]; omega
 have e1 : (fillUp dur a).take a = dur.take a := by
  unfold fillUp
  rw [List.take_append, List.take_take, Nat.min_self, List.length_take, Nat.min_eq_left (by omega), Nat.sub_self, List.take_zero, List.append_nil]
 have e2 : (fillUp dur a).drop (a + 512) = List.replicate (dur.length - (a + 512)) 0 := by
  unfold fillUp
  have e3 : (dur.take a).drop (a + 512) = [] := List.drop_eq_nil_of_le (by rw [List.length_take]; omega)
  rw [List.drop_append, e3, List.nil_append, List.length_take, Nat.min_eq_left (by omega), List.drop_replicate, show dur.length - a - (a + 512 - a) = dur.length - (a + 512) from by omega]
 have e4 : dur.take (a + 512) = dur.take a ++ (dur.drop a).take 512 := List.take_add
 unfold lay vals
 rw [← List.map_take, List.length_map, hl, ← List.map_drop, e1, e2, ← List.map_append, ← List.map_append]
 unfold fillUp
 rw [e4, List.append_assoc]
section
variable {P : Program} {ops : Array Oper} {S : World → Prop} {o : Oper} {a : Act} {w : World} {K : Act → World → Prop} {Q : Exit → Act → World → Prop} {E : Prop}
theorem step_make (hgd : o.guard = none) (x y : Operand) (t : TypeId) (hop : o.op = Op.makeSlice t x y) (base : Nat) (e : TypeId) (i : TypeInfo) (z : Value) (size : Nat) (h1 : P.underlying t = some (.slice e)) (h2 : P.info? e = some i) (h3 : i.zero = some z) (h4 : i.size = size)
  (kl kc : IntKind) (L C : Int) (l c : Nat) (hl : a.eval x = .int kl L) (hc : a.eval y = .int kc C) (hL : L = l) (hC : C = c) (hlc : l ≤ c) (b2 : i.bytes * c ≤ 281474976710656) (b3 : c ≤ maxLen) (hb : base ≤ w.heap.size)
  (h : ∀ w', w'.ownsRow base e size (.slice (some ⟨w.heap.size, 0, none⟩) l c) l ((madeCells z.cells (c * size)).toList.take (l * size)) → w.grownBy w' none → w.heap.size < w'.heap.size → K (a.put o.dst (.slice (some ⟨w.heap.size, 0, none⟩) l c)) w') :
  if Region.wanted o (yielded ops a.tmps) = true then Oper.wp P o a w K Q else E := by
 have hw : Region.wanted o (yielded ops a.tmps) = true := by simp [Region.wanted, hgd]
 rw [if_pos hw]
 subst hL hC h4
 have hb' : (i.bytes : Int) * (c : Int) ≤ 281474976710656 := by
  have : ((i.bytes * c : Nat) : Int) ≤ 281474976710656 := by omega
  rwa [Int.natCast_mul] at this
 have hrun := run_make (P := P) w t e i z h1 h2 h3 kl kc l c (by omega) (by omega) hb' (by unfold maxLen at b3; omega)
 simp only [Int.toNat_natCast] at hrun
 unfold Oper.wp
 simp [execOp, hop, hl, hc, hrun, Result.andThen]
 refine h _ ⟨?_, .inr ⟨w.heap.size, c, _, rfl, hb, heap_alloc_new w _, hlc, b3, size_madeCells _ _, rfl⟩⟩ (World.grownBy_alloc w _ none) (by simp)
 rw [List.length_take, Array.length_toList, size_madeCells]
 exact Nat.min_eq_left (Nat.mul_le_mul_right _ hlc)
end
theorem run_arrayAt (w : World) (ad : Option Addr) (n c : Nat) (hn : ¬ n < 512) : (Instr.arrayAt 113 (.slice ad n c)).run Tryz.prog w = .ok (.pointer ad) w := by
 simp [Instr.arrayAt, run_underlying Tryz.underlying113, hn]
def zeros93 : Array Value := (Value.int .i64 0 :: List.replicate 512 (Value.int .u8 0)).toArray
theorem Tryz.built93 (parts : List (Nat × Value)) : Tryz.prog.built 134 parts = Instr.fill (fun i => (#[(0, 1), (1, 512)] : Array (Nat × Nat))[i]?) zeros93 parts := by kernel_rfl
theorem Tryz.info93 : (Tryz.prog.info? 134).map (fun i => (i.zero, i.size, i.bytes)) = some (some (.agg zeros93), 513, 520) := by kernel_rfl
theorem Tryz.info91 : (Tryz.prog.info? 113).map (fun i => (i.zero, i.size, i.bytes)) = some (some (.agg (List.replicate 512 (Value.int .u8 0)).toArray), 512, 512) := by kernel_rfl
theorem fill93 (sec : Int) (cs : List Value) (hl : cs.length = 512) :
  Instr.fill (fun i => (#[(0, 1), (1, 512)] : Array (Nat × Nat))[i]?) zeros93 [(0, .int .i64 sec), (1, .agg cs.toArray)] = some (Value.int .i64 sec :: cs).toArray := by
 have hz : zeros93.size = 513 := by kernel_rfl
 generalize zeros93 = Z at hz ⊢
 obtain ⟨s1, g1⟩ := Great.foldl_set 0 [Value.int .i64 sec] 0 Z
 obtain ⟨s2, g2⟩ := Great.foldl_set 1 cs 0 (([Value.int .i64 sec].zipIdx 0).foldl (fun cs (x : Value × Nat) => cs.setIfInBounds (0 + x.2) x.1) Z)
 have step1 : Instr.fill (fun i => (#[(0, 1), (1, 512)] : Array (Nat × Nat))[i]?) Z [(0, .int .i64 sec), (1, .agg cs.toArray)] =
   Instr.fill (fun i => (#[(0, 1), (1, 512)] : Array (Nat × Nat))[i]?) (([Value.int .i64 sec].zipIdx 0).foldl (fun cs (x : Value × Nat) => cs.setIfInBounds (0 + x.2) x.1) Z) [(1, .agg cs.toArray)] := by
  simp [Instr.fill, Value.cells, hz]
 have step2 : Instr.fill (fun i => (#[(0, 1), (1, 512)] : Array (Nat × Nat))[i]?) (([Value.int .i64 sec].zipIdx 0).foldl (fun cs (x : Value × Nat) => cs.setIfInBounds (0 + x.2) x.1) Z) [(1, .agg cs.toArray)] =
   some ((cs.zipIdx 0).foldl (fun cs (x : Value × Nat) => cs.setIfInBounds (1 + x.2) x.1) (([Value.int .i64 sec].zipIdx 0).foldl (fun cs (x : Value × Nat) => cs.setIfInBounds (0 + x.2) x.1) Z)) := by
  simp [Instr.fill, Value.cells, hl, hz]
 rw [step1, step2]
 refine congrArg some (Array.ext_getElem? fun k => ?_)
 rw [g2 k, s1, hz, g1 k, hz]
 simp only [List.getElem?_toArray, Nat.add_zero, List.length_singleton, Nat.zero_add]
 cases k with
 | zero => rw [if_neg (by omega), if_pos (by omega)]; rfl
 | succ k =>
  rw [List.getElem?_cons_succ]
  by_cases h : k < 512
  ·rw [if_pos (by omega)]
   rfl
  ·rw [if_neg (by omega), if_neg (by omega), Array.getElem?_eq_none (by omega), List.getElem?_eq_none (by omega)]
section
variable {P : Program} {ops : Array Oper} {S : World → Prop} {o : Oper} {a : Act} {w : World} {K : Act → World → Prop} {Q : Exit → Act → World → Prop} {E : Prop}
theorem yields_build93 (hgd : o.guard = none) (x y : Operand) (hop : o.op = Op.build 134 #[(0, x), (1, y)]) (sec : Int) (cs : List Value) (hx : a.eval x = .int .i64 sec) (hy : a.eval y = .agg cs.toArray) (hl : cs.length = 512) :
  YieldsIf Tryz.prog ops S o (.agg (Value.int .i64 sec :: cs).toArray) a := by
 have hw : Region.wanted o (yielded ops a.tmps) = true := by simp [Region.wanted, hgd]
 have hb : Tryz.prog.built 134 (#[(0, Value.int .i64 sec), (1, Value.agg cs.toArray)] : Array (Nat × Value)).toList = some (Value.int .i64 sec :: cs).toArray := by
  rw [Tryz.built93]
  exact fill93 sec cs hl
 refine .inl ⟨hw, fun w _ => ?_⟩
 have hrun := run_build (P := Tryz.prog) w _ #[(0, Value.int .i64 sec), (1, Value.agg cs.toArray)] _ hb
 unfold execOp
 simp only [hop]
 have e : (#[(0, x), (1, y)] : Array (Nat × Operand)).map (fun (i, x) => (i, a.eval x)) = #[(0, Value.int .i64 sec), (1, Value.agg cs.toArray)] := by simp [hx, hy]
 rw [e]
 simp only [Sem.run_bind, hrun, Result.andThen_ok]
 rfl
theorem step_row93 (hgd : o.guard = none) (x : Operand) (hop : o.op = Op.buildSlice 130 1 #[(0, x)]) (cs : List Value) (hx : a.eval x = .agg cs.toArray) (hl : cs.length = 513) (N : Nat) (hN : w.heap.size = N)
  (h : K (a.put o.dst (.slice (some ⟨N, 0, none⟩) 1 1)) (w.alloc (.cells cs.toArray 134))) :
  if Region.wanted o (yielded ops a.tmps) = true then Oper.wp Tryz.prog o a w K Q else E := by
 have hw : Region.wanted o (yielded ops a.tmps) = true := by simp [Region.wanted, hgd]
 rw [if_pos hw]
 subst hN
 obtain ⟨i0, hi, hz0, hz1, hz2⟩ := info_parts Tryz.info93
 refine wp_buildSlice 130 134 1 _ hop cs.toArray i0 _ Tryz.underlying130 hi hz0 (by rw [hz1]; omega) (by rw [hz1]; omega) ?_ h
 rw [hz1]
 have hf := Great.fill_whole (s := 513) (by omega) [Value.agg cs.toArray] ((Array.range (1 * 513)).map ((Value.agg zeros93).cells[· % (Value.agg zeros93).cells.size]!)) (by simp [Value.cells, hl]) (by simp)
 simpa [hx, Value.cells] using hf
end
end Go.Proofs.YtdbpaadndaoihaaGreatDoor
