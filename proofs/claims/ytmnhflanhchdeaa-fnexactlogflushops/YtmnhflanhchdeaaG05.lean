import Derived.Test.YtmnhflanhchdeaaG00
import Derived.Test.YtmnhflanhchdeaaG03
import Derived.Test.YtmnhflanhchdeaaG02
import Derived.Deep.MidRow
import Derived.Deep.WholeRow
import Derived.Deep.RegionWith
import Derived.Deep.DeepMust
import Derived.Deep.DeepCutAuto
import Derived.Deep.AppendLies
namespace Go.Proofs.Ytmnhflanhchdeaa
set_option linter.unusedVariables false
set_option linter.unusedSimpArgs false
set_option maxRecDepth 100000
set_option maxHeartbeats 4000000
open Go Go.RowKit
structure RowK (E : Type) where
 m : Nat
 cells : E → List Value
 len : ∀ p, (cells p).length = m
 v : E → Value
 bs : E → List Int
variable {E : Type}
def RowK.all (K : RowK E) : List E → List Value
 | [] => []
 | p :: ps => K.cells p ++ K.all ps
theorem RowK.all_length (K : RowK E) (ps : List E) : (K.all ps).length = ps.length * K.m := by
 induction ps with
 | nil => simp [RowK.all]
 | cons p ps ih => rw [RowK.all, List.length_append, K.len, ih, List.length_cons, Nat.add_mul, Nat.one_mul, Nat.add_comm]
theorem RowK.all_append (K : RowK E) (ps qs : List E) : K.all (ps ++ qs) = K.all ps ++ K.all qs := by
 induction ps with
 | nil => rfl
 | cons p ps ih => simp only [List.cons_append, RowK.all, ih, List.append_assoc]
theorem RowK.all_at (K : RowK E) (ps : List E) (j i : Nat) (h : j < ps.length) (hi : i < K.m) : (K.all ps)[j * K.m + i]? = (K.cells ps[j])[i]? := by
 induction ps generalizing j with
 | nil => simp at h
 | cons p ps ih =>
  cases j with
  | zero => rw [Nat.zero_mul, Nat.zero_add, RowK.all, List.getElem?_append_left (by rw [K.len]; exact hi)]; rfl
  | succ j =>
   rw [RowK.all, List.getElem?_append_right (by rw [K.len, Nat.add_mul]; omega), K.len, show (j + 1) * K.m + i - K.m = j * K.m + i from by rw [Nat.add_mul]; omega]
   exact ih j (by simpa using h)
structure OwnR (K : RowK E) (base : Nat) (tw tb : TypeId) (w : World) (v : Value) (ps : List E) : Prop where
 row : w.ownsRow base tw K.m v ps.length (K.all ps)
 data : ∀ p ∈ ps, Own base tb .u8 w (K.v p) (K.bs p)
 out : ∀ u ∈ ps.map K.v, Apart v u
 each : (ps.map K.v).Pairwise Apart
def footR (K : RowK E) (v : Value) (ps : List E) (b : Nat) : Prop := v.ownBlock = some b ∨ ∃ p ∈ ps, (K.v p).ownBlock = some b
section
variable {K : RowK E} {base : Nat} {tw tb : TypeId} {w w' : World} {v : Value} {ps qs : List E}
theorem OwnR.form (h : OwnR K base tw tb w v ps) :
  (v = .slice none 0 0 ∧ ps = []) ∨ ∃ g cap, v = .slice (some ⟨g, 0, none⟩) ps.length cap ∧ base ≤ g ∧ g < w.heap.size ∧ ps.length ≤ cap ∧ cap ≤ maxLen := by
 rcases h.row.2 with ⟨rfl, hn⟩ | ⟨g, cap, cur, rfl, hb, hgg, hc, hm, _⟩
 ·exact .inl ⟨rfl, List.length_eq_zero_iff.1 hn⟩
 ·exact .inr ⟨g, cap, rfl, hb, (Array.getElem?_eq_some_iff.1 hgg).1, hc, hm⟩
theorem OwnR.lt (h : OwnR K base tw tb w v ps) (b : Nat) (hb : footR K v ps b) : base ≤ b ∧ b < w.heap.size := by
 rcases hb with hb | ⟨p, hp, hb⟩
 ·exact World.ownsRow.lt h.row b hb
 ·exact (h.data p hp).lt b hb
theorem OwnR.cell {g n cap : Nat} (h : OwnR K base tw tb w (.slice (some ⟨g, 0, none⟩) n cap) ps) (hn : n = ps.length) (j i : Nat) (hj : j < ps.length) (hi : i < K.m) :
  w.cell? ⟨g, j * K.m + i, none⟩ = (K.cells ps[j])[i]? := by
 subst hn
 rw [World.ownsRow.cellAt h.row (j * K.m + i) (by have := Nat.mul_le_mul_right K.m (Nat.succ_le_of_lt hj); rw [Nat.succ_mul] at this; omega), K.all_at ps j i hj hi]
theorem OwnR.frozen {g n cap : Nat} (h : OwnR K base tw tb w (.slice (some ⟨g, 0, none⟩) n cap) ps) (hn : n = ps.length) (j : Nat) : w.frozen? ⟨g, j, none⟩ = false := by
 subst hn
 exact World.ownsRow.frozenAt h.row j
theorem OwnR.kept {R : Nat → Prop} (h : OwnR K base tw tb w v ps) (hk : Kept R w w') (hr : ∀ b, footR K v ps b → ¬ R b) : OwnR K base tw tb w' v ps :=
 ⟨hk.owns h.row (fun b hb => hr b (.inl hb)), fun p hp => (h.data p hp).kept hk (fun b hb => hr b (.inr ⟨p, hp, hb⟩)), h.out, h.each⟩
theorem OwnR.same (h : OwnR K base tw tb w v ps) (hk : Same w w') : OwnR K base tw tb w' v ps := h.kept hk (fun _ _ => id)
theorem OwnR.nil (K : RowK E) (base : Nat) (tw tb : TypeId) (w : World) : OwnR K base tw tb w (.slice none 0 0) [] :=
 ⟨World.ownsRow_nil _ _ _ _, fun _ h => by simp at h, fun _ h => by simp at h, List.Pairwise.nil⟩
theorem OwnR.set {g n cap : Nat} {pre post : List E} {p p' : E} (h : OwnR K base tw tb w (.slice (some ⟨g, 0, none⟩) n cap) (pre ++ p :: post)) (hn : n = (pre ++ p :: post).length) (i : Nat) (u : Value) (hi : i < K.m)
  (hc : K.cells p' = (K.cells p).set i u) (hv : K.v p' = K.v p) (hb : K.bs p' = K.bs p) (j : Nat) (hj : j = pre.length * K.m + i) :
  OwnR K base tw tb (w.setCell ⟨g, j, none⟩ u) (.slice (some ⟨g, 0, none⟩) n cap) (pre ++ p' :: post) := by
 subst hn hj
 have hk : Kept (fun b => b = g) w (w.setCell ⟨g, pre.length * K.m + i, none⟩ u) := Kept.setCell (Kept.refl (fun b => b = g) w) (p := ⟨g, pre.length * K.m + i, none⟩) (.inr rfl) _
 have hmap : (pre ++ p' :: post).map K.v = (pre ++ p :: post).map K.v := by simp [hv]
 refine ⟨?_, fun q hq => ?_, by rw [hmap]; exact h.out, by rw [hmap]; exact h.each⟩
 ·have hs := (World.ownsRow.stored h.row (pre.length * K.m + i) u).1
  have e : K.all (pre ++ p' :: post) = (K.all (pre ++ p :: post)).set (pre.length * K.m + i) u := by
   rw [K.all_append, K.all_append, List.set_append_right (h := by rw [K.all_length]; omega), K.all_length, Nat.add_sub_cancel_left, RowK.all, RowK.all, List.set_append_left (h := by rw [K.len]; exact hi), hc]
  rw [e]
  simpa using hs
 ·have hq' : ∃ q' ∈ pre ++ p :: post, K.v q' = K.v q ∧ K.bs q' = K.bs q := by
   rcases List.mem_append.1 hq with hq | hq
   ·exact ⟨q, by simp [hq], rfl, rfl⟩
   ·rcases List.mem_cons.1 hq with rfl | hq
    ·exact ⟨p, by simp, hv.symm, hb.symm⟩
    ·exact ⟨q, by simp [hq], rfl, rfl⟩
  obtain ⟨q', hm, e1, e2⟩ := hq'
  have hd := h.data q' hm
  rw [e1, e2] at hd
  refine hd.kept hk (fun b hb e => ?_)
  subst e
  exact h.out (K.v q) (by rw [← e1]; exact List.mem_map_of_mem hm) b rfl hb
theorem OwnR.setData {pre post : List E} {p p' : E} (h : OwnR K base tw tb w v (pre ++ p :: post)) (hk : Kept (fun b => (K.v p).ownBlock = some b) w w') (hc : K.cells p' = K.cells p) (hv : K.v p' = K.v p) (ho : Own base tb .u8 w' (K.v p) (K.bs p')) :
  OwnR K base tw tb w' v (pre ++ p' :: post) := by
 have hmap : (pre ++ p' :: post).map K.v = (pre ++ p :: post).map K.v := by simp [hv]
 have hcells : K.all (pre ++ p' :: post) = K.all (pre ++ p :: post) := by rw [K.all_append, K.all_append, RowK.all, RowK.all, hc]
 have hlen : (pre ++ p' :: post).length = (pre ++ p :: post).length := by simp
 have hea := h.each
 rw [List.map_append, List.map_cons] at hea
 obtain ⟨_, h2, h3⟩ := List.pairwise_append.1 hea
 have h4 := List.pairwise_cons.1 h2
 refine ⟨?_, fun q hq => ?_, by rw [hmap]; exact h.out, by rw [hmap]; exact h.each⟩
 ·rw [hcells, hlen]
  exact hk.owns h.row (fun b hb e => h.out (K.v p) (by simp) b hb e)
 ·rcases List.mem_append.1 hq with hq | hq
  ·exact (h.data q (by simp [hq])).kept hk (fun b hb e => h3 (K.v q) (List.mem_map_of_mem hq) (K.v p) (by simp) b hb e)
  ·rcases List.mem_cons.1 hq with rfl | hq
   ·rw [hv]; exact ho
   ·exact (h.data q (by simp [hq])).kept hk (fun b hb e => h4.1 (K.v q) (List.mem_map_of_mem hq) b e hb)
end
structure MarkK (K : RowK E) where
 on : Int → E → E
 sz : E → Nat
 v : ∀ k p, K.v (on k p) = K.v p
def markR {K : RowK E} (M : MarkK K) : Int → List E → List E
 | _, [] => []
 | k, p :: ps => M.on k p :: markR M (k + M.sz p) ps
def endR {K : RowK E} (M : MarkK K) : Int → List E → Int
 | k, [] => k
 | k, p :: ps => endR M (k + M.sz p) ps
section
variable {K : RowK E} (M : MarkK K)
theorem markR_length (k : Int) (ps : List E) : (markR M k ps).length = ps.length := by
 induction ps generalizing k with
 | nil => rfl
 | cons p ps ih => simp [markR, ih]
theorem endR_le (k : Int) (ps : List E) : k ≤ endR M k ps := by
 induction ps generalizing k with
 | nil => exact Int.le_refl _
 | cons p ps ih => have := ih (k + M.sz p); simp only [endR]; omega
theorem endR_snoc (k : Int) (ps : List E) (p : E) : endR M k (ps ++ [p]) = endR M k ps + M.sz p := by
 induction ps generalizing k with
 | nil => rfl
 | cons q ps ih => simp only [List.cons_append, endR, ih]
theorem endR_append (k : Int) (ps qs : List E) : endR M k (ps ++ qs) = endR M (endR M k ps) qs := by
 induction ps generalizing k with
 | nil => rfl
 | cons q ps ih => simp only [List.cons_append, endR, ih]
theorem markR_snoc (k : Int) (ps : List E) (p : E) : markR M k (ps ++ [p]) = markR M k ps ++ [M.on (endR M k ps) p] := by
 induction ps generalizing k with
 | nil => rfl
 | cons q ps ih => simp only [List.cons_append, markR, endR, ih]
theorem markR_at (k : Int) (ps : List E) (j : Nat) (h : j < ps.length) (h' : j < (markR M k ps).length) : (markR M k ps)[j] = M.on (endR M k (ps.take j)) ps[j] := by
 induction ps generalizing k j with
 | nil => simp at h
 | cons q ps ih =>
  cases j with
  | zero => rfl
  | succ j => simp only [markR, List.getElem_cons_succ, List.take_succ_cons, endR]; exact ih _ _ (by simpa using h) _
def partR (k : Int) (ps : List E) (j : Nat) : List E := markR M k (ps.take j) ++ ps.drop j
theorem partR_length (k : Int) (ps : List E) (j : Nat) : (partR M k ps j).length = ps.length := by simp [partR, markR_length]; omega
theorem partR_zero (k : Int) (ps : List E) : partR M k ps 0 = ps := by simp [partR, markR]
theorem partR_all (k : Int) (ps : List E) : partR M k ps ps.length = markR M k ps := by simp [partR]
theorem partR_at (k : Int) (ps : List E) (j : Nat) (h : j < ps.length) : partR M k ps j = markR M k (ps.take j) ++ ps[j] :: ps.drop (j + 1) := by
 unfold partR
 rw [List.drop_eq_getElem_cons h]
theorem partR_step (k : Int) (ps : List E) (j : Nat) (h : j < ps.length) : partR M k ps (j + 1) = markR M k (ps.take j) ++ M.on (endR M k (ps.take j)) ps[j] :: ps.drop (j + 1) := by
 unfold partR
 rw [List.take_succ_eq_append_getElem h, markR_snoc, List.append_assoc]
 rfl
theorem endR_step (k : Int) (ps : List E) (j : Nat) (h : j < ps.length) : endR M k (ps.take (j + 1)) = endR M k (ps.take j) + M.sz ps[j] := by
 rw [List.take_succ_eq_append_getElem h, endR_snoc]
theorem endR_take_le (k : Int) (ps : List E) (j : Nat) : endR M k (ps.take j) ≤ endR M k ps := by
 have h := endR_append M k (ps.take j) (ps.drop j)
 rw [List.take_append_drop] at h
 rw [h]
 exact endR_le M _ _
end
structure RdR (K : RowK E) (w : World) (v : Value) (ps : List E) : Prop where
 max : ps.length ≤ maxLen
 row : (ps = [] ∧ ∃ a c, v = .slice a 0 c) ∨ ∃ b off c, v = .slice (some ⟨b, off, none⟩) ps.length c ∧ ∀ j i, (h : j < ps.length) → i < K.m → w.cell? ⟨b, off + (j * K.m + i), none⟩ = (K.cells ps[j])[i]?
 data : ∀ p ∈ ps, Rd .u8 w (K.v p) (K.bs p)
section
variable {K : RowK E} {w w' : World} {v : Value} {ps : List E}
theorem RdR.kept {R : Nat → Prop} (h : RdR K w v ps) (hk : Kept R w w') (hr : ∀ b, footR K v ps b → ¬ R b) : RdR K w' v ps := by
 refine ⟨h.max, ?_, fun p hp => (h.data p hp).kept hk (fun b hb => hr b (.inr ⟨p, hp, hb⟩))⟩
 rcases h.row with h | ⟨b, off, c, rfl, hc⟩
 ·exact .inl h
 ·refine .inr ⟨b, off, c, rfl, fun j i hj hi => ?_⟩
  have hl := K.len ps[j]
  rw [List.getElem?_eq_getElem (by omega)]
  exact hk.cellOf (by rw [hc j i hj hi, List.getElem?_eq_getElem (by omega)]) (hr b (.inl rfl))
theorem RdR.same (h : RdR K w v ps) (hk : Same w w') : RdR K w' v ps := h.kept hk (fun _ _ => id)
theorem RdR.form (h : RdR K w v ps) : ∃ a c, v = .slice a ps.length c := by
 rcases h.row with ⟨rfl, a, c, rfl⟩ | ⟨b, off, c, rfl, _⟩ <;> exact ⟨_, _, rfl⟩
theorem OwnR.rd {base : Nat} {tw tb : TypeId} (h : OwnR K base tw tb w v ps) : RdR K w v ps := by
 refine ⟨?_, ?_, fun p hp => (h.data p hp).rd⟩
 ·rcases h.form with ⟨rfl, rfl⟩ | ⟨g, cap, rfl, _, _, hc, hm⟩
  ·simp
  ·exact Nat.le_trans hc hm
 ·rcases h.form with ⟨rfl, rfl⟩ | ⟨g, cap, rfl, _, _, hc, hm⟩
  ·exact .inl ⟨rfl, _, _, rfl⟩
  ·exact .inr ⟨g, 0, cap, rfl, fun j i hj hi => by rw [Nat.zero_add]; exact h.cell rfl j i hj hi⟩
end
theorem addr_add (B o j : Nat) : (⟨B, o, none⟩ : Addr).add j = ⟨B, o + j, none⟩ := by unfold Addr.add; split <;> simp_all
theorem Blk.loads {P : Program} {w : World} {B : Nat} {e : TypeId} {xs : List Value} (h : Blk w B e xs) (o n : Nat) (hn : o + n ≤ xs.length) : (loadCellsFrom ⟨B, o, none⟩ 0 n #[]).run P w = .ok ((xs.drop o).take n).toArray w := by
 have hl : ((xs.drop o).take n).length = n := by simp; omega
 have := run_loadCells_list (P := P) w ⟨B, o, none⟩ ((xs.drop o).take n) (fun j v hv => by
  rw [addr_add, h.cell]
  have hj : j < n := by have := (List.getElem?_eq_some_iff.1 hv).1; omega
  rw [List.getElem?_take_of_lt hj, List.getElem?_drop] at hv
  exact hv)
 simpa [loadCells, hl] using this
theorem Blk.setCells {B : Nat} {e : TypeId} : ∀ (vs : List Value) (o : Nat) {w : World} {xs : List Value}, Blk w B e xs → o + vs.length ≤ xs.length → Blk (w.setCells B o vs) B e (lay xs o vs)
 | [], o, w, xs, h, _ => by rw [lay_nil]; exact h
 | v :: vs, o, w, xs, h, hl => by
  simp only [List.length_cons] at hl
  have := Blk.setCells vs (o + 1) (h.stored o v) (by rw [List.length_set]; omega)
  rw [lay_cons _ _ _ _ hl] at this
  exact this
theorem Kept.setCells {R : Nat → Prop} {a : World} {B : Nat} (hB : a.heap.size ≤ B ∨ R B) : ∀ (vs : List Value) (o : Nat) {b : World}, Kept R a b → Kept R a (b.setCells B o vs)
 | [], _, _, h => h
 | v :: vs, o, b, h => Kept.setCells hB vs (o + 1) (h.setCell (p := ⟨B, o, none⟩) hB v)
theorem Blk.range {w : World} {B : Nat} {e : TypeId} {xs : List Value} (h : Blk w B e xs) (o : Nat) (cs : List Value) (hc : ∀ j v, cs[j]? = some v → xs[o + j]? = some v) : w.rangeAt B o cs := fun j v hv => by
 rw [h.cell]
 exact hc j v hv
theorem Blk.there {w : World} {B : Nat} {e : TypeId} {xs : List Value} (h : Blk w B e xs) (o n : Nat) (hn : o + n ≤ xs.length) : w.there B o n := fun j hj => ⟨by rw [h.cell, List.getElem?_eq_getElem (by omega)]; rfl, h.frozen _⟩
variable {E : Type}
section
variable {K : RowK E} {base : Nat} {tw tb : TypeId} {w w' : World}
theorem OwnR.cellMid {g n cap : Nat} {pre post : List E} {p : E} (h : OwnR K base tw tb w (.slice (some ⟨g, 0, none⟩) n cap) (pre ++ p :: post)) (hn : n = (pre ++ p :: post).length) (i : Nat) (hi : i < K.m) (j : Nat) (hj : j = pre.length * K.m + i) :
  w.cell? ⟨g, j, none⟩ = (K.cells p)[i]? := by
 subst hj
 rw [h.cell hn pre.length i (by simp) hi]
 simp
end
structure EOp where
 kind : Int
 sec : Int
 v : Value
 bs : List Int
def kOp : RowK EOp := ⟨3, fun p => [.int .i64 p.kind, .int .i64 p.sec, p.v], fun _ => rfl, EOp.v, EOp.bs⟩
def EOp.dat (p : EOp) : Int × Int × List Int := (p.kind, p.sec, p.bs)
def datOpS (ps : List EOp) : List (Int × Int × List Int) := ps.map EOp.dat
theorem datOpS_length (ps : List EOp) : (datOpS ps).length = ps.length := by simp [datOpS]
theorem datOpS_at {ps qs : List EOp} (h : datOpS ps = datOpS qs) (k : Nat) (h1 : k < ps.length) (h2 : k < qs.length) : ps[k].dat = qs[k].dat := by
 have := congrArg (fun l => l[k]?) h
 simpa [datOpS, h1, h2] using this
theorem Try.infoROp : (Try.prog.info? 46).map (fun i => (i.zero, i.size, i.bytes)) = some (some (.agg #[.int .i64 0, .int .i64 0, .slice none 0 0]), 3, 40) := by kernel_rfl
def sizeOpS : List EOp → Nat
 | [] => 0
 | p :: ps => p.bs.length + sizeOpS ps
theorem sizeOpS_mem (ps : List EOp) (p : EOp) (h : p ∈ ps) : p.bs.length ≤ sizeOpS ps := by
 induction ps with
 | nil => cases h
 | cons q qs ih =>
  rcases List.mem_cons.1 h with rfl | h
  ·simp [sizeOpS]
  ·have := ih h; simp only [sizeOpS]; omega
theorem eqOp_own {ta tb : TypeId} (base : Nat) (kind : Int) (sec : Int) (va vb : Value) (bs : List Int) (w : World) (hn : bs.length ≤ 1125899906842624) (ha : Own base ta .u8 w va bs) (hb : Own base tb .u8 w vb bs) :
  Calls Try.prog 34 #[.agg #[.int .i64 kind, .int .i64 sec, va], .agg #[.int .i64 kind, .int .i64 sec, vb]] w fun e w' => e = .returned (.bool true) ∧ Same w w' := by
 obtain ⟨aa, na, ca, rfl⟩ := slice_of_own ha
 obtain ⟨ab, nb, cb, rfl⟩ := slice_of_own hb
 have HA : Hid (Own base ta .u8 w (.slice aa na ca) bs) := ha
 have HB : Hid (Own base tb .u8 w (.slice ab nb cb) bs) := hb
 have b0 := (Blk.newL w [.int .i64 kind, .int .i64 sec, .slice aa na ca] 46).same ((Kept.refl _ _).alloc (.cells #[.int .i64 kind, .int .i64 sec, .slice ab nb cb] 46))
 have b1 := Blk.newB w [.int .i64 kind, .int .i64 sec, .slice aa na ca] 46 [.int .i64 kind, .int .i64 sec, .slice ab nb cb] 46
 clear ha hb
 go_enter Try.func34, Try.ntmps34
 go_wp2_with fail
 refine (eqByteS_own base _ _ bs _ hn (HA.out.same (((Kept.refl _ _).alloc _).alloc _)) (HB.out.same (((Kept.refl _ _).alloc _).alloc _))).mono ?_
 rintro e w1 ⟨rfl, n1, hw⟩
 have hk : Same ((w.alloc (.cells #[.int .i64 kind, .int .i64 sec, .slice aa na ca] 46)).alloc (.cells #[.int .i64 kind, .int .i64 sec, .slice ab nb cb] 46)) w1 := by rw [hw]; exact (Kept.refl _ _).drewN _
 clear hw
 go_wp2
 go_ret
 exact ⟨rfl, (((Kept.refl _ _).alloc _).alloc _).trans hk⟩
theorem eqOpS_own {ta tb : TypeId} (base : Nat) (va vb : Value) (ps qs : List EOp) (w : World) (hn : ps.length ≤ 1125899906842624) (hs : datOpS ps = datOpS qs) (hsm : ∀ p ∈ ps, p.bs.length ≤ 1125899906842624)
  (ha : OwnR kOp base 46 ta w va ps) (hb : OwnR kOp base 46 tb w vb qs) :
  Calls Try.prog 20 #[va, vb] w fun e w' => e = .returned (.bool true) ∧ Same w w' := by
 have hlen : qs.length = ps.length := by rw [← datOpS_length, ← datOpS_length, hs]
 by_cases hz : ps.length = 0
 ·obtain rfl : ps = [] := List.length_eq_zero_iff.1 hz
  obtain rfl : qs = [] := List.length_eq_zero_iff.1 hlen
  obtain ⟨aa, ca, rfl⟩ : ∃ aa ca, va = .slice aa 0 ca := by rcases ha.form with ⟨rfl, _⟩ | ⟨g, cap, rfl, _⟩ <;> exact ⟨_, _, rfl⟩
  obtain ⟨ab, cb, rfl⟩ : ∃ aa ca, vb = .slice aa 0 ca := by rcases hb.form with ⟨rfl, _⟩ | ⟨g, cap, rfl, _⟩ <;> exact ⟨_, _, rfl⟩
  clear ha hb hn hz hs
  go_enter Try.func20, Try.ntmps20
  go_wp2
  refine wp_loop_rounds 1 ?_
  rw [rounds_succ]
  go_wp2
  go_ret
  exact ⟨rfl, Kept.refl _ _⟩
 ·obtain ⟨ga, ca, rfl⟩ : ∃ g cap, va = .slice (some ⟨g, 0, none⟩) ps.length cap := by
   rcases ha.form with ⟨_, h⟩ | ⟨g, cap, h, _⟩
   ·simp [h] at hz
   ·exact ⟨g, cap, h⟩
  obtain ⟨gb, cb, rfl⟩ : ∃ g cap, vb = .slice (some ⟨g, 0, none⟩) ps.length cap := by
   rcases hb.form with ⟨_, h⟩ | ⟨g, cap, h, _⟩
   ·simp [h] at hlen; omega
   ·exact ⟨g, cap, by rw [h, hlen]⟩
  have HA : Hid (OwnR kOp base 46 ta w (.slice (some ⟨ga, 0, none⟩) ps.length ca) ps) := ha
  have HB : Hid (OwnR kOp base 46 tb w (.slice (some ⟨gb, 0, none⟩) ps.length cb) qs) := hb
  have HQ : Hid (qs.length = ps.length) := hlen
  have HS : Hid (datOpS ps = datOpS qs) := hs
  have HM : Hid (∀ p ∈ ps, p.bs.length ≤ 1125899906842624) := hsm
  clear ha hb hs hlen hsm
  generalize hl : ps.length = len at hn hz HA HB ⊢
  have HL : Hid (ps.length = len) := hl
  clear hl
  go_enter Try.func20, Try.ntmps20
  go_wp2
  go_loopw [5] (fun i wr => ∃ (k : Nat), k ≤ len ∧ i = .int .i64 k ∧ Hid (Same w wr)) (fun i _ => len - (intOf i).toNat)
  case atStart => exact ⟨0, Nat.zero_le _, rfl, Kept.refl _ _⟩
  case round =>
   obtain ⟨k, hk, rfl, HK⟩ := hrel
   by_cases hlt : k < len
   ·have hlp : k < ps.length := by rw [HL.out]; exact hlt
    have hlq : k < qs.length := by rw [HQ.out]; exact hlp
    have hoa := HA.out.same HK.out
    have hob := HB.out.same HK.out
    have hdd := datOpS_at HS.out k hlp hlq
    simp only [EOp.dat, Prod.mk.injEq] at hdd
    obtain ⟨d0, d1, d2⟩ := hdd
    have s3 := HM.out _ (List.getElem_mem hlp)
    have ha0 : wr.cell? ⟨ga, k * 3, none⟩ = some (.int .i64 ps[k].kind) := hoa.cell HL.out.symm k 0 hlp (by decide)
    have ha1 : wr.cell? ⟨ga, k * 3 + 1, none⟩ = some (.int .i64 ps[k].sec) := hoa.cell HL.out.symm k 1 hlp (by decide)
    have ha2 : wr.cell? ⟨ga, k * 3 + 2, none⟩ = some (ps[k].v) := hoa.cell HL.out.symm k 2 hlp (by decide)
    have hb0 : wr.cell? ⟨gb, k * 3, none⟩ = some (.int .i64 ps[k].kind) := by rw [d0]; exact hob.cell (by rw [HQ.out, HL.out]) k 0 hlq (by decide)
    have hb1 : wr.cell? ⟨gb, k * 3 + 1, none⟩ = some (.int .i64 ps[k].sec) := by rw [d1]; exact hob.cell (by rw [HQ.out, HL.out]) k 1 hlq (by decide)
    have hb2 : wr.cell? ⟨gb, k * 3 + 2, none⟩ = some (qs[k].v) := hob.cell (by rw [HQ.out, HL.out]) k 2 hlq (by decide)
    have HDA : Hid (Own base ta .u8 wr ps[k].v ps[k].bs) := hoa.data _ (List.getElem_mem hlp)
    have HDB : Hid (Own base tb .u8 wr qs[k].v ps[k].bs) := by have := hob.data _ (List.getElem_mem hlq); rw [d2]; exact this
    clear d0 d1 d2 hoa hob
    go_wp2_with fail
    go_region_with (go_at_call 34; refine (eqOp_own base ps[k].kind ps[k].sec ps[k].v qs[k].v ps[k].bs _ s3 (by exact HDA.out.same (Kept.refl _ _).drew) (by exact HDB.out.same (Kept.refl _ _).drew)).mono ?_; rintro e w1 ⟨rfl, hk1⟩)
    all_goals
     have HK1 : Hid (Same w w1) := HK.out.drew.trans hk1
     clear hk1 ha0 hb0 ha1 hb1 ha2 hb2 HDA HDB
     go_wp2
     go_roundw
     case rel => exact ⟨k + 1, by omega, by go_num, HK1⟩
     case measure => simp [intOf]; omega
   ·go_wp2
    go_ret
    exact ⟨rfl, HK.out⟩
def mOp : MarkK kOp := ⟨fun k p => ⟨k, k + 1, p.v, marks (k + 1 + 1) p.bs.length⟩, fun p => 2 + p.bs.length, fun _ _ => rfl⟩
theorem endOpS_size (k : Int) (ps : List EOp) : endR mOp k ps = k + 2 * ps.length + sizeOpS ps := by
 induction ps generalizing k with
 | nil => simp [endR, sizeOpS]
 | cons p ps ih =>
  have h : ((mOp.sz p : Nat) : Int) = 2 + (p.bs.length : Int) := by simp [mOp]
  simp only [endR, ih, sizeOpS, List.length_cons]
  omega
theorem markOpS_own {tb : TypeId} (base : Nat) (va : Value) (ps : List EOp) (k0 : Int) (w : World) (h0 : 0 ≤ k0) (h1 : endR mOp k0 ps ≤ 1125899906842624) (hn : ps.length ≤ 1125899906842624)
  (ha : OwnR kOp base 46 tb w va ps) :
  Calls Try.prog 21 #[va, .int .i64 k0] w fun e w' => e = .returned (.int .i64 (endR mOp k0 ps)) ∧ OwnR kOp base 46 tb w' va (markR mOp k0 ps) ∧ Kept (footR kOp va ps) w w' := by
 by_cases hz : ps.length = 0
 ·obtain rfl : ps = [] := List.length_eq_zero_iff.1 hz
  obtain ⟨aa, ca, rfl⟩ : ∃ aa ca, va = .slice aa 0 ca := by rcases ha.form with ⟨rfl, _⟩ | ⟨g, cap, rfl, _⟩ <;> exact ⟨_, _, rfl⟩
  have HA : Hid (OwnR kOp base 46 tb w (.slice aa 0 ca) []) := ha
  clear ha hn hz h1
  go_enter Try.func21, Try.ntmps21
  go_wp2
  refine wp_loop_rounds 1 ?_
  rw [rounds_succ]
  go_wp2
  go_ret
  exact ⟨by simp [endR], by simpa [markR] using HA.out, Kept.refl _ _⟩
 ·obtain ⟨g, cap, rfl, hb, hlt, _, _⟩ : ∃ g cap, va = .slice (some ⟨g, 0, none⟩) ps.length cap ∧ base ≤ g ∧ g < w.heap.size ∧ ps.length ≤ cap ∧ cap ≤ maxLen := by
   rcases ha.form with ⟨_, rfl⟩ | h
   ·simp at hz
   ·exact h
  have H1 : Hid (endR mOp k0 ps ≤ 1125899906842624) := h1
  have HA0 : Hid (OwnR kOp base 46 tb w (.slice (some ⟨g, 0, none⟩) ps.length cap) ps) := ha
  clear h1 ha
  generalize hl : ps.length = len at *
  have HL : Hid (ps.length = len) := hl
  clear hl
  go_enter Try.func21, Try.ntmps21
  go_wp2
  go_loopw [1, 5] (fun v i wr => ∃ (k : Nat) (c : Int), k ≤ len ∧ i = .int .i64 k ∧ v = .int .i64 c ∧ Hid (c = endR mOp k0 (ps.take k)) ∧ Hid (OwnR kOp base 46 tb wr (.slice (some ⟨g, 0, none⟩) len cap) (partR mOp k0 ps k)) ∧ Hid (Kept (footR kOp (.slice (some ⟨g, 0, none⟩) len cap) ps) w wr)) (fun _ i _ => len - (intOf i).toNat)
  case atStart => exact ⟨0, k0, Nat.zero_le _, rfl, rfl, rfl, by rw [partR_zero]; exact HA0.out, Kept.refl _ _⟩
  case round =>
   obtain ⟨k, c, hk, rfl, rfl, HC, HO, HK⟩ := hrel
   by_cases hlt : k < len
   ·have hlp : k < ps.length := by rw [HL.out]; exact hlt
    have hc0' : k0 ≤ c := by rw [HC.out]; exact endR_le _ _ _
    have hst := endR_step mOp k0 ps k hlp
    have hc1' : c + 2 + ps[k].bs.length ≤ 1125899906842624 := by have h2 := endR_take_le mOp k0 ps (k + 1); have h3 := H1.out; have h4 := HC.out; simp only [mOp] at hst; simp only [mOp] at h2 h3 h4; omega
    have HST := (show Hid (endR mOp k0 (ps.take (k + 1)) = endR mOp k0 (ps.take k) + (mOp.sz ps[k] : Nat)) from hst)
    clear hst
    have HP0 : Hid (OwnR kOp base 46 tb wr (.slice (some ⟨g, 0, none⟩) len cap) (markR mOp k0 (ps.take k) ++ ps[k] :: ps.drop (k + 1))) := by
     have h := HO.out
     rw [partR_at _ _ _ _ hlp] at h
     exact h
    have HLN : ∀ e : EOp, Hid (len = (markR mOp k0 (ps.take k) ++ e :: ps.drop (k + 1)).length) := fun e => by have hl := HL.out; simp [Hid, markR_length]; omega
    have HPL : Hid ((markR mOp k0 (ps.take k)).length = k) := by have hl := HL.out; simp [Hid, markR_length]; omega
    have hc0 : wr.cell? ⟨g, k * 3, none⟩ = some (.int .i64 ps[k].kind) := HP0.out.cellMid (HLN _).out 0 (by decide) _ (by rw [HPL.out]; rfl)
    have hc1 : wr.cell? ⟨g, k * 3 + 1, none⟩ = some (.int .i64 ps[k].sec) := HP0.out.cellMid (HLN _).out 1 (by decide) _ (by rw [HPL.out]; rfl)
    have hc2 : wr.cell? ⟨g, k * 3 + 2, none⟩ = some (ps[k].v) := HP0.out.cellMid (HLN _).out 2 (by decide) _ (by rw [HPL.out]; rfl)
    have fr := HO.out.frozen (by rw [partR_length]; exact HL.out.symm)
    have HP1 : Hid (OwnR kOp base 46 tb (wr.setCell ⟨g, k * 3, none⟩ (.int .i64 (c))) (.slice (some ⟨g, 0, none⟩) len cap) (markR mOp k0 (ps.take k) ++ ⟨c, ps[k].sec, ps[k].v, ps[k].bs⟩ :: ps.drop (k + 1))) := HP0.out.set (p' := ⟨c, ps[k].sec, ps[k].v, ps[k].bs⟩) (HLN _).out 0 (.int .i64 (c)) (by decide) rfl rfl rfl (k * 3) (by first | (rw [HPL.out]; done) | (rw [HPL.out]; rfl))
    have HP2 : Hid (OwnR kOp base 46 tb ((wr.setCell ⟨g, k * 3, none⟩ (.int .i64 (c))).setCell ⟨g, k * 3 + 1, none⟩ (.int .i64 (c + 1))) (.slice (some ⟨g, 0, none⟩) len cap) (markR mOp k0 (ps.take k) ++ ⟨c, c + 1, ps[k].v, ps[k].bs⟩ :: ps.drop (k + 1))) := HP1.out.set (p' := ⟨c, c + 1, ps[k].v, ps[k].bs⟩) (HLN _).out 1 (.int .i64 (c + 1)) (by decide) rfl rfl rfl (k * 3 + 1) (by first | (rw [HPL.out]; done) | (rw [HPL.out]; rfl))
    go_wp2_with fail
    refine (markByteS_own base ps[k].v ps[k].bs (c + 1 + 1) _ (by omega) (by omega) (by omega) (HP2.out.data ⟨c, c + 1, ps[k].v, ps[k].bs⟩ (by simp))).mono ?_
    rintro e w1 ⟨rfl, ho, hk1⟩
    have HQ0 : Hid (OwnR kOp base 46 tb w1 (.slice (some ⟨g, 0, none⟩) len cap) (markR mOp k0 (ps.take k) ++ ⟨c, c + 1, ps[k].v, marks (c + 1 + 1) ps[k].bs.length⟩ :: ps.drop (k + 1))) := HP2.out.setData (p' := (⟨c, c + 1, ps[k].v, marks (c + 1 + 1) ps[k].bs.length⟩ : EOp)) hk1 rfl rfl ho
    have fr1 : ∀ j, w1.frozen? ⟨g, j, none⟩ = false := fun j => HQ0.out.frozen (HLN _).out j
    have HO3 : Hid (OwnR kOp base 46 tb w1 (.slice (some ⟨g, 0, none⟩) len cap) (partR mOp k0 ps (k + 1))) := by
     rw [partR_step _ _ _ _ hlp, ← HC.out]
     exact HQ0.out
    have HK3 : Hid (Kept (footR kOp (.slice (some ⟨g, 0, none⟩) len cap) ps) w w1) := (((HK.out.setCell (p := ⟨g, k * 3, none⟩) (.inr (.inl rfl)) _).setCell (p := ⟨g, k * 3 + 1, none⟩) (.inr (.inl rfl)) _).trans (hk1.mono fun b _ hb => .inr ⟨ps[k], List.getElem_mem _, hb⟩))
    clear ho hk1 HO HP0 HP1 HP2 hc0 hc1 hc2
    go_wp2
    go_roundw
    case rel =>
     exact ⟨k + 1, c + 1 + 1 + (ps[k].bs.length : Int), by omega, by go_num, rfl, by unfold Hid; rw [HST.out, ← HC.out]; simp only [mOp]; omega, HO3, HK3⟩
    case measure => simp [intOf]; omega
   ·go_wp2
    go_ret
    obtain rfl : k = len := by omega
    have hl := HL.out
    have hc := HC.out
    have ho := HO.out
    rw [← hl, List.take_length] at hc
    rw [← hl, partR_all, hl] at ho
    exact ⟨ret_int hc, ho, HK.out⟩
theorem heldOpS_own {tb : TypeId} (base : Nat) (va : Value) (ps : List EOp) (k0 : Int) (w : World) (h0 : 0 ≤ k0) (h1 : endR mOp k0 ps ≤ 1125899906842624) (hn : ps.length ≤ 1125899906842624)
  (ha : OwnR kOp base 46 tb w va (markR mOp k0 ps)) :
  Calls Try.prog 22 #[va, .int .i64 k0] w fun e w' => e = .returned (.int .i64 (endR mOp k0 ps)) ∧ w' = w := by
 by_cases hz : ps.length = 0
 ·obtain rfl : ps = [] := List.length_eq_zero_iff.1 hz
  obtain ⟨aa, ca, rfl⟩ : ∃ aa ca, va = .slice aa 0 ca := by rcases ha.form with ⟨rfl, _⟩ | ⟨g, cap, rfl, _⟩ <;> exact ⟨_, _, rfl⟩
  clear ha hn hz h1
  go_enter Try.func22, Try.ntmps22
  go_wp2
  refine wp_loop_rounds 1 ?_
  rw [rounds_succ]
  go_wp2
  go_ret
  exact ⟨by simp [endR], rfl⟩
 ·obtain ⟨g, cap, rfl⟩ : ∃ g cap, va = .slice (some ⟨g, 0, none⟩) ps.length cap := by
   rcases ha.form with ⟨_, h⟩ | ⟨g, cap, h, _⟩
   ·have := congrArg List.length h; simp [markR_length] at this; simp [this] at hz
   ·exact ⟨g, cap, by rw [h, markR_length]⟩
  have H1 : Hid (endR mOp k0 ps ≤ 1125899906842624) := h1
  have HA : Hid (OwnR kOp base 46 tb w (.slice (some ⟨g, 0, none⟩) ps.length cap) (markR mOp k0 ps)) := ha
  clear h1 ha
  generalize hl : ps.length = len at hn hz HA ⊢
  have HL : Hid (ps.length = len) := hl
  clear hl
  go_enter Try.func22, Try.ntmps22
  go_wp2
  go_loop [1, 5] (fun v i => ∃ (k : Nat) (c : Int), k ≤ len ∧ i = .int .i64 k ∧ v = .int .i64 c ∧ Hid (c = endR mOp k0 (ps.take k))) (fun _ i => len - (intOf i).toNat)
  case atStart => exact ⟨0, k0, Nat.zero_le _, rfl, rfl, rfl⟩
  case round =>
   obtain ⟨k, c, hk, rfl, rfl, HC⟩ := hrel
   by_cases hlt : k < len
   ·have hlp : k < ps.length := by rw [HL.out]; exact hlt
    have hlm : k < (markR mOp k0 ps).length := by rw [markR_length]; exact hlp
    have hc0 : w.cell? ⟨g, k * 3, none⟩ = some (.int .i64 (c)) := by have h := HA.out.cell (by rw [markR_length]; exact HL.out.symm) k 0 hlm (by decide); rw [markR_at _ _ _ _ hlp, ← HC.out] at h; exact h
    have hc1 : w.cell? ⟨g, k * 3 + 1, none⟩ = some (.int .i64 (c + 1)) := by have h := HA.out.cell (by rw [markR_length]; exact HL.out.symm) k 1 hlm (by decide); rw [markR_at _ _ _ _ hlp, ← HC.out] at h; exact h
    have hc2 : w.cell? ⟨g, k * 3 + 2, none⟩ = some (ps[k].v) := by have h := HA.out.cell (by rw [markR_length]; exact HL.out.symm) k 2 hlm (by decide); rw [markR_at _ _ _ _ hlp, ← HC.out] at h; exact h
    have hd := HA.out.data _ (List.getElem_mem hlm)
    rw [markR_at _ _ _ _ hlp, ← HC.out] at hd
    have HD : Hid (Own base tb .u8 w ps[k].v (marks (c + 1 + 1) ps[k].bs.length)) := hd
    have hc0' : k0 ≤ c := by rw [HC.out]; exact endR_le _ _ _
    have hst := endR_step mOp k0 ps k hlp
    have hc1' : c + 2 + ps[k].bs.length ≤ 1125899906842624 := by have h2 := endR_take_le mOp k0 ps (k + 1); have h3 := H1.out; have h4 := HC.out; simp only [mOp] at hst; simp only [mOp] at h2 h3 h4; omega
    have HST := (show Hid (endR mOp k0 (ps.take (k + 1)) = endR mOp k0 (ps.take k) + (mOp.sz ps[k] : Nat)) from hst)
    clear hd hst
    go_wp2_with fail
    refine (heldByteS_own base ps[k].v ps[k].bs.length (c + 1 + 1) _ (by omega) (by omega) (by omega) HD.out).mono ?_
    rintro e w1 ⟨rfl, rfl⟩
    go_wp2
    go_round
    case rel => exact ⟨k + 1, c + 1 + 1 + (ps[k].bs.length : Int), by omega, by go_num, rfl, by unfold Hid; rw [HST.out, ← HC.out]; simp only [mOp]; omega⟩
    case measure => simp [intOf]; omega
   ·go_wp2
    go_ret
    obtain rfl : k = len := by omega
    have hl := HL.out
    have hc := HC.out
    rw [← hl, List.take_length] at hc
    exact ⟨ret_int hc, rfl⟩
variable {E : Type}
section
variable {K : RowK E} {base : Nat} {tw tb : TypeId} {w w' : World} {v : Value} {qs : List E}
theorem OwnR.snoc {g n cap : Nat} (p : E) (h : OwnR K base tw tb w v qs) (hu : Own base tb .u8 w (K.v p) (K.bs p)) (huf : ∀ b, (K.v p).ownBlock = some b → ¬ footR K v qs b)
  (hg : w.grownBy w' v.ownBlock) (hrow : w'.ownsRow base tw K.m (.slice (some ⟨g, 0, none⟩) (n + 1) cap) (n + 1) (K.all qs ++ K.cells p)) (hn : n = qs.length) (hat : v.ownBlock = some g ∨ g = w.heap.size) :
  OwnR K base tw tb w' (.slice (some ⟨g, 0, none⟩) (n + 1) cap) (qs ++ [p]) := by
 have hk : Kept (fun b => v.ownBlock = some b) w w' := Kept.of_grown hg (fun k e => e)
 have hul : ∀ b, (K.v p).ownBlock = some b → b < w.heap.size := fun b hb => (hu.lt b hb).2
 have hgu : (K.v p).ownBlock ≠ some g := fun e => by
  rcases hat with hat | hat
  ·exact huf g e (.inl hat)
  ·have := hul g e; omega
 have hgp : ∀ q ∈ qs, (K.v q).ownBlock ≠ some g := fun q hp e => by
  rcases hat with hat | hat
  ·exact h.out (K.v q) (List.mem_map_of_mem hp) g hat e
  ·have := (h.lt g (.inr ⟨q, hp, e⟩)).2; omega
 refine ⟨?_, fun q hp => ?_, fun x hx => ?_, ?_⟩
 ·have e : K.all (qs ++ [p]) = K.all qs ++ K.cells p := by rw [K.all_append]; simp [RowK.all]
  rw [e, List.length_append, List.length_singleton, ← hn]
  exact hrow
 ·rcases List.mem_append.1 hp with hp | hp
  ·exact (h.data q hp).kept hk (fun b hb e => h.out (K.v q) (List.mem_map_of_mem hp) b e hb)
  ·simp at hp
   subst hp
   exact hu.kept hk (fun b hb e => huf b hb (.inl e))
 ·rw [List.map_append, List.mem_append] at hx
  intro b hb
  have hb' : b = g := by simpa [Value.ownBlock] using hb.symm
  subst hb'
  rcases hx with hx | hx
  ·obtain ⟨q, hp, rfl⟩ := List.mem_map.1 hx
   exact hgp q hp
  ·simp at hx
   subst hx
   exact hgu
 ·rw [List.map_append]
  refine List.pairwise_append.2 ⟨h.each, by simp, fun x hx y hy => ?_⟩
  obtain ⟨q, hp, rfl⟩ := List.mem_map.1 hx
  simp at hy
  subst hy
  exact fun b hb hb' => huf b hb' (.inr ⟨q, hp, hb⟩)
theorem footR_snoc {g n cap : Nat} {p : E} (b : Nat) (hb : footR K (.slice (some ⟨g, 0, none⟩) n cap) (qs ++ [p]) b) : b = g ∨ footR K v qs b ∨ (K.v p).ownBlock = some b := by
 rcases hb with hb | ⟨q, hp, hb⟩
 ·exact .inl (by simpa [Value.ownBlock] using hb.symm)
 ·rcases List.mem_append.1 hp with hp | hp
  ·exact .inr (.inl (.inr ⟨q, hp, hb⟩))
  ·simp at hp
   subst hp
   exact .inr (.inr hb)
theorem footR_nil (b : Nat) : ¬ footR K (.slice none 0 0) [] b := by
 rintro (h | ⟨p, hp, _⟩)
 ·simp [Value.ownBlock] at h
 ·simp at hp
end
theorem size_opsF {ps : List EOp} {ds : List (Int × Int × List Int)} (h : datOpS ps = ds) : sizeOpS ps = (ds.map fun d => d.2.2.length).sum := by
 subst h
 induction ps with
 | nil => rfl
 | cons p ps ih => simp only [datOpS, List.map_cons, List.sum_cons, sizeOpS] at ih ⊢; rw [ih]; rfl
def OpsR (w w' : World) (ds : List (Int × Int × List Int)) (v : Value) : Prop :=
 ∃ a n c ps, v = .slice a n c ∧ datOpS ps = ds ∧ (∀ b, footR kOp (.slice a n c) ps b → w.heap.size ≤ b) ∧ OwnR kOp 0 46 5 w' (.slice a n c) ps ∧ Same w w'
theorem opsR_made (w : World) : OwnR kOp 0 46 5 (w.alloc (.cells #[] 46)) (.slice (some ⟨w.heap.size, 0, none⟩) 0 0) [] :=
 ⟨World.ownsRow_made w #[] 0 (Nat.zero_le _) (by simp) (by simp), fun _ h => by simp at h, fun _ h => by simp at h, List.Pairwise.nil⟩
theorem foot_made {g n c x : Nat} (h : footR kOp (.slice (some ⟨g, 0, none⟩) n c) [] x) : x = g := by
 rcases h with h | ⟨p, hp, _⟩
 ·have h' : g = x := by simpa [Value.ownBlock] using h
  exact h'.symm
 ·simp at hp
structure Grew (w : World) (v : Value) (w' : World) (v' : Value) : Prop where
 kept : Kept (fun b => v.ownBlock = some b) w w'
 own : ∀ b, v'.ownBlock = some b → v.ownBlock = some b ∨ w.heap.size ≤ b
theorem Grew.trans {w w1 w2 : World} {v v1 v2 : Value} (h : Grew w v w1 v1) (k : Grew w1 v1 w2 v2) : Grew w v w2 v2 := by
 refine ⟨h.kept.next k.kept (fun i hi e => (h.own i e).resolve_right (by omega)), fun b hb => ?_⟩
 rcases k.own b hb with h1 | h1
 ·exact h.own b h1
 ·have := h.kept.size
  exact .inr (by omega)
theorem Grew.of_same {w w' : World} {v : Value} (h : Same w w') : Grew w v w' v := ⟨h.mono (fun _ _ e => absurd e id), fun b hb => .inl hb⟩
theorem Grew.refl (w : World) (v : Value) : Grew w v w v := Grew.of_same (Kept.refl _ _)
theorem Grew.size {w w' : World} {v v' : Value} (h : Grew w v w' v') : w.heap.size ≤ w'.heap.size := h.kept.size
theorem Grew.same {w0 w w' : World} {v v' : Value} (h : Grew w v w' v') (h0 : Same w0 w) (hv : ∀ b, v.ownBlock = some b → w0.heap.size ≤ b) : Same w0 w' :=
 h0.next h.kept (fun i hi e => by have := hv i e; omega)
theorem run_app {ty : TypeId} {w : World} {v x : Value} {bs ys : List Int} (ho : Own 0 5 .u8 w v bs) (hx : Rd .u8 w x ys) (hl : bs.length + ys.length ≤ 1099511627776) :
  ∃ a n c w', (Builtin.append_ #[24, 24] ty #[v, x]).run Try.prog w = .ok (.slice a n c) w' ∧ Own 0 5 .u8 w' (.slice a n c) (bs ++ ys) ∧ Grew w v w' (.slice a n c) := by
 obtain ⟨i0, hi, hz0, hz1, hz2⟩ := info_parts Try.infoByte'
 have some_case : ∀ (ad : Addr) (c : Nat), (∀ j u, (vals .u8 ys)[j]? = some u → w.cell? (ad.add j) = some u) → ∃ a n c' w', (Builtin.append_ #[24, 24] ty #[v, .slice (some ad) ys.length c]).run Try.prog w = .ok (.slice a n c') w' ∧ Own 0 5 .u8 w' (.slice a n c') (bs ++ ys) ∧ Grew w v w' (.slice a n c') := fun ad c hn => by
  obtain ⟨v', w', hr, h2, h3, _, h5⟩ := run_append_own_at (P := Try.prog) w 0 24 ty 5 i0 (.int .u8 0) 1 1 Try.underlying24 hi hz0 hz1 hz2 rfl (by decide) v bs.length (vals .u8 bs) ho ad ys.length c (vals .u8 ys) (by simp [vals_length]) hn vals_one (by unfold maxLen; omega) (by omega) (Nat.zero_le _)
  have h2' : Own 0 5 .u8 w' v' (bs ++ ys) := by unfold Own; simpa [vals] using h2
  obtain ⟨a, n, c', rfl⟩ := slice_of_own h2'
  refine ⟨a, n, c', w', hr, h2', Kept.of_grown h3 (fun k e => e), fun b hb => ?_⟩
  rcases h5 with h5 | h5
  ·exact .inl (by rw [← h5]; exact hb)
  ·rw [h5] at hb
   exact .inr (by have := Option.some.inj hb; omega)
 rcases hx.2 with ⟨rfl, a, c, rfl, hac⟩ | ⟨b, off, c, rfl, _, hc⟩
 ·cases a with
  | none =>
   obtain rfl : c = 0 := hac rfl
   have hr := run_append_owned_none (P := Try.prog) (w := w) 0 24 ty 5 i0 1 Try.underlying24 hi v bs.length (vals .u8 bs) ho
   obtain ⟨a, n, c', rfl⟩ := slice_of_own ho
   exact ⟨a, n, c', w, hr, by rw [List.append_nil]; exact ho, Grew.refl _ _⟩
  | some ad => exact some_case ad c (fun j u h => by simp [vals] at h)
 ·exact some_case ⟨b, off, none⟩ c (news_of hc)
theorem wp_app {w : World} {o : Oper} {a : Act} {K : Act → World → Prop} {Q : Exit → Act → World → Prop} (s x : Operand)
  (ho : o.op = .call { callee := .builtin .append, args := #[s, x], argTypes := #[24, 24] })
  (v xv : Value) (bs ys : List Int) (hs : a.eval s = v) (hx : a.eval x = xv) (hown : Own 0 5 .u8 w v bs) (hrd : Rd .u8 w xv ys) (hl : bs.length + ys.length ≤ 1099511627776)
  (h : ∀ a' n' c' w', Own 0 5 .u8 w' (.slice a' n' c') (bs ++ ys) → Grew w v w' (.slice a' n' c') → K (a.put o.dst (.slice a' n' c')) w') : o.wp Try.prog a w K Q := by
 obtain ⟨a', n', c', w', hr, h2, h3⟩ := run_app (ty := o.type) hown hrd hl
 unfold Oper.wp execOp
 simp only [ho, resolve, invoke, builtin, Sem.run_bind, Sem.run_pure, Result.andThen_ok, List.map_toArray, List.map_cons, List.map_nil, hs, hx, hr]
 exact h a' n' c' w' h2 h3
theorem wpList_app {w : World} {ops : Array Oper} {rest : List Oper} {o : Oper} {a : Act} {Q : Exit → Act → World → Prop} (hgd : o.guard = none) (s x : Operand)
  (ho : o.op = .call { callee := .builtin .append, args := #[s, x], argTypes := #[24, 24] })
  (v xv : Value) (bs ys : List Int) (hs : a.eval s = v) (hx : a.eval x = xv) (hown : Own 0 5 .u8 w v bs) (hrd : Rd .u8 w xv ys) (hl : bs.length + ys.length ≤ 1099511627776)
  (h : ∀ a' n' c' w', Own 0 5 .u8 w' (.slice a' n' c') (bs ++ ys) → Grew w v w' (.slice a' n' c') → wpList Try.prog ops Q rest (a.put o.dst (.slice a' n' c')) w') : wpList Try.prog ops Q (o :: rest) a w :=
 wpList_plain hgd fun _ hK => wp_app s x ho v xv bs ys hs hx hown hrd hl fun a' n' c' w' h2 h3 => hK _ _ (h a' n' c' w' h2 h3)
theorem rd_one (w : World) (x : Int) : Rd .u8 (w.alloc (.cells #[.int .u8 x] 5)) (.slice (some ⟨w.heap.size, 0, none⟩) 1 1) [x] := by
 have h : Blk (w.alloc (.cells #[.int .u8 x] 5)) w.heap.size 5 (vals .u8 [x]) := Blk.new w #[.int .u8 x] 5
 exact (h.own (by unfold maxLen; simp)).rd
def padL (tb : List Int) : List Int := tb ++ List.replicate 512 0
def padM (tb : List Int) : Nat := (tb.length + 511) / 512
def chunkF (tb : List Int) (k : Nat) : List Int := ((padL tb).drop (512 * k)).take 512
def opsF (s at0 : Int) (tb : List Int) (k : Nat) : List (Int × Int × List Int) := (List.range k).map fun (j : Nat) => (1, logPlace s (at0 + 512 * (j : Int)), chunkF tb j)
theorem opsF_succ (s at0 : Int) (tb : List Int) (k : Nat) : opsF s at0 tb (k + 1) = opsF s at0 tb k ++ [(1, logPlace s (at0 + 512 * (k : Int)), chunkF tb k)] := by
 unfold opsF; rw [List.range_succ, List.map_append]; rfl
theorem opsF_length (s at0 : Int) (tb : List Int) (k : Nat) : (opsF s at0 tb k).length = k := by simp [opsF]
def flushD (d : Int × Int × Int × Int × List Int) : List (Int × Int × List Int) :=
 if logFd d = 0 ∧ d.2.2.2.1 ≠ d.2.2.1 then opsF d.1 (d.2.2.2.1 - d.2.2.2.1 % 512) d.2.2.2.2 (padM d.2.2.2.2) ++ [(2, 0, [])] else []
theorem padL_length (tb : List Int) : (padL tb).length = tb.length + 512 := by simp [padL]
theorem padM_le (tb : List Int) : tb.length ≤ 512 * padM tb := by unfold padM; omega
theorem padM_lt (tb : List Int) : 512 * padM tb < tb.length + 512 := by unfold padM; omega
theorem chunkF_length (tb : List Int) (k : Nat) (h : k < padM tb) : (chunkF tb k).length = 512 := by
 have := padM_lt tb
 unfold chunkF
 rw [List.length_take, List.length_drop, padL_length]
 omega
theorem padL_take (tb : List Int) : (padL tb).take tb.length = tb := by simp [padL]
theorem padL_snoc (tb : List Int) (j : Nat) (h1 : tb.length ≤ j) (h2 : j < tb.length + 512) : (padL tb).take (j + 1) = (padL tb).take j ++ [0] := by
 have hl : j < (padL tb).length := by rw [padL_length]; omega
 have h0 : (padL tb)[j] = 0 := by
  simp only [padL]
  rw [List.getElem_append_right h1, List.getElem_replicate]
 rw [List.take_succ_eq_append_getElem hl, h0]
theorem padL_chunk (tb : List Int) (k : Nat) (h : k < padM tb) : (((padL tb).take (512 * padM tb)).drop (512 * k)).take 512 = chunkF tb k := by
 unfold chunkF
 rw [List.drop_take, List.take_take]
 congr 1
 omega
theorem chunk_copy (tb : List Int) (k : Nat) (h : 512 * k < tb.length) : (tb.drop (512 * k)).take 512 ++ List.replicate (512 - (tb.length - 512 * k)) 0 = chunkF tb k := by
 unfold chunkF padL
 rw [List.drop_append_of_le_length (by omega), List.take_append, List.take_replicate, List.length_drop]
 congr 2
 omega
theorem flushD_small {d : Int × Int × Int × Int × List Int} {ps : List EOp} (hn : d.2.2.2.2.length ≤ 1048576) (h : datOpS ps = flushD d) : ps.length ≤ 2050 ∧ sizeOpS ps ≤ 1049600 := by
 have hm := padM_lt d.2.2.2.2
 have hl := congrArg List.length h
 rw [datOpS_length] at hl
 have hs := size_opsF h
 by_cases hc : logFd d = 0 ∧ d.2.2.2.1 ≠ d.2.2.1
 ·rw [flushD, if_pos hc] at hl hs
  rw [List.length_append, opsF_length] at hl
  have h2 : ((opsF d.1 (d.2.2.2.1 - d.2.2.2.1 % 512) d.2.2.2.2 (padM d.2.2.2.2)).map fun d => d.2.2.length).sum = 512 * padM d.2.2.2.2 := by
   unfold opsF
   rw [List.map_map]
   have h3 : ∀ k, k ≤ padM d.2.2.2.2 → (((List.range k).map ((fun d => d.2.2.length) ∘ fun (j : Nat) => ((1 : Int), logPlace d.1 (d.2.2.2.1 - d.2.2.2.1 % 512 + 512 * (j : Int)), chunkF d.2.2.2.2 j)))).sum = 512 * k := fun k => by
    induction k with
    | zero => intro _; rfl
    | succ k ih =>
     intro hk
     rw [List.range_succ, List.map_append, List.sum_append, ih (by omega)]
     simp only [List.map_cons, List.map_nil, Function.comp, List.sum_cons, List.sum_nil, chunkF_length _ _ (show k < padM d.2.2.2.2 by omega)]
     omega
   exact h3 _ (Nat.le_refl _)
  rw [List.map_append, List.sum_append, h2] at hs
  simp only [List.length_singleton] at hl
  simp only [List.map_cons, List.map_nil, List.sum_cons, List.sum_nil, List.length_nil] at hs
  omega
 ·rw [flushD, if_neg hc] at hl hs
  simp only [List.length_nil] at hl
  simp only [List.map_nil, List.sum_nil] at hs
  omega
def lenV : Value → Nat
 | .slice _ n _ => n
 | _ => 0
end Go.Proofs.Ytmnhflanhchdeaa
