import Derived.Test.YtjendhajichhkaaG00
import Derived.Deep.RegionWith
import Derived.Deep.DeepMust
import Derived.Deep.DeepCutAuto
import Derived.Laws.AppendOwnNone
import Derived.Deep.AppendLies
namespace Go.Proofs.Ytjendhajichhkaa
set_option linter.unusedVariables false
set_option linter.unusedSimpArgs false
set_option maxHeartbeats 4000000
set_option maxRecDepth 100000
open Go Go.RowKit
structure RowK (E : Type) where
 m : Nat
 cells : E → List Value
 len : ∀ p, (cells p).length = m
 v : E → Value
 bs : E → List Int
variable {E : Type}
def RowK.all (K : RowK E) : List E → List Value
 | [] => []
 | p :: ps => K.cells p ++ K.all ps
theorem RowK.all_length (K : RowK E) (ps : List E) : (K.all ps).length = ps.length * K.m := by
 induction ps with
 | nil => simp [RowK.all]
 | cons p ps ih => rw [RowK.all, List.length_append, K.len, ih, List.length_cons, Nat.add_mul, Nat.one_mul, Nat.add_comm]
theorem RowK.all_append (K : RowK E) (ps qs : List E) : K.all (ps ++ qs) = K.all ps ++ K.all qs := by
 induction ps with
 | nil => rfl
 | cons p ps ih => simp only [List.cons_append, RowK.all, ih, List.append_assoc]
theorem RowK.all_at (K : RowK E) (ps : List E) (j i : Nat) (h : j < ps.length) (hi : i < K.m) : (K.all ps)[j * K.m + i]? = (K.cells ps[j])[i]? := by
 induction ps generalizing j with
 | nil => simp at h
 | cons p ps ih =>
  cases j with
  | zero => rw [Nat.zero_mul, Nat.zero_add, RowK.all, List.getElem?_append_left (by rw [K.len]; exact hi)]; rfl
  | succ j =>
   rw [RowK.all, List.getElem?_append_right (by rw [K.len, Nat.add_mul]; omega), K.len, show (j + 1) * K.m + i - K.m = j * K.m + i from by rw [Nat.add_mul]; omega]
   exact ih j (by simpa using h)
structure OwnR (K : RowK E) (base : Nat) (tw tb : TypeId) (w : World) (v : Value) (ps : List E) : Prop where
 row : w.ownsRow base tw K.m v ps.length (K.all ps)
 data : ∀ p ∈ ps, Own base tb .u8 w (K.v p) (K.bs p)
 out : ∀ u ∈ ps.map K.v, Apart v u
 each : (ps.map K.v).Pairwise Apart
def footR (K : RowK E) (v : Value) (ps : List E) (b : Nat) : Prop := v.ownBlock = some b ∨ ∃ p ∈ ps, (K.v p).ownBlock = some b
section
variable {K : RowK E} {base : Nat} {tw tb : TypeId} {w w' : World} {v : Value} {ps qs : List E}
theorem OwnR.form (h : OwnR K base tw tb w v ps) :
  (v = .slice none 0 0 ∧ ps = []) ∨ ∃ g cap, v = .slice (some ⟨g, 0, none⟩) ps.length cap ∧ base ≤ g ∧ g < w.heap.size ∧ ps.length ≤ cap ∧ cap ≤ maxLen := by
 rcases h.row.2 with ⟨rfl, hn⟩ | ⟨g, cap, cur, rfl, hb, hgg, hc, hm, _⟩
 ·exact .inl ⟨rfl, List.length_eq_zero_iff.1 hn⟩
 ·exact .inr ⟨g, cap, rfl, hb, (Array.getElem?_eq_some_iff.1 hgg).1, hc, hm⟩
theorem OwnR.lt (h : OwnR K base tw tb w v ps) (b : Nat) (hb : footR K v ps b) : base ≤ b ∧ b < w.heap.size := by
 rcases hb with hb | ⟨p, hp, hb⟩
 ·exact World.ownsRow.lt h.row b hb
 ·exact (h.data p hp).lt b hb
theorem OwnR.cell {g n cap : Nat} (h : OwnR K base tw tb w (.slice (some ⟨g, 0, none⟩) n cap) ps) (hn : n = ps.length) (j i : Nat) (hj : j < ps.length) (hi : i < K.m) :
  w.cell? ⟨g, j * K.m + i, none⟩ = (K.cells ps[j])[i]? := by
 subst hn
 rw [World.ownsRow.cellAt h.row (j * K.m + i) (by have := Nat.mul_le_mul_right K.m (Nat.succ_le_of_lt hj); rw [Nat.succ_mul] at this; omega), K.all_at ps j i hj hi]
theorem OwnR.frozen {g n cap : Nat} (h : OwnR K base tw tb w (.slice (some ⟨g, 0, none⟩) n cap) ps) (hn : n = ps.length) (j : Nat) : w.frozen? ⟨g, j, none⟩ = false := by
 subst hn
 exact World.ownsRow.frozenAt h.row j
theorem OwnR.kept {R : Nat → Prop} (h : OwnR K base tw tb w v ps) (hk : Kept R w w') (hr : ∀ b, footR K v ps b → ¬ R b) : OwnR K base tw tb w' v ps :=
 ⟨hk.owns h.row (fun b hb => hr b (.inl hb)), fun p hp => (h.data p hp).kept hk (fun b hb => hr b (.inr ⟨p, hp, hb⟩)), h.out, h.each⟩
theorem OwnR.same (h : OwnR K base tw tb w v ps) (hk : Same w w') : OwnR K base tw tb w' v ps := h.kept hk (fun _ _ => id)
theorem OwnR.nil (K : RowK E) (base : Nat) (tw tb : TypeId) (w : World) : OwnR K base tw tb w (.slice none 0 0) [] :=
 ⟨World.ownsRow_nil _ _ _ _, fun _ h => by simp at h, fun _ h => by simp at h, List.Pairwise.nil⟩
theorem OwnR.set {g n cap : Nat} {pre post : List E} {p p' : E} (h : OwnR K base tw tb w (.slice (some ⟨g, 0, none⟩) n cap) (pre ++ p :: post)) (hn : n = (pre ++ p :: post).length) (i : Nat) (u : Value) (hi : i < K.m)
  (hc : K.cells p' = (K.cells p).set i u) (hv : K.v p' = K.v p) (hb : K.bs p' = K.bs p) (j : Nat) (hj : j = pre.length * K.m + i) :
  OwnR K base tw tb (w.setCell ⟨g, j, none⟩ u) (.slice (some ⟨g, 0, none⟩) n cap) (pre ++ p' :: post) := by
 subst hn hj
 have hk : Kept (fun b => b = g) w (w.setCell ⟨g, pre.length * K.m + i, none⟩ u) := Kept.setCell (Kept.refl (fun b => b = g) w) (p := ⟨g, pre.length * K.m + i, none⟩) (.inr rfl) _
 have hmap : (pre ++ p' :: post).map K.v = (pre ++ p :: post).map K.v := by simp [hv]
 refine ⟨?_, fun q hq => ?_, by rw [hmap]; exact h.out, by rw [hmap]; exact h.each⟩
 ·have hs := (World.ownsRow.stored h.row (pre.length * K.m + i) u).1
  have e : K.all (pre ++ p' :: post) = (K.all (pre ++ p :: post)).set (pre.length * K.m + i) u := by
   rw [K.all_append, K.all_append, List.set_append_right (h := by rw [K.all_length]; omega), K.all_length, Nat.add_sub_cancel_left, RowK.all, RowK.all, List.set_append_left (h := by rw [K.len]; exact hi), hc]
  rw [e]
  simpa using hs
 ·have hq' : ∃ q' ∈ pre ++ p :: post, K.v q' = K.v q ∧ K.bs q' = K.bs q := by
   rcases List.mem_append.1 hq with hq | hq
   ·exact ⟨q, by simp [hq], rfl, rfl⟩
   ·rcases List.mem_cons.1 hq with rfl | hq
    ·exact ⟨p, by simp, hv.symm, hb.symm⟩
    ·exact ⟨q, by simp [hq], rfl, rfl⟩
  obtain ⟨q', hm, e1, e2⟩ := hq'
  have hd := h.data q' hm
  rw [e1, e2] at hd
  refine hd.kept hk (fun b hb e => ?_)
  subst e
  exact h.out (K.v q) (by rw [← e1]; exact List.mem_map_of_mem hm) b rfl hb
theorem OwnR.setData {pre post : List E} {p p' : E} (h : OwnR K base tw tb w v (pre ++ p :: post)) (hk : Kept (fun b => (K.v p).ownBlock = some b) w w') (hc : K.cells p' = K.cells p) (hv : K.v p' = K.v p) (ho : Own base tb .u8 w' (K.v p) (K.bs p')) :
  OwnR K base tw tb w' v (pre ++ p' :: post) := by
 have hmap : (pre ++ p' :: post).map K.v = (pre ++ p :: post).map K.v := by simp [hv]
 have hcells : K.all (pre ++ p' :: post) = K.all (pre ++ p :: post) := by rw [K.all_append, K.all_append, RowK.all, RowK.all, hc]
 have hlen : (pre ++ p' :: post).length = (pre ++ p :: post).length := by simp
 have hea := h.each
 rw [List.map_append, List.map_cons] at hea
 obtain ⟨_, h2, h3⟩ := List.pairwise_append.1 hea
 have h4 := List.pairwise_cons.1 h2
 refine ⟨?_, fun q hq => ?_, by rw [hmap]; exact h.out, by rw [hmap]; exact h.each⟩
 ·rw [hcells, hlen]
  exact hk.owns h.row (fun b hb e => h.out (K.v p) (by simp) b hb e)
 ·rcases List.mem_append.1 hq with hq | hq
  ·exact (h.data q (by simp [hq])).kept hk (fun b hb e => h3 (K.v q) (List.mem_map_of_mem hq) (K.v p) (by simp) b hb e)
  ·rcases List.mem_cons.1 hq with rfl | hq
   ·rw [hv]; exact ho
   ·exact (h.data q (by simp [hq])).kept hk (fun b hb e => h4.1 (K.v q) (List.mem_map_of_mem hq) b e hb)
end
structure MarkK (K : RowK E) where
 on : Int → E → E
 sz : E → Nat
 v : ∀ k p, K.v (on k p) = K.v p
def markR {K : RowK E} (M : MarkK K) : Int → List E → List E
 | _, [] => []
 | k, p :: ps => M.on k p :: markR M (k + M.sz p) ps
def endR {K : RowK E} (M : MarkK K) : Int → List E → Int
 | k, [] => k
 | k, p :: ps => endR M (k + M.sz p) ps
section
variable {K : RowK E} (M : MarkK K)
theorem markR_length (k : Int) (ps : List E) : (markR M k ps).length = ps.length := by
 induction ps generalizing k with
 | nil => rfl
 | cons p ps ih => simp [markR, ih]
theorem endR_le (k : Int) (ps : List E) : k ≤ endR M k ps := by
 induction ps generalizing k with
 | nil => exact Int.le_refl _
 | cons p ps ih => have := ih (k + M.sz p); simp only [endR]; omega
theorem endR_snoc (k : Int) (ps : List E) (p : E) : endR M k (ps ++ [p]) = endR M k ps + M.sz p := by
 induction ps generalizing k with
 | nil => rfl
 | cons q ps ih => simp only [List.cons_append, endR, ih]
theorem endR_append (k : Int) (ps qs : List E) : endR M k (ps ++ qs) = endR M (endR M k ps) qs := by
 induction ps generalizing k with
 | nil => rfl
 | cons q ps ih => simp only [List.cons_append, endR, ih]
theorem markR_snoc (k : Int) (ps : List E) (p : E) : markR M k (ps ++ [p]) = markR M k ps ++ [M.on (endR M k ps) p] := by
 induction ps generalizing k with
 | nil => rfl
 | cons q ps ih => simp only [List.cons_append, markR, endR, ih]
theorem markR_at (k : Int) (ps : List E) (j : Nat) (h : j < ps.length) (h' : j < (markR M k ps).length) : (markR M k ps)[j] = M.on (endR M k (ps.take j)) ps[j] := by
 induction ps generalizing k j with
 | nil => simp at h
 | cons q ps ih =>
  cases j with
  | zero => rfl
  | succ j => simp only [markR, List.getElem_cons_succ, List.take_succ_cons, endR]; exact ih _ _ (by simpa using h) _
def partR (k : Int) (ps : List E) (j : Nat) : List E := markR M k (ps.take j) ++ ps.drop j
theorem partR_length (k : Int) (ps : List E) (j : Nat) : (partR M k ps j).length = ps.length := by simp [partR, markR_length]; omega
theorem partR_zero (k : Int) (ps : List E) : partR M k ps 0 = ps := by simp [partR, markR]
theorem partR_all (k : Int) (ps : List E) : partR M k ps ps.length = markR M k ps := by simp [partR]
theorem partR_at (k : Int) (ps : List E) (j : Nat) (h : j < ps.length) : partR M k ps j = markR M k (ps.take j) ++ ps[j] :: ps.drop (j + 1) := by
 unfold partR
 rw [List.drop_eq_getElem_cons h]
theorem partR_step (k : Int) (ps : List E) (j : Nat) (h : j < ps.length) : partR M k ps (j + 1) = markR M k (ps.take j) ++ M.on (endR M k (ps.take j)) ps[j] :: ps.drop (j + 1) := by
 unfold partR
 rw [List.take_succ_eq_append_getElem h, markR_snoc, List.append_assoc]
 rfl
theorem endR_step (k : Int) (ps : List E) (j : Nat) (h : j < ps.length) : endR M k (ps.take (j + 1)) = endR M k (ps.take j) + M.sz ps[j] := by
 rw [List.take_succ_eq_append_getElem h, endR_snoc]
theorem endR_take_le (k : Int) (ps : List E) (j : Nat) : endR M k (ps.take j) ≤ endR M k ps := by
 have h := endR_append M k (ps.take j) (ps.drop j)
 rw [List.take_append_drop] at h
 rw [h]
 exact endR_le M _ _
end
structure RdR (K : RowK E) (w : World) (v : Value) (ps : List E) : Prop where
 max : ps.length ≤ maxLen
 row : (ps = [] ∧ ∃ a c, v = .slice a 0 c) ∨ ∃ b off c, v = .slice (some ⟨b, off, none⟩) ps.length c ∧ ∀ j i, (h : j < ps.length) → i < K.m → w.cell? ⟨b, off + (j * K.m + i), none⟩ = (K.cells ps[j])[i]?
 data : ∀ p ∈ ps, Rd .u8 w (K.v p) (K.bs p)
section
variable {K : RowK E} {w w' : World} {v : Value} {ps : List E}
theorem RdR.kept {R : Nat → Prop} (h : RdR K w v ps) (hk : Kept R w w') (hr : ∀ b, footR K v ps b → ¬ R b) : RdR K w' v ps := by
 refine ⟨h.max, ?_, fun p hp => (h.data p hp).kept hk (fun b hb => hr b (.inr ⟨p, hp, hb⟩))⟩
 rcases h.row with h | ⟨b, off, c, rfl, hc⟩
 ·exact .inl h
 ·refine .inr ⟨b, off, c, rfl, fun j i hj hi => ?_⟩
  have hl := K.len ps[j]
  rw [List.getElem?_eq_getElem (by omega)]
  exact hk.cellOf (by rw [hc j i hj hi, List.getElem?_eq_getElem (by omega)]) (hr b (.inl rfl))
theorem RdR.same (h : RdR K w v ps) (hk : Same w w') : RdR K w' v ps := h.kept hk (fun _ _ => id)
theorem RdR.form (h : RdR K w v ps) : ∃ a c, v = .slice a ps.length c := by
 rcases h.row with ⟨rfl, a, c, rfl⟩ | ⟨b, off, c, rfl, _⟩ <;> exact ⟨_, _, rfl⟩
end
variable {E : Type}
theorem lay_midR (A B C B' : List Value) (h : B'.length = B.length) : lay (A ++ (B ++ C)) A.length B' = A ++ (B' ++ C) := by
 unfold lay
 rw [List.take_left, h, List.drop_append, List.drop_of_length_le (by omega), Nat.add_sub_cancel_left, List.drop_left, List.nil_append]
section
variable {K : RowK E} {base : Nat} {tw tb : TypeId} {w w' : World}
theorem OwnR.cellMid {g n cap : Nat} {pre post : List E} {p : E} (h : OwnR K base tw tb w (.slice (some ⟨g, 0, none⟩) n cap) (pre ++ p :: post)) (hn : n = (pre ++ p :: post).length) (i : Nat) (hi : i < K.m) (j : Nat) (hj : j = pre.length * K.m + i) :
  w.cell? ⟨g, j, none⟩ = (K.cells p)[i]? := by
 subst hj
 rw [h.cell hn pre.length i (by simp) hi]
 simp
theorem ownR_made {v : Value} {n : Nat} {z : Value} {zp : E} (hm : 0 < K.m) (hz : z.cells = (K.cells zp).toArray) (hv : K.v zp = .slice none 0 0) (hb : K.bs zp = []) (h : w.ownsRow base tw K.m v n (madeCells z.cells (n * K.m)).toList) :
  OwnR K base tw tb w v (List.replicate n zp) := by
 have e : K.all (List.replicate n zp) = (madeCells z.cells (n * K.m)).toList := by
  apply List.ext_getElem?
  intro j
  by_cases hj : j < n * K.m
  ·have hl : j / K.m < (List.replicate n zp).length := by rw [List.length_replicate]; exact Nat.div_lt_of_lt_mul (by rw [Nat.mul_comm]; exact hj)
   have hi : j % K.m < K.m := Nat.mod_lt _ hm
   have h2 := K.all_at _ (j / K.m) (j % K.m) hl hi
   rw [show j / K.m * K.m + j % K.m = j from by rw [Nat.mul_comm]; exact Nat.div_add_mod j K.m] at h2
   rw [h2]
   have hlen := K.len zp
   simp [madeCells, hj, hz, hlen, hi]
  ·rw [List.getElem?_eq_none (by rw [K.all_length, List.length_replicate]; omega), List.getElem?_eq_none (by simp [madeCells]; omega)]
 refine ⟨by rw [List.length_replicate, e]; exact h, fun p hp => ?_, fun u hu => ?_, ?_⟩
 ·rw [List.eq_of_mem_replicate hp, hv, hb]; exact Own.nil _ _ _ _
 ·rw [List.map_replicate] at hu
  rw [List.eq_of_mem_replicate hu, hv]
  intro b _ hb'
  simp [Value.ownBlock] at hb'
 ·rw [List.map_replicate]
  refine List.pairwise_replicate.2 (.inr ?_)
  rw [hv]
  intro b _ hb'
  simp [Value.ownBlock] at hb'
end
structure EFrame where
 page : Int
 v : Value
 bs : List Int
 pins : Int
 dirty : Bool
 rl : Int
 rf : Bool
def kFrame : RowK EFrame := ⟨6, fun p => [.int .i64 p.page, p.v, .int .i64 p.pins, .bool p.dirty, .int .i64 p.rl, .bool p.rf], fun _ => rfl, EFrame.v, EFrame.bs⟩
def EFrame.dat (p : EFrame) : Int × List Int × Int × Bool × Int × Bool := (p.page, p.bs, p.pins, p.dirty, p.rl, p.rf)
def datFrameS (ps : List EFrame) : List (Int × List Int × Int × Bool × Int × Bool) := ps.map EFrame.dat
theorem datFrameS_length (ps : List EFrame) : (datFrameS ps).length = ps.length := by simp [datFrameS]
theorem datFrameS_at {ps qs : List EFrame} (h : datFrameS ps = datFrameS qs) (k : Nat) (h1 : k < ps.length) (h2 : k < qs.length) : ps[k].dat = qs[k].dat := by
 have := congrArg (fun l => l[k]?) h
 simpa [datFrameS, h1, h2] using this
theorem Try.infoRFrame : (Try.prog.info? 32).map (fun i => (i.zero, i.size, i.bytes)) = some (some (.agg #[.int .i64 0, .slice none 0 0, .int .i64 0, .bool false, .int .i64 0, .bool false]), 6, 64) := by kernel_rfl
def sizeFrameS : List EFrame → Nat
 | [] => 0
 | p :: ps => p.bs.length + sizeFrameS ps
theorem eqFrame_own {ta tb : TypeId} (base : Nat) (page : Int) (pins : Int) (dirty : Bool) (rl : Int) (rf : Bool) (va vb : Value) (bs : List Int) (w : World) (hn : bs.length ≤ 1125899906842624) (ha : Own base ta .u8 w va bs) (hb : Own base tb .u8 w vb bs) :
  Calls Try.prog 15 #[.agg #[.int .i64 page, va, .int .i64 pins, .bool dirty, .int .i64 rl, .bool rf], .agg #[.int .i64 page, vb, .int .i64 pins, .bool dirty, .int .i64 rl, .bool rf]] w fun e w' => e = .returned (.bool true) ∧ Same w w' := by
 obtain ⟨aa, na, ca, rfl⟩ := slice_of_own ha
 obtain ⟨ab, nb, cb, rfl⟩ := slice_of_own hb
 have HA : Hid (Own base ta .u8 w (.slice aa na ca) bs) := ha
 have HB : Hid (Own base tb .u8 w (.slice ab nb cb) bs) := hb
 have b0 := (Blk.newL w [.int .i64 page, .slice aa na ca, .int .i64 pins, .bool dirty, .int .i64 rl, .bool rf] 32).same ((Kept.refl _ _).alloc (.cells #[.int .i64 page, .slice ab nb cb, .int .i64 pins, .bool dirty, .int .i64 rl, .bool rf] 32))
 have b1 := Blk.newB w [.int .i64 page, .slice aa na ca, .int .i64 pins, .bool dirty, .int .i64 rl, .bool rf] 32 [.int .i64 page, .slice ab nb cb, .int .i64 pins, .bool dirty, .int .i64 rl, .bool rf] 32
 clear ha hb
 go_enter Try.func15, Try.ntmps15
 go_wp2_with fail
 refine (eqByteS_own base _ _ bs _ hn (HA.out.same (((Kept.refl _ _).alloc _).alloc _)) (HB.out.same (((Kept.refl _ _).alloc _).alloc _))).mono ?_
 rintro e w1 ⟨rfl, n1, hw⟩
 have hk : Same ((w.alloc (.cells #[.int .i64 page, .slice aa na ca, .int .i64 pins, .bool dirty, .int .i64 rl, .bool rf] 32)).alloc (.cells #[.int .i64 page, .slice ab nb cb, .int .i64 pins, .bool dirty, .int .i64 rl, .bool rf] 32)) w1 := by rw [hw]; exact (Kept.refl _ _).drewN _
 clear hw
 have p2 := (b0.same hk).c2
 have q2 := (b1.same hk).c2
 have p3 := (b0.same hk).c3
 have q3 := (b1.same hk).c3
 have p4 := (b0.same hk).c4
 have q4 := (b1.same hk).c4
 have p5 := (b0.same hk).c5
 have q5 := (b1.same hk).c5
 go_wp2
 go_ret
 exact ⟨rfl, (((Kept.refl _ _).alloc _).alloc _).trans hk⟩
theorem eqFrameS_own {ta tb : TypeId} (base : Nat) (va vb : Value) (ps qs : List EFrame) (w : World) (hn : ps.length ≤ 1125899906842624) (hs : datFrameS ps = datFrameS qs) (hsm : ∀ p ∈ ps, p.bs.length ≤ 1125899906842624)
  (ha : OwnR kFrame base 32 ta w va ps) (hb : OwnR kFrame base 32 tb w vb qs) :
  Calls Try.prog 11 #[va, vb] w fun e w' => e = .returned (.bool true) ∧ Same w w' := by
 have hlen : qs.length = ps.length := by rw [← datFrameS_length, ← datFrameS_length, hs]
 by_cases hz : ps.length = 0
 ·obtain rfl : ps = [] := List.length_eq_zero_iff.1 hz
  obtain rfl : qs = [] := List.length_eq_zero_iff.1 hlen
  obtain ⟨aa, ca, rfl⟩ : ∃ aa ca, va = .slice aa 0 ca := by rcases ha.form with ⟨rfl, _⟩ | ⟨g, cap, rfl, _⟩ <;> exact ⟨_, _, rfl⟩
  obtain ⟨ab, cb, rfl⟩ : ∃ aa ca, vb = .slice aa 0 ca := by rcases hb.form with ⟨rfl, _⟩ | ⟨g, cap, rfl, _⟩ <;> exact ⟨_, _, rfl⟩
  clear ha hb hn hz hs
  go_enter Try.func11, Try.ntmps11
  go_wp2
  refine wp_loop_rounds 1 ?_
  rw [rounds_succ]
  go_wp2
  go_ret
  exact ⟨rfl, Kept.refl _ _⟩
 ·obtain ⟨ga, ca, rfl⟩ : ∃ g cap, va = .slice (some ⟨g, 0, none⟩) ps.length cap := by
   rcases ha.form with ⟨_, h⟩ | ⟨g, cap, h, _⟩
   ·simp [h] at hz
   ·exact ⟨g, cap, h⟩
  obtain ⟨gb, cb, rfl⟩ : ∃ g cap, vb = .slice (some ⟨g, 0, none⟩) ps.length cap := by
   rcases hb.form with ⟨_, h⟩ | ⟨g, cap, h, _⟩
   ·simp [h] at hlen; omega
   ·exact ⟨g, cap, by rw [h, hlen]⟩
  have HA : Hid (OwnR kFrame base 32 ta w (.slice (some ⟨ga, 0, none⟩) ps.length ca) ps) := ha
  have HB : Hid (OwnR kFrame base 32 tb w (.slice (some ⟨gb, 0, none⟩) ps.length cb) qs) := hb
  have HQ : Hid (qs.length = ps.length) := hlen
  have HS : Hid (datFrameS ps = datFrameS qs) := hs
  have HM : Hid (∀ p ∈ ps, p.bs.length ≤ 1125899906842624) := hsm
  clear ha hb hs hlen hsm
  generalize hl : ps.length = len at hn hz HA HB ⊢
  have HL : Hid (ps.length = len) := hl
  clear hl
  go_enter Try.func11, Try.ntmps11
  go_wp2
  go_loopw [5] (fun i wr => ∃ (k : Nat), k ≤ len ∧ i = .int .i64 k ∧ Hid (Same w wr)) (fun i _ => len - (intOf i).toNat)
  case atStart => exact ⟨0, Nat.zero_le _, rfl, Kept.refl _ _⟩
  case round =>
   obtain ⟨k, hk, rfl, HK⟩ := hrel
   by_cases hlt : k < len
   ·have hlp : k < ps.length := by rw [HL.out]; exact hlt
    have hlq : k < qs.length := by rw [HQ.out]; exact hlp
    have hoa := HA.out.same HK.out
    have hob := HB.out.same HK.out
    have hdd := datFrameS_at HS.out k hlp hlq
    simp only [EFrame.dat, Prod.mk.injEq] at hdd
    obtain ⟨d0, d1, d2, d3, d4, d5⟩ := hdd
    have s3 := HM.out _ (List.getElem_mem hlp)
    have ha0 : wr.cell? ⟨ga, k * 6, none⟩ = some (.int .i64 ps[k].page) := hoa.cell HL.out.symm k 0 hlp (by decide)
    have ha1 : wr.cell? ⟨ga, k * 6 + 1, none⟩ = some (ps[k].v) := hoa.cell HL.out.symm k 1 hlp (by decide)
    have ha2 : wr.cell? ⟨ga, k * 6 + 2, none⟩ = some (.int .i64 ps[k].pins) := hoa.cell HL.out.symm k 2 hlp (by decide)
    have ha3 : wr.cell? ⟨ga, k * 6 + 3, none⟩ = some (.bool ps[k].dirty) := hoa.cell HL.out.symm k 3 hlp (by decide)
    have ha4 : wr.cell? ⟨ga, k * 6 + 4, none⟩ = some (.int .i64 ps[k].rl) := hoa.cell HL.out.symm k 4 hlp (by decide)
    have ha5 : wr.cell? ⟨ga, k * 6 + 5, none⟩ = some (.bool ps[k].rf) := hoa.cell HL.out.symm k 5 hlp (by decide)
    have hb0 : wr.cell? ⟨gb, k * 6, none⟩ = some (.int .i64 ps[k].page) := by rw [d0]; exact hob.cell (by rw [HQ.out, HL.out]) k 0 hlq (by decide)
    have hb1 : wr.cell? ⟨gb, k * 6 + 1, none⟩ = some (qs[k].v) := hob.cell (by rw [HQ.out, HL.out]) k 1 hlq (by decide)
    have hb2 : wr.cell? ⟨gb, k * 6 + 2, none⟩ = some (.int .i64 ps[k].pins) := by rw [d2]; exact hob.cell (by rw [HQ.out, HL.out]) k 2 hlq (by decide)
    have hb3 : wr.cell? ⟨gb, k * 6 + 3, none⟩ = some (.bool ps[k].dirty) := by rw [d3]; exact hob.cell (by rw [HQ.out, HL.out]) k 3 hlq (by decide)
    have hb4 : wr.cell? ⟨gb, k * 6 + 4, none⟩ = some (.int .i64 ps[k].rl) := by rw [d4]; exact hob.cell (by rw [HQ.out, HL.out]) k 4 hlq (by decide)
    have hb5 : wr.cell? ⟨gb, k * 6 + 5, none⟩ = some (.bool ps[k].rf) := by rw [d5]; exact hob.cell (by rw [HQ.out, HL.out]) k 5 hlq (by decide)
    have HDA : Hid (Own base ta .u8 wr ps[k].v ps[k].bs) := hoa.data _ (List.getElem_mem hlp)
    have HDB : Hid (Own base tb .u8 wr qs[k].v ps[k].bs) := by have := hob.data _ (List.getElem_mem hlq); rw [d1]; exact this
    clear d0 d1 d2 d3 d4 d5 hoa hob
    go_wp2_with fail
    go_region_with (go_at_call 15; refine (eqFrame_own base ps[k].page ps[k].pins ps[k].dirty ps[k].rl ps[k].rf ps[k].v qs[k].v ps[k].bs _ s3 (by exact HDA.out.same (Kept.refl _ _).drew) (by exact HDB.out.same (Kept.refl _ _).drew)).mono ?_; rintro e w1 ⟨rfl, hk1⟩)
    all_goals
     have HK1 : Hid (Same w w1) := HK.out.drew.trans hk1
     clear hk1 ha0 hb0 ha1 hb1 ha2 hb2 ha3 hb3 ha4 hb4 ha5 hb5 HDA HDB
     go_wp2
     go_roundw
     case rel => exact ⟨k + 1, by omega, by go_num, HK1⟩
     case measure => simp [intOf]; omega
   ·go_wp2
    go_ret
    exact ⟨rfl, HK.out⟩
def mFrame : MarkK kFrame := ⟨fun k p => ⟨k, p.v, marks (k + 1) p.bs.length, k + 1 + (p.bs.length : Int), (k + 1 + (p.bs.length : Int) + 1) % 3 == 0, k + 1 + (p.bs.length : Int) + 1 + 1, (k + 1 + (p.bs.length : Int) + 1 + 1 + 1) % 3 == 0⟩, fun p => 5 + p.bs.length, fun _ _ => rfl⟩
theorem endFrameS_size (k : Int) (ps : List EFrame) : endR mFrame k ps = k + 5 * ps.length + sizeFrameS ps := by
 induction ps generalizing k with
 | nil => simp [endR, sizeFrameS]
 | cons p ps ih =>
  have h : ((mFrame.sz p : Nat) : Int) = 5 + (p.bs.length : Int) := by simp [mFrame]
  simp only [endR, ih, sizeFrameS, List.length_cons]
  omega
theorem markFrameS_own {tb : TypeId} (base : Nat) (va : Value) (ps : List EFrame) (k0 : Int) (w : World) (h0 : 0 ≤ k0) (h1 : endR mFrame k0 ps ≤ 1125899906842624) (hn : ps.length ≤ 1125899906842624)
  (ha : OwnR kFrame base 32 tb w va ps) :
  Calls Try.prog 12 #[va, .int .i64 k0] w fun e w' => e = .returned (.int .i64 (endR mFrame k0 ps)) ∧ OwnR kFrame base 32 tb w' va (markR mFrame k0 ps) ∧ Kept (footR kFrame va ps) w w' := by
 by_cases hz : ps.length = 0
 ·obtain rfl : ps = [] := List.length_eq_zero_iff.1 hz
  obtain ⟨aa, ca, rfl⟩ : ∃ aa ca, va = .slice aa 0 ca := by rcases ha.form with ⟨rfl, _⟩ | ⟨g, cap, rfl, _⟩ <;> exact ⟨_, _, rfl⟩
  have HA : Hid (OwnR kFrame base 32 tb w (.slice aa 0 ca) []) := ha
  clear ha hn hz h1
  go_enter Try.func12, Try.ntmps12
  go_wp2
  refine wp_loop_rounds 1 ?_
  rw [rounds_succ]
  go_wp2
  go_ret
  exact ⟨by simp [endR], by simpa [markR] using HA.out, Kept.refl _ _⟩
 ·obtain ⟨g, cap, rfl, hb, hlt, _, _⟩ : ∃ g cap, va = .slice (some ⟨g, 0, none⟩) ps.length cap ∧ base ≤ g ∧ g < w.heap.size ∧ ps.length ≤ cap ∧ cap ≤ maxLen := by
   rcases ha.form with ⟨_, rfl⟩ | h
   ·simp at hz
   ·exact h
  have H1 : Hid (endR mFrame k0 ps ≤ 1125899906842624) := h1
  have HA0 : Hid (OwnR kFrame base 32 tb w (.slice (some ⟨g, 0, none⟩) ps.length cap) ps) := ha
  clear h1 ha
  generalize hl : ps.length = len at *
  have HL : Hid (ps.length = len) := hl
  clear hl
  go_enter Try.func12, Try.ntmps12
  go_wp2
  go_loopw [1, 5] (fun v i wr => ∃ (k : Nat) (c : Int), k ≤ len ∧ i = .int .i64 k ∧ v = .int .i64 c ∧ Hid (c = endR mFrame k0 (ps.take k)) ∧ Hid (OwnR kFrame base 32 tb wr (.slice (some ⟨g, 0, none⟩) len cap) (partR mFrame k0 ps k)) ∧ Hid (Kept (footR kFrame (.slice (some ⟨g, 0, none⟩) len cap) ps) w wr)) (fun _ i _ => len - (intOf i).toNat)
  case atStart => exact ⟨0, k0, Nat.zero_le _, rfl, rfl, rfl, by rw [partR_zero]; exact HA0.out, Kept.refl _ _⟩
  case round =>
   obtain ⟨k, c, hk, rfl, rfl, HC, HO, HK⟩ := hrel
   by_cases hlt : k < len
   ·have hlp : k < ps.length := by rw [HL.out]; exact hlt
    have hc0' : k0 ≤ c := by rw [HC.out]; exact endR_le _ _ _
    have hst := endR_step mFrame k0 ps k hlp
    have hc1' : c + 5 + ps[k].bs.length ≤ 1125899906842624 := by have h2 := endR_take_le mFrame k0 ps (k + 1); have h3 := H1.out; have h4 := HC.out; simp only [mFrame] at hst; simp only [mFrame] at h2 h3 h4; omega
    have HST := (show Hid (endR mFrame k0 (ps.take (k + 1)) = endR mFrame k0 (ps.take k) + (mFrame.sz ps[k] : Nat)) from hst)
    clear hst
    have HP0 : Hid (OwnR kFrame base 32 tb wr (.slice (some ⟨g, 0, none⟩) len cap) (markR mFrame k0 (ps.take k) ++ ps[k] :: ps.drop (k + 1))) := by
     have h := HO.out
     rw [partR_at _ _ _ _ hlp] at h
     exact h
    have HLN : ∀ e : EFrame, Hid (len = (markR mFrame k0 (ps.take k) ++ e :: ps.drop (k + 1)).length) := fun e => by have hl := HL.out; simp [Hid, markR_length]; omega
    have HPL : Hid ((markR mFrame k0 (ps.take k)).length = k) := by have hl := HL.out; simp [Hid, markR_length]; omega
    have hc0 : wr.cell? ⟨g, k * 6, none⟩ = some (.int .i64 ps[k].page) := HP0.out.cellMid (HLN _).out 0 (by decide) _ (by rw [HPL.out]; rfl)
    have hc1 : wr.cell? ⟨g, k * 6 + 1, none⟩ = some (ps[k].v) := HP0.out.cellMid (HLN _).out 1 (by decide) _ (by rw [HPL.out]; rfl)
    have hc2 : wr.cell? ⟨g, k * 6 + 2, none⟩ = some (.int .i64 ps[k].pins) := HP0.out.cellMid (HLN _).out 2 (by decide) _ (by rw [HPL.out]; rfl)
    have hc3 : wr.cell? ⟨g, k * 6 + 3, none⟩ = some (.bool ps[k].dirty) := HP0.out.cellMid (HLN _).out 3 (by decide) _ (by rw [HPL.out]; rfl)
    have hc4 : wr.cell? ⟨g, k * 6 + 4, none⟩ = some (.int .i64 ps[k].rl) := HP0.out.cellMid (HLN _).out 4 (by decide) _ (by rw [HPL.out]; rfl)
    have hc5 : wr.cell? ⟨g, k * 6 + 5, none⟩ = some (.bool ps[k].rf) := HP0.out.cellMid (HLN _).out 5 (by decide) _ (by rw [HPL.out]; rfl)
    have fr := HO.out.frozen (by rw [partR_length]; exact HL.out.symm)
    have HP1 : Hid (OwnR kFrame base 32 tb (wr.setCell ⟨g, k * 6, none⟩ (.int .i64 (c))) (.slice (some ⟨g, 0, none⟩) len cap) (markR mFrame k0 (ps.take k) ++ ⟨c, ps[k].v, ps[k].bs, ps[k].pins, ps[k].dirty, ps[k].rl, ps[k].rf⟩ :: ps.drop (k + 1))) := HP0.out.set (p' := ⟨c, ps[k].v, ps[k].bs, ps[k].pins, ps[k].dirty, ps[k].rl, ps[k].rf⟩) (HLN _).out 0 (.int .i64 (c)) (by decide) rfl rfl rfl (k * 6) (by first | (rw [HPL.out]; done) | (rw [HPL.out]; rfl))
    go_wp2_with fail
    refine (markByteS_own base ps[k].v ps[k].bs (c + 1) _ (by omega) (by omega) (by omega) (HP1.out.data ⟨c, ps[k].v, ps[k].bs, ps[k].pins, ps[k].dirty, ps[k].rl, ps[k].rf⟩ (by simp))).mono ?_
    rintro e w1 ⟨rfl, ho, hk1⟩
    have HQ0 : Hid (OwnR kFrame base 32 tb w1 (.slice (some ⟨g, 0, none⟩) len cap) (markR mFrame k0 (ps.take k) ++ ⟨c, ps[k].v, marks (c + 1) ps[k].bs.length, ps[k].pins, ps[k].dirty, ps[k].rl, ps[k].rf⟩ :: ps.drop (k + 1))) := HP1.out.setData (p' := (⟨c, ps[k].v, marks (c + 1) ps[k].bs.length, ps[k].pins, ps[k].dirty, ps[k].rl, ps[k].rf⟩ : EFrame)) hk1 rfl rfl ho
    have hd2 : w1.cell? ⟨g, k * 6 + 2, none⟩ = some (.int .i64 ps[k].pins) := HQ0.out.cellMid (HLN _).out 2 (by decide) _ (by rw [HPL.out]; rfl)
    have hd3 : w1.cell? ⟨g, k * 6 + 3, none⟩ = some (.bool ps[k].dirty) := HQ0.out.cellMid (HLN _).out 3 (by decide) _ (by rw [HPL.out]; rfl)
    have hd4 : w1.cell? ⟨g, k * 6 + 4, none⟩ = some (.int .i64 ps[k].rl) := HQ0.out.cellMid (HLN _).out 4 (by decide) _ (by rw [HPL.out]; rfl)
    have hd5 : w1.cell? ⟨g, k * 6 + 5, none⟩ = some (.bool ps[k].rf) := HQ0.out.cellMid (HLN _).out 5 (by decide) _ (by rw [HPL.out]; rfl)
    have fr1 : ∀ j, w1.frozen? ⟨g, j, none⟩ = false := fun j => HQ0.out.frozen (HLN _).out j
    have HQ1 : Hid (OwnR kFrame base 32 tb (w1.setCell ⟨g, k * 6 + 2, none⟩ (.int .i64 (c + 1 + (ps[k].bs.length : Int)))) (.slice (some ⟨g, 0, none⟩) len cap) (markR mFrame k0 (ps.take k) ++ ⟨c, ps[k].v, marks (c + 1) ps[k].bs.length, c + 1 + (ps[k].bs.length : Int), ps[k].dirty, ps[k].rl, ps[k].rf⟩ :: ps.drop (k + 1))) := HQ0.out.set (p' := ⟨c, ps[k].v, marks (c + 1) ps[k].bs.length, c + 1 + (ps[k].bs.length : Int), ps[k].dirty, ps[k].rl, ps[k].rf⟩) (HLN _).out 2 (.int .i64 (c + 1 + (ps[k].bs.length : Int))) (by decide) rfl rfl rfl (k * 6 + 2) (by first | (rw [HPL.out]; done) | (rw [HPL.out]; rfl))
    have HQ2 : Hid (OwnR kFrame base 32 tb ((w1.setCell ⟨g, k * 6 + 2, none⟩ (.int .i64 (c + 1 + (ps[k].bs.length : Int)))).setCell ⟨g, k * 6 + 3, none⟩ (.bool ((c + 1 + (ps[k].bs.length : Int) + 1) % 3 == 0))) (.slice (some ⟨g, 0, none⟩) len cap) (markR mFrame k0 (ps.take k) ++ ⟨c, ps[k].v, marks (c + 1) ps[k].bs.length, c + 1 + (ps[k].bs.length : Int), (c + 1 + (ps[k].bs.length : Int) + 1) % 3 == 0, ps[k].rl, ps[k].rf⟩ :: ps.drop (k + 1))) := HQ1.out.set (p' := ⟨c, ps[k].v, marks (c + 1) ps[k].bs.length, c + 1 + (ps[k].bs.length : Int), (c + 1 + (ps[k].bs.length : Int) + 1) % 3 == 0, ps[k].rl, ps[k].rf⟩) (HLN _).out 3 (.bool ((c + 1 + (ps[k].bs.length : Int) + 1) % 3 == 0)) (by decide) rfl rfl rfl (k * 6 + 3) (by first | (rw [HPL.out]; done) | (rw [HPL.out]; rfl))
    have HQ3 : Hid (OwnR kFrame base 32 tb (((w1.setCell ⟨g, k * 6 + 2, none⟩ (.int .i64 (c + 1 + (ps[k].bs.length : Int)))).setCell ⟨g, k * 6 + 3, none⟩ (.bool ((c + 1 + (ps[k].bs.length : Int) + 1) % 3 == 0))).setCell ⟨g, k * 6 + 4, none⟩ (.int .i64 (c + 1 + (ps[k].bs.length : Int) + 1 + 1))) (.slice (some ⟨g, 0, none⟩) len cap) (markR mFrame k0 (ps.take k) ++ ⟨c, ps[k].v, marks (c + 1) ps[k].bs.length, c + 1 + (ps[k].bs.length : Int), (c + 1 + (ps[k].bs.length : Int) + 1) % 3 == 0, c + 1 + (ps[k].bs.length : Int) + 1 + 1, ps[k].rf⟩ :: ps.drop (k + 1))) := HQ2.out.set (p' := ⟨c, ps[k].v, marks (c + 1) ps[k].bs.length, c + 1 + (ps[k].bs.length : Int), (c + 1 + (ps[k].bs.length : Int) + 1) % 3 == 0, c + 1 + (ps[k].bs.length : Int) + 1 + 1, ps[k].rf⟩) (HLN _).out 4 (.int .i64 (c + 1 + (ps[k].bs.length : Int) + 1 + 1)) (by decide) rfl rfl rfl (k * 6 + 4) (by first | (rw [HPL.out]; done) | (rw [HPL.out]; rfl))
    have HQ4 : Hid (OwnR kFrame base 32 tb ((((w1.setCell ⟨g, k * 6 + 2, none⟩ (.int .i64 (c + 1 + (ps[k].bs.length : Int)))).setCell ⟨g, k * 6 + 3, none⟩ (.bool ((c + 1 + (ps[k].bs.length : Int) + 1) % 3 == 0))).setCell ⟨g, k * 6 + 4, none⟩ (.int .i64 (c + 1 + (ps[k].bs.length : Int) + 1 + 1))).setCell ⟨g, k * 6 + 5, none⟩ (.bool ((c + 1 + (ps[k].bs.length : Int) + 1 + 1 + 1) % 3 == 0))) (.slice (some ⟨g, 0, none⟩) len cap) (markR mFrame k0 (ps.take k) ++ ⟨c, ps[k].v, marks (c + 1) ps[k].bs.length, c + 1 + (ps[k].bs.length : Int), (c + 1 + (ps[k].bs.length : Int) + 1) % 3 == 0, c + 1 + (ps[k].bs.length : Int) + 1 + 1, (c + 1 + (ps[k].bs.length : Int) + 1 + 1 + 1) % 3 == 0⟩ :: ps.drop (k + 1))) := HQ3.out.set (p' := ⟨c, ps[k].v, marks (c + 1) ps[k].bs.length, c + 1 + (ps[k].bs.length : Int), (c + 1 + (ps[k].bs.length : Int) + 1) % 3 == 0, c + 1 + (ps[k].bs.length : Int) + 1 + 1, (c + 1 + (ps[k].bs.length : Int) + 1 + 1 + 1) % 3 == 0⟩) (HLN _).out 5 (.bool ((c + 1 + (ps[k].bs.length : Int) + 1 + 1 + 1) % 3 == 0)) (by decide) rfl rfl rfl (k * 6 + 5) (by first | (rw [HPL.out]; done) | (rw [HPL.out]; rfl))
    have HO3 : Hid (OwnR kFrame base 32 tb ((((w1.setCell ⟨g, k * 6 + 2, none⟩ (.int .i64 (c + 1 + (ps[k].bs.length : Int)))).setCell ⟨g, k * 6 + 3, none⟩ (.bool ((c + 1 + (ps[k].bs.length : Int) + 1) % 3 == 0))).setCell ⟨g, k * 6 + 4, none⟩ (.int .i64 (c + 1 + (ps[k].bs.length : Int) + 1 + 1))).setCell ⟨g, k * 6 + 5, none⟩ (.bool ((c + 1 + (ps[k].bs.length : Int) + 1 + 1 + 1) % 3 == 0))) (.slice (some ⟨g, 0, none⟩) len cap) (partR mFrame k0 ps (k + 1))) := by
     rw [partR_step _ _ _ _ hlp, ← HC.out]
     exact HQ4.out
    have HK3 : Hid (Kept (footR kFrame (.slice (some ⟨g, 0, none⟩) len cap) ps) w ((((w1.setCell ⟨g, k * 6 + 2, none⟩ (.int .i64 (c + 1 + (ps[k].bs.length : Int)))).setCell ⟨g, k * 6 + 3, none⟩ (.bool ((c + 1 + (ps[k].bs.length : Int) + 1) % 3 == 0))).setCell ⟨g, k * 6 + 4, none⟩ (.int .i64 (c + 1 + (ps[k].bs.length : Int) + 1 + 1))).setCell ⟨g, k * 6 + 5, none⟩ (.bool ((c + 1 + (ps[k].bs.length : Int) + 1 + 1 + 1) % 3 == 0)))) := ((((((HK.out.setCell (p := ⟨g, k * 6, none⟩) (.inr (.inl rfl)) _).trans (hk1.mono fun b _ hb => .inr ⟨ps[k], List.getElem_mem _, hb⟩)).setCell (p := ⟨g, k * 6 + 2, none⟩) (.inr (.inl rfl)) _).setCell (p := ⟨g, k * 6 + 3, none⟩) (.inr (.inl rfl)) _).setCell (p := ⟨g, k * 6 + 4, none⟩) (.inr (.inl rfl)) _).setCell (p := ⟨g, k * 6 + 5, none⟩) (.inr (.inl rfl)) _)
    clear ho hk1 HO HP0 HP1 hc0 hc1 hc2 hc3 hc4 hc5
    go_wp2
    go_roundw
    case rel =>
     exact ⟨k + 1, c + 1 + (ps[k].bs.length : Int) + 1 + 1 + 1 + 1, by omega, by go_num, rfl, by unfold Hid; rw [HST.out, ← HC.out]; simp only [mFrame]; omega, HO3, HK3⟩
    case measure => simp [intOf]; omega
   ·go_wp2
    go_ret
    obtain rfl : k = len := by omega
    have hl := HL.out
    have hc := HC.out
    have ho := HO.out
    rw [← hl, List.take_length] at hc
    rw [← hl, partR_all, hl] at ho
    exact ⟨ret_int hc, ho, HK.out⟩
theorem heldFrameS_own {tb : TypeId} (base : Nat) (va : Value) (ps : List EFrame) (k0 : Int) (w : World) (h0 : 0 ≤ k0) (h1 : endR mFrame k0 ps ≤ 1125899906842624) (hn : ps.length ≤ 1125899906842624)
  (ha : OwnR kFrame base 32 tb w va (markR mFrame k0 ps)) :
  Calls Try.prog 13 #[va, .int .i64 k0] w fun e w' => e = .returned (.int .i64 (endR mFrame k0 ps)) ∧ w' = w := by
 by_cases hz : ps.length = 0
 ·obtain rfl : ps = [] := List.length_eq_zero_iff.1 hz
  obtain ⟨aa, ca, rfl⟩ : ∃ aa ca, va = .slice aa 0 ca := by rcases ha.form with ⟨rfl, _⟩ | ⟨g, cap, rfl, _⟩ <;> exact ⟨_, _, rfl⟩
  clear ha hn hz h1
  go_enter Try.func13, Try.ntmps13
  go_wp2
  refine wp_loop_rounds 1 ?_
  rw [rounds_succ]
  go_wp2
  go_ret
  exact ⟨by simp [endR], rfl⟩
 ·obtain ⟨g, cap, rfl⟩ : ∃ g cap, va = .slice (some ⟨g, 0, none⟩) ps.length cap := by
   rcases ha.form with ⟨_, h⟩ | ⟨g, cap, h, _⟩
   ·have := congrArg List.length h; simp [markR_length] at this; simp [this] at hz
   ·exact ⟨g, cap, by rw [h, markR_length]⟩
  have H1 : Hid (endR mFrame k0 ps ≤ 1125899906842624) := h1
  have HA : Hid (OwnR kFrame base 32 tb w (.slice (some ⟨g, 0, none⟩) ps.length cap) (markR mFrame k0 ps)) := ha
  clear h1 ha
  generalize hl : ps.length = len at hn hz HA ⊢
  have HL : Hid (ps.length = len) := hl
  clear hl
  go_enter Try.func13, Try.ntmps13
  go_wp2
  go_loop [1, 5] (fun v i => ∃ (k : Nat) (c : Int), k ≤ len ∧ i = .int .i64 k ∧ v = .int .i64 c ∧ Hid (c = endR mFrame k0 (ps.take k))) (fun _ i => len - (intOf i).toNat)
  case atStart => exact ⟨0, k0, Nat.zero_le _, rfl, rfl, rfl⟩
  case round =>
   obtain ⟨k, c, hk, rfl, rfl, HC⟩ := hrel
   by_cases hlt : k < len
   ·have hlp : k < ps.length := by rw [HL.out]; exact hlt
    have hlm : k < (markR mFrame k0 ps).length := by rw [markR_length]; exact hlp
    have hc0 : w.cell? ⟨g, k * 6, none⟩ = some (.int .i64 (c)) := by have h := HA.out.cell (by rw [markR_length]; exact HL.out.symm) k 0 hlm (by decide); rw [markR_at _ _ _ _ hlp, ← HC.out] at h; exact h
    have hc1 : w.cell? ⟨g, k * 6 + 1, none⟩ = some (ps[k].v) := by have h := HA.out.cell (by rw [markR_length]; exact HL.out.symm) k 1 hlm (by decide); rw [markR_at _ _ _ _ hlp, ← HC.out] at h; exact h
    have hc2 : w.cell? ⟨g, k * 6 + 2, none⟩ = some (.int .i64 (c + 1 + (ps[k].bs.length : Int))) := by have h := HA.out.cell (by rw [markR_length]; exact HL.out.symm) k 2 hlm (by decide); rw [markR_at _ _ _ _ hlp, ← HC.out] at h; exact h
    have hc3 : w.cell? ⟨g, k * 6 + 3, none⟩ = some (.bool ((c + 1 + (ps[k].bs.length : Int) + 1) % 3 == 0)) := by have h := HA.out.cell (by rw [markR_length]; exact HL.out.symm) k 3 hlm (by decide); rw [markR_at _ _ _ _ hlp, ← HC.out] at h; exact h
    have hc4 : w.cell? ⟨g, k * 6 + 4, none⟩ = some (.int .i64 (c + 1 + (ps[k].bs.length : Int) + 1 + 1)) := by have h := HA.out.cell (by rw [markR_length]; exact HL.out.symm) k 4 hlm (by decide); rw [markR_at _ _ _ _ hlp, ← HC.out] at h; exact h
    have hc5 : w.cell? ⟨g, k * 6 + 5, none⟩ = some (.bool ((c + 1 + (ps[k].bs.length : Int) + 1 + 1 + 1) % 3 == 0)) := by have h := HA.out.cell (by rw [markR_length]; exact HL.out.symm) k 5 hlm (by decide); rw [markR_at _ _ _ _ hlp, ← HC.out] at h; exact h
    have hd := HA.out.data _ (List.getElem_mem hlm)
    rw [markR_at _ _ _ _ hlp, ← HC.out] at hd
    have HD : Hid (Own base tb .u8 w ps[k].v (marks (c + 1) ps[k].bs.length)) := hd
    have hc0' : k0 ≤ c := by rw [HC.out]; exact endR_le _ _ _
    have hst := endR_step mFrame k0 ps k hlp
    have hc1' : c + 5 + ps[k].bs.length ≤ 1125899906842624 := by have h2 := endR_take_le mFrame k0 ps (k + 1); have h3 := H1.out; have h4 := HC.out; simp only [mFrame] at hst; simp only [mFrame] at h2 h3 h4; omega
    have HST := (show Hid (endR mFrame k0 (ps.take (k + 1)) = endR mFrame k0 (ps.take k) + (mFrame.sz ps[k] : Nat)) from hst)
    clear hd hst
    go_wp2_with fail
    refine (heldByteS_own base ps[k].v ps[k].bs.length (c + 1) _ (by omega) (by omega) (by omega) HD.out).mono ?_
    rintro e w1 ⟨rfl, rfl⟩
    go_wp2
    go_round
    case rel => exact ⟨k + 1, c + 1 + (ps[k].bs.length : Int) + 1 + 1 + 1 + 1, by omega, by go_num, rfl, by unfold Hid; rw [HST.out, ← HC.out]; simp only [mFrame]; omega⟩
    case measure => simp [intOf]; omega
   ·go_wp2
    go_ret
    obtain rfl : k = len := by omega
    have hl := HL.out
    have hc := HC.out
    rw [← hl, List.take_length] at hc
    exact ⟨ret_int hc, rfl⟩
theorem OwnR.slice {E : Type} {K : RowK E} {base : Nat} {tw tb : TypeId} {w : World} {v : Value} {ps : List E} (h : OwnR K base tw tb w v ps) : ∃ a n c, v = .slice a n c := by
 rcases h.form with ⟨rfl, _⟩ | ⟨g, cap, rfl, _⟩ <;> exact ⟨_, _, _, rfl⟩
theorem eqPool_own {ta tb : TypeId} (base : Nat) (hand : Int) (va vb : Value) (ps qs : List EFrame) (w : World) (hn : ps.length ≤ 1125899906842624) (hs : datFrameS ps = datFrameS qs) (hsm : ∀ p ∈ ps, p.bs.length ≤ 1125899906842624)
  (ha : OwnR kFrame base 32 ta w va ps) (hb : OwnR kFrame base 32 tb w vb qs) :
  Calls Try.prog 6 #[.agg #[va, .int .i64 hand], .agg #[vb, .int .i64 hand]] w fun e w' => e = .returned (.bool true) ∧ Same w w' := by
 obtain ⟨aa, na, ca, rfl⟩ := ha.slice
 obtain ⟨ab, nb, cb, rfl⟩ := hb.slice
 have HA := (show Hid (OwnR kFrame base 32 ta w (.slice aa na ca) ps) from ha)
 have HB := (show Hid (OwnR kFrame base 32 tb w (.slice ab nb cb) qs) from hb)
 have b0 := (Blk.newL w [.slice aa na ca, .int .i64 hand] 24).same ((Kept.refl _ _).alloc (.cells #[.slice ab nb cb, .int .i64 hand] 24))
 have b1 := Blk.newB w [.slice aa na ca, .int .i64 hand] 24 [.slice ab nb cb, .int .i64 hand] 24
 clear ha hb
 go_enter Try.func6, Try.ntmps6
 go_wp2_with fail
 refine (eqFrameS_own base _ _ ps qs _ hn hs hsm (HA.out.same (((Kept.refl _ _).alloc _).alloc _)) (HB.out.same (((Kept.refl _ _).alloc _).alloc _))).mono ?_
 rintro e w1 ⟨rfl, hk⟩
 have p1 := (b0.same hk).c1
 have q1 := (b1.same hk).c1
 go_wp2
 go_ret
 exact ⟨rfl, (((Kept.refl _ _).alloc _).alloc _).trans hk⟩
theorem markPool_own {tb : TypeId} (hand : Int) (va : Value) (ps : List EFrame) (k0 : Int) (w : World) (h0 : 0 ≤ k0) (h1 : endR mFrame k0 ps ≤ 1125899906842624) (hn : ps.length ≤ 1125899906842624) (ha : OwnR kFrame 0 32 tb w va ps) :
  Calls Try.prog 7 #[.agg #[va, .int .i64 hand], .int .i64 k0] w fun e w' => e = .returned (.int .i64 (endR mFrame k0 ps)) ∧ OwnR kFrame 0 32 tb w' va (markR mFrame k0 ps) ∧ Kept (footR kFrame va ps) w w' := by
 obtain ⟨aa, na, ca, rfl⟩ := ha.slice
 have hm := markFrameS_own 0 (.slice aa na ca) ps k0 (w.alloc (.cells #[.slice aa na ca, .int .i64 hand] 24)) h0 h1 hn (ha.same ((Kept.refl _ _).alloc _))
 obtain ⟨En, hE⟩ : ∃ En, endR mFrame k0 ps = En := ⟨_, rfl⟩
 rw [hE] at hm ⊢
 clear ha h1 hE
 go_enter Try.func7, Try.ntmps7
 go_wp2_with fail
 refine hm.mono ?_
 clear hm
 rintro e w1 ⟨rfl, ho, hk⟩
 have HO := (show Hid (OwnR kFrame 0 32 tb w1 (.slice aa na ca) (markR mFrame k0 ps)) from ho)
 have HK := (show Hid (Kept (footR kFrame (.slice aa na ca) ps) w w1) from ((Kept.refl _ _).alloc _).trans hk)
 clear ho hk
 go_wp2
 go_ret
 exact ⟨rfl, HO.out, HK.out⟩
theorem heldPool_own {tb : TypeId} (hand : Int) (va : Value) (ps : List EFrame) (k0 : Int) (w : World) (h0 : 0 ≤ k0) (h1 : endR mFrame k0 ps ≤ 1125899906842624) (hn : ps.length ≤ 1125899906842624) (ha : OwnR kFrame 0 32 tb w va (markR mFrame k0 ps)) :
  Calls Try.prog 8 #[.agg #[va, .int .i64 hand], .int .i64 k0] w fun e w' => e = .returned (.int .i64 (endR mFrame k0 ps)) ∧ Same w w' := by
 obtain ⟨aa, na, ca, rfl⟩ := ha.slice
 have hm := heldFrameS_own 0 (.slice aa na ca) ps k0 (w.alloc (.cells #[.slice aa na ca, .int .i64 hand] 24)) h0 h1 hn (ha.same ((Kept.refl _ _).alloc _))
 have hl := endR_le mFrame k0 ps
 obtain ⟨En, hE⟩ : ∃ En, endR mFrame k0 ps = En := ⟨_, rfl⟩
 rw [hE] at hm hl ⊢
 have hp : ¬ En < 0 := by omega
 clear ha h1 hE
 go_enter Try.func8, Try.ntmps8
 go_wp2_with fail
 refine hm.mono ?_
 clear hm
 rintro e w1 ⟨rfl, rfl⟩
 go_wp2
 go_ret
 exact ⟨rfl, (Kept.refl _ _).alloc _⟩
theorem sizeFrameS_le {m : Nat} (ps : List EFrame) (h : ∀ p ∈ ps, p.bs.length ≤ m) : sizeFrameS ps ≤ ps.length * m := by
 induction ps with
 | nil => simp [sizeFrameS]
 | cons p ps ih =>
  have h1 := h p (by simp)
  have h2 := ih (fun q hq => h q (by simp [hq]))
  simp only [sizeFrameS, List.length_cons, Nat.add_mul, Nat.one_mul]
  omega
def SmallF (L : List (Int × List Int × Int × Bool × Int × Bool)) : Prop := L.length ≤ 1048576 ∧ ∀ x ∈ L, x.2.1.length ≤ 1048576
theorem SmallF.of {L : List (Int × List Int × Int × Bool × Int × Bool)} (h : SmallF L) (qs : List EFrame) (hq : datFrameS qs = L) : qs.length ≤ 1048576 ∧ (∀ p ∈ qs, p.bs.length ≤ 1048576) ∧ 0 ≤ endR mFrame 1 qs ∧ endR mFrame 1 qs ≤ 1125899906842624 := by
 subst hq
 have h1 : qs.length ≤ 1048576 := by have := h.1; rwa [datFrameS_length] at this
 have h2 : ∀ p ∈ qs, p.bs.length ≤ 1048576 := fun p hp => h.2 p.dat (List.mem_map.2 ⟨p, hp, rfl⟩)
 have h3 := sizeFrameS_le qs h2
 rw [endFrameS_size]
 exact ⟨h1, h2, by omega, by omega⟩
variable {E : Type}
section
variable {K : RowK E} {base : Nat} {tw tb : TypeId} {w w' : World} {v : Value} {qs : List E}
theorem OwnR.snoc {g n cap : Nat} (p : E) (h : OwnR K base tw tb w v qs) (hu : Own base tb .u8 w (K.v p) (K.bs p)) (huf : ∀ b, (K.v p).ownBlock = some b → ¬ footR K v qs b)
  (hg : w.grownBy w' v.ownBlock) (hrow : w'.ownsRow base tw K.m (.slice (some ⟨g, 0, none⟩) (n + 1) cap) (n + 1) (K.all qs ++ K.cells p)) (hn : n = qs.length) (hat : v.ownBlock = some g ∨ g = w.heap.size) :
  OwnR K base tw tb w' (.slice (some ⟨g, 0, none⟩) (n + 1) cap) (qs ++ [p]) := by
 have hk : Kept (fun b => v.ownBlock = some b) w w' := Kept.of_grown hg (fun k e => e)
 have hul : ∀ b, (K.v p).ownBlock = some b → b < w.heap.size := fun b hb => (hu.lt b hb).2
 have hgu : (K.v p).ownBlock ≠ some g := fun e => by
  rcases hat with hat | hat
  ·exact huf g e (.inl hat)
  ·have := hul g e; omega
 have hgp : ∀ q ∈ qs, (K.v q).ownBlock ≠ some g := fun q hp e => by
  rcases hat with hat | hat
  ·exact h.out (K.v q) (List.mem_map_of_mem hp) g hat e
  ·have := (h.lt g (.inr ⟨q, hp, e⟩)).2; omega
 refine ⟨?_, fun q hp => ?_, fun x hx => ?_, ?_⟩
 ·have e : K.all (qs ++ [p]) = K.all qs ++ K.cells p := by rw [K.all_append]; simp [RowK.all]
  rw [e, List.length_append, List.length_singleton, ← hn]
  exact hrow
 ·rcases List.mem_append.1 hp with hp | hp
  ·exact (h.data q hp).kept hk (fun b hb e => h.out (K.v q) (List.mem_map_of_mem hp) b e hb)
  ·simp at hp
   subst hp
   exact hu.kept hk (fun b hb e => huf b hb (.inl e))
 ·rw [List.map_append, List.mem_append] at hx
  intro b hb
  have hb' : b = g := by simpa [Value.ownBlock] using hb.symm
  subst hb'
  rcases hx with hx | hx
  ·obtain ⟨q, hp, rfl⟩ := List.mem_map.1 hx
   exact hgp q hp
  ·simp at hx
   subst hx
   exact hgu
 ·rw [List.map_append]
  refine List.pairwise_append.2 ⟨h.each, by simp, fun x hx y hy => ?_⟩
  obtain ⟨q, hp, rfl⟩ := List.mem_map.1 hx
  simp at hy
  subst hy
  exact fun b hb hb' => huf b hb' (.inr ⟨q, hp, hb⟩)
theorem footR_snoc {g n cap : Nat} {p : E} (b : Nat) (hb : footR K (.slice (some ⟨g, 0, none⟩) n cap) (qs ++ [p]) b) : b = g ∨ footR K v qs b ∨ (K.v p).ownBlock = some b := by
 rcases hb with hb | ⟨q, hp, hb⟩
 ·exact .inl (by simpa [Value.ownBlock] using hb.symm)
 ·rcases List.mem_append.1 hp with hp | hp
  ·exact .inr (.inl (.inr ⟨q, hp, hb⟩))
  ·simp at hp
   subst hp
   exact .inr (.inr hb)
theorem footR_nil (b : Nat) : ¬ footR K (.slice none 0 0) [] b := by
 rintro (h | ⟨p, hp, _⟩)
 ·simp [Value.ownBlock] at h
 ·simp at hp
end
def inB (v a b : Int) : Bool := decide (a ≤ v) && decide (v ≤ b)
set_option maxRecDepth 100000 in
theorem l4In_any (v a b : Int) (w : World) : Calls Try.prog 9 #[.int .i64 v, .int .i64 a, .int .i64 b] w fun e w' => e = .returned (.bool (inB v a b)) ∧ Same w w' := by
 unfold inB
 by_cases h : a ≤ v
 ·by_cases h2 : v ≤ b
  ·go_enter Try.func9, Try.ntmps9
   go_wp2
   go_ret
   exact ⟨by simp [h, h2], Kept.refl _ _⟩
  ·go_enter Try.func9, Try.ntmps9
   go_wp2
   go_ret
   exact ⟨by simp [h]; try omega, Kept.refl _ _⟩
 ·go_enter Try.func9, Try.ntmps9
  go_wp2
  go_ret
  exact ⟨by rw [show decide (a ≤ v) = false from by simp; omega]; rfl, Kept.refl _ _⟩
end Go.Proofs.Ytjendhajichhkaa
