import Derived.Test.YtbilnlgjpchgiaaDoorG01
import Derived.Test.YtbilnlgjpchgiaaDoorG00
import Derived.WalkKit
import Derived.OrdersHeld
import Derived.Deep.RegionHeld3
import Derived.Deep.AppendLies
import Derived.Laws.BytesArg
import Derived.Deep.CutBlock
import Derived.Deep.DeepCutAuto
import Derived.Lib.ItoaNum
import Derived.Lib.Join
namespace Go.Proofs.YtbilnlgjpchgiaaDoor
set_option linter.unusedVariables false
set_option linter.unusedSimpArgs false
set_option maxRecDepth 100000
set_option maxHeartbeats 4000000
open Go Go.RowKit Go.ChangeShapes Go.WideShapes Go.ChangeAt
section
variable {P : Program} {ops : Array Oper} {Q : Exit → Act → World → Prop} {md : Region.Mode} {S : World → Prop} {s : Nat}
def wpAnyV (P : Program) (md : Region.Mode) (ops : Array Oper) (Q : Exit → Act → World → Prop) (S : World → Prop) (s : Nat) : Nat → Array Bool → Act → World → Prop
 | 0, listed, a, w => Region.ready md ops listed = [] ∧ Q .normal a w
 | fuel + 1, listed, a, w =>
  (Region.ready md ops listed = [] → Q .normal a w) ∧
  ∀ i ∈ Region.ready md ops listed, wpOp P ops Q i (fun a' w' => (i ≠ s → S w') ∧ wpAnyV P md ops Q S s fuel (listed.setIfInBounds i true) a' w') a w
theorem wpAny_of_V : ∀ (fuel : Nat) (listed : Array Bool) (a : Act) (w : World), wpAnyV P md ops Q S s fuel listed a w → wpAny P md ops Q fuel listed a w
 | 0, _, _, _, h => h
 | fuel + 1, _, _, _, h => ⟨h.1, fun i hi => wpOp_mono (fun a' w' h' => wpAny_of_V fuel _ a' w' h'.2) (h.2 i hi)⟩
def waits (md : Region.Mode) (ops : Array Oper) (s i : Nat) : Bool :=
 match ops[s]? with
 | some o => o.after.any fun e => Region.binds md e && e.on == i
 | none => true
theorem waits_spec {i : Nat} (h : waits md ops s i = true) {os : Oper} (ho : ops[s]? = some os) (hn : ∀ e ∈ os.after, Region.binds md e = true → e.on ≠ i) : False := by
 unfold waits at h
 rw [ho] at h
 obtain ⟨e, he, hb⟩ := Array.any_eq_true'.1 h
 simp only [Bool.and_eq_true, beq_iff_eq] at hb
 exact hn e he hb.1 hb.2
theorem ready_apart {listed : Array Bool} {i j : Nat} (hi : i ∈ Region.ready md ops listed) (hj : j ∈ Region.ready md ops listed) {oj : Oper} (hoj : ops[j]? = some oj) :
  ∀ e ∈ oj.after, Region.binds md e = true → e.on ≠ i := by
 rintro e he hb rfl
 obtain ⟨_, o, ho, hall⟩ := mem_ready.1 hj
 obtain rfl : o = oj := by rw [hoj] at ho; exact (Option.some.inj ho).symm
 have hyes := hall e he hb
 have hno := (mem_ready.1 hi).1
 by_cases hl : e.on < listed.size <;> simp_all
def Loose (md : Region.Mode) (ops : Array Oper) (i : Nat) (oi : Oper) (listed : Array Bool) : Prop :=
 ∀ j oj, ops[j]? = some oj → j ≠ i → listed.getD j true = false → (∀ e ∈ oj.after, Region.binds md e = true → e.on ≠ i) → oi.apart ops oj = true
theorem Loose.on {i j : Nat} {oi : Oper} {listed : Array Bool} (h : Loose md ops i oi listed) (hj : listed.getD j true = false) : Loose md ops i oi (listed.setIfInBounds j true) := fun k ok hk hki hun hno =>
 h k ok hk hki (if e : j = k then e ▸ hj else (getD_set_ne true e) ▸ hun) hno
theorem wpAnyV_first {i : Nat} {oi : Oper} {v : Value} (hi : ops[i]? = some oi) (hsel : ∀ (j : Nat) (o : Oper) cs b, ops[j]? = some o → o.op ≠ .select cs b) (hs : waits md ops s i = true)
  (hQ : ∀ c a w, Q (.panic c) (a.put oi.dst v) w → Q (.panic c) a w) (fuel : Nat) : ∀ (listed : Array Bool) (a : Act) (w : World), Loose md ops i oi listed → i ∈ Region.ready md ops listed → YieldsIf P ops S oi v a → S w →
   wpAnyV P md ops Q S s fuel (listed.setIfInBounds i true) (a.put oi.dst v) w → wpAnyV P md ops Q S s (fuel + 1) listed a w := by
 induction fuel with
 | zero =>
  intro listed a w _ hr hy hS H
  constructor
  ·intro h0; simp [h0] at hr
  ·intro j hj
   by_cases e : j = i
   ·exact e ▸ hy.wpOp hi hS ⟨fun _ => hS, H⟩
   ·have := ready_mono hj e
    simp [H.1] at this
 | succ fuel ih =>
  intro listed a w hl hr hy hS H
  constructor
  ·intro h0; simp [h0] at hr
  ·intro j hj
   by_cases e : j = i
   ·exact e ▸ hy.wpOp hi hS ⟨fun _ => hS, H⟩
   ·obtain ⟨hun, oj, hoj, _⟩ := mem_ready.1 hj
    have hap := ready_apart hr hj hoj
    have hjs : j ≠ s := fun es => waits_spec hs (es ▸ hoj) hap
    refine wpOp_mono ?_ (wpOp_putIf hoj (hl j oj hoj e hun hap) (fun cs b => hsel i oi cs b hi) (fun cs b => hsel j oj cs b hoj) hQ hy (H.2 j (ready_mono hj e)))
    rintro a' w' ⟨hy', hS', hw'⟩
    exact ⟨hS', ih _ a' w' (hl.on hun) (ready_mono hr (Ne.symm e)) hy' (hS' hjs) (by rw [Array.setIfInBounds_comm _ _ e]; exact hw')⟩
theorem wpAnyV_take {i : Nat} {oi : Oper} {v : Value} {fuel : Nat} {listed : Array Bool} {a : Act} {w : World} (d : Option Tmp) (hi : ops[i]? = some oi) (hd : oi.dst = d)
  (hsl : Region.noSelect ops = true) (hf : Region.free md ops listed i = true) (hr : (Region.ready md ops listed).contains i = true) (hs : waits md ops s i = true)
  (hQ : ∀ c a w, Q (.panic c) (a.put d v) w → Q (.panic c) a w) (hy : YieldsIf P ops S oi v a) (hS : S w)
  (h : wpAnyV P md ops Q S s fuel (listed.setIfInBounds i true) (a.put d v) w) : wpAnyV P md ops Q S s (fuel + 1) listed a w := by
 subst hd
 exact wpAnyV_first hi (Region.noSelect_spec hsl) hs hQ fuel listed a w (Region.free_spec hi hf) (by simpa using hr) hy hS h
theorem sA {α : Type} {l : List α} {i : Nat} {a : α} : l.toArray.setIfInBounds i a = (l.set i a).toArray := List.setIfInBounds_toArray ..
theorem s0 {α : Type} {x : α} {xs : List α} {a : α} : (x :: xs).set 0 a = a :: xs := List.set_cons_zero
theorem sS {α : Type} {x : α} {xs : List α} {i : Nat} {a : α} : (x :: xs).set (i + 1) a = x :: xs.set i a := List.set_cons_succ
theorem tk (i d : Nat) {oi : Oper} {v : Value} {fuel : Nat} {listed : Array Bool} {a a' : Act} {w : World} (hS : S w)
  (h : wpAnyV P md ops Q S s fuel (listed.setIfInBounds i true) a' w) (hi : ops[i]? = some oi := by rfl) (hg : Region.wanted oi (yielded ops a.tmps) = true := by rfl) (hd : oi.dst = some d := by rfl)
  (hy : ∀ w, S w → (execOp a.eval oi).run P w = .ok (.value v) w := by intro w hSw; (try dsimp (config := { zetaDelta := true }) only at hSw); go_simp; (try with_reducible rfl))
  (hsl : Region.noSelect ops = true := by kernel_rfl) (hf : Region.free md ops listed i = true := by kernel_rfl) (hr : (Region.ready md ops listed).contains i = true := by kernel_rfl) (hs : waits md ops s i = true := by kernel_rfl)
  (hQ : ∀ c a w, Q (.panic c) (a.put (some d) v) w → Q (.panic c) a w := by exact fun _ _ _ h => h)
  (ha : a.put (some d) v = a' := by first | (simp only [Act.put, sA, s0, sS]; done) | (simp only [Act.put, sA, s0, sS]; rfl) | rfl) : wpAnyV P md ops Q S s (fuel + 1) listed a w :=
 wpAnyV_take (some d) hi hd hsl hf hr hs hQ (Or.inl ⟨hg, hy⟩) hS (ha ▸ h)
theorem tkV (i d : Nat) (v : Value) {oi : Oper} {fuel : Nat} {listed : Array Bool} {a a' : Act} {w : World} (hS : S w)
  (h : wpAnyV P md ops Q S s fuel (listed.setIfInBounds i true) a' w) (hi : ops[i]? = some oi := by rfl) (hg : Region.wanted oi (yielded ops a.tmps) = true := by rfl) (hd : oi.dst = some d := by rfl)
  (hy : ∀ w, S w → (execOp a.eval oi).run P w = .ok (.value v) w := by intro w hSw; (try dsimp (config := { zetaDelta := true }) only at hSw); go_simp; (try omega))
  (hsl : Region.noSelect ops = true := by kernel_rfl) (hf : Region.free md ops listed i = true := by kernel_rfl) (hr : (Region.ready md ops listed).contains i = true := by kernel_rfl) (hs : waits md ops s i = true := by kernel_rfl)
  (hQ : ∀ c a w, Q (.panic c) (a.put (some d) v) w → Q (.panic c) a w := by exact fun _ _ _ h => h)
  (ha : a.put (some d) v = a' := by first | (simp only [Act.put, sA, s0, sS]; done) | (simp only [Act.put, sA, s0, sS]; rfl) | rfl) : wpAnyV P md ops Q S s (fuel + 1) listed a w :=
 wpAnyV_take (some d) hi hd hsl hf hr hs hQ (Or.inl ⟨hg, hy⟩) hS (ha ▸ h)
theorem tkS (i d : Nat) {oi : Oper} {fuel : Nat} {listed : Array Bool} {a a' : Act} {w : World} (hS : S w)
  (h : wpAnyV P md ops Q S s fuel (listed.setIfInBounds i true) a' w) (hi : ops[i]? = some oi := by rfl) (hg : Region.wanted oi (yielded ops a.tmps) = false := by rfl) (hd : oi.dst = some d := by rfl)
  (hsl : Region.noSelect ops = true := by kernel_rfl) (hf : Region.free md ops listed i = true := by kernel_rfl) (hr : (Region.ready md ops listed).contains i = true := by kernel_rfl) (hs : waits md ops s i = true := by kernel_rfl)
  (hQ : ∀ c a w, Q (.panic c) (a.put (some d) undef) w → Q (.panic c) a w := by exact fun _ _ _ h => h)
  (ha : a.put (some d) undef = a' := by first | (simp only [Act.put, sA, s0, sS]; done) | (simp only [Act.put, sA, s0, sS]; rfl) | rfl) : wpAnyV P md ops Q S s (fuel + 1) listed a w :=
 wpAnyV_take (some d) hi hd hsl hf hr hs hQ (Or.inr ⟨hg, rfl⟩) hS (ha ▸ h)
theorem wpAnyV_one {i : Nat} {o : Oper} {fuel : Nat} {listed : Array Bool} {a : Act} {w : World} (hr : Region.ready md ops listed = [i]) (ho : ops[i]? = some o)
  (h : ∀ K' : Act → World → Prop, Shut (∀ a w, (i ≠ s → S w) → wpAnyV P md ops Q S s fuel (listed.setIfInBounds i true) a w → K' a w) → if Region.wanted o (yielded ops a.tmps) = true then Oper.wp P o a w K' Q else K' (a.put o.dst undef) w) :
  wpAnyV P md ops Q S s (fuel + 1) listed a w := by
 constructor
 ·intro h0; simp [hr] at h0
 ·intro j hj
  rw [hr] at hj
  obtain rfl : j = i := by simpa using hj
  exact wpOp_step ho (fun K' hK => h K' (fun a w hS hW => hK a w ⟨hS, hW⟩))
theorem wpAnyV_two {i j : Nat} {o o' : Oper} {fuel : Nat} {listed : Array Bool} {a : Act} {w : World} (hr : Region.ready md ops listed = [i, j]) (ho : ops[i]? = some o) (ho' : ops[j]? = some o')
  (h : ∀ K' : Act → World → Prop, Shut (∀ a w, (i ≠ s → S w) → wpAnyV P md ops Q S s fuel (listed.setIfInBounds i true) a w → K' a w) → if Region.wanted o (yielded ops a.tmps) = true then Oper.wp P o a w K' Q else K' (a.put o.dst undef) w)
  (h' : ∀ K' : Act → World → Prop, Shut (∀ a w, (j ≠ s → S w) → wpAnyV P md ops Q S s fuel (listed.setIfInBounds j true) a w → K' a w) → if Region.wanted o' (yielded ops a.tmps) = true then Oper.wp P o' a w K' Q else K' (a.put o'.dst undef) w) :
  wpAnyV P md ops Q S s (fuel + 1) listed a w := by
 constructor
 ·intro h0; simp [hr] at h0
 ·intro k hk
  rw [hr] at hk
  simp only [List.mem_cons, List.not_mem_nil, or_false] at hk
  rcases hk with rfl | rfl
  ·exact wpOp_step ho (fun K' hK => h K' (fun a w hS hW => hK a w ⟨hS, hW⟩))
  ·exact wpOp_step ho' (fun K' hK => h' K' (fun a w hS hW => hK a w ⟨hS, hW⟩))
theorem wpAnyV_done {fuel : Nat} {listed : Array Bool} {a : Act} {w : World} (hr : Region.ready md ops listed = []) (h : Q .normal a w) : wpAnyV P md ops Q S s fuel listed a w := by
 cases fuel with
 | zero => exact ⟨hr, h⟩
 | succ n => exact ⟨fun _ => h, by rw [hr]; simp⟩
theorem wp_region_V {id : Nat} {a : Act} {w : World} (S : World → Prop) (s n : Nat) (hn : ops.size = n) (hm : P.follows .mixedOrders = true) (h : wpAnyV P .any ops Q S s n (Array.replicate n false) a w.drew) : (Code.region id ops true).wp P Q a w := by
 subst hn
 exact wp_region_any hm (wpAny_of_V _ _ _ _ h)
end
structure Grew (w : World) (v : Value) (w' : World) (v' : Value) : Prop where
 kept : Kept (fun b => v.ownBlock = some b) w w'
 own : ∀ b, v'.ownBlock = some b → v.ownBlock = some b ∨ w.heap.size ≤ b
theorem Grew.trans {w w1 w2 : World} {v v1 v2 : Value} (h : Grew w v w1 v1) (k : Grew w1 v1 w2 v2) : Grew w v w2 v2 := by
 refine ⟨h.kept.next k.kept (fun i hi e => (h.own i e).resolve_right (by omega)), fun b hb => ?_⟩
 rcases k.own b hb with h1 | h1
 ·exact h.own b h1
 ·have := h.kept.size
  exact .inr (by omega)
theorem Grew.of_same {w w' : World} {v : Value} (h : Same w w') : Grew w v w' v := ⟨h.mono (fun _ _ e => absurd e id), fun b hb => .inl hb⟩
theorem Grew.refl (w : World) (v : Value) : Grew w v w v := Grew.of_same (Kept.refl _ _)
theorem Grew.size {w w' : World} {v v' : Value} (h : Grew w v w' v') : w.heap.size ≤ w'.heap.size := h.kept.size
theorem Grew.same {w0 w w' : World} {v v' : Value} (h : Grew w v w' v') (h0 : Same w0 w) (hv : ∀ b, v.ownBlock = some b → w0.heap.size ≤ b) : Same w0 w' :=
 h0.next h.kept (fun i hi e => by have := hv i e; omega)
theorem Grew.fresh {w0 w w' : World} {v v' : Value} (h : Grew w v w' v') (h0 : Same w0 w) (hv : ∀ b, v.ownBlock = some b → w0.heap.size ≤ b) : ∀ b, v'.ownBlock = some b → w0.heap.size ≤ b := fun b hb => by
 rcases h.own b hb with h1 | h1
 ·exact hv b h1
 ·have := h0.size
  omega
theorem run_app {ty : TypeId} {w : World} {v x : Value} {bs ys : List Int} (ho : Own 0 5 .u8 w v bs) (hx : Rd .u8 w x ys) (hl : bs.length + ys.length ≤ 1099511627776) :
  ∃ a n c w', (Builtin.append_ #[34, 34] ty #[v, x]).run Tryd.prog w = .ok (.slice a n c) w' ∧ Own 0 5 .u8 w' (.slice a n c) (bs ++ ys) ∧ Grew w v w' (.slice a n c) := by
 obtain ⟨i0, hi, hz0, hz1, hz2⟩ := info_parts Tryd.infoByte'
 have some_case : ∀ (ad : Addr) (c : Nat), (∀ j u, (vals .u8 ys)[j]? = some u → w.cell? (ad.add j) = some u) → ∃ a n c' w', (Builtin.append_ #[34, 34] ty #[v, .slice (some ad) ys.length c]).run Tryd.prog w = .ok (.slice a n c') w' ∧ Own 0 5 .u8 w' (.slice a n c') (bs ++ ys) ∧ Grew w v w' (.slice a n c') := fun ad c hn => by
  obtain ⟨v', w', hr, h2, h3, _, h5⟩ := run_append_own_at (P := Tryd.prog) w 0 34 ty 5 i0 (.int .u8 0) 1 1 Tryd.underlying34 hi hz0 hz1 hz2 rfl (by decide) v bs.length (vals .u8 bs) ho ad ys.length c (vals .u8 ys) (by simp [vals_length]) hn vals_one (by unfold maxLen; omega) (by omega) (Nat.zero_le _)
  have h2' : Own 0 5 .u8 w' v' (bs ++ ys) := by unfold Own; simpa [vals] using h2
  obtain ⟨a, n, c', rfl⟩ := slice_of_own h2'
  refine ⟨a, n, c', w', hr, h2', Kept.of_grown h3 (fun k e => e), fun b hb => ?_⟩
  rcases h5 with h5 | h5
  ·exact .inl (by rw [← h5]; exact hb)
  ·rw [h5] at hb
   exact .inr (by have := Option.some.inj hb; omega)
 rcases hx.2 with ⟨rfl, a, c, rfl, hac⟩ | ⟨b, off, c, rfl, _, hc⟩
 ·cases a with
  | none =>
   obtain rfl : c = 0 := hac rfl
   have hr := run_append_owned_none (P := Tryd.prog) (w := w) 0 34 ty 5 i0 1 Tryd.underlying34 hi v bs.length (vals .u8 bs) ho
   obtain ⟨a, n, c', rfl⟩ := slice_of_own ho
   exact ⟨a, n, c', w, hr, by rw [List.append_nil]; exact ho, Grew.refl _ _⟩
  | some ad => exact some_case ad c (fun j u h => by simp [vals] at h)
 ·exact some_case ⟨b, off, none⟩ c (news_of hc)
theorem wp_app {w : World} {o : Oper} {a : Act} {K : Act → World → Prop} {Q : Exit → Act → World → Prop} (s x : Operand)
  (ho : o.op = .call { callee := .builtin .append, args := #[s, x], argTypes := #[34, 34] })
  (v xv : Value) (bs ys : List Int) (hs : a.eval s = v) (hx : a.eval x = xv) (hown : Own 0 5 .u8 w v bs) (hrd : Rd .u8 w xv ys) (hl : bs.length + ys.length ≤ 1099511627776)
  (h : ∀ a' n' c' w', Own 0 5 .u8 w' (.slice a' n' c') (bs ++ ys) → Grew w v w' (.slice a' n' c') → K (a.put o.dst (.slice a' n' c')) w') : o.wp Tryd.prog a w K Q := by
 obtain ⟨a', n', c', w', hr, h2, h3⟩ := run_app (ty := o.type) hown hrd hl
 unfold Oper.wp execOp
 simp only [ho, resolve, invoke, builtin, Sem.run_bind, Sem.run_pure, Result.andThen_ok, List.map_toArray, List.map_cons, List.map_nil, hs, hx, hr]
 exact h a' n' c' w' h2 h3
theorem wpList_app {w : World} {ops : Array Oper} {rest : List Oper} {o : Oper} {a : Act} {Q : Exit → Act → World → Prop} (hgd : o.guard = none) (s x : Operand)
  (ho : o.op = .call { callee := .builtin .append, args := #[s, x], argTypes := #[34, 34] })
  (v xv : Value) (bs ys : List Int) (hs : a.eval s = v) (hx : a.eval x = xv) (hown : Own 0 5 .u8 w v bs) (hrd : Rd .u8 w xv ys) (hl : bs.length + ys.length ≤ 1099511627776)
  (h : ∀ a' n' c' w', Own 0 5 .u8 w' (.slice a' n' c') (bs ++ ys) → Grew w v w' (.slice a' n' c') → wpList Tryd.prog ops Q rest (a.put o.dst (.slice a' n' c')) w') : wpList Tryd.prog ops Q (o :: rest) a w :=
 wpList_plain hgd fun _ hK => wp_app s x ho v xv bs ys hs hx hown hrd hl fun a' n' c' w' h2 h3 => hK _ _ (h a' n' c' w' h2 h3)
theorem step_app {w : World} {ops : Array Oper} {o : Oper} {a : Act} {K : Act → World → Prop} {Q : Exit → Act → World → Prop} {E : Prop} (hgd : o.guard = none) (s x : Operand)
  (ho : o.op = .call { callee := .builtin .append, args := #[s, x], argTypes := #[34, 34] })
  (v xv : Value) (bs ys : List Int) (hs : a.eval s = v) (hx : a.eval x = xv) (hown : Own 0 5 .u8 w v bs) (hrd : Rd .u8 w xv ys) (hl : bs.length + ys.length ≤ 1099511627776)
  (h : ∀ a' n' c' w', Own 0 5 .u8 w' (.slice a' n' c') (bs ++ ys) → Grew w v w' (.slice a' n' c') → K (a.put o.dst (.slice a' n' c')) w') :
  if Region.wanted o (yielded ops a.tmps) = true then Oper.wp Tryd.prog o a w K Q else E := by
 have hw : Region.wanted o (yielded ops a.tmps) = true := by simp [Region.wanted, hgd]
 rw [if_pos hw]
 exact wp_app s x ho v xv bs ys hs hx hown hrd hl h
theorem rd_one (w : World) (x : Int) : Rd .u8 (w.alloc (.cells #[.int .u8 x] 5)) (.slice (some ⟨w.heap.size, 0, none⟩) 1 1) [x] := by
 have h : Blk (w.alloc (.cells #[.int .u8 x] 5)) w.heap.size 5 (vals .u8 [x]) := Blk.new w #[.int .u8 x] 5
 exact (h.own (by unfold maxLen; simp)).rd
def hexD (x : Int) : Int := if x < 10 then 48 + x else 87 + x
def hexB : List Int → List Int
 | [] => []
 | b :: r => hexD (b / 16) :: hexD (b % 16) :: hexB r
theorem hexB_app (xs ys : List Int) : hexB (xs ++ ys) = hexB xs ++ hexB ys := by
 induction xs with
 | nil => rfl
 | cons x xs ih => simp [hexB, ih]
theorem hexB_length (xs : List Int) : (hexB xs).length = 2 * xs.length := by
 induction xs with
 | nil => rfl
 | cons x xs ih => simp [hexB, ih]; omega
theorem hexB_take {bs : List Int} {k : Nat} (h : k < bs.length) : hexB (bs.take (k + 1)) = hexB (bs.take k) ++ [hexD (bs[k] / 16), hexD (bs[k] % 16)] := by
 rw [List.take_succ_eq_append_getElem h, hexB_app]
 rfl
def encH (bs : List Int) : List Int := if bs.length = 0 then [45] else hexB bs
theorem rd_two (w : World) (x y : Int) : Rd .u8 (w.alloc (.cells #[.int .u8 x, .int .u8 y] 5)) (.slice (some ⟨w.heap.size, 0, none⟩) 2 2) [x, y] := by
 have h : Blk (w.alloc (.cells #[.int .u8 x, .int .u8 y] 5)) w.heap.size 5 (vals .u8 [x, y]) := Blk.new w #[.int .u8 x, .int .u8 y] 5
 exact (h.own (by unfold maxLen; simp)).rd
theorem own_empty (w : World) (e : TypeId) : Own 0 e .u8 (w.alloc (Obj.cells #[] e)) (.slice (some ⟨w.heap.size, 0, none⟩) 0 0) [] :=
 ⟨by simp [vals], .inr ⟨w.heap.size, 0, #[], rfl, Nat.zero_le _, by unfold World.alloc; exact Array.getElem?_push_size, Nat.le_refl _, Nat.zero_le _, by simp [vals]⟩⟩
theorem conv_own {w : World} {v : Value} {bs : List Int} {a : Option Addr} {n c : Nat} (ho : Own 0 5 .u8 w (.slice a n c) bs) (h0 : 0 < bs.length) : (convert 34 9 (.slice a n c)).run Tryd.prog w = .ok (.string (strOfNums bs)) w := by
 have hr := ho.rd
 rcases hr.2 with ⟨h, _⟩ | ⟨b, off, c', e1, _, hx⟩
 ·rw [h] at h0; simp at h0
 ·injection e1 with e1 e2 e3
  subst e1 e2 e3
  exact run_convert_bytes_arg w 34 5 Tryd.underlying34 Tryd.underlying5 b off _ _ bs rfl hx 9 Tryd.underlying9
theorem idx_hex (q : Int) (h0 : 0 ≤ q) (h1 : q < 16) (a : Act) (x : Operand) (hx : a.eval x = .int .u8 q) (o : Oper) (ho : o.op = .index 9 (.const (.string ⟨#[48, 49, 50, 51, 52, 53, 54, 55, 56, 57, 97, 98, 99, 100, 101, 102]⟩)) x) (w : World) : (execOp a.eval o).run Tryd.prog w = .ok (.value (.int .u8 (hexD q))) w := by
 have h : q = 0 ∨ q = 1 ∨ q = 2 ∨ q = 3 ∨ q = 4 ∨ q = 5 ∨ q = 6 ∨ q = 7 ∨ q = 8 ∨ q = 9 ∨ q = 10 ∨ q = 11 ∨ q = 12 ∨ q = 13 ∨ q = 14 ∨ q = 15 := by omega
 unfold execOp
 rw [ho]
 dsimp only
 rw [hx]
 rcases h with rfl | rfl | rfl | rfl | rfl | rfl | rfl | rfl | rfl | rfl | rfl | rfl | rfl | rfl | rfl | rfl
 all_goals rfl
theorem and15 {x : Int} (h : 0 ≤ x ∧ x ≤ 255) : bits BinOp.and IntKind.u8 x 15 = x % 16 := by
 obtain ⟨n, rfl⟩ : ∃ n : Nat, x = n := ⟨x.toNat, by omega⟩
 have h2 : ∀ n : Fin 256, bits BinOp.and IntKind.u8 ((n.val : Nat) : Int) 15 = ((n.val : Nat) : Int) % 16 := by decide
 exact h2 ⟨n, by omega⟩
theorem specHex_any (v : Value) (bs : List Int) (w : World) (hB : IsB bs) (hn : bs.length ≤ 1048576) (hv : Rd .u8 w v bs) :
  Calls Tryd.prog 36 #[v] w fun e w' => e = .returned (.string (strOfNums (encH bs))) ∧ Same w w' := by
 obtain ⟨av, cv, rfl⟩ := hv.form
 by_cases h0 : bs.length = 0
 ·have h0' : ((bs.length : Int) == 0) = true := by simp [h0]
  go_enter Tryd.func36, Tryd.ntmps36
  go_wp2
  go_ret
  exact ⟨by rw [encH, if_pos h0]; rfl, Kept.refl _ _⟩
 have h0' : ((bs.length : Int) == 0) = false := beq_eq_false_iff_ne.2 (by omega)
 obtain ⟨b, off, rfl, hx⟩ : ∃ b off, av = some ⟨b, off, none⟩ ∧ ∀ i, i < bs.length → w.cell? ⟨b, off + i, none⟩ = some (.int .u8 (bs.getD i 0)) := by
  rcases hv.2 with ⟨h, _⟩ | ⟨b, off, c', e1, _, hx⟩
  ·rw [h] at h0; simp at h0
  ·injection e1 with e1 e2 e3
   exact ⟨b, off, e1, hx⟩
 have HX := hid hx
 have hbl : b < w.heap.size := World.block_lt_of_cell? w _ (hx 0 (by omega))
 clear hx hv
 go_enter Tryd.func36, Tryd.ntmps36
 go_wp2
 go_loopw [3, 4] (fun o i wr => ∃ (k : Nat) (a : Option Addr) (n c : Nat), k ≤ bs.length ∧ o = .slice a n c ∧ i = .int .i64 (k : Int) ∧ Hid (Own 0 5 .u8 wr (.slice a n c) (hexB (bs.take k))) ∧ Hid (∀ b, (Value.slice a n c).ownBlock = some b → w.heap.size ≤ b) ∧ Hid (Same w wr)) (fun _ i _ => bs.length - (intOf i).toNat)
 case atStart => exact ⟨0, _, _, _, Nat.zero_le _, rfl, rfl, own_empty w _, fun b hb => by simp [Value.ownBlock] at hb; omega, (Kept.refl _ _).alloc _⟩
 case round =>
  obtain ⟨k, a, n, c, hk, rfl, rfl, HO, HF, HK⟩ := hrel
  by_cases hlt : k < bs.length
  ·have hki : (k : Int) < (bs.length : Int) := by omega
   obtain ⟨x, hx⟩ : ∃ x, bs[k] = x := ⟨_, rfl⟩
   have hc : w.cell? ⟨b, off + k, none⟩ = some (.int .u8 x) := by rw [HX.out k hlt, List.getD_eq_getElem?_getD, List.getElem?_eq_getElem hlt, hx]; rfl
   have hxb : 0 ≤ x ∧ x ≤ 255 := by rw [← hx]; exact hB _ (List.getElem_mem hlt)
   have HXK := hid hx
   have HC := (show Hid (∀ wx, Same w wx → wx.cell? ⟨b, off + k, none⟩ = some (.int .u8 x)) from fun wx h => h.cellOf hc id)
   clear hc hx
   go_upto_region 7 with fail
   refine wp_region_V (fun wx : World => wx.cell? ⟨b, off + k, none⟩ = some (.int .u8 x)) 99 16 rfl (by kernel_rfl) ?_
   have hS : (fun wx : World => wx.cell? ⟨b, off + k, none⟩ = some (.int .u8 x)) wr.drew := HC.out _ HK.out.drew
   have hq : 0 ≤ x / 16 ∧ x / 16 < 16 := by omega
   have hr : 0 ≤ x % 16 ∧ x % 16 < 16 := by omega
   have t1 : IntKind.u8.wrap (x.tdiv 16) = x / 16 := by rw [Int.tdiv_eq_ediv_of_nonneg hxb.1]; rw [IntKind.wrap_u8]; omega
   have t2 : x.tmod 16 = x % 16 := Int.tmod_eq_emod_of_nonneg hxb.1
   have HO1 := hid (HO.out.same (Kept.refl (fun _ => False) _).drew)
   have HK1 := hid (HK.out.drew)
   generalize wr.drew = u at hS HO1 HK1 ⊢
   refine tk 0 15 hS ?_
   refine tk 1 16 hS ?_
   refine tk 2 17 hS ?_
   refine tk 3 18 hS ?_
   refine tk 4 19 hS ?_
   refine tkV 5 20 (.int .u8 (x / 16)) hS ?_
   refine tkV 6 21 (.int .u8 (hexD (x / 16))) hS ?_ (hy := fun w _ => idx_hex _ hq.1 hq.2 _ _ rfl _ rfl w)
   refine tk 7 22 hS ?_
   refine tk 8 23 hS ?_
   refine tk 9 24 hS ?_
   refine tk 10 25 hS ?_
   refine tkV 11 26 (.int .u8 (x % 16)) hS ?_
   refine tkV 12 27 (.int .u8 (hexD (x % 16))) hS ?_ (hy := fun w _ => idx_hex _ hr.1 hr.2 _ _ rfl _ rfl w)
   refine wpAnyV_one (i := 13) (by kernel_rfl) rfl (fun K hK => ?_)
   go_simp
   have hk2 : Same u (u.alloc (.cells #[.int .u8 (hexD (x / 16)), .int .u8 (hexD (x % 16))] 5)) := (Kept.refl _ _).alloc _
   have HO2 := hid (HO1.out.same hk2)
   have HX2 := hid (rd_two u (hexD (x / 16)) (hexD (x % 16)))
   have HK2 := hid (HK1.out.trans hk2)
   have hS2 := HC.out _ HK2.out
   have ex := HXK.out
   refine hK.out _ _ (fun _ => hS2) ?_
   clear hK K hk2 hS
   generalize u.alloc (.cells #[.int .u8 (hexD (x / 16)), .int .u8 (hexD (x % 16))] 5) = u2 at *
   generalize u.heap.size = U at *
   refine wpAnyV_one (i := 14) (by kernel_rfl) rfl (fun K hK => ?_)
   refine step_app (by rfl) (.tmp 15) (.tmp 28) (by rfl) (.slice a n c) (.slice (some ⟨U, 0, none⟩) 2 2) (hexB (bs.take k)) [hexD (x / 16), hexD (x % 16)] (by rfl) (by rfl) HO2.out HX2.out (by rw [hexB_length, List.length_take]; simp; omega) ?_
   intro a3 n3 c3 w3 hown hgr
   have HO3 := (show Hid (Own 0 5 .u8 w3 (.slice a3 n3 c3) (hexB (bs.take (k + 1)))) from by unfold Hid; rw [hexB_take hlt, ex]; exact hown)
   have HF3 := (show Hid (∀ b, (Value.slice a3 n3 c3).ownBlock = some b → w.heap.size ≤ b) from hgr.fresh HK2.out HF.out)
   have HK3 := hid (hgr.same HK2.out HF.out)
   have hS3 := HC.out _ HK3.out
   clear hown hgr
   refine hK.out _ _ (fun _ => hS3) ?_
   clear hK K hS2
   try simp only [Act.put, sA, s0, sS]
   refine tk 15 3 hS3 ?_
   refine wpAnyV_done (by kernel_rfl) ?_
   go_wp2_with fail
   go_roundw
   case rel => exact ⟨k + 1, a3, n3, c3, by omega, rfl, by go_num, HO3, HF3, HK3⟩
   case measure => simp [intOf]; omega
  ·have hge : ¬ (k : Int) < (bs.length : Int) := by omega
   obtain rfl : k = bs.length := by omega
   have hcv := conv_own (v := .slice a n c) HO.out (by rw [hexB_length, List.length_take]; omega)
   rw [List.take_length] at hcv
   have HE := (show Hid (encH bs = hexB bs) from if_neg h0)
   clear HO HF
   go_wp2
   go_ret
   exact ⟨by rw [HE.out]; rfl, HK.out⟩
theorem implHex_any (v : Value) (bs : List Int) (w : World) (hB : IsB bs) (hn : bs.length ≤ 1048576) (hv : Rd .u8 w v bs) :
  Calls Tryd.prog 76 #[v] w fun e w' => e = .returned (.string (strOfNums (encH bs))) ∧ Same w w' := by
 obtain ⟨av, cv, rfl⟩ := hv.form
 by_cases h0 : bs.length = 0
 ·have h0' : ((bs.length : Int) == 0) = true := by simp [h0]
  go_enter Tryd.func76, Tryd.ntmps76
  go_wp2
  go_ret
  exact ⟨by rw [encH, if_pos h0]; rfl, Kept.refl _ _⟩
 have h0' : ((bs.length : Int) == 0) = false := beq_eq_false_iff_ne.2 (by omega)
 obtain ⟨b, off, rfl, hx⟩ : ∃ b off, av = some ⟨b, off, none⟩ ∧ ∀ i, i < bs.length → w.cell? ⟨b, off + i, none⟩ = some (.int .u8 (bs.getD i 0)) := by
  rcases hv.2 with ⟨h, _⟩ | ⟨b, off, c', e1, _, hx⟩
  ·rw [h] at h0; simp at h0
  ·injection e1 with e1 e2 e3
   exact ⟨b, off, e1, hx⟩
 have HX := hid hx
 have hbl : b < w.heap.size := World.block_lt_of_cell? w _ (hx 0 (by omega))
 clear hx hv
 obtain ⟨i0, hi0, hz0, hz1, hz2⟩ := info_parts Tryd.infoByte'
 have q1 : IntKind.i64.wrap (2 * (bs.length : Int)) = ((2 * bs.length : Nat) : Int) := by rw [IntKind.wrap_i64]; omega
 go_enter Tryd.func76, Tryd.ntmps76
 go_wp2_with (at_make; refine wpList_make_own _ rfl (.const (.int .i64 0)) (.tmp 11) 34 rfl 0 5 i0 (.int .u8 0) 1 Tryd.underlying34 hi0 hz0 hz1 .i64 .i64 _ (2 * bs.length) rfl rfl (by rfl) (by rw [hz2]; omega) (by unfold maxLen; omega) (Nat.zero_le _) ?_; intro w1 hown1 hgrow1; have HO1 := (show Hid (Own 0 5 .u8 w1 (.slice (some ⟨w.heap.size, 0, none⟩) 0 (2 * bs.length)) []) from hown1); have HK1 := (show Hid (Same w w1) from Kept.of_grown hgrow1 (fun k e => by cases e)); clear hown1 hgrow1)
 go_loopw [3, 5, 15] (fun o y i wr => ∃ (k : Nat) (a : Option Addr) (n c : Nat), k ≤ bs.length ∧ o = .slice a n c ∧ i = .int .i64 (k : Int) ∧ Hid (Own 0 5 .u8 wr (.slice a n c) (hexB (bs.take k))) ∧ Hid (∀ b, (Value.slice a n c).ownBlock = some b → w.heap.size ≤ b) ∧ Hid (Same w wr)) (fun _ _ i _ => bs.length - (intOf i).toNat)
 case atStart => exact ⟨0, _, _, _, Nat.zero_le _, rfl, rfl, HO1, fun b hb => by simp [Value.ownBlock] at hb; omega, HK1⟩
 case round =>
  obtain ⟨k, a, n, c, hk, rfl, rfl, HO, HF, HK⟩ := hrel
  by_cases hlt : k < bs.length
  ·have hki : (k : Int) < (bs.length : Int) := by omega
   obtain ⟨x, hx⟩ : ∃ x, bs[k] = x := ⟨_, rfl⟩
   have hc : w.cell? ⟨b, off + k, none⟩ = some (.int .u8 x) := by rw [HX.out k hlt, List.getD_eq_getElem?_getD, List.getElem?_eq_getElem hlt, hx]; rfl
   have hxb : 0 ≤ x ∧ x ≤ 255 := by rw [← hx]; exact hB _ (List.getElem_mem hlt)
   have HXK := hid hx
   have HC := (show Hid (∀ wx, Same w wx → True) from fun _ _ => trivial)
   have c1 : wr.cell? ⟨b, off + k, none⟩ = some (.int .u8 x) := HK.out.cellOf hc id
   clear hc hx
   go_upto_region 7 with fail
   refine wp_region_V (fun wx : World => True) 99 10 rfl (by kernel_rfl) ?_
   have hS : (fun wx : World => True) wr.drew := trivial
   have hq : 0 ≤ x / 16 ∧ x / 16 < 16 := by omega
   have hr : 0 ≤ x % 16 ∧ x % 16 < 16 := by omega
   have HO1 := hid (HO.out.same (Kept.refl (fun _ => False) _).drew)
   have HK1 := hid (HK.out.drew)
   generalize wr.drew = u at hS HO1 HK1 ⊢
   clear c1
   have t3 := and15 hxb
   refine tk 0 19 hS ?_
   refine tk 1 20 hS ?_
   refine tkV 2 21 (.int .u8 (x / 16)) hS ?_
   refine tkV 3 22 (.int .u8 (hexD (x / 16))) hS ?_ (hy := fun w _ => idx_hex _ hq.1 hq.2 _ _ rfl _ rfl w)
   refine tk 4 23 hS ?_
   refine tkV 5 24 (.int .u8 (x % 16)) hS ?_
   refine tkV 6 25 (.int .u8 (hexD (x % 16))) hS ?_ (hy := fun w _ => idx_hex _ hr.1 hr.2 _ _ rfl _ rfl w)
   refine wpAnyV_one (i := 7) (by kernel_rfl) rfl (fun K hK => ?_)
   go_simp
   have hk2 : Same u (u.alloc (.cells #[.int .u8 (hexD (x / 16)), .int .u8 (hexD (x % 16))] 5)) := (Kept.refl _ _).alloc _
   have HO2 := hid (HO1.out.same hk2)
   have HX2 := hid (rd_two u (hexD (x / 16)) (hexD (x % 16)))
   have HK2 := hid (HK1.out.trans hk2)
   have hS2 := HC.out u HK1.out
   have ex := HXK.out
   refine hK.out _ _ (fun _ => hS2) ?_
   clear hK K hk2 hS
   generalize u.alloc (.cells #[.int .u8 (hexD (x / 16)), .int .u8 (hexD (x % 16))] 5) = u2 at *
   generalize u.heap.size = U at *
   refine wpAnyV_one (i := 8) (by kernel_rfl) rfl (fun K hK => ?_)
   refine step_app (by rfl) (.tmp 19) (.tmp 26) (by rfl) (.slice a n c) (.slice (some ⟨U, 0, none⟩) 2 2) (hexB (bs.take k)) [hexD (x / 16), hexD (x % 16)] (by rfl) (by rfl) HO2.out HX2.out (by rw [hexB_length, List.length_take]; simp; omega) ?_
   intro a3 n3 c3 w3 hown hgr
   have HO3 := (show Hid (Own 0 5 .u8 w3 (.slice a3 n3 c3) (hexB (bs.take (k + 1)))) from by unfold Hid; rw [hexB_take hlt, ex]; exact hown)
   have HF3 := (show Hid (∀ b, (Value.slice a3 n3 c3).ownBlock = some b → w.heap.size ≤ b) from hgr.fresh HK2.out HF.out)
   have HK3 := hid (hgr.same HK2.out HF.out)
   have hS3 := HC.out u HK1.out
   clear hown hgr
   refine hK.out _ _ (fun _ => hS3) ?_
   clear hK K hS2
   try simp only [Act.put, sA, s0, sS]
   refine tk 9 3 hS3 ?_
   refine wpAnyV_done (by kernel_rfl) ?_
   go_wp2_with fail
   go_roundw
   case rel => exact ⟨k + 1, a3, n3, c3, by omega, rfl, by go_num, HO3, HF3, HK3⟩
   case measure => simp [intOf]; omega
  ·have hge : ¬ (k : Int) < (bs.length : Int) := by omega
   obtain rfl : k = bs.length := by omega
   have hcv := conv_own (v := .slice a n c) HO.out (by rw [hexB_length, List.length_take]; omega)
   rw [List.take_length] at hcv
   have HE := (show Hid (encH bs = hexB bs) from if_neg h0)
   clear HO HF
   go_wp2
   go_ret
   exact ⟨by rw [HE.out]; rfl, HK.out⟩
def inB (v a b : Int) : Bool := decide (a ≤ v) && decide (v ≤ b)
set_option maxRecDepth 100000 in
theorem l4In_any (v a b : Int) (w : World) : Calls Tryd.prog 52 #[.int .i64 v, .int .i64 a, .int .i64 b] w fun e w' => e = .returned (.bool (inB v a b)) ∧ Same w w' := by
 unfold inB
 by_cases h : a ≤ v
 ·by_cases h2 : v ≤ b
  ·go_enter Tryd.func52, Tryd.ntmps52
   go_wp2
   go_ret
   exact ⟨by simp [h, h2], Kept.refl _ _⟩
  ·go_enter Tryd.func52, Tryd.ntmps52
   go_wp2
   go_ret
   exact ⟨by simp [h]; try omega, Kept.refl _ _⟩
 ·go_enter Tryd.func52, Tryd.ntmps52
  go_wp2
  go_ret
  exact ⟨by rw [show decide (a ≤ v) = false from by simp; omega]; rfl, Kept.refl _ _⟩
def minLog (p : Int) : Int := if inB p 1 16 = true then 9 * p + 24 else -1
def geoF (p f l : Int) : Int := if inB p 1 16 = false then 1 else if inB f 3 16 = false then 2 else if inB l (minLog p) 800 = false then 3 else 0
theorem inB_yes {v a b : Int} (h : inB v a b = true) : a ≤ v ∧ v ≤ b := by simpa [inB] using h
theorem specMinLog_any (p : Int) (w : World) : Calls Tryd.prog 53 #[.int .i64 p] w fun e w' => e = .returned (.int .i64 (minLog p)) ∧ Same w w' := by
 have k1 := fun wx => l4In_any p 1 16 wx
 unfold minLog
 cases h : inB p 1 16 with
 | false =>
  rw [h] at k1
  go_enter Tryd.func53, Tryd.ntmps53
  go_wp2_with fail
  refine (k1 _).mono ?_
  rintro e w1 ⟨rfl, hk1⟩
  go_wp2
  go_ret
  exact ⟨rfl, hk1⟩
 | true =>
  rw [h] at k1
  obtain ⟨h1, h2⟩ := inB_yes h
  have hw1 : IntKind.i64.wrap (9 * p) = 9 * p := by rw [IntKind.wrap_i64]; omega
  have hw2 : IntKind.i64.wrap (9 * p + 24) = 9 * p + 24 := by rw [IntKind.wrap_i64]; omega
  go_enter Tryd.func53, Tryd.ntmps53
  go_wp2_with fail
  refine (k1 _).mono ?_
  rintro e w1 ⟨rfl, hk1⟩
  go_wp2
  go_ret
  exact ⟨by first | rfl | trivial, hk1⟩
theorem specGeo_any (p f l : Int) (w : World) : Calls Tryd.prog 17 #[.agg #[.int .i64 p, .int .i64 f, .int .i64 l]] w fun e w' => e = .returned (.int .i64 (geoF p f l)) ∧ Same w w' := by
 have HK0 := hid (sameA w [.int .i64 p, .int .i64 f, .int .i64 l] 27)
 have b0 := Blk.newL w [.int .i64 p, .int .i64 f, .int .i64 l] 27
 have k1 := fun wx => l4In_any p 1 16 wx
 have k2 := fun wx => l4In_any f 3 16 wx
 have k3 := fun wx => specMinLog_any p wx
 have k4 := fun wx => l4In_any l (minLog p) 800 wx
 unfold geoF
 generalize minLog p = ml at k3 k4 ⊢
 cases h1 : inB p 1 16 with
 | false =>
  rw [h1] at k1
  go_enter Tryd.func17, Tryd.ntmps17
  go_wp2_with fail
  refine (k1 _).mono ?_
  rintro e w1 ⟨rfl, hk1⟩
  go_wp2
  go_ret
  exact ⟨rfl, HK0.out.trans hk1⟩
 | true =>
  rw [h1] at k1
  go_enter Tryd.func17, Tryd.ntmps17
  go_wp2_with fail
  refine (k1 _).mono ?_
  rintro e w1 ⟨rfl, hk1⟩
  have b1 := b0.same hk1
  have HK1 := hid (HK0.out.trans hk1)
  obtain ⟨c0, c1, c2⟩ := b1.all3
  clear hk1
  cases h2 : inB f 3 16 with
  | false =>
   rw [h2] at k2
   go_wp2_with fail
   refine (k2 _).mono ?_
   rintro e w2 ⟨rfl, hk2⟩
   have HK2 := hid (HK1.out.trans hk2)
   go_wp2
   go_ret
   exact ⟨rfl, HK2.out⟩
  | true =>
   rw [h2] at k2
   go_wp2_with fail
   refine (k2 _).mono ?_
   rintro e w2 ⟨rfl, hk2⟩
   have b2 := b1.same hk2
   have HK2 := hid (HK1.out.trans hk2)
   obtain ⟨d0, d1, d2⟩ := b2.all3
   clear hk2
   let Y1 : World → Prop := fun wx : World => wx.cell? ⟨w.heap.size, 0, none⟩ = some (.int .i64 p) ∧ wx.cell? ⟨w.heap.size, 2, none⟩ = some (.int .i64 l)
   have hS : Y1 w2.drew := ⟨d0, d2⟩
   go_wp2_with fail
   refine wp_region_V Y1 99 7 rfl (by kernel_rfl) ?_
   refine tk 0 11 hS ?_
   refine tk 1 12 hS ?_
   refine tk 2 13 hS ?_
   refine tk 3 14 hS ?_
   refine wpAnyV_one (i := 4) (by kernel_rfl) rfl (fun K hK => ?_)
   go_simp
   refine (k3 _).mono ?_
   rintro e w3 ⟨rfl, hk3⟩
   have HK23 : Hid (Same w2 w3) := (Kept.refl _ _).drew.trans hk3
   have HK3 := hid (HK2.out.trans HK23.out)
   have hS : Y1 w3 := ⟨HK23.out.cellOf d0 id, HK23.out.cellOf d2 id⟩
   go_wp2_with fail
   refine hK.out _ _ (fun _ => hS) ?_
   clear hK K hk3
   try simp only [Act.put, sA, s0, sS]
   refine wpAnyV_one (i := 5) (by kernel_rfl) rfl (fun K hK => ?_)
   go_simp
   refine (k4 _).mono ?_
   rintro e w4 ⟨rfl, hk4⟩
   have HK4 := hid (HK3.out.trans hk4)
   have hS : Y1 w4 := ⟨hk4.cellOf hS.1 id, hk4.cellOf hS.2 id⟩
   go_wp2_with fail
   refine hK.out _ _ (fun _ => hS) ?_
   clear hK K hk4
   try simp only [Act.put, sA, s0, sS]
   refine tk 6 17 hS ?_
   refine wpAnyV_done (by kernel_rfl) ?_
   cases h3 : inB l ml 800 with
   | false =>
    go_wp2
    go_ret
    exact ⟨rfl, HK4.out⟩
   | true =>
    go_wp2
    go_ret
    exact ⟨rfl, HK4.out⟩
abbrev StDat := Int × Int × Int × Int × List Int × List Int
abbrev Tx (l : List UInt8) : ByteArray := ⟨l.toArray⟩
theorem tx_app (l m : List UInt8) : Tx l ++ Tx m = Tx (l ++ m) := by
 apply ByteArray.ext
 rw [ByteArray.data_append]
 exact List.append_toArray _ _
theorem tx_size (l : List UInt8) : (Tx l).size = l.length := by simp [Tx, ByteArray.size]
def u8s (xs : List Int) : List UInt8 := xs.map fun n => UInt8.ofNat n.toNat
def hxW (bs : List Int) : List UInt8 := u8s (encH bs)
def kpB (ks : List Int) : List Int := if ks.length = 0 then [45] else ks.map (48 + ·)
def kpW (ks : List Int) : List UInt8 := u8s (kpB ks)
def nmW (k : Int) : List UInt8 :=
 if k = 1 then [98, 101, 103, 105, 110] else if k = 2 then [105, 110, 115, 101, 114, 116] else if k = 3 then [117, 112, 100, 97, 116, 101] else if k = 4 then [100, 101, 108, 101, 116, 101]
 else if k = 5 then [114, 101, 97, 100] else if k = 6 then [99, 111, 109, 109, 105, 116] else if k = 7 then [97, 98, 111, 114, 116] else if k = 8 then [99, 104, 101, 99, 107, 112, 111, 105, 110, 116]
 else if k = 9 then [114, 101, 115, 116, 97, 114, 116] else if k = 10 then [99, 114, 97, 115, 104] else [99, 117, 116]
def wdS (d : StDat) : List (List UInt8) :=
 if d.1 = 2 then [nmW 2, Lib.itoa d.2.1, hxW d.2.2.2.2.1]
 else if d.1 = 3 then [nmW 3, Lib.itoa d.2.1, Lib.itoa d.2.2.1, hxW d.2.2.2.2.1]
 else if d.1 = 4 ∨ d.1 = 5 then [nmW d.1, Lib.itoa d.2.1, Lib.itoa d.2.2.1]
 else if d.1 = 6 ∨ d.1 = 7 then [nmW d.1, Lib.itoa d.2.1]
 else if d.1 = 10 then [nmW 10, kpW d.2.2.2.2.2]
 else if d.1 = 11 then [nmW 11, Lib.itoa d.2.2.2.1]
 else [nmW d.1]
def lnS (d : StDat) : List UInt8 := Lib.join (wdS d) [32] ++ [10]
def gLn (p f l : Int) : List UInt8 := Lib.join [[104, 101, 97, 112], Lib.itoa p, Lib.itoa f, Lib.itoa l] [32] ++ [10]
def noDig (k : Int) : Bool := (k != 0) && (k != 1)
theorem join2 (a b : List UInt8) : Lib.join [a, b] [32] = a ++ 32 :: b := by simp [Lib.join, List.intercalate]
theorem join3 (a b c : List UInt8) : Lib.join [a, b, c] [32] = a ++ 32 :: (b ++ 32 :: c) := by simp [Lib.join, List.intercalate]
theorem join4 (a b c d : List UInt8) : Lib.join [a, b, c, d] [32] = a ++ 32 :: (b ++ 32 :: (c ++ 32 :: d)) := by simp [Lib.join, List.intercalate]
structure StStep.ok (x : StStep) : Prop where
 data : IsB x.data.bs
 kd : -9223372036854775808 ≤ x.kd ∧ x.kd ≤ 9223372036854775807
 tx : -9223372036854775808 ≤ x.tx ∧ x.tx ≤ 9223372036854775807
 rid : -9223372036854775808 ≤ x.rid ∧ x.rid ≤ 9223372036854775807
 cnt : -9223372036854775808 ≤ x.cnt ∧ x.cnt ≤ 9223372036854775807
theorem StStep.ok_dat {x y : StStep} (h : y.dat = x.dat) (hx : x.ok) : y.ok := by
 simp only [StStep.dat, Prod.mk.injEq] at h
 obtain ⟨h1, h2, h3, h4, h5, h6⟩ := h
 exact ⟨by rw [h5]; exact hx.data, by rw [h1]; exact hx.kd, by rw [h2]; exact hx.tx, by rw [h3]; exact hx.rid, by rw [h4]; exact hx.cnt⟩
theorem list6 {cs : List Value} (h : cs.length = 6) : ∃ c0 c1 c2 c3 c4 c5, cs = [c0, c1, c2, c3, c4, c5] := by
 match cs, h with
 | [c0, c1, c2, c3, c4, c5], _ => exact ⟨c0, c1, c2, c3, c4, c5, rfl⟩
section
variable {H : Type} {enc : TypeId × Value → H} {w : World} {base : Nat} {spare : Nat → Bool} {held : Bool}
set_option maxRecDepth 100000 in
set_option maxHeartbeats 2000000 in
theorem read_step (n : Nat) (cs : List Value) (x : DataW H × List MemPlace) (hl : cs.length = 6) (h : DataW.trod enc Tryd.prog w base spare held n 58 cs = some x) :
  ∃ p : StStep, cs = kSp.cells p ∧ Rd .u8 w (kSp.v p) (kSp.bs p) ∧ StStep.rd w p ∧ p.ok := by
 obtain ⟨c0, c1, c2, c3, c4, c5, rfl⟩ := list6 hl
 obtain ⟨xs, n, _, _, _, hxl, hg⟩ := DataW.trod_struct Tryd.underlying58 h
 have g0 : ∃ x, DataW.trod enc Tryd.prog w base spare held n 2 [c0] = some x := ⟨xs[0]'(by rw [hxl]; decide), by have h := hg 0 _ rfl; rw [List.getElem?_eq_getElem (by rw [hxl]; decide)] at h; exact h⟩
 obtain ⟨x0, g0⟩ := g0
 obtain ⟨z0, e0, _, B0⟩ := DataW.trod_int Tryd.underlying2 g0
 simp at e0
 subst e0
 have g1 : ∃ x, DataW.trod enc Tryd.prog w base spare held n 2 [c1] = some x := ⟨xs[1]'(by rw [hxl]; decide), by have h := hg 1 _ rfl; rw [List.getElem?_eq_getElem (by rw [hxl]; decide)] at h; exact h⟩
 obtain ⟨x1, g1⟩ := g1
 obtain ⟨z1, e1, _, B1⟩ := DataW.trod_int Tryd.underlying2 g1
 simp at e1
 subst e1
 have g2 : ∃ x, DataW.trod enc Tryd.prog w base spare held n 2 [c2] = some x := ⟨xs[2]'(by rw [hxl]; decide), by have h := hg 2 _ rfl; rw [List.getElem?_eq_getElem (by rw [hxl]; decide)] at h; exact h⟩
 obtain ⟨x2, g2⟩ := g2
 obtain ⟨z2, e2, _, B2⟩ := DataW.trod_int Tryd.underlying2 g2
 simp at e2
 subst e2
 have g3 : ∃ x, DataW.trod enc Tryd.prog w base spare held n 2 [c3] = some x := ⟨xs[3]'(by rw [hxl]; decide), by have h := hg 3 _ rfl; rw [List.getElem?_eq_getElem (by rw [hxl]; decide)] at h; exact h⟩
 obtain ⟨x3, g3⟩ := g3
 obtain ⟨z3, e3, _, B3⟩ := DataW.trod_int Tryd.underlying2 g3
 simp at e3
 subst e3
 have g4 : ∃ x, DataW.trod enc Tryd.prog w base spare held n 34 [c4] = some x := ⟨xs[4]'(by rw [hxl]; decide), by have h := hg 4 _ rfl; rw [List.getElem?_eq_getElem (by rw [hxl]; decide)] at h; exact h⟩
 obtain ⟨x4, g4⟩ := g4
 obtain ⟨b4, r4, B4⟩ := read_intsB Tryd.underlying34 Tryd.underlying5 (by kernel_rfl) g4
 obtain ⟨a4, k4, rfl⟩ := r4.form
 have g5 : ∃ x, DataW.trod enc Tryd.prog w base spare held n 40 [c5] = some x := ⟨xs[5]'(by rw [hxl]; decide), by have h := hg 5 _ rfl; rw [List.getElem?_eq_getElem (by rw [hxl]; decide)] at h; exact h⟩
 obtain ⟨x5, g5⟩ := g5
 obtain ⟨b5, r5, B5⟩ := read_intsB Tryd.underlying40 Tryd.underlying2 (by kernel_rfl) g5
 obtain ⟨a5, k5, rfl, f5⟩ := r5.flat
 exact ⟨⟨z0, z1, z2, z3, ⟨0, a4, k4, b4⟩, ⟨0, a5, b5.length, k5, b5⟩⟩, rfl, ⟨by simp [kSp], .inl ⟨rfl, none, 0, rfl, fun _ => rfl⟩⟩, ⟨r4, f5⟩, ⟨fun x hx => by have := B4 x hx; exact ⟨this.1, this.2⟩, int_bounds B0, int_bounds B1, int_bounds B2, int_bounds B3⟩⟩
set_option maxRecDepth 100000 in
set_option maxHeartbeats 2000000 in
theorem open_steps {r : Reach} {b0 : Nat} {v : Value} {d : DataW H} {p : List MemPlace} (hv : Value.okWide Tryd.prog w r b0 24 v) (h : DataW.Trod enc Tryd.prog w base spare held 24 v d p) :
  ∃ ps : List StStep, RdSp w v ps ∧ ∀ p ∈ ps, p.ok := by
 obtain ⟨fuel, hf⟩ := h
 obtain ⟨a, n, c, rfl⟩ := okWide_slice Tryd.underlying24 hv
 have iE : Inhabited StStep := ⟨zSp⟩
 obtain ⟨ps, h1, h2⟩ := read_rows kSp (fun p => StStep.rd w p ∧ p.ok) (by decide) Tryd.underlying24 (by kernel_rfl) (fun n cs x hl h => read_step n cs x hl h) hf
 exact ⟨ps, ⟨h1, fun p hp => (h2 p hp).1⟩, fun p hp => (h2 p hp).2⟩
end
end Go.Proofs.YtbilnlgjpchgiaaDoor
