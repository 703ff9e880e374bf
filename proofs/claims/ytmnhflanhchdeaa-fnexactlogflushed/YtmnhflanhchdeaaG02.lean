import Derived.Test.YtmnhflanhchdeaaG00
import Derived.Test.YtmnhflanhchdeaaG01
import Derived.WalkKit
import Derived.OrdersHeld
import Derived.Deep.RegionHeld3
namespace Go.Proofs.Ytmnhflanhchdeaa
set_option maxRecDepth 100000
set_option maxHeartbeats 2000000
set_option linter.unusedVariables false
set_option linter.unusedSimpArgs false
open Go.ChangeShapes Go.WideShapes Go.ChangeAt Go.RowKit Go
theorem array_log {cs : Array Value} (h : cs.size = 5) : ∃ c0 c1 c2 c3 c4, cs = #[c0, c1, c2, c3, c4] := by
 obtain ⟨l⟩ := cs
 match l, h with
 | [c0, c1, c2, c3, c4], _ => exact ⟨c0, c1, c2, c3, c4, rfl⟩
section
variable {H : Type} {enc : TypeId × Value → H} {w : World} {base : Nat} {spare : Nat → Bool} {held : Bool}
theorem open_log {r : Reach} {b0 : Nat} {v : Value} {d : DataW H} {p : List MemPlace} (hv : Value.okWide Try.prog w r b0 26 v) (h : DataW.Trod enc Try.prog w base spare held 26 v d p) :
  ∃ x : StLog, v = x.val ∧ StLog.rd w x ∧ x.isB := by
 obtain ⟨cs, rfl, hsz⟩ := okWide_struct Try.underlying26 hv
 obtain ⟨c0, c1, c2, c3, c4, rfl⟩ := array_log (hsz.trans (by kernel_rfl))
 obtain ⟨fuel, hf⟩ := h
 obtain ⟨xs, n, _, _, _, hxl, hg⟩ := DataW.trod_struct Try.underlying26 hf
 have g0 : ∃ x, DataW.trod enc Try.prog w base spare held n 2 [c0] = some x := ⟨xs[0]'(by rw [hxl]; decide), by have h := hg 0 _ rfl; rw [List.getElem?_eq_getElem (by rw [hxl]; decide)] at h; exact h⟩
 obtain ⟨x0, g0⟩ := g0
 obtain ⟨z0, e0, _, _⟩ := DataW.trod_int Try.underlying2 g0
 simp at e0
 subst e0
 have g1 : ∃ x, DataW.trod enc Try.prog w base spare held n 2 [c1] = some x := ⟨xs[1]'(by rw [hxl]; decide), by have h := hg 1 _ rfl; rw [List.getElem?_eq_getElem (by rw [hxl]; decide)] at h; exact h⟩
 obtain ⟨x1, g1⟩ := g1
 obtain ⟨z1, e1, _, _⟩ := DataW.trod_int Try.underlying2 g1
 simp at e1
 subst e1
 have g2 : ∃ x, DataW.trod enc Try.prog w base spare held n 2 [c2] = some x := ⟨xs[2]'(by rw [hxl]; decide), by have h := hg 2 _ rfl; rw [List.getElem?_eq_getElem (by rw [hxl]; decide)] at h; exact h⟩
 obtain ⟨x2, g2⟩ := g2
 obtain ⟨z2, e2, _, _⟩ := DataW.trod_int Try.underlying2 g2
 simp at e2
 subst e2
 have g3 : ∃ x, DataW.trod enc Try.prog w base spare held n 2 [c3] = some x := ⟨xs[3]'(by rw [hxl]; decide), by have h := hg 3 _ rfl; rw [List.getElem?_eq_getElem (by rw [hxl]; decide)] at h; exact h⟩
 obtain ⟨x3, g3⟩ := g3
 obtain ⟨z3, e3, _, _⟩ := DataW.trod_int Try.underlying2 g3
 simp at e3
 subst e3
 have g4 : ∃ x, DataW.trod enc Try.prog w base spare held n 24 [c4] = some x := ⟨xs[4]'(by rw [hxl]; decide), by have h := hg 4 _ rfl; rw [List.getElem?_eq_getElem (by rw [hxl]; decide)] at h; exact h⟩
 obtain ⟨x4, g4⟩ := g4
 obtain ⟨b4, r4, B4⟩ := read_intsB Try.underlying24 Try.underlying5 (by kernel_rfl) g4
 obtain ⟨a4, k4, rfl⟩ := r4.form
 exact ⟨⟨z0, z1, z2, z3, ⟨0, a4, k4, b4⟩⟩, rfl, r4, fun x hx => by have := B4 x hx; exact ⟨this.1, this.2⟩⟩
end
section
variable {P : Program} {ops : Array Oper} {Q : Exit → Act → World → Prop} {md : Region.Mode} {S : World → Prop} {s : Nat}
def wpAnyV (P : Program) (md : Region.Mode) (ops : Array Oper) (Q : Exit → Act → World → Prop) (S : World → Prop) (s : Nat) : Nat → Array Bool → Act → World → Prop
 | 0, listed, a, w => Region.ready md ops listed = [] ∧ Q .normal a w
 | fuel + 1, listed, a, w =>
  (Region.ready md ops listed = [] → Q .normal a w) ∧
  ∀ i ∈ Region.ready md ops listed, wpOp P ops Q i (fun a' w' => (i ≠ s → S w') ∧ wpAnyV P md ops Q S s fuel (listed.setIfInBounds i true) a' w') a w
theorem wpAny_of_V : ∀ (fuel : Nat) (listed : Array Bool) (a : Act) (w : World), wpAnyV P md ops Q S s fuel listed a w → wpAny P md ops Q fuel listed a w
 | 0, _, _, _, h => h
 | fuel + 1, _, _, _, h => ⟨h.1, fun i hi => wpOp_mono (fun a' w' h' => wpAny_of_V fuel _ a' w' h'.2) (h.2 i hi)⟩
def waits (md : Region.Mode) (ops : Array Oper) (s i : Nat) : Bool :=
 match ops[s]? with
 | some o => o.after.any fun e => Region.binds md e && e.on == i
 | none => true
theorem waits_spec {i : Nat} (h : waits md ops s i = true) {os : Oper} (ho : ops[s]? = some os) (hn : ∀ e ∈ os.after, Region.binds md e = true → e.on ≠ i) : False := by
 unfold waits at h
 rw [ho] at h
 obtain ⟨e, he, hb⟩ := Array.any_eq_true'.1 h
 simp only [Bool.and_eq_true, beq_iff_eq] at hb
 exact hn e he hb.1 hb.2
theorem ready_apart {listed : Array Bool} {i j : Nat} (hi : i ∈ Region.ready md ops listed) (hj : j ∈ Region.ready md ops listed) {oj : Oper} (hoj : ops[j]? = some oj) :
  ∀ e ∈ oj.after, Region.binds md e = true → e.on ≠ i := by
 rintro e he hb rfl
 obtain ⟨_, o, ho, hall⟩ := mem_ready.1 hj
 obtain rfl : o = oj := by rw [hoj] at ho; exact (Option.some.inj ho).symm
 have hyes := hall e he hb
 have hno := (mem_ready.1 hi).1
 by_cases hl : e.on < listed.size <;> simp_all
def Loose (md : Region.Mode) (ops : Array Oper) (i : Nat) (oi : Oper) (listed : Array Bool) : Prop :=
 ∀ j oj, ops[j]? = some oj → j ≠ i → listed.getD j true = false → (∀ e ∈ oj.after, Region.binds md e = true → e.on ≠ i) → oi.apart ops oj = true
theorem Loose.on {i j : Nat} {oi : Oper} {listed : Array Bool} (h : Loose md ops i oi listed) (hj : listed.getD j true = false) : Loose md ops i oi (listed.setIfInBounds j true) := fun k ok hk hki hun hno =>
 h k ok hk hki (if e : j = k then e ▸ hj else (getD_set_ne true e) ▸ hun) hno
theorem wpAnyV_first {i : Nat} {oi : Oper} {v : Value} (hi : ops[i]? = some oi) (hsel : ∀ (j : Nat) (o : Oper) cs b, ops[j]? = some o → o.op ≠ .select cs b) (hs : waits md ops s i = true)
  (hQ : ∀ c a w, Q (.panic c) (a.put oi.dst v) w → Q (.panic c) a w) (fuel : Nat) : ∀ (listed : Array Bool) (a : Act) (w : World), Loose md ops i oi listed → i ∈ Region.ready md ops listed → YieldsIf P ops S oi v a → S w →
   wpAnyV P md ops Q S s fuel (listed.setIfInBounds i true) (a.put oi.dst v) w → wpAnyV P md ops Q S s (fuel + 1) listed a w := by
 induction fuel with
 | zero =>
  intro listed a w _ hr hy hS H
  constructor
  ·intro h0; simp [h0] at hr
  ·intro j hj
   by_cases e : j = i
   ·exact e ▸ hy.wpOp hi hS ⟨fun _ => hS, H⟩
   ·have := ready_mono hj e
    simp [H.1] at this
 | succ fuel ih =>
  intro listed a w hl hr hy hS H
  constructor
  ·intro h0; simp [h0] at hr
  ·intro j hj
   by_cases e : j = i
   ·exact e ▸ hy.wpOp hi hS ⟨fun _ => hS, H⟩
   ·obtain ⟨hun, oj, hoj, _⟩ := mem_ready.1 hj
    have hap := ready_apart hr hj hoj
    have hjs : j ≠ s := fun es => waits_spec hs (es ▸ hoj) hap
    refine wpOp_mono ?_ (wpOp_putIf hoj (hl j oj hoj e hun hap) (fun cs b => hsel i oi cs b hi) (fun cs b => hsel j oj cs b hoj) hQ hy (H.2 j (ready_mono hj e)))
    rintro a' w' ⟨hy', hS', hw'⟩
    exact ⟨hS', ih _ a' w' (hl.on hun) (ready_mono hr (Ne.symm e)) hy' (hS' hjs) (by rw [Array.setIfInBounds_comm _ _ e]; exact hw')⟩
theorem wpAnyV_take {i : Nat} {oi : Oper} {v : Value} {fuel : Nat} {listed : Array Bool} {a : Act} {w : World} (d : Option Tmp) (hi : ops[i]? = some oi) (hd : oi.dst = d)
  (hsl : Region.noSelect ops = true) (hf : Region.free md ops listed i = true) (hr : (Region.ready md ops listed).contains i = true) (hs : waits md ops s i = true)
  (hQ : ∀ c a w, Q (.panic c) (a.put d v) w → Q (.panic c) a w) (hy : YieldsIf P ops S oi v a) (hS : S w)
  (h : wpAnyV P md ops Q S s fuel (listed.setIfInBounds i true) (a.put d v) w) : wpAnyV P md ops Q S s (fuel + 1) listed a w := by
 subst hd
 exact wpAnyV_first hi (Region.noSelect_spec hsl) hs hQ fuel listed a w (Region.free_spec hi hf) (by simpa using hr) hy hS h
theorem sA {α : Type} {l : List α} {i : Nat} {a : α} : l.toArray.setIfInBounds i a = (l.set i a).toArray := List.setIfInBounds_toArray ..
theorem s0 {α : Type} {x : α} {xs : List α} {a : α} : (x :: xs).set 0 a = a :: xs := List.set_cons_zero
theorem sS {α : Type} {x : α} {xs : List α} {i : Nat} {a : α} : (x :: xs).set (i + 1) a = x :: xs.set i a := List.set_cons_succ
theorem tk (i d : Nat) {oi : Oper} {v : Value} {fuel : Nat} {listed : Array Bool} {a a' : Act} {w : World} (hS : S w)
  (h : wpAnyV P md ops Q S s fuel (listed.setIfInBounds i true) a' w) (hi : ops[i]? = some oi := by rfl) (hg : Region.wanted oi (yielded ops a.tmps) = true := by rfl) (hd : oi.dst = some d := by rfl)
  (hy : ∀ w, S w → (execOp a.eval oi).run P w = .ok (.value v) w := by intro w hSw; (try dsimp (config := { zetaDelta := true }) only at hSw); go_simp; (try with_reducible rfl))
  (hsl : Region.noSelect ops = true := by kernel_rfl) (hf : Region.free md ops listed i = true := by kernel_rfl) (hr : (Region.ready md ops listed).contains i = true := by kernel_rfl) (hs : waits md ops s i = true := by kernel_rfl)
  (hQ : ∀ c a w, Q (.panic c) (a.put (some d) v) w → Q (.panic c) a w := by exact fun _ _ _ h => h)
  (ha : a.put (some d) v = a' := by first | (simp only [Act.put, sA, s0, sS]; done) | (simp only [Act.put, sA, s0, sS]; rfl) | rfl) : wpAnyV P md ops Q S s (fuel + 1) listed a w :=
 wpAnyV_take (some d) hi hd hsl hf hr hs hQ (Or.inl ⟨hg, hy⟩) hS (ha ▸ h)
theorem tkV (i d : Nat) (v : Value) {oi : Oper} {fuel : Nat} {listed : Array Bool} {a a' : Act} {w : World} (hS : S w)
  (h : wpAnyV P md ops Q S s fuel (listed.setIfInBounds i true) a' w) (hi : ops[i]? = some oi := by rfl) (hg : Region.wanted oi (yielded ops a.tmps) = true := by rfl) (hd : oi.dst = some d := by rfl)
  (hy : ∀ w, S w → (execOp a.eval oi).run P w = .ok (.value v) w := by intro w hSw; (try dsimp (config := { zetaDelta := true }) only at hSw); go_simp; (try omega))
  (hsl : Region.noSelect ops = true := by kernel_rfl) (hf : Region.free md ops listed i = true := by kernel_rfl) (hr : (Region.ready md ops listed).contains i = true := by kernel_rfl) (hs : waits md ops s i = true := by kernel_rfl)
  (hQ : ∀ c a w, Q (.panic c) (a.put (some d) v) w → Q (.panic c) a w := by exact fun _ _ _ h => h)
  (ha : a.put (some d) v = a' := by first | (simp only [Act.put, sA, s0, sS]; done) | (simp only [Act.put, sA, s0, sS]; rfl) | rfl) : wpAnyV P md ops Q S s (fuel + 1) listed a w :=
 wpAnyV_take (some d) hi hd hsl hf hr hs hQ (Or.inl ⟨hg, hy⟩) hS (ha ▸ h)
theorem wpAnyV_one {i : Nat} {o : Oper} {fuel : Nat} {listed : Array Bool} {a : Act} {w : World} (hr : Region.ready md ops listed = [i]) (ho : ops[i]? = some o)
  (h : ∀ K' : Act → World → Prop, Shut (∀ a w, (i ≠ s → S w) → wpAnyV P md ops Q S s fuel (listed.setIfInBounds i true) a w → K' a w) → if Region.wanted o (yielded ops a.tmps) = true then Oper.wp P o a w K' Q else K' (a.put o.dst undef) w) :
  wpAnyV P md ops Q S s (fuel + 1) listed a w := by
 constructor
 ·intro h0; simp [hr] at h0
 ·intro j hj
  rw [hr] at hj
  obtain rfl : j = i := by simpa using hj
  exact wpOp_step ho (fun K' hK => h K' (fun a w hS hW => hK a w ⟨hS, hW⟩))
theorem wpAnyV_done {fuel : Nat} {listed : Array Bool} {a : Act} {w : World} (hr : Region.ready md ops listed = []) (h : Q .normal a w) : wpAnyV P md ops Q S s fuel listed a w := by
 cases fuel with
 | zero => exact ⟨hr, h⟩
 | succ n => exact ⟨fun _ => h, by rw [hr]; simp⟩
theorem wp_region_V {id : Nat} {a : Act} {w : World} (S : World → Prop) (s n : Nat) (hn : ops.size = n) (hm : P.follows .mixedOrders = true) (h : wpAnyV P .any ops Q S s n (Array.replicate n false) a w.drew) : (Code.region id ops true).wp P Q a w := by
 subst hn
 exact wp_region_any hm (wpAny_of_V _ _ _ _ h)
end
theorem implLogFault0 (x : StLog) (w : World) (hn : x.szs ≤ 1073741824) :
  Calls Try.prog 12 #[x.val] w fun e w' => e = .returned (.int .i64 (logFd x.dat)) ∧ Same w w' := by
 obtain ⟨s, ep, st, fl, te, ta, tc, tb⟩ := x
 simp only [StLog.szs] at hn
 dsimp only [StLog.val, StLog.dat, logFd, BS.v, logFault]
 have h1 := fun wx => isLogSize_any s wx
 have b0 := Blk.new w #[.int .i64 s, .int .i64 ep, .int .i64 st, .int .i64 fl, .slice ta tb.length tc] 29
 by_cases hs : 16 ≤ s ∧ s ≤ 800
 ·rw [inB_true hs] at h1
  rw [if_neg (not_not_intro hs)]
  by_cases he : 1 ≤ ep ∧ ep ≤ 4294967295
  ·rw [if_neg (not_not_intro he)]
   have he1 : ¬ ep < 1 := by omega
   have he2 : ¬ 4294967295 < ep := by omega
   clear hs he
   by_cases hp : fl < 512 ∨ st < fl ∨ 1099511627776 < st
   ·rw [if_pos hp]
    by_cases hp1 : fl < 512
    ·clear hp
     go_enter Try.func12, Try.ntmps12
     go_wp2_with (go_at_call 24; (with_reducible refine (h1 _).mono ?_); rintro e w1 ⟨rfl, hk1⟩; have b1 := b0.same hk1; have c0 : w1.cell? ⟨w.heap.size, 0, none⟩ = some (.int .i64 s) := b1.cell 0; have c1 : w1.cell? ⟨w.heap.size, 1, none⟩ = some (.int .i64 ep) := b1.cell 1; have c2 : w1.cell? ⟨w.heap.size, 2, none⟩ = some (.int .i64 st) := b1.cell 2; have c3 : w1.cell? ⟨w.heap.size, 3, none⟩ = some (.int .i64 fl) := b1.cell 3; have c4 : w1.cell? ⟨w.heap.size, 4, none⟩ = some (.slice ta tb.length tc) := b1.cell 4)
     go_ret
     exact ⟨rfl, ((Kept.refl _ _).alloc _).trans hk1⟩
    ·by_cases hp2 : st < fl
     ·clear hp
      go_enter Try.func12, Try.ntmps12
      go_wp2_with (go_at_call 24; (with_reducible refine (h1 _).mono ?_); rintro e w1 ⟨rfl, hk1⟩; have b1 := b0.same hk1; have c0 : w1.cell? ⟨w.heap.size, 0, none⟩ = some (.int .i64 s) := b1.cell 0; have c1 : w1.cell? ⟨w.heap.size, 1, none⟩ = some (.int .i64 ep) := b1.cell 1; have c2 : w1.cell? ⟨w.heap.size, 2, none⟩ = some (.int .i64 st) := b1.cell 2; have c3 : w1.cell? ⟨w.heap.size, 3, none⟩ = some (.int .i64 fl) := b1.cell 3; have c4 : w1.cell? ⟨w.heap.size, 4, none⟩ = some (.slice ta tb.length tc) := b1.cell 4)
      go_ret
      exact ⟨rfl, ((Kept.refl _ _).alloc _).trans hk1⟩
     ·have hp3 : 1099511627776 < st := by omega
      clear hp
      go_enter Try.func12, Try.ntmps12
      go_wp2_with (go_at_call 24; (with_reducible refine (h1 _).mono ?_); rintro e w1 ⟨rfl, hk1⟩; have b1 := b0.same hk1; have c0 : w1.cell? ⟨w.heap.size, 0, none⟩ = some (.int .i64 s) := b1.cell 0; have c1 : w1.cell? ⟨w.heap.size, 1, none⟩ = some (.int .i64 ep) := b1.cell 1; have c2 : w1.cell? ⟨w.heap.size, 2, none⟩ = some (.int .i64 st) := b1.cell 2; have c3 : w1.cell? ⟨w.heap.size, 3, none⟩ = some (.int .i64 fl) := b1.cell 3; have c4 : w1.cell? ⟨w.heap.size, 4, none⟩ = some (.slice ta tb.length tc) := b1.cell 4)
      go_ret
      exact ⟨rfl, ((Kept.refl _ _).alloc _).trans hk1⟩
   ·rw [if_neg hp]
    have hp1 : ¬ fl < 512 := by omega
    have hp2 : ¬ st < fl := by omega
    have hp3 : ¬ 1099511627776 < st := by omega
    clear hp
    have h3 := fun wx => sectorStart_any fl wx (by omega) (by omega)
    have hwr : IntKind.i64.wrap (st - (fl - fl % 512)) = st - (fl - fl % 512) := by rw [IntKind.wrap_i64]; omega
    by_cases ht : (tb.length : Int) ≠ st - fl + fl % 512
    ·rw [if_pos ht]
     go_enter Try.func12, Try.ntmps12
     go_wp2_with (go_at_call 24; (with_reducible refine (h1 _).mono ?_); rintro e w1 ⟨rfl, hk1⟩; have b1 := b0.same hk1; have c0 : w1.cell? ⟨w.heap.size, 0, none⟩ = some (.int .i64 s) := b1.cell 0; have c1 : w1.cell? ⟨w.heap.size, 1, none⟩ = some (.int .i64 ep) := b1.cell 1; have c2 : w1.cell? ⟨w.heap.size, 2, none⟩ = some (.int .i64 st) := b1.cell 2; have c3 : w1.cell? ⟨w.heap.size, 3, none⟩ = some (.int .i64 fl) := b1.cell 3; have c4 : w1.cell? ⟨w.heap.size, 4, none⟩ = some (.slice ta tb.length tc) := b1.cell 4)
     let Y1 : World → Prop := fun wx : World => wx.cell? ⟨w.heap.size, 2, none⟩ = some (.int .i64 st) ∧ wx.cell? ⟨w.heap.size, 3, none⟩ = some (.int .i64 fl) ∧ wx.cell? ⟨w.heap.size, 4, none⟩ = some (.slice ta tb.length tc)
     have hS : Y1 w1.drew := by exact ⟨c2, c3, c4⟩
     refine wp_region_V Y1 99 11 rfl (by kernel_rfl) ?_
     refine tk 0 34 hS ?_
     refine tk 1 35 hS ?_
     refine tk 2 36 hS ?_
     refine tk 3 37 hS ?_
     refine tk 4 38 hS ?_
     refine tk 5 39 hS ?_
     refine tk 6 40 hS ?_
     refine wpAnyV_one (i := 7) (by kernel_rfl) rfl (fun K hK => ?_)
     go_simp
     refine (h3 _).mono ?_
     rintro e w2 ⟨rfl, hk2⟩
     have b2 := b1.same ((Kept.refl _ _).drew.trans hk2)
     have hS : Y1 w2 := by exact ⟨b2.cell 2, b2.cell 3, b2.cell 4⟩
     refine hK.out _ _ (fun _ => hS) ?_
     clear hK K
     try simp only [Act.put, sA, s0, sS]
     refine tk 8 42 hS ?_
     refine tk 9 43 hS ?_
     refine tk 10 33 hS ?_
     refine wpAnyV_done (by kernel_rfl) ?_
     go_wp2
     go_ret
     exact ⟨rfl, (((Kept.refl _ _).alloc _).trans hk1).drew.trans hk2⟩
    ·rw [if_neg ht]
     have ht' : (tb.length : Int) = st - fl + fl % 512 := by omega
     clear ht
     go_enter Try.func12, Try.ntmps12
     go_wp2_with (go_at_call 24; (with_reducible refine (h1 _).mono ?_); rintro e w1 ⟨rfl, hk1⟩; have b1 := b0.same hk1; have c0 : w1.cell? ⟨w.heap.size, 0, none⟩ = some (.int .i64 s) := b1.cell 0; have c1 : w1.cell? ⟨w.heap.size, 1, none⟩ = some (.int .i64 ep) := b1.cell 1; have c2 : w1.cell? ⟨w.heap.size, 2, none⟩ = some (.int .i64 st) := b1.cell 2; have c3 : w1.cell? ⟨w.heap.size, 3, none⟩ = some (.int .i64 fl) := b1.cell 3; have c4 : w1.cell? ⟨w.heap.size, 4, none⟩ = some (.slice ta tb.length tc) := b1.cell 4)
     let Y2 : World → Prop := fun wx : World => wx.cell? ⟨w.heap.size, 2, none⟩ = some (.int .i64 st) ∧ wx.cell? ⟨w.heap.size, 3, none⟩ = some (.int .i64 fl) ∧ wx.cell? ⟨w.heap.size, 4, none⟩ = some (.slice ta tb.length tc)
     have hS : Y2 w1.drew := by exact ⟨c2, c3, c4⟩
     refine wp_region_V Y2 99 11 rfl (by kernel_rfl) ?_
     refine tk 0 34 hS ?_
     refine tk 1 35 hS ?_
     refine tk 2 36 hS ?_
     refine tk 3 37 hS ?_
     refine tk 4 38 hS ?_
     refine tk 5 39 hS ?_
     refine tk 6 40 hS ?_
     refine wpAnyV_one (i := 7) (by kernel_rfl) rfl (fun K hK => ?_)
     go_simp
     refine (h3 _).mono ?_
     rintro e w2 ⟨rfl, hk2⟩
     have b2 := b1.same ((Kept.refl _ _).drew.trans hk2)
     have hS : Y2 w2 := by exact ⟨b2.cell 2, b2.cell 3, b2.cell 4⟩
     refine hK.out _ _ (fun _ => hS) ?_
     clear hK K
     try simp only [Act.put, sA, s0, sS]
     refine tk 8 42 hS ?_
     refine tk 9 43 hS ?_
     refine tk 10 33 hS ?_
     refine wpAnyV_done (by kernel_rfl) ?_
     go_wp2
     go_ret
     exact ⟨rfl, (((Kept.refl _ _).alloc _).trans hk1).drew.trans hk2⟩
  ·rw [if_pos he]
   by_cases he1 : ep < 1
   ·clear hs he
    go_enter Try.func12, Try.ntmps12
    go_wp2_with (go_at_call 24; (with_reducible refine (h1 _).mono ?_); rintro e w1 ⟨rfl, hk1⟩; have b1 := b0.same hk1; have c0 : w1.cell? ⟨w.heap.size, 0, none⟩ = some (.int .i64 s) := b1.cell 0; have c1 : w1.cell? ⟨w.heap.size, 1, none⟩ = some (.int .i64 ep) := b1.cell 1; have c2 : w1.cell? ⟨w.heap.size, 2, none⟩ = some (.int .i64 st) := b1.cell 2; have c3 : w1.cell? ⟨w.heap.size, 3, none⟩ = some (.int .i64 fl) := b1.cell 3; have c4 : w1.cell? ⟨w.heap.size, 4, none⟩ = some (.slice ta tb.length tc) := b1.cell 4)
    go_ret
    exact ⟨rfl, ((Kept.refl _ _).alloc _).trans hk1⟩
   ·have he2 : 4294967295 < ep := by omega
    clear hs he
    go_enter Try.func12, Try.ntmps12
    go_wp2_with (go_at_call 24; (with_reducible refine (h1 _).mono ?_); rintro e w1 ⟨rfl, hk1⟩; have b1 := b0.same hk1; have c0 : w1.cell? ⟨w.heap.size, 0, none⟩ = some (.int .i64 s) := b1.cell 0; have c1 : w1.cell? ⟨w.heap.size, 1, none⟩ = some (.int .i64 ep) := b1.cell 1; have c2 : w1.cell? ⟨w.heap.size, 2, none⟩ = some (.int .i64 st) := b1.cell 2; have c3 : w1.cell? ⟨w.heap.size, 3, none⟩ = some (.int .i64 fl) := b1.cell 3; have c4 : w1.cell? ⟨w.heap.size, 4, none⟩ = some (.slice ta tb.length tc) := b1.cell 4)
    go_ret
    exact ⟨rfl, ((Kept.refl _ _).alloc _).trans hk1⟩
 ·rw [inB_false hs] at h1
  rw [if_pos hs]
  go_enter Try.func12, Try.ntmps12
  go_wp2_with (go_at_call 24; (with_reducible refine (h1 _).mono ?_); rintro e w1 ⟨rfl, hk1⟩; have b1 := b0.same hk1; have c0 : w1.cell? ⟨w.heap.size, 0, none⟩ = some (.int .i64 s) := b1.cell 0; have c1 : w1.cell? ⟨w.heap.size, 1, none⟩ = some (.int .i64 ep) := b1.cell 1; have c2 : w1.cell? ⟨w.heap.size, 2, none⟩ = some (.int .i64 st) := b1.cell 2; have c3 : w1.cell? ⟨w.heap.size, 3, none⟩ = some (.int .i64 fl) := b1.cell 3; have c4 : w1.cell? ⟨w.heap.size, 4, none⟩ = some (.slice ta tb.length tc) := b1.cell 4)
  go_ret
  exact ⟨rfl, ((Kept.refl _ _).alloc _).trans hk1⟩
theorem implLogFault_any (x : StLog) (w : World) (hB : x.isB) (hn : x.szs ≤ 1073741824) (hv : StLog.rd w x) :
  Calls Try.prog 12 #[x.val] w fun e w' => e = .returned (.int .i64 (logFd x.dat)) ∧ Same w w' := implLogFault0 x w hn
end Go.Proofs.Ytmnhflanhchdeaa
