import Derived.Test.YtljfcdkhicffcaaGreatG03
import Derived.OrdersHeld
import Derived.Deep.RegionHeld3
import Derived.Laws.AppendOwnNone
namespace Go.Proofs.YtljfcdkhicffcaaGreat
set_option maxRecDepth 100000
set_option maxHeartbeats 8000000
set_option linter.unusedVariables false
set_option linter.unusedSimpArgs false
open Go Go.RowKit
section
variable {P : Program} {ops : Array Oper} {Q : Exit → Act → World → Prop} {md : Region.Mode} {S : World → Prop} {s : Nat}
def U8 (P : Program) (md : Region.Mode) (ops : Array Oper) (Q : Exit → Act → World → Prop) (S : World → Prop) (s : Nat) : Nat → Array Bool → Act → World → Prop
 | 0, listed, a, w => Region.ready md ops listed = [] ∧ Q .normal a w
 | fuel + 1, listed, a, w =>
  (Region.ready md ops listed = [] → Q .normal a w) ∧
  ∀ i ∈ Region.ready md ops listed, wpOp P ops Q i (fun a' w' => (i ≠ s → S w') ∧ U8 P md ops Q S s fuel (listed.setIfInBounds i true) a' w') a w
theorem jaj : ∀ (fuel : Nat) (listed : Array Bool) (a : Act) (w : World), U8 P md ops Q S s fuel listed a w → wpAny P md ops Q fuel listed a w
 | 0, _, _, _, h => h
 | fuel + 1, _, _, _, h => ⟨h.1, fun i hi => wpOp_mono (fun a' w' h' => jaj fuel _ a' w' h'.2) (h.2 i hi)⟩
def waits (md : Region.Mode) (ops : Array Oper) (s i : Nat) : Bool :=
 match ops[s]? with
 | some o => o.after.any fun e => Region.binds md e && e.on == i
 | none => true
theorem jdF {i : Nat} (h : waits md ops s i = true) {os : Oper} (ho : ops[s]? = some os) (hn : ∀ e ∈ os.after, Region.binds md e = true → e.on ≠ i) : False := by
 unfold waits at h;rw [ho] at h;obtain ⟨e, he, hb⟩ := Array.any_eq_true'.1 h;simp only [Bool.and_eq_true, beq_iff_eq] at hb;exact hn e he hb.1 hb.2
theorem jcr {listed : Array Bool} {i j : Nat} (hi : i ∈ Region.ready md ops listed) (hj : j ∈ Region.ready md ops listed) {oj : Oper} (zk : ops[j]? = some oj) :
  ∀ e ∈ oj.after, Region.binds md e = true → e.on ≠ i := by
 rintro e he hb rfl;obtain ⟨_, o, ho, pI⟩ := mem_ready.1 hj
 obtain rfl : o = oj := by rw [zk] at ho; exact (Option.some.inj ho).symm
 have O5 := pI e he hb;have Gg := (mem_ready.1 hi).1
 by_cases hl : e.on < listed.size <;> simp_all
def Loose (md : Region.Mode) (ops : Array Oper) (i : Nat) (oi : Oper) (listed : Array Bool) : Prop :=
 ∀ j oj, ops[j]? = some oj → j ≠ i → listed.getD j true = false → (∀ e ∈ oj.after, Region.binds md e = true → e.on ≠ i) → oi.apart ops oj = true
theorem Loose.on {i j : Nat} {oi : Oper} {listed : Array Bool} (h : Loose md ops i oi listed) (hj : listed.getD j true = false) : Loose md ops i oi (listed.setIfInBounds j true) := fun k ok hk RA FQ Gg =>
 h k ok hk RA (if e : j = k then e ▸ hj else (getD_set_ne true e) ▸ FQ) Gg
theorem jbM {i : Nat} {oi : Oper} {v : Value} (hi : ops[i]? = some oi) (BX : ∀ (j : Nat) (o : Oper) cs b, ops[j]? = some o → o.op ≠ .select cs b) (hs : waits md ops s i = true)
  (hQ : ∀ c a w, Q (.panic c) (a.put oi.dst v) w → Q (.panic c) a w) (fuel : Nat) : ∀ (listed : Array Bool) (a : Act) (w : World), Loose md ops i oi listed → i ∈ Region.ready md ops listed → YieldsIf P ops S oi v a → S w →
   U8 P md ops Q S s fuel (listed.setIfInBounds i true) (a.put oi.dst v) w → U8 P md ops Q S s (fuel + 1) listed a w := by
 induction fuel with
 | zero =>
  intro listed a w _ hr hy hS H;constructor
  ·intro h0; simp [h0] at hr
  ·intro j hj
   by_cases e : j = i
   ·exact e ▸ hy.wpOp hi hS ⟨fun _ => hS, H⟩
   ·have := ready_mono hj e
    simp [H.1] at this
 | succ fuel ih =>
  intro listed a w hl hr hy hS H;constructor
  ·intro h0; simp [h0] at hr
  ·intro j hj
   by_cases e : j = i
   ·exact e ▸ hy.wpOp hi hS ⟨fun _ => hS, H⟩
   ·obtain ⟨FQ, oj, zk, _⟩ := mem_ready.1 hj
    have Eg := jcr hr hj zk;have P3 : j ≠ s := fun es => jdF hs (es ▸ zk) Eg;refine wpOp_mono ?_ (wpOp_putIf zk (hl j oj zk e FQ Eg) (fun cs b => BX i oi cs b hi) (fun cs b => BX j oj cs b zk) hQ hy (H.2 j (ready_mono hj e)));rintro a' w' ⟨rA, Lh, QC⟩;exact ⟨Lh, ih _ a' w' (hl.on FQ) (ready_mono hr (Ne.symm e)) rA (Lh P3) (by rw [Array.setIfInBounds_comm _ _ e]; exact QC)⟩
theorem WY {i : Nat} {oi : Oper} {v : Value} {fuel : Nat} {listed : Array Bool} {a : Act} {w : World} (d : Option Tmp) (hi : ops[i]? = some oi) (hd : oi.dst = d)
  (dk : Region.noSelect ops = true) (hf : Region.free md ops listed i = true) (hr : (Region.ready md ops listed).contains i = true) (hs : waits md ops s i = true)
  (hQ : ∀ c a w, Q (.panic c) (a.put d v) w → Q (.panic c) a w) (hy : YieldsIf P ops S oi v a) (hS : S w)
  (h : U8 P md ops Q S s fuel (listed.setIfInBounds i true) (a.put d v) w) : U8 P md ops Q S s (fuel + 1) listed a w := by
 subst hd;exact jbM hi (Region.noSelect_spec dk) hs hQ fuel listed a w (Region.free_spec hi hf) (by simpa using hr) hy hS h
theorem UE (i d : Nat) {oi : Oper} {v : Value} {fuel : Nat} {listed : Array Bool} {a : Act} {w : World} (hy : ∀ w, S w → (execOp a.eval oi).run P w = .ok (.value v) w) (hS : S w)
  (h : U8 P md ops Q S s fuel (listed.setIfInBounds i true) (a.put (some d) v) w) (hi : ops[i]? = some oi := by rfl) (hg : Region.wanted oi (yielded ops a.tmps) = true := by rfl) (hd : oi.dst = some d := by rfl)
  (dk : Region.noSelect ops = true := by kernel_rfl) (hf : Region.free md ops listed i = true := by kernel_rfl) (hr : (Region.ready md ops listed).contains i = true := by kernel_rfl) (hs : waits md ops s i = true := by kernel_rfl)
  (hQ : ∀ c a w, Q (.panic c) (a.put (some d) v) w → Q (.panic c) a w := by exact fun _ _ _ h => h) : U8 P md ops Q S s (fuel + 1) listed a w :=
 WY (some d) hi hd dk hf hr hs hQ (Or.inl ⟨hg, hy⟩) hS h
theorem sA {α : Type} {l : List α} {i : Nat} {a : α} : l.toArray.setIfInBounds i a = (l.set i a).toArray := List.setIfInBounds_toArray ..
theorem s0 {α : Type} {x : α} {xs : List α} {a : α} : (x :: xs).set 0 a = a :: xs := List.set_cons_zero
theorem sS {α : Type} {x : α} {xs : List α} {i : Nat} {a : α} : (x :: xs).set (i + 1) a = x :: xs.set i a := List.set_cons_succ
theorem tk (i d : Nat) {oi : Oper} {v : Value} {fuel : Nat} {listed : Array Bool} {a a' : Act} {w : World} (hS : S w)
  (h : U8 P md ops Q S s fuel (listed.setIfInBounds i true) a' w) (hi : ops[i]? = some oi := by rfl) (hg : Region.wanted oi (yielded ops a.tmps) = true := by rfl) (hd : oi.dst = some d := by rfl)
  (hy : ∀ w, S w → (execOp a.eval oi).run P w = .ok (.value v) w := by intro w dO; (try dsimp (config := { zetaDelta := true }) only at dO); go_simp; (try with_reducible rfl))
  (dk : Region.noSelect ops = true := by kernel_rfl) (hf : Region.free md ops listed i = true := by kernel_rfl) (hr : (Region.ready md ops listed).contains i = true := by kernel_rfl) (hs : waits md ops s i = true := by kernel_rfl)
  (hQ : ∀ c a w, Q (.panic c) (a.put (some d) v) w → Q (.panic c) a w := by exact fun _ _ _ h => h)
  (ha : a.put (some d) v = a' := by first | (simp only [Act.put, sA, s0, sS]; done) | (simp only [Act.put, sA, s0, sS]; rfl) | rfl) : U8 P md ops Q S s (fuel + 1) listed a w :=
 WY (some d) hi hd dk hf hr hs hQ (Or.inl ⟨hg, hy⟩) hS (ha ▸ h)
theorem tkV (i d : Nat) (v : Value) {oi : Oper} {fuel : Nat} {listed : Array Bool} {a a' : Act} {w : World} (hS : S w)
  (h : U8 P md ops Q S s fuel (listed.setIfInBounds i true) a' w) (hi : ops[i]? = some oi := by rfl) (hg : Region.wanted oi (yielded ops a.tmps) = true := by rfl) (hd : oi.dst = some d := by rfl)
  (hy : ∀ w, S w → (execOp a.eval oi).run P w = .ok (.value v) w := by intro w dO; (try dsimp (config := { zetaDelta := true }) only at dO); go_simp; (try omega))
  (dk : Region.noSelect ops = true := by kernel_rfl) (hf : Region.free md ops listed i = true := by kernel_rfl) (hr : (Region.ready md ops listed).contains i = true := by kernel_rfl) (hs : waits md ops s i = true := by kernel_rfl)
  (hQ : ∀ c a w, Q (.panic c) (a.put (some d) v) w → Q (.panic c) a w := by exact fun _ _ _ h => h)
  (ha : a.put (some d) v = a' := by first | (simp only [Act.put, sA, s0, sS]; done) | (simp only [Act.put, sA, s0, sS]; rfl) | rfl) : U8 P md ops Q S s (fuel + 1) listed a w :=
 WY (some d) hi hd dk hf hr hs hQ (Or.inl ⟨hg, hy⟩) hS (ha ▸ h)
theorem tkS (i d : Nat) {oi : Oper} {fuel : Nat} {listed : Array Bool} {a a' : Act} {w : World} (hS : S w)
  (h : U8 P md ops Q S s fuel (listed.setIfInBounds i true) a' w) (hi : ops[i]? = some oi := by rfl) (hg : Region.wanted oi (yielded ops a.tmps) = false := by rfl) (hd : oi.dst = some d := by rfl)
  (dk : Region.noSelect ops = true := by kernel_rfl) (hf : Region.free md ops listed i = true := by kernel_rfl) (hr : (Region.ready md ops listed).contains i = true := by kernel_rfl) (hs : waits md ops s i = true := by kernel_rfl)
  (hQ : ∀ c a w, Q (.panic c) (a.put (some d) undef) w → Q (.panic c) a w := by exact fun _ _ _ h => h)
  (ha : a.put (some d) undef = a' := by first | (simp only [Act.put, sA, s0, sS]; done) | (simp only [Act.put, sA, s0, sS]; rfl) | rfl) : U8 P md ops Q S s (fuel + 1) listed a w :=
 WY (some d) hi hd dk hf hr hs hQ (Or.inr ⟨hg, rfl⟩) hS (ha ▸ h)
theorem TP {i : Nat} {o : Oper} {fuel : Nat} {listed : Array Bool} {a : Act} {w : World} (hr : Region.ready md ops listed = [i]) (ho : ops[i]? = some o)
  (h : ∀ K' : Act → World → Prop, Shut (∀ a w, (i ≠ s → S w) → U8 P md ops Q S s fuel (listed.setIfInBounds i true) a w → K' a w) → if Region.wanted o (yielded ops a.tmps) = true then Oper.wp P o a w K' Q else K' (a.put o.dst undef) w) :
  U8 P md ops Q S s (fuel + 1) listed a w := by
 constructor
 ·intro h0; simp [hr] at h0
 ·intro j hj
  rw [hr] at hj
  obtain rfl : j = i := by simpa using hj
  exact wpOp_step ho (fun K' hK => h K' (fun a w hS hW => hK a w ⟨hS, hW⟩))
theorem o1Q (i : Nat) {o : Oper} {fuel : Nat} {listed : Array Bool} {a : Act} {w : World}
  (h : ∀ K' : Act → World → Prop, Shut (∀ a w, (i ≠ s → S w) → U8 P md ops Q S s fuel (listed.setIfInBounds i true) a w → K' a w) → if Region.wanted o (yielded ops a.tmps) = true then Oper.wp P o a w K' Q else K' (a.put o.dst undef) w) (hr : Region.ready md ops listed = [i] := by kernel_rfl) (ho : ops[i]? = some o := by rfl) :
  U8 P md ops Q S s (fuel + 1) listed a w := TP hr ho h
theorem YH {i j : Nat} {o o' : Oper} {fuel : Nat} {listed : Array Bool} {a : Act} {w : World} (hr : Region.ready md ops listed = [i, j]) (ho : ops[i]? = some o) (OR : ops[j]? = some o')
  (h : ∀ K' : Act → World → Prop, Shut (∀ a w, (i ≠ s → S w) → U8 P md ops Q S s fuel (listed.setIfInBounds i true) a w → K' a w) → if Region.wanted o (yielded ops a.tmps) = true then Oper.wp P o a w K' Q else K' (a.put o.dst undef) w)
  (h' : ∀ K' : Act → World → Prop, Shut (∀ a w, (j ≠ s → S w) → U8 P md ops Q S s fuel (listed.setIfInBounds j true) a w → K' a w) → if Region.wanted o' (yielded ops a.tmps) = true then Oper.wp P o' a w K' Q else K' (a.put o'.dst undef) w) :
  U8 P md ops Q S s (fuel + 1) listed a w := by
 constructor
 ·intro h0; simp [hr] at h0
 ·intro k hk
  rw [hr] at hk;simp only [List.mem_cons, List.not_mem_nil, or_false] at hk
  rcases hk with rfl | rfl
  ·exact wpOp_step ho (fun K' hK => h K' (fun a w hS hW => hK a w ⟨hS, hW⟩))
  ·exact wpOp_step OR (fun K' hK => h' K' (fun a w hS hW => hK a w ⟨hS, hW⟩))
theorem TS {fuel : Nat} {listed : Array Bool} {a : Act} {w : World} (hr : Region.ready md ops listed = []) (h : Q .normal a w) : U8 P md ops Q S s fuel listed a w := by
 cases fuel with
 | zero => exact ⟨hr, h⟩
 | succ n => exact ⟨fun _ => h, by rw [hr]; simp⟩
theorem TT {id : Nat} {a : Act} {w : World} (S : World → Prop) (s n : Nat) (hn : ops.size = n) (hm : P.follows .mixedOrders = true) (h : U8 P .any ops Q S s n (Array.replicate n false) a w.drew) : (Code.region id ops true).wp P Q a w := by
 subst hn;exact wp_region_any hm (jaj _ _ _ _ h)
end
def X3 (p : Int) : Int := if inB p 1 16 = true then 9 * p + 24 else -1
def YX (p f l : Int) : Int := if inB p 1 16 = false then 1 else if inB f 3 16 = false then 2 else if inB l (X3 p) 800 = false then 3 else 0
theorem jbN {v a b : Int} (h : inB v a b = true) : a ≤ v ∧ v ≤ b := by simpa [inB] using h
theorem jak (p : Int) (w : World) : Calls Tryz.prog 82 #[V p] w fun e w' => e = .returned (V (X3 p)) ∧ Same w w' := by
 have k1 := fun wx => TV p 1 16 wx;unfold X3
 cases h : inB p 1 16 with
 | false =>
  rw [h] at k1
  go_enter Tryz.func82, Tryz.ntmps82
  go_wp2_with fail
  refine (k1 _).mono ?_;rintro e w1 ⟨rfl, af⟩;go_wp2;go_ret;exact ⟨rfl, af⟩
 | true =>
  rw [h] at k1;obtain ⟨h1, h2⟩ := jbN h
  have df : IntKind.i64.wrap (9 * p) = 9 * p := by rw [IntKind.wrap_i64]; omega
  have iC : IntKind.i64.wrap (9 * p + 24) = 9 * p + 24 := by rw [IntKind.wrap_i64]; omega
  go_enter Tryz.func82, Tryz.ntmps82
  go_wp2_with fail
  refine (k1 _).mono ?_;rintro e w1 ⟨rfl, af⟩;go_wp2;go_ret;exact ⟨by first | rfl | trivial, af⟩
theorem jcs (p f l : Int) (w : World) : Calls Tryz.prog 48 #[.agg #[V p, V f, V l]] w fun e w' => e = .returned (V (YX p f l)) ∧ Same w w' := by
 have ay := hid (Uj w [V p, V f, V l] 35);have b0 := Blk.newL w [V p, V f, V l] 35;have k1 := fun wx => TV p 1 16 wx;have k2 := fun wx => TV f 3 16 wx;have k3 := fun wx => jak p wx;have k4 := fun wx => TV l (X3 p) 800 wx;unfold YX;generalize X3 p = ml at k3 k4 ⊢
 cases h1 : inB p 1 16 with
 | false =>
  rw [h1] at k1
  go_enter Tryz.func48, Tryz.ntmps48
  go_wp2_with fail
  refine (k1 _).mono ?_;rintro e w1 ⟨rfl, af⟩;go_wp2;go_ret;exact ⟨rfl, ay.out.trans af⟩
 | true =>
  rw [h1] at k1
  go_enter Tryz.func48, Tryz.ntmps48
  go_wp2_with fail
  refine (k1 _).mono ?_;rintro e w1 ⟨rfl, af⟩;have b1 := b0.same af;have ao := hid (ay.out.trans af);obtain ⟨c0, c1, c2⟩ := b1.all3;clear af
  cases h2 : inB f 3 16 with
  | false =>
   rw [h2] at k2
   go_wp2_with fail
   refine (k2 _).mono ?_;rintro e w2 ⟨rfl, ae⟩;have ap := hid (ao.out.trans ae);go_wp2;go_ret;exact ⟨rfl, ap.out⟩
  | true =>
   rw [h2] at k2
   go_wp2_with fail
   refine (k2 _).mono ?_;rintro e w2 ⟨rfl, ae⟩;have b2 := b1.same ae;have ap := hid (ao.out.trans ae);obtain ⟨d0, d1, d2⟩ := b2.all3;clear ae
   let Y1 : World → Prop := fun wx : World => wx.cell? ⟨w.heap.size, 0, none⟩ = some (V p) ∧ wx.cell? ⟨w.heap.size, 2, none⟩ = some (V l)
   have hS : Y1 w2.drew := ⟨d0, d2⟩
   go_wp2_with fail
   refine TT Y1 99 7 rfl (by kernel_rfl) ?_;refine tk 0 11 hS ?_;refine tk 1 12 hS ?_;refine tk 2 13 hS ?_;refine tk 3 14 hS ?_;refine o1Q 4 (fun K hK => ?_);go_simp;refine (k3 _).mono ?_;rintro e w3 ⟨rfl, ar⟩;have kX : Hid (Same w2 w3) := kZ0.drew.trans ar;have ax := hid (ap.out.trans kX.out);have hS : Y1 w3 := ⟨kX.out.cellOf d0 id, kX.out.cellOf d2 id⟩
   go_wp2_with fail
   refine hK.out _ _ (fun _ => hS) ?_;clear hK K ar
   try simp only [Act.put, sA, s0, sS]
   refine o1Q 5 (fun K hK => ?_);go_simp;refine (k4 _).mono ?_;rintro e w4 ⟨rfl, aM⟩;have aR := hid (ax.out.trans aM);have hS : Y1 w4 := ⟨aM.cellOf hS.1 id, aM.cellOf hS.2 id⟩
   go_wp2_with fail
   refine hK.out _ _ (fun _ => hS) ?_;clear hK K aM
   try simp only [Act.put, sA, s0, sS]
   refine tk 6 17 hS ?_;refine TS (by kernel_rfl) ?_
   cases h3 : inB l ml 800 with
   | false =>
    go_wp2;go_ret;exact ⟨rfl, aR.out⟩
   | true =>
    go_wp2;go_ret;exact ⟨rfl, aR.out⟩
abbrev T3 := Int × Int × Int
def tri : List Int → List T3
 | a :: b :: c :: t => (a, b, c) :: tri t
 | _ => []
def flat3 : List T3 → List Int
 | [] => []
 | (a, b, c) :: t => a :: b :: c :: flat3 t
theorem Xk : ∀ ls : List T3, tri (flat3 ls) = ls
 | [] => rfl
 | (a, b, c) :: t => by simp [flat3, tri, Xk t]
theorem VK : ∀ (n : Nat) (bs : List Int), bs.length = n * 3 → (tri bs).length = n
 | 0, bs, h => by obtain rfl : bs = [] := List.length_eq_zero_iff.1 (by omega); rfl
 | n + 1, a :: b :: c :: t, h => by simp [tri, VK n t (by simp at h; omega)]
 | n + 1, [], h => by simp at h
 | n + 1, [a], h => by simp at h; omega
 | n + 1, [a, b], h => by simp at h; omega
theorem YZ : ∀ xs ys : List T3, flat3 (xs ++ ys) = flat3 xs ++ flat3 ys
 | [], ys => rfl
 | (a, b, c) :: t, ys => by simp [flat3, YZ t ys]
theorem jfO : ∀ (bs : List Int) (k : Nat) (h : k < (tri bs).length), (tri bs)[k] = (bs.getD (k * 3) 0, bs.getD (k * 3 + 1) 0, bs.getD (k * 3 + 2) 0)
 | a :: b :: c :: t, 0, h => by simp [tri]
 | a :: b :: c :: t, k + 1, h => by
  have h' : k < (tri t).length := by simpa [tri] using h
  have ih := jfO t k h'
  have e : (tri (a :: b :: c :: t))[k + 1] = (tri t)[k] := by simp [tri]
  rw [e, ih, show (k + 1) * 3 = k * 3 + 3 by omega];simp [List.getD, show k * 3 + 3 + 1 = k * 3 + 1 + 3 by omega, show k * 3 + 3 + 2 = k * 3 + 2 + 3 by omega]
 | [], k, h => by simp [tri] at h
 | [a], k, h => by simp [tri] at h
 | [a, b], k, h => by simp [tri] at h
theorem RdF.tri {w : World} {e : TypeId} {b off n c : Nat} {bs : List Int} (h : RdF 3 w ⟨e, some ⟨b, off, none⟩, n, c, bs⟩) (k : Nat) (hk : k < (tri bs).length) (x y z : Int) (hx : (tri bs)[k] = (x, y, z)) :
  w.cell? ⟨b, off + k * 3, none⟩ = some (V x) ∧ w.cell? ⟨b, off + k * 3 + 1, none⟩ = some (V y) ∧ w.cell? ⟨b, off + k * 3 + 2, none⟩ = some (V z) := by
 have hl := VK n bs h.2.1
 have IV : k < n := by omega
 rw [jfO] at hx;simp only [Prod.mk.injEq] at hx;obtain ⟨rfl, rfl, rfl⟩ := hx
 rcases h.2.2 with h0 | ⟨b', Dm, he, dW, hc⟩
 ·dsimp only at h0; omega
 ·dsimp only at he hc
  injection he with he
  injection he with e1 e2
  subst e1 e2;exact ⟨hc _ (by omega), by rw [Nat.add_assoc]; exact hc _ (by omega), by rw [Nat.add_assoc]; exact hc _ (by omega)⟩
theorem RdF.some {m : Nat} {w : World} {x : FR} (h : RdF m w x) (h0 : 0 < x.n) : ∃ b off, x.a = some ⟨b, off, none⟩ ∧ x.n ≤ x.c := by
 rcases h.2.2 with h1 | ⟨b, off, he, dW, _⟩
 ·omega
 ·exact ⟨b, off, he, dW⟩
def nbr (f : T3 → T3 → Bool) : List T3 → Bool
 | a :: b :: t => f a b || nbr f (b :: t)
 | _ => false
theorem jbO (f : T3 → T3 → Bool) : ∀ ls : List T3, nbr f ls = true ↔ ∃ (k : Nat) (h : k + 1 < ls.length), f ls[k] ls[k + 1] = true
 | [] => by simp [nbr]
 | [a] => by simp [nbr]
 | a :: b :: t => by
  have ih := jbO f (b :: t);simp only [nbr, Bool.or_eq_true];constructor
  ·rintro (h | h)
   ·exact ⟨0, by simp, h⟩
   ·obtain ⟨k, hk, h⟩ := ih.1 h
    exact ⟨k + 1, by simpa using hk, by simpa using h⟩
  ·rintro ⟨k, hk, h⟩
   match k, hk, h with
   | 0, _, h => exact .inl h
   | k + 1, hk, h => exact .inr (ih.2 ⟨k, by simpa using hk, by simpa using h⟩)
theorem jbP {f : T3 → T3 → Bool} {ls : List T3} (h : ∀ (k : Nat) (h : k + 1 < ls.length), f ls[k] ls[k + 1] = false) : nbr f ls = false := by
 cases e : nbr f ls with
 | false => rfl
 | true => obtain ⟨k, hk, hf⟩ := (jbO f ls).1 e; rw [h k hk] at hf; cases hf
theorem Y7 {f : T3 → T3 → Bool} {ls : List T3} (k : Nat) (h : k + 1 < ls.length) (hf : f ls[k] ls[k + 1] = true) : nbr f ls = true := (jbO f ls).2 ⟨k, h, hf⟩
theorem jbQ {f : T3 → T3 → Bool} {ls : List T3} (hn : nbr f ls = false) (k : Nat) (h : k + 1 < ls.length) : f ls[k] ls[k + 1] = false := by
 cases e : f ls[k] ls[k + 1] with
 | false => rfl
 | true => rw [Y7 k h e] at hn; cases hn
theorem jeC {f : T3 → Bool} {ls : List T3} (h : ∀ (k : Nat) (h : k < ls.length), f ls[k] = false) : ls.any f = false := by
 rw [List.any_eq_false];intro x hx;obtain ⟨k, hk, rfl⟩ := List.getElem_of_mem hx;rw [h k hk];exact Bool.false_ne_true
theorem jal {f : T3 → Bool} {ls : List T3} (k : Nat) (h : k < ls.length) (hf : f ls[k] = true) : ls.any f = true := List.any_eq_true.2 ⟨_, List.getElem_mem h, hf⟩
theorem Rd.at {w : World} {a : Option Addr} {n c : Nat} {zs : List Int} (h : Rd .i64 w (.slice a n c) zs) {k : Nat} (hk : k < zs.length) : ∃ b off, a = some ⟨b, off, none⟩ ∧ w.cell? ⟨b, off + k, none⟩ = some (V (zs.getD k 0)) := by
 rcases h.2 with ⟨i9, _⟩ | ⟨b, off, c', h, _, hc⟩
 ·rw [i9] at hk; simp at hk
 ·cases h; exact ⟨b, off, rfl, hc k hk⟩
theorem Yy (x : Int) (w : World) : Calls Tryz.prog 90 #[V x] w fun e w' => e = .returned (.bool (inB x 1 16)) ∧ w' = w := by
 unfold inB
 by_cases h : 1 ≤ x
 ·by_cases h2 : x ≤ 16
  ·go_enter Tryz.func90, Tryz.ntmps90
   go_wp2;go_ret;exact ⟨by simp [h, h2], rfl⟩
  ·go_enter Tryz.func90, Tryz.ntmps90
   go_wp2;go_ret;exact ⟨by simp [h]; try omega, rfl⟩
 ·go_enter Tryz.func90, Tryz.ntmps90
  go_wp2;go_ret;exact ⟨by rw [show decide (1 ≤ x) = false from by simp; omega]; rfl, rfl⟩
theorem jam (p : Int) (w : World) : Calls Tryz.prog 91 #[V p] w fun e w' => e = .returned (V (X3 p)) ∧ Same w w' := by
 have k1 := fun wx => Yy p wx;unfold X3
 cases h : inB p 1 16 with
 | false =>
  rw [h] at k1
  go_enter Tryz.func91, Tryz.ntmps91
  go_wp2_with fail
  refine (k1 _).mono ?_;rintro e w1 ⟨rfl, rfl⟩;go_wp2;go_ret;exact ⟨rfl, kZ0⟩
 | true =>
  rw [h] at k1;obtain ⟨h1, h2⟩ := jbN h
  have df : IntKind.i64.wrap (9 * p) = 9 * p := by rw [IntKind.wrap_i64]; omega
  have iC : IntKind.i64.wrap (9 * p + 24) = 9 * p + 24 := by rw [IntKind.wrap_i64]; omega
  go_enter Tryz.func91, Tryz.ntmps91
  go_wp2_with fail
  refine (k1 _).mono ?_;rintro e w1 ⟨rfl, rfl⟩;go_wp2;go_ret;exact ⟨by first | rfl | trivial, kZ0⟩
theorem jct (p f l : Int) (w : World) : Calls Tryz.prog 59 #[.agg #[V p, V f, V l]] w fun e w' => e = .returned (V (YX p f l)) ∧ Same w w' := by
 have ay := hid (Uj w [V p, V f, V l] 35);have b0 := Blk.newL w [V p, V f, V l] 35;have k1 := fun wx => Yy p wx;have k3 := fun wx => jam p wx;obtain ⟨R, hR⟩ : ∃ R, YX p f l = R := ⟨_, rfl⟩;rw [hR];unfold YX at hR;generalize X3 p = ml at k3 hR
 cases h1 : inB p 1 16 with
 | false =>
  rw [h1] at k1 hR;rw [if_pos rfl] at hR;subst hR
  go_enter Tryz.func59, Tryz.ntmps59
  go_wp2_with fail
  refine (k1 _).mono ?_;rintro e w1 ⟨rfl, rfl⟩;go_wp2;go_ret;exact ⟨rfl, ay.out⟩
 | true =>
  rw [h1] at k1 hR;rw [if_neg (by simp)] at hR;obtain ⟨c0, c1, c2⟩ := b0.all3
  by_cases h2 : f < 3
  ·rw [if_pos (by simp [inB]; omega)] at hR
   subst hR
   go_enter Tryz.func59, Tryz.ntmps59
   go_wp2_with fail
   refine (k1 _).mono ?_;rintro e w1 ⟨rfl, rfl⟩;go_wp2;go_ret;exact ⟨rfl, ay.out⟩
  by_cases h3 : 16 < f
  ·rw [if_pos (by simp [inB]; omega)] at hR
   subst hR
   go_enter Tryz.func59, Tryz.ntmps59
   go_wp2_with fail
   refine (k1 _).mono ?_;rintro e w1 ⟨rfl, rfl⟩;go_wp2;go_ret;exact ⟨rfl, ay.out⟩
  rw [if_neg (by simp [inB]; omega)] at hR
  go_enter Tryz.func59, Tryz.ntmps59
  go_wp2_with fail
  refine (k1 _).mono ?_;rintro e w1 ⟨rfl, rfl⟩;generalize w.alloc (.cells #[V p, V f, V l] 35) = wa at c0 c1 c2 ay ⊢;clear b0
  go_wp2_with fail
  let Y1 : World → Prop := fun wx : World => wx.cell? ⟨w.heap.size, 0, none⟩ = some (V p) ∧ wx.cell? ⟨w.heap.size, 2, none⟩ = some (V l)
  have hS : Y1 wa.drew := ⟨c0, c2⟩;refine TT Y1 99 12 rfl (by kernel_rfl) ?_;refine tk 0 18 hS ?_;refine tk 1 19 hS ?_;refine tk 2 20 hS ?_;refine tk 3 21 hS ?_;refine o1Q 4 (fun K hK => ?_);go_simp;refine (k3 _).mono ?_;rintro e w3 ⟨rfl, ar⟩;have kX : Hid (Same wa w3) := kZ0.drew.trans ar;have ax := hid (ay.out.trans kX.out);have hS : Y1 w3 := ⟨kX.out.cellOf c0 id, kX.out.cellOf c2 id⟩;refine hK.out _ _ (fun _ => hS) ?_;clear hK K ar
  try simp only [Act.put, sA, s0, sS]
  by_cases h4 : l < ml
  ·rw [if_pos (by simp [inB]; omega)] at hR
   subst hR;refine tkV 5 23 (.bool true) hS ?_;refine tk 6 24 hS ?_;refine tkS 7 25 hS ?_;refine tkS 8 26 hS ?_;refine tkS 9 27 hS ?_;refine tk 10 28 hS ?_;refine tk 11 17 hS ?_;refine TS (by kernel_rfl) ?_;go_wp2;go_ret;exact ⟨rfl, ax.out⟩
  ·by_cases h5 : 800 < l
   ·rw [if_pos (by simp [inB]; omega)] at hR
    subst hR;refine tkV 5 23 (.bool false) hS ?_;refine tk 6 24 hS ?_;refine tk 7 25 hS ?_;refine tk 8 26 hS ?_;refine tkV 9 27 (.bool true) hS ?_;refine tk 10 28 hS ?_;refine tk 11 17 hS ?_;refine TS (by kernel_rfl) ?_;go_wp2;go_ret;exact ⟨rfl, ax.out⟩
   ·rw [if_neg (by simp [inB]; omega)] at hR
    subst hR;refine tkV 5 23 (.bool false) hS ?_;refine tk 6 24 hS ?_;refine tk 7 25 hS ?_;refine tk 8 26 hS ?_;refine tkV 9 27 (.bool false) hS ?_;refine tk 10 28 hS ?_;refine tk 11 17 hS ?_;refine TS (by kernel_rfl) ?_;go_wp2;go_ret;exact ⟨rfl, ax.out⟩
theorem jcu (va vb : Value) (ps qs : List StStep) (w : World) (hn : ps.length ≤ 1125899906842624) (hs : Um ps = Um qs) (gR : ∀ p ∈ ps, p.size ≤ 1125899906842624)
  (ha : OwnSp w va ps) (hb : OwnSp w vb qs) :
  Calls Tryz.prog 15 #[va, vb] w fun e w' => e = .returned (.bool true) ∧ Same w w' := by
 have az : qs.length = ps.length := by rw [← Ul, ← Ul, hs]
 by_cases hz : ps.length = 0
 ·obtain rfl : ps = [] := List.length_eq_zero_iff.1 hz
  obtain rfl : qs = [] := List.length_eq_zero_iff.1 az
  obtain ⟨aa, ca, rfl⟩ : ∃ aa ca, va = .slice aa 0 ca := by rcases ha.own.form with ⟨rfl, _⟩ | ⟨g, cap, rfl, _⟩ <;> exact ⟨_, _, rfl⟩
  obtain ⟨ab, cb, rfl⟩ : ∃ aa ca, vb = .slice aa 0 ca := by rcases hb.own.form with ⟨rfl, _⟩ | ⟨g, cap, rfl, _⟩ <;> exact ⟨_, _, rfl⟩
  clear ha hb hn hz hs
  go_enter Tryz.func15, Tryz.ntmps15
  go_wp2;refine wp_loop_rounds 1 ?_;rw [rounds_succ];go_wp2;go_ret;exact ⟨rfl, kZ0⟩
 ·obtain ⟨ga, ca, rfl⟩ : ∃ g cap, va = Q4 g ps.length cap := by
   rcases ha.own.form with ⟨_, h⟩ | ⟨g, cap, h, _⟩
   ·simp [h] at hz
   ·exact ⟨g, cap, h⟩
  obtain ⟨gb, cb, rfl⟩ : ∃ g cap, vb = Q4 g ps.length cap := by
   rcases hb.own.form with ⟨_, h⟩ | ⟨g, cap, h, _⟩
   ·simp [h] at az; omega
   ·exact ⟨g, cap, by rw [h, az]⟩
  have HA := hid ha;have HB := hid hb;have HQ : Hid (qs.length = ps.length) := az;have HS : Hid (Um ps = Um qs) := hs;have HM : Hid (∀ p ∈ ps, p.size ≤ 1125899906842624) := gR;clear ha hb hs az gR;generalize hl : ps.length = len at hn hz HA HB ⊢;have HL : Hid (ps.length = len) := hl;clear hl
  go_enter Tryz.func15, Tryz.ntmps15
  go_wp2
  go_loopw [5] (fun i wr => ∃ (k : Nat), k ≤ len ∧ i = V k ∧ Hid (Same w wr)) (fun i _ => len - (intOf i).toNat)
  case atStart => exact ⟨0, Nat.zero_le _, rfl, kZ0⟩
  case round =>
   obtain ⟨k, hk, rfl, HK⟩ := hrel
   by_cases aG : k < len
   ·have aF : k < ps.length := by rw [HL.out]; exact aG
    have cV : k < qs.length := by rw [HQ.out]; exact aF
    have ef := (HA.out.same HK.out).own;have d8 := (HB.out.same HK.out).own;have ek := jfM HS.out k aF cV;have s3 := HM.out _ (List.getElem_mem aF);have fu := (HA.out.same HK.out).rows.memSp _ (List.getElem_mem aF);have gG := (HB.out.same HK.out).rows.memSp _ (List.getElem_mem cV);obtain ⟨P, hP⟩ : ∃ P, ps[k] = P := ⟨_, rfl⟩;obtain ⟨Q, hQ⟩ : ∃ Q, qs[k] = Q := ⟨_, rfl⟩;rw [hP] at ek s3 fu;rw [hQ] at ek gG
    have l7 : wr.cell? ⟨ga, k * 6, none⟩ = some (V P.kd) := by have h := ef.cell HL.out.symm k 0 aF (by decide); rw [hP] at h; exact h
    have l4 : wr.cell? ⟨ga, k * 6 + 1, none⟩ = some (V P.tx) := by have h := ef.cell HL.out.symm k 1 aF (by decide); rw [hP] at h; exact h
    have rM : wr.cell? ⟨ga, k * 6 + 2, none⟩ = some (V P.rid) := by have h := ef.cell HL.out.symm k 2 aF (by decide); rw [hP] at h; exact h
    have yU : wr.cell? ⟨ga, k * 6 + 3, none⟩ = some (V P.cnt) := by have h := ef.cell HL.out.symm k 3 aF (by decide); rw [hP] at h; exact h
    have zt : wr.cell? ⟨ga, k * 6 + 4, none⟩ = some (P.data.v) := by have h := ef.cell HL.out.symm k 4 aF (by decide); rw [hP] at h; exact h
    have ym : wr.cell? ⟨ga, k * 6 + 5, none⟩ = some (P.keep.v) := by have h := ef.cell HL.out.symm k 5 aF (by decide); rw [hP] at h; exact h
    have bR : wr.cell? ⟨gb, k * 6, none⟩ = some (V Q.kd) := by have h := d8.cell (by rw [HQ.out, HL.out]) k 0 cV (by decide); rw [hQ] at h; exact h
    have cW : wr.cell? ⟨gb, k * 6 + 1, none⟩ = some (V Q.tx) := by have h := d8.cell (by rw [HQ.out, HL.out]) k 1 cV (by decide); rw [hQ] at h; exact h
    have aV : wr.cell? ⟨gb, k * 6 + 2, none⟩ = some (V Q.rid) := by have h := d8.cell (by rw [HQ.out, HL.out]) k 2 cV (by decide); rw [hQ] at h; exact h
    have bP : wr.cell? ⟨gb, k * 6 + 3, none⟩ = some (V Q.cnt) := by have h := d8.cell (by rw [HQ.out, HL.out]) k 3 cV (by decide); rw [hQ] at h; exact h
    have eE : wr.cell? ⟨gb, k * 6 + 4, none⟩ = some (Q.data.v) := by have h := d8.cell (by rw [HQ.out, HL.out]) k 4 cV (by decide); rw [hQ] at h; exact h
    have gI : wr.cell? ⟨gb, k * 6 + 5, none⟩ = some (Q.keep.v) := by have h := d8.cell (by rw [HQ.out, HL.out]) k 5 cV (by decide); rw [hQ] at h; exact h
    have HD := hid ek;have qJ := hid s3;have mM := hid fu;have nm := hid gG;clear ef d8 ek fu gG s3 hP hQ
    go_wp2_with fail
    let Y1 : World → Prop := fun wx : World => (wx.cell? ⟨ga, k * 6, none⟩ = some (V P.kd) ∧ wx.cell? ⟨ga, k * 6 + 1, none⟩ = some (V P.tx) ∧ wx.cell? ⟨ga, k * 6 + 2, none⟩ = some (V P.rid) ∧ wx.cell? ⟨ga, k * 6 + 3, none⟩ = some (V P.cnt) ∧ wx.cell? ⟨ga, k * 6 + 4, none⟩ = some (P.data.v) ∧ wx.cell? ⟨ga, k * 6 + 5, none⟩ = some (P.keep.v)) ∧ (wx.cell? ⟨gb, k * 6, none⟩ = some (V Q.kd) ∧ wx.cell? ⟨gb, k * 6 + 1, none⟩ = some (V Q.tx) ∧ wx.cell? ⟨gb, k * 6 + 2, none⟩ = some (V Q.rid) ∧ wx.cell? ⟨gb, k * 6 + 3, none⟩ = some (V Q.cnt) ∧ wx.cell? ⟨gb, k * 6 + 4, none⟩ = some (Q.data.v) ∧ wx.cell? ⟨gb, k * 6 + 5, none⟩ = some (Q.keep.v))
    have hS : Y1 wr.drew := ⟨⟨l7, l4, rM, yU, zt, ym⟩, ⟨bR, cW, aV, bP, eE, gI⟩⟩;refine TT Y1 99 10 rfl (by kernel_rfl) ?_;refine tk 0 17 hS ?_;refine tk 1 18 hS ?_;refine tkV 2 19 (.pointer (some ⟨ga, k * 6, none⟩)) hS ?_;refine tk 3 20 hS ?_;refine tk 4 21 hS ?_;refine tk 5 22 hS ?_;refine tkV 6 23 (.pointer (some ⟨gb, k * 6, none⟩)) hS ?_;refine tk 7 24 hS ?_;refine o1Q 8 (fun K hK => ?_);go_simp;refine (jdB P Q _ qJ.out HD.out (mM.out.same kZ0.drew) (nm.out.same kZ0.drew)).mono ?_;rintro e w1 ⟨rfl, af⟩;have ao : Hid (Same w w1) := HK.out.drew.trans af;have aZ : Hid (Same wr w1) := kZ0.drew.trans af;refine hK.out _ _ (fun _ => ⟨⟨(aZ.out.cellOf l7 id), (aZ.out.cellOf l4 id), (aZ.out.cellOf rM id), (aZ.out.cellOf yU id), (aZ.out.cellOf zt id), (aZ.out.cellOf ym id)⟩, ⟨(aZ.out.cellOf bR id), (aZ.out.cellOf cW id), (aZ.out.cellOf aV id), (aZ.out.cellOf bP id), (aZ.out.cellOf eE id), (aZ.out.cellOf gI id)⟩⟩) ?_;clear hK K
    try simp only [Act.put, sA, s0, sS]
    refine o1Q 9 (fun K hK => ?_);go_simp;refine hK.out _ _ (fun h => ⟨⟨(aZ.out.cellOf l7 id), (aZ.out.cellOf l4 id), (aZ.out.cellOf rM id), (aZ.out.cellOf yU id), (aZ.out.cellOf zt id), (aZ.out.cellOf ym id)⟩, ⟨(aZ.out.cellOf bR id), (aZ.out.cellOf cW id), (aZ.out.cellOf aV id), (aZ.out.cellOf bP id), (aZ.out.cellOf eE id), (aZ.out.cellOf gI id)⟩⟩) ?_;clear hK K af
    try simp only [Act.put, sA, s0, sS]
    refine TS (by kernel_rfl) ?_;go_wp2;go_roundw
    case rel => exact ⟨k + 1, by omega, by go_num, ao⟩
    case measure => simp [intOf]; omega
   ·go_wp2
    go_ret;exact ⟨rfl, HK.out⟩
theorem jcv (v : Value) (ps : List StStep) (left : Int) (w : World) (h0 : 0 ≤ left) (h1 : left ≤ 1048576) (hp : RdSp w v ps) :
  Calls Tryz.prog 5 #[v, V left] w fun e w' => ∃ r : Int, e = .returned (V r) ∧ (r = -1 ∨ (r = left - ps.length - UZ ps ∧ 0 ≤ r)) ∧ Same w w' := by
 have hn := hp.row.max;unfold maxLen at hn
 rcases hp.row.row with ⟨rfl, a, c, rfl⟩ | ⟨b, off, c, rfl, hc⟩
 ·clear hp hn
  go_enter Tryz.func5, Tryz.ntmps5
  go_wp2;refine wp_loop_rounds 1 ?_;rw [rounds_succ];go_wp2;go_ret;exact ⟨_, rfl, .inr ⟨by simp [UZ], by omega⟩, kZ0⟩
 ·have HP := hid hp
  have HC : Hid (∀ j i, (h : j < ps.length) → i < 6 → w.cell? ⟨b, off + (j * 6 + i), none⟩ = (kSp.cells ps[j])[i]?) := hc;clear hp hc;generalize hl : ps.length = len at hn HP ⊢;have HL : Hid (ps.length = len) := hl;clear hl
  by_cases h : left < len
  ·go_enter Tryz.func5, Tryz.ntmps5
   go_wp2;go_ret;exact ⟨_, rfl, .inl rfl, kZ0⟩
  ·go_enter Tryz.func5, Tryz.ntmps5
   go_wp2
   go_loopw [1, 5] (fun u i wr => ∃ (k : Nat) (r : Int), k ≤ len ∧ i = V k ∧ u = V r ∧ 0 ≤ r ∧ r ≤ left ∧ Hid (r = left - len - UZ (ps.take k)) ∧ Hid (Same w wr)) (fun _ i _ => len - (intOf i).toNat)
   case atStart => exact ⟨0, left - len, Nat.zero_le _, rfl, rfl, by omega, by omega, by simp [UZ, Hid], kZ0⟩
   case round =>
    obtain ⟨k, r, hk, rfl, rfl, mA, lG, HR, HK⟩ := hrel
    by_cases aG : k < len
    ·have aF : k < ps.length := by rw [HL.out]; exact aG
     have eo := hid (jcn ps k aF);have ch := (HP.out.data _ (List.getElem_mem aF)).same HK.out;obtain ⟨P, hP⟩ : ∃ P, ps[k] = P := ⟨_, rfl⟩;rw [hP] at eo ch;have q0 : wr.cell? ⟨b, off + k * 6, none⟩ = some (V P.kd) := HK.out.cellOf (p := ⟨b, off + k * 6, none⟩) (by have h := HC.out k 0 aF (by decide); rw [hP] at h; exact h) id;have q1 : wr.cell? ⟨b, off + k * 6 + 1, none⟩ = some (V P.tx) := HK.out.cellOf (p := ⟨b, off + k * 6 + 1, none⟩) (by have h := HC.out k 1 aF (by decide); rw [hP, ← Nat.add_assoc] at h; exact h) id;have q2 : wr.cell? ⟨b, off + k * 6 + 2, none⟩ = some (V P.rid) := HK.out.cellOf (p := ⟨b, off + k * 6 + 2, none⟩) (by have h := HC.out k 2 aF (by decide); rw [hP, ← Nat.add_assoc] at h; exact h) id;have q3 : wr.cell? ⟨b, off + k * 6 + 3, none⟩ = some (V P.cnt) := HK.out.cellOf (p := ⟨b, off + k * 6 + 3, none⟩) (by have h := HC.out k 3 aF (by decide); rw [hP, ← Nat.add_assoc] at h; exact h) id;have q4 : wr.cell? ⟨b, off + k * 6 + 4, none⟩ = some (P.data.v) := HK.out.cellOf (p := ⟨b, off + k * 6 + 4, none⟩) (by have h := HC.out k 4 aF (by decide); rw [hP, ← Nat.add_assoc] at h; exact h) id;have q5 : wr.cell? ⟨b, off + k * 6 + 5, none⟩ = some (P.keep.v) := HK.out.cellOf (p := ⟨b, off + k * 6 + 5, none⟩) (by have h := HC.out k 5 aF (by decide); rw [hP, ← Nat.add_assoc] at h; exact h) id;have eT := hid ch;clear ch hP
     go_wp2_with fail
     refine (jdC P r _ mA (by omega) eT.out).mono ?_;rintro e w1 ⟨r1, rfl, dZ, af⟩;have ao : Hid (Same w w1) := HK.out.trans af;clear q0 q1 q2 q3 q4 q5 af
     rcases dZ with rfl | ⟨dZ, BD⟩
     ·go_wp2
      go_ret;exact ⟨_, rfl, .inl rfl, ao.out⟩
     ·have Dh : r1 ≤ left := by have := P.szs_le; omega
      have rG : Hid (r1 = r - P.szs) := dZ;clear dZ;go_wp2;go_roundw
      case rel => exact ⟨k + 1, r1, by omega, by go_num, rfl, BD, Dh, by have h1 := rG.out; have h2 := HR.out; have h3 := eo.out; unfold Hid; omega, ao⟩
      case measure => simp [intOf]; omega
    ·go_wp2
     go_ret
     obtain rfl : k = len := by omega
     have h1 := HR.out;have h2 := HL.out;rw [← h2, List.take_length] at h1;exact ⟨r, rfl, .inr ⟨by omega, mA⟩, HK.out⟩
theorem Tryz.infoSp : (Tryz.prog.info? 71).map (fun i => (i.zero, i.size, i.bytes)) = some (some (.agg #[V 0, V 0, V 0, V 0, V0, V0]), 6, 80) := by kernel_rfl
theorem jcw (v : Value) (ps : List StStep) (w : World) (hn : ps.length ≤ 1048576) (hs : ∀ p ∈ ps, p.szs ≤ 1073741824) (hv : RdSp w v ps) :
  Calls Tryz.prog 10 #[v] w fun e w' => ∃ g qs, e = .returned (Q4 g ps.length ps.length) ∧ Um qs = Um ps ∧ ZP qs = ZP ps ∧ (∀ b, Xg (Q4 g ps.length ps.length) qs b → w.heap.size ≤ b) ∧
   OwnSp w' (Q4 g ps.length ps.length) qs ∧ Same w w' := by
 obtain ⟨i0, hi, br, aT, bv⟩ := info_parts Tryz.infoSp
 rcases hv.row.row with ⟨rfl, a, c, rfl⟩ | ⟨b, off, c, rfl, hc⟩
 ·clear hv hn hs
  go_enter Tryz.func10, Tryz.ntmps10
  go_wp2_with (at_make; refine wpList_make_full _ rfl (.tmp 6) (.tmp 6) 38 rfl 0 71 i0 (.agg #[V 0, V 0, V 0, V 0, V0, V0]) 6 Tryz.underlying38 hi br aT .i64 .i64 _ _ 0 rfl rfl (by simp) (by simp) (by simp) (by simp) (Nat.zero_le _) ?_; intro w1 aK aC; have HO : Hid (OwnR kSp 0 71 5 w1 (.slice (some ⟨w.heap.size, 0, none⟩) 0 0) []) := Wy (K := kSp) (zp := zSp) (z := .agg #[V 0, V 0, V 0, V 0, V0, V0]) (by decide) rfl rfl rfl (n := 0) (by first | exact aK | simpa [kSp] using aK); have HK : Hid (Same w w1) := Kept.of_grown aC (fun k e => by cases e); clear aK aC)
  refine wp_loop_rounds 1 ?_;rw [rounds_succ];go_wp2;go_ret;refine ⟨w.heap.size, [], rfl, rfl, rfl, fun b hb => ?_, ⟨HO.out, OwnL.nil _, fun b _ h => Zm b h⟩, HK.out⟩
  rcases hb with hb | hb
  ·simp [Value.ownBlock] at hb; omega
  ·exact absurd hb (Zm b)
 ·have HP := hid hv
  have HC : Hid (∀ j i, (h : j < ps.length) → i < 6 → w.cell? ⟨b, off + (j * 6 + i), none⟩ = (kSp.cells ps[j])[i]?) := hc;have HS : Hid (∀ p ∈ ps, p.szs ≤ 1073741824) := hs;clear hc hv hs;generalize hl : ps.length = len at hn HP ⊢;have HL : Hid (ps.length = len) := hl;clear hl
  go_enter Tryz.func10, Tryz.ntmps10
  go_wp2_with (at_make; refine wpList_make_full _ rfl (.tmp 6) (.tmp 6) 38 rfl 0 71 i0 (.agg #[V 0, V 0, V 0, V 0, V0, V0]) 6 Tryz.underlying38 hi br aT .i64 .i64 _ _ len rfl rfl (by simp) (by simp) (by rw [bv]; omega) (by unfold maxLen; omega) (Nat.zero_le _) ?_; intro w1 aK aC; have HO : Hid (OwnR kSp 0 71 5 w1 (.slice (some ⟨w.heap.size, 0, none⟩) len len) (List.replicate len zSp)) := Wy (K := kSp) (zp := zSp) (z := .agg #[V 0, V 0, V 0, V 0, V0, V0]) (by decide) rfl rfl rfl (by first | exact aK | simpa [kSp] using aK); have HK : Hid (Same w w1) := Kept.of_grown aC (fun k e => by cases e); clear aK aC)
  go_loopw [4] (fun i wr => ∃ (k : Nat) (qs : List StStep), k ≤ len ∧ i = V k ∧ qs.length = k ∧ Hid (Um qs = Um (ps.take k) ∧ ZP qs = ZP (ps.take k)) ∧ Hid (∀ b, Uu (Uy qs) b → w.heap.size < b) ∧ Hid (OwnR kSp 0 71 5 wr (.slice (some ⟨w.heap.size, 0, none⟩) len len) (qs ++ List.replicate (len - k) zSp)) ∧ Hid (OwnL wr (Uy qs)) ∧ Hid (Same w wr)) (fun i _ => len - (intOf i).toNat)
  case atStart => exact ⟨0, [], Nat.zero_le _, rfl, rfl, ⟨rfl, rfl⟩, fun b h => absurd h (Zm b), by simpa using HO, OwnL.nil _, HK⟩
  case round =>
   obtain ⟨k, qs, hk, rfl, nj, HQ, HF, HOr, vA, cu⟩ := hrel;have bV : Hid (qs.length = k) := nj;clear nj
   by_cases aG : k < len
   ·have aF : k < ps.length := by rw [HL.out]; exact aG
    have lu : Hid (List.replicate (len - k) zSp = zSp :: List.replicate (len - (k + 1)) zSp) := by unfold Hid; rw [show len - k = len - (k + 1) + 1 from by omega, List.replicate_succ]
    have hd := (HP.out.data _ (List.getElem_mem aF)).same cu.out;have d9 := HS.out _ (List.getElem_mem aF);have fZ := hid (List.take_succ_eq_append_getElem aF);obtain ⟨P, hP⟩ : ∃ P, ps[k] = P := ⟨_, rfl⟩;rw [hP] at hd d9 fZ;obtain ⟨cs, cD⟩ : ∃ cs, kSp.cells P = cs := ⟨_, rfl⟩
    have oo : cs.length = 6 := by rw [← cD]; exact kSp.len P
    have Ec : Hid (wr.rangeAt b (off + k * 6) cs) := fun j v hv => by
     have hj : j < 6 := by have := (List.getElem?_eq_some_iff.1 hv).1; omega
     have h := HC.out k j aF hj;rw [hP, cD, hv, ← Nat.add_assoc] at h;exact cu.out.cellOf h id
    have HI : Hid ((Tryz.prog.info? 58).map (·.size) = some cs.length) := by unfold Hid; rw [oo]; kernel_rfl
    have AK : Hid (Calls Tryz.prog 30 #[.agg cs.toArray] wr fun e w' => ∃ y : StStep, e = .returned y.val ∧ y.dat = P.dat ∧ y.szs = P.szs ∧ (∀ b, Uu y.rows b → wr.heap.size ≤ b) ∧ OwnL w' y.rows ∧ Same wr w') := by rw [← cD]; exact jdD P wr d9 hd
    have bH : Hid (len = (qs ++ zSp :: List.replicate (len - (k + 1)) zSp).length) := by unfold Hid; simp [bV.out]; omega
    have Jp := (HOr.out.lt w.heap.size (.inl rfl)).2;clear hd d9 hP cD oo
    go_wp2_with (first | (refine wpList_load_mid rfl 58 _ rfl b (off + k * 6) rfl cs _ Ec.out Tryz.underlying58 rfl HI.out ?_))
    refine AK.out.mono ?_;rintro e w2 ⟨y, rfl, gX, Lr, xL, iq, ae⟩
    have cY : Hid (OwnR kSp 0 71 5 w2 (.slice (some ⟨w.heap.size, 0, none⟩) len len) (qs ++ zSp :: List.replicate (len - (k + 1)) zSp)) := by have h := HOr.out.same ae; rw [lu.out] at h; exact h
    have ap : Hid (Same w w2) := cu.out.trans ae;have C3 := (show Hid (∀ b, Uu y.rows b → w.heap.size < b) from fun b hb => by have := xL b hb; omega);have eA : Hid (OwnR kSp 0 71 5 (w2.setCells w.heap.size (k * 6) (kSp.cells y)) (.slice (some ⟨w.heap.size, 0, none⟩) len len) (qs ++ y :: List.replicate (len - (k + 1)) zSp)) := cY.out.setElem (p' := y) bH.out (k * 6) (by rw [bV.out]; rfl) (Own.nil _ _ _ _) (fun b hb => by simp [kSp, Value.ownBlock] at hb)
    have oD : Hid (OwnL (w2.setCells w.heap.size (k * 6) (kSp.cells y)) (Uy (qs ++ [y]))) := by
     unfold Hid;rw [Xf, V6, show Uy [] = [] from rfl, List.append_nil];refine OwnL.kept (R := fun b => b = w.heap.size) ((vA.out.same ae).append iq (fun b h1 h2 => by have h3 := vA.out.lt b h1; have h4 := xL b h2; omega)) (Kept.setCells (R := fun b => b = w.heap.size) (.inr rfl) _ _ kZ0) (fun b hb e => ?_)
     rcases (Ud _ _ _).1 hb with h | h
     ·have := HF.out b h; omega
     ·have := C3.out b h; omega
    have DF : Hid (Same w (w2.setCells w.heap.size (k * 6) (kSp.cells y))) := Kept.setCells (.inl (Nat.le_refl _)) _ _ ap.out;have ol := hid gX;have Sf := hid Lr;obtain ⟨ds, p7⟩ : ∃ ds, kSp.cells y = ds := ⟨_, rfl⟩
    have dS : ds.length = 6 := by rw [← p7]; exact kSp.len y
    have Df : y.val = .agg ds.toArray := by rw [← p7]; rfl
    have zj : Hid (ds.toArray.all (·.oneCell') = true) := all_oneCell_toArray (fun v hv => by
     rw [← p7] at hv;simp only [kSp, StStep.cells, List.mem_cons, List.not_mem_nil, or_false] at hv
     rcases hv with rfl | rfl | rfl | rfl | rfl | rfl <;> rfl)
    have AQ : Hid ((Tryz.prog.info? 71).map (·.size) = some ds.toArray.size) := by unfold Hid; rw [List.size_toArray, dS]; kernel_rfl
    have rZ : Hid (w2.there w.heap.size (k * 6) ds.toArray.size) := fun j hj => by
     rw [List.size_toArray, dS] at hj;refine ⟨?_, cY.out.frozen bH.out _⟩;rw [cY.out.cellMid bH.out j hj _ (by rw [bV.out]; rfl), List.getElem?_eq_getElem (by rw [kSp.len]; exact hj)];rfl
    rw [Df];rw [p7] at eA oD DF;clear gX Lr xL iq ae cY ap HOr vA cu AK Ec HI p7 dS Df
    go_wp2_with (first | (refine wpList_store_mid rfl 71 _ _ rfl w.heap.size (k * 6) ds.toArray rfl rfl rZ.out AQ.out zj.out ?_; rw [List.toList_toArray]))
    go_roundw
    case rel =>
     refine ⟨k + 1, qs ++ [y], by omega, by go_num, by simp [bV.out], ?_, ?_, ?_, oD, DF⟩
     ·obtain ⟨h1, h2⟩ := HQ.out
      have h3 := fZ.out;have h4 := ol.out;have h5 := Sf.out;unfold Hid;rw [h3];simp only [Um, ZP, List.map_append, List.map_cons, List.map_nil] at h1 h2 ⊢;rw [h1, h2, h4, h5];exact ⟨rfl, rfl⟩
     ·unfold Hid
      intro b hb;rw [Xf, V6, show Uy [] = [] from rfl, List.append_nil] at hb
      rcases (Ud _ _ _).1 hb with h | h
      ·exact HF.out b h
      ·exact C3.out b h
     ·rw [List.append_assoc]
      exact eA
    case measure => simp [intOf]; omega
   ·go_wp2
    go_ret
    obtain rfl : k = len := by omega
    have h := HOr.out;have h2 := HL.out;obtain ⟨h3, h4⟩ := HQ.out;rw [Nat.sub_self, List.replicate_zero, List.append_nil] at h;rw [← h2, List.take_length] at h3 h4;refine ⟨w.heap.size, qs, rfl, h3, h4, fun b hb => ?_, ⟨h, vA.out, fun b hb hf => ?_⟩, cu.out⟩
    ·rcases hb with hb | hb
     ·simp [Value.ownBlock] at hb; omega
     ·have := HF.out b hb; omega
    ·have h5 := HF.out b hf
     simp [Value.ownBlock] at hb;omega
theorem Xz (v : Value) (bs : List Int) (w : World) (hn : bs.length ≤ 1099511627776) (hv : Rd .u8 w v bs) :
  Calls Tryz.prog 50 #[v] w fun e w' => ∃ a n c, e = .returned (.slice a n c) ∧ Own 0 5 .u8 w' (.slice a n c) bs ∧ (∀ b, (Value.slice a n c).ownBlock = some b → w.heap.size ≤ b) ∧ Same w w' := by
 obtain ⟨i0, hi, br, aT, bv⟩ := info_parts Tryz.infoByte'
 rcases hv.2 with ⟨rfl, a, c, rfl, rz⟩ | ⟨b, off, c, rfl, _, hc⟩
 ·cases a with
  | none =>
   obtain rfl : c = 0 := rz rfl;clear hv hn rz
   go_enter Tryz.func50, Tryz.ntmps50
   go_wp2_with (at_builtin; refine wpList_append_own_none rfl (.tmp 3) (.tmp 4) 52 rfl w.heap.size 5 i0 1 Tryz.underlying52 hi _ 0 [] rfl (World.ownsRow_made w #[] 0 (Nat.le_refl _) (by simp) (by simp)) rfl ?_)
   go_ret;exact ⟨_, _, _, rfl, (World.ownsRow_made w #[] 0 (Nat.zero_le _) (by simp) (by simp)), fun b hb => by simp [Value.ownBlock] at hb; omega, kZ0.alloc _⟩
  | some ad =>
   clear hv hn rz
   go_enter Tryz.func50, Tryz.ntmps50
   go_wp2_with (at_builtin; refine wpList_append_own _ rfl (.tmp 3) (.tmp 4) 52 rfl w.heap.size 5 i0 (.int .u8 0) 1 1 Tryz.underlying52 hi br aT bv rfl (by decide) (.slice (some ⟨w.heap.size, 0, none⟩) 0 0) 0 [] rfl (World.ownsRow_made w #[] 0 (Nat.le_refl _) (by simp) (by simp)) ad 0 c [] rfl rfl (fun j u h => by simp at h) (fun u h => by simp at h) (by simp) (by simp) (by simp) ?_; intro v' w1 aK aC _; have HF := (show Hid (Own w.heap.size 5 .u8 w1 v' []) from aK); have HK : Hid (Same w w1) := (kZ0.alloc _).grown aC (fun k e => .inl (by simp [Value.ownBlock] at e; omega)); obtain ⟨aa, na, ca, rfl⟩ := UD HF.out; clear aK aC)
   go_ret;exact ⟨_, _, _, rfl, HF.out.mono (fun b _ => Nat.zero_le b), fun b hb => (HF.out.lt b hb).1, HK.out⟩
 ·have HC : Hid (∀ i, i < bs.length → (w.alloc (.cells #[] 5)).cell? ⟨b, off + i, none⟩ = some (.int .u8 (bs.getD i 0))) := fun i hi => ((Kept.refl (fun _ => False) w).alloc _).cellOf (hc i hi) id
  clear hv hc
  go_enter Tryz.func50, Tryz.ntmps50
  go_wp2_with (at_builtin; refine wpList_append_own _ rfl (.tmp 3) (.tmp 4) 52 rfl w.heap.size 5 i0 (.int .u8 0) 1 1 Tryz.underlying52 hi br aT bv rfl (by decide) (.slice (some ⟨w.heap.size, 0, none⟩) 0 0) 0 [] rfl (World.ownsRow_made w #[] 0 (Nat.le_refl _) (by simp) (by simp)) ⟨b, off, none⟩ bs.length c (vals .u8 bs) rfl (by simp [VO]) (jez HC.out) jcj (by unfold maxLen; omega) (by omega) (by simp) ?_; intro v' w1 aK aC _; have HF := (show Hid (Own w.heap.size 5 .u8 w1 v' bs) from (by simpa [Own, Hid] using aK)); have HK : Hid (Same w w1) := (kZ0.alloc _).grown aC (fun k e => .inl (by simp [Value.ownBlock] at e; omega)); obtain ⟨aa, na, ca, rfl⟩ := UD HF.out; clear aK aC)
  go_ret;exact ⟨_, _, _, rfl, HF.out.mono (fun b _ => Nat.zero_le b), fun b hb => (HF.out.lt b hb).1, HK.out⟩
theorem jbk (v : Value) (bs : List Int) (w : World) (hn : bs.length ≤ 1099511627776) (hv : Rd .u8 w v bs) :
  Calls Tryz.prog 72 #[v] w fun e w' => ∃ a n c, e = .returned (.slice a n c) ∧ Own 0 5 .u8 w' (.slice a n c) bs ∧ (∀ b, (Value.slice a n c).ownBlock = some b → w.heap.size ≤ b) ∧ Same w w' := by
 obtain ⟨i0, hi, br, aT, bv⟩ := info_parts Tryz.infoByte';have i9 := fun (wx : World) (a : Option Addr) (n c : Nat) => Lib.run_eql_slice_nil (P := Tryz.prog) wx 52 5 a n c 0 0 Tryz.underlying52
 rcases hv.2 with ⟨rfl, a, c, rfl, rz⟩ | ⟨b, off, c, rfl, _, hc⟩
 ·cases a with
  | none =>
   obtain rfl : c = 0 := rz rfl;clear hv hn rz
   go_enter Tryz.func72, Tryz.ntmps72
   go_wp2;go_ret;exact ⟨_, _, _, rfl, Own.nil _ _ _ _, fun b hb => by simp [Value.ownBlock] at hb, kZ0⟩
  | some ad =>
   clear hv hn rz
   go_enter Tryz.func72, Tryz.ntmps72
   go_wp2_with (at_builtin; refine wpList_append_own _ rfl (.tmp 5) (.tmp 6) 52 rfl w.heap.size 5 i0 (.int .u8 0) 1 1 Tryz.underlying52 hi br aT bv rfl (by decide) (.slice (some ⟨w.heap.size, 0, none⟩) 0 0) 0 [] rfl (World.ownsRow_made w #[] 0 (Nat.le_refl _) (by simp) (by simp)) ad 0 c [] rfl rfl (fun j u h => by simp at h) (fun u h => by simp at h) (by simp) (by simp) (by simp) ?_; intro v' w1 aK aC _; have HF := (show Hid (Own w.heap.size 5 .u8 w1 v' []) from aK); have HK : Hid (Same w w1) := (kZ0.alloc _).grown aC (fun k e => .inl (by simp [Value.ownBlock] at e; omega)); obtain ⟨aa, na, ca, rfl⟩ := UD HF.out; clear aK aC)
   go_ret;exact ⟨_, _, _, rfl, HF.out.mono (fun b _ => Nat.zero_le b), fun b hb => (HF.out.lt b hb).1, HK.out⟩
 ·have HC : Hid (∀ i, i < bs.length → (w.alloc (.cells #[] 5)).cell? ⟨b, off + i, none⟩ = some (.int .u8 (bs.getD i 0))) := fun i hi => ((Kept.refl (fun _ => False) w).alloc _).cellOf (hc i hi) id
  clear hv hc
  go_enter Tryz.func72, Tryz.ntmps72
  go_wp2_with (at_builtin; refine wpList_append_own _ rfl (.tmp 5) (.tmp 6) 52 rfl w.heap.size 5 i0 (.int .u8 0) 1 1 Tryz.underlying52 hi br aT bv rfl (by decide) (.slice (some ⟨w.heap.size, 0, none⟩) 0 0) 0 [] rfl (World.ownsRow_made w #[] 0 (Nat.le_refl _) (by simp) (by simp)) ⟨b, off, none⟩ bs.length c (vals .u8 bs) rfl (by simp [VO]) (jez HC.out) jcj (by unfold maxLen; omega) (by omega) (by simp) ?_; intro v' w1 aK aC _; have HF := (show Hid (Own w.heap.size 5 .u8 w1 v' bs) from (by simpa [Own, Hid] using aK)); have HK : Hid (Same w w1) := (kZ0.alloc _).grown aC (fun k e => .inl (by simp [Value.ownBlock] at e; omega)); obtain ⟨aa, na, ca, rfl⟩ := UD HF.out; clear aK aC)
  go_ret;exact ⟨_, _, _, rfl, HF.out.mono (fun b _ => Nat.zero_le b), fun b hb => (HF.out.lt b hb).1, HK.out⟩
end Go.Proofs.YtljfcdkhicffcaaGreat
