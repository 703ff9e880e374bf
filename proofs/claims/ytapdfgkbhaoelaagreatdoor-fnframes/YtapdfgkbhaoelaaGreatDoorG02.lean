import Derived.Test.YtapdfgkbhaoelaaGreatDoorG01
import Derived.OrdersHeld
import Derived.Deep.MidRow
import Derived.Deep.WholeRow
namespace Go.Proofs.YtapdfgkbhaoelaaGreatDoor
set_option maxRecDepth 100000
set_option maxHeartbeats 4000000
set_option linter.unusedVariables false
open Go Go.RowKit
section
variable {P : Program} {bf : Array Oper} {Q : Exit → Act → World → Prop} {md : Region.Mode} {S : World → Prop} {s : Nat}
def QA (P : Program) (md : Region.Mode) (bf : Array Oper) (Q : Exit → Act → World → Prop) (S : World → Prop) (s : Nat) : Nat → Array Bool → Act → World → Prop
 | 0, listed, a, w => Region.ready md bf listed = [] ∧ Q .normal a w
 | fuel + 1, listed, a, w =>
  (Region.ready md bf listed = [] → Q .normal a w) ∧
  ∀ i ∈ Region.ready md bf listed, wpOp P bf Q i (fun a' w' => (i ≠ s → S w') ∧ QA P md bf Q S s fuel (listed.setIfInBounds i true) a' w') a w
theorem WE : ∀ (fuel : Nat) (listed : Array Bool) (a : Act) (w : World), QA P md bf Q S s fuel listed a w → wpAny P md bf Q fuel listed a w
 | 0, _, _, _, h => h
 | fuel + 1, _, _, _, h => ⟨h.1, fun i hi => wpOp_mono (fun a' w' h' => WE fuel _ a' w' h'.2) (h.2 i hi)⟩
def waits (md : Region.Mode) (bf : Array Oper) (s i : Nat) : Bool :=
 match bf[s]? with
 | some o => o.after.any fun e => Region.binds md e && e.on == i
 | none => true
theorem jar {i : Nat} (h : waits md bf s i = true) {os : Oper} (ho : bf[s]? = some os) (hn : ∀ e ∈ os.after, Region.binds md e = true → e.on ≠ i) : False := by
 unfold waits at h;rw [ho] at h;obtain ⟨e, he, hb⟩ := Array.any_eq_true'.1 h;simp only [Bool.and_eq_true, beq_iff_eq] at hb;exact hn e he hb.1 hb.2
theorem Zg {listed : Array Bool} {i j : Nat} (hi : i ∈ Region.ready md bf listed) (hj : j ∈ Region.ready md bf listed) {oj : Oper} (sJ : bf[j]? = some oj) :
  ∀ e ∈ oj.after, Region.binds md e = true → e.on ≠ i := by
 rintro e he hb rfl;obtain ⟨_, o, ho, EB⟩ := mem_ready.1 hj
 obtain rfl : o = oj := by rw [sJ] at ho; exact (Option.some.inj ho).symm
 have JH := EB e he hb;have uD := (mem_ready.1 hi).1
 by_cases hl : e.on < listed.size <;> simp_all
def Loose (md : Region.Mode) (bf : Array Oper) (i : Nat) (oi : Oper) (listed : Array Bool) : Prop :=
 ∀ j oj, bf[j]? = some oj → j ≠ i → listed.getD j true = false → (∀ e ∈ oj.after, Region.binds md e = true → e.on ≠ i) → oi.apart bf oj = true
theorem Loose.on {i j : Nat} {oi : Oper} {listed : Array Bool} (h : Loose md bf i oi listed) (hj : listed.getD j true = false) : Loose md bf i oi (listed.setIfInBounds j true) := fun k ok hk Kd qc uD =>
 h k ok hk Kd (if e : j = k then e ▸ hj else (getD_set_ne true e) ▸ qc) uD
theorem Yy {i : Nat} {oi : Oper} {v : Value} (hi : bf[i]? = some oi) (wT : ∀ (j : Nat) (o : Oper) cs b, bf[j]? = some o → o.op ≠ .select cs b) (hs : waits md bf s i = true)
  (hQ : ∀ c a w, Q (.panic c) (a.put oi.dst v) w → Q (.panic c) a w) (fuel : Nat) : ∀ (listed : Array Bool) (a : Act) (w : World), Loose md bf i oi listed → i ∈ Region.ready md bf listed → YieldsIf P bf S oi v a → S w →
   QA P md bf Q S s fuel (listed.setIfInBounds i true) (a.put oi.dst v) w → QA P md bf Q S s (fuel + 1) listed a w := by
 induction fuel with
 | zero =>
  intro listed a w _ hr hy hS H;constructor
  ·intro h0; simp [h0] at hr
  ·intro j hj
   by_cases e : j = i
   ·exact e ▸ hy.wpOp hi hS ⟨fun _ => hS, H⟩
   ·have := ready_mono hj e
    simp [H.1] at this
 | succ fuel ih =>
  intro listed a w hl hr hy hS H;constructor
  ·intro h0; simp [h0] at hr
  ·intro j hj
   by_cases e : j = i
   ·exact e ▸ hy.wpOp hi hS ⟨fun _ => hS, H⟩
   ·obtain ⟨qc, oj, sJ, _⟩ := mem_ready.1 hj
    have zY := Zg hr hj sJ;have L9 : j ≠ s := fun es => jar hs (es ▸ sJ) zY;refine wpOp_mono ?_ (wpOp_putIf sJ (hl j oj sJ e qc zY) (fun cs b => wT i oi cs b hi) (fun cs b => wT j oj cs b sJ) hQ hy (H.2 j (ready_mono hj e)));rintro a' w' ⟨DW, oR, JG⟩;exact ⟨oR, ih _ a' w' (hl.on qc) (ready_mono hr (Ne.symm e)) DW (oR L9) (by rw [Array.setIfInBounds_comm _ _ e]; exact JG)⟩
theorem Pz {i : Nat} {oi : Oper} {v : Value} {fuel : Nat} {listed : Array Bool} {a : Act} {w : World} (d : Option Tmp) (hi : bf[i]? = some oi) (hd : oi.dst = d)
  (cw : Region.noSelect bf = true) (hf : Region.free md bf listed i = true) (hr : (Region.ready md bf listed).contains i = true) (hs : waits md bf s i = true)
  (hQ : ∀ c a w, Q (.panic c) (a.put d v) w → Q (.panic c) a w) (hy : YieldsIf P bf S oi v a) (hS : S w)
  (h : QA P md bf Q S s fuel (listed.setIfInBounds i true) (a.put d v) w) : QA P md bf Q S s (fuel + 1) listed a w := by
 subst hd;exact Yy hi (Region.noSelect_spec cw) hs hQ fuel listed a w (Region.free_spec hi hf) (by simpa using hr) hy hS h
theorem sA {α : Type} {l : List α} {i : Nat} {a : α} : l.toArray.setIfInBounds i a = (l.set i a).toArray := List.setIfInBounds_toArray ..
theorem s0 {α : Type} {x : α} {xs : List α} {a : α} : (x :: xs).set 0 a = a :: xs := List.set_cons_zero
theorem sS {α : Type} {x : α} {xs : List α} {i : Nat} {a : α} : (x :: xs).set (i + 1) a = x :: xs.set i a := List.set_cons_succ
theorem Sp : (∀ (a : Act) (d : Tmp) (v : Value), a.put (some d) v = { a with tmps := a.tmps.setIfInBounds d v }) ∧ (∀ (a : Act) (v : Value), a.put none v = a) ∧ (∀ (α : Type) (l : List α) (i : Nat) (a : α), l.toArray.setIfInBounds i a = (l.set i a).toArray) ∧ (∀ (α : Type) (x a : α) (xs : List α), (x :: xs).set 0 a = a :: xs) ∧ (∀ (α : Type) (x a : α) (xs : List α) (i : Nat), (x :: xs).set (i + 1) a = x :: xs.set i a) := ⟨fun _ _ _ => rfl, fun _ _ => rfl, fun _ _ _ _ => sA, fun _ _ _ _ => s0, fun _ _ _ _ _ => sS⟩
theorem tk (i d : Nat) {oi : Oper} {v : Value} {fuel : Nat} {listed : Array Bool} {a a' : Act} {w : World} (hS : S w)
  (h : QA P md bf Q S s fuel (listed.setIfInBounds i true) a' w) (hi : bf[i]? = some oi := by rfl) (hg : Region.wanted oi (yielded bf a.tmps) = true := by rfl) (hd : oi.dst = some d := by rfl)
  (hy : ∀ w, S w → (execOp a.eval oi).run P w = .ok (.value v) w := by intro w gH; (try dsimp (config := { zetaDelta := true }) only [D0] at gH); go_simp; (try with_reducible rfl))
  (cw : Region.noSelect bf = true := by kernel_rfl) (hf : Region.free md bf listed i = true := by kernel_rfl) (hr : (Region.ready md bf listed).contains i = true := by kernel_rfl) (hs : waits md bf s i = true := by kernel_rfl)
  (hQ : ∀ c a w, Q (.panic c) (a.put (some d) v) w → Q (.panic c) a w := by exact fun _ _ _ h => h)
  (ha : a.put (some d) v = a' := by first | (simp only [Sp]; done) | (simp only [Sp]; rfl) | rfl) : QA P md bf Q S s (fuel + 1) listed a w :=
 Pz (some d) hi hd cw hf hr hs hQ (Or.inl ⟨hg, hy⟩) hS (ha ▸ h)
theorem tkV (i d : Nat) (v : Value) {oi : Oper} {fuel : Nat} {listed : Array Bool} {a a' : Act} {w : World} (hS : S w)
  (h : QA P md bf Q S s fuel (listed.setIfInBounds i true) a' w) (hi : bf[i]? = some oi := by rfl) (hg : Region.wanted oi (yielded bf a.tmps) = true := by rfl) (hd : oi.dst = some d := by rfl)
  (hy : ∀ w, S w → (execOp a.eval oi).run P w = .ok (.value v) w := by intro w gH; (try dsimp (config := { zetaDelta := true }) only [D0] at gH); go_simp; (try omega))
  (cw : Region.noSelect bf = true := by kernel_rfl) (hf : Region.free md bf listed i = true := by kernel_rfl) (hr : (Region.ready md bf listed).contains i = true := by kernel_rfl) (hs : waits md bf s i = true := by kernel_rfl)
  (hQ : ∀ c a w, Q (.panic c) (a.put (some d) v) w → Q (.panic c) a w := by exact fun _ _ _ h => h)
  (ha : a.put (some d) v = a' := by first | (simp only [Sp]; done) | (simp only [Sp]; rfl) | rfl) : QA P md bf Q S s (fuel + 1) listed a w :=
 Pz (some d) hi hd cw hf hr hs hQ (Or.inl ⟨hg, hy⟩) hS (ha ▸ h)
theorem tkS (i d : Nat) {oi : Oper} {fuel : Nat} {listed : Array Bool} {a a' : Act} {w : World} (hS : S w)
  (h : QA P md bf Q S s fuel (listed.setIfInBounds i true) a' w) (hi : bf[i]? = some oi := by rfl) (hg : Region.wanted oi (yielded bf a.tmps) = false := by rfl) (hd : oi.dst = some d := by rfl)
  (cw : Region.noSelect bf = true := by kernel_rfl) (hf : Region.free md bf listed i = true := by kernel_rfl) (hr : (Region.ready md bf listed).contains i = true := by kernel_rfl) (hs : waits md bf s i = true := by kernel_rfl)
  (hQ : ∀ c a w, Q (.panic c) (a.put (some d) undef) w → Q (.panic c) a w := by exact fun _ _ _ h => h)
  (ha : a.put (some d) undef = a' := by first | (simp only [Sp]; done) | (simp only [Sp]; rfl) | rfl) : QA P md bf Q S s (fuel + 1) listed a w :=
 Pz (some d) hi hd cw hf hr hs hQ (Or.inr ⟨hg, rfl⟩) hS (ha ▸ h)
theorem OV {i : Nat} {o : Oper} {fuel : Nat} {listed : Array Bool} {a : Act} {w : World} (hr : Region.ready md bf listed = [i]) (ho : bf[i]? = some o)
  (h : ∀ K' : Act → World → Prop, Shut (∀ a w, (i ≠ s → S w) → QA P md bf Q S s fuel (listed.setIfInBounds i true) a w → K' a w) → if Region.wanted o (yielded bf a.tmps) = true then Oper.wp P o a w K' Q else K' (a.put o.dst undef) w) :
  QA P md bf Q S s (fuel + 1) listed a w := by
 constructor
 ·intro h0; simp [hr] at h0
 ·intro j hj
  rw [hr] at hj
  obtain rfl : j = i := by simpa using hj
  exact wpOp_step ho (fun K' hK => h K' (fun a w hS hW => hK a w ⟨hS, hW⟩))
theorem o1Q (i : Nat) {o : Oper} {fuel : Nat} {listed : Array Bool} {a : Act} {w : World}
  (h : ∀ K' : Act → World → Prop, Shut (∀ a w, (i ≠ s → S w) → QA P md bf Q S s fuel (listed.setIfInBounds i true) a w → K' a w) → if Region.wanted o (yielded bf a.tmps) = true then Oper.wp P o a w K' Q else K' (a.put o.dst undef) w) (hr : Region.ready md bf listed = [i] := by kernel_rfl) (ho : bf[i]? = some o := by rfl) :
  QA P md bf Q S s (fuel + 1) listed a w := OV hr ho h
theorem TD {i j : Nat} {o o' : Oper} {fuel : Nat} {listed : Array Bool} {a : Act} {w : World} (hr : Region.ready md bf listed = [i, j]) (ho : bf[i]? = some o) (Ce : bf[j]? = some o')
  (h : ∀ K' : Act → World → Prop, Shut (∀ a w, (i ≠ s → S w) → QA P md bf Q S s fuel (listed.setIfInBounds i true) a w → K' a w) → if Region.wanted o (yielded bf a.tmps) = true then Oper.wp P o a w K' Q else K' (a.put o.dst undef) w)
  (h' : ∀ K' : Act → World → Prop, Shut (∀ a w, (j ≠ s → S w) → QA P md bf Q S s fuel (listed.setIfInBounds j true) a w → K' a w) → if Region.wanted o' (yielded bf a.tmps) = true then Oper.wp P o' a w K' Q else K' (a.put o'.dst undef) w) :
  QA P md bf Q S s (fuel + 1) listed a w := by
 constructor
 ·intro h0; simp [hr] at h0
 ·intro k hk
  rw [hr] at hk;simp only [List.mem_cons, List.not_mem_nil, or_false] at hk
  rcases hk with rfl | rfl
  ·exact wpOp_step ho (fun K' hK => h K' (fun a w hS hW => hK a w ⟨hS, hW⟩))
  ·exact wpOp_step Ce (fun K' hK => h' K' (fun a w hS hW => hK a w ⟨hS, hW⟩))
theorem OZ {fuel : Nat} {listed : Array Bool} {a : Act} {w : World} (h : Q .normal a w) (hr : Region.ready md bf listed = [] := by kernel_rfl) : QA P md bf Q S s fuel listed a w := by
 cases fuel with
 | zero => exact ⟨hr, h⟩
 | succ n => exact ⟨fun _ => h, by rw [hr]; simp⟩
theorem O0 {id : Nat} {a : Act} {w : World} (S : World → Prop) (s n : Nat) (h : QA P .any bf Q S s n (Array.replicate n false) a w.drew) (hn : bf.size = n := by rfl) (hm : P.follows .mixedOrders = true := by kernel_rfl) : (Code.region id bf true).wp P Q a w := by
 subst hn;exact wp_region_any hm (WE _ _ _ _ h)
end
def RL (d s q : Int) (T : List Int) : List Value := .int .u32 d :: .int .i32 s :: .int .u32 q :: vals .u32 T
theorem Vg (d s q : Int) (T : List Int) (j : Nat) : (RL d s q T)[j + 3]? = (vals .u32 T)[j]? := rfl
theorem jas (d s q : Int) (T : List Int) (j : Nat) (x : Int) : (RL d s q T).set (j + 3) (.int .u32 x) = RL d s q (T.set j x) := by simp [RL, vals]
theorem Yz (r : Nat) (h : r < 4294967296) (w : World) :
  Calls Tryz.prog 115 #[.int .u32 r] w fun e w' => e = .returned (.int .u32 (sh r)) ∧ w' = w := by
 have h1 : bits .and .u32 (r : Int) 1 = ((r % 2 : Nat) : Int) := by rw [show (1 : Int) = ((1 : Nat) : Int) from rfl, u32_and_nat r 1 h (by decide), nat_mask1]
 by_cases ho : r % 2 = 1
 ·have h2 : bits .xor .u32 ((r : Int) / 2) 3988292384 = ((r / 2 ^^^ 3988292384 : Nat) : Int) := u32_xor_nat (r / 2) 3988292384 (by omega) (by decide)
  have h3 : sh r = r / 2 ^^^ 3988292384 := by unfold sh; rw [if_pos ho]
  rw [h3];rw [ho] at h1
  go_enter Tryz.func115, Tryz.ntmps115
  go_wp2;go_ret;exact ⟨rfl, rfl⟩
 ·have h3 : sh r = r / 2 := by unfold sh; rw [if_neg ho]
  rw [h3]
  have Ce : r % 2 = 0 := by omega
  rw [Ce] at h1
  go_enter Tryz.func115, Tryz.ntmps115
  go_wp2;go_ret;exact ⟨rfl, rfl⟩
def Ux (m : Nat) : Int := if m < 8 then ((2 ^ (7 - m) : Nat) : Int) else 0
theorem jat (m : Nat) (h : m < 8) : Ux m / 2 = Ux (m + 1) := by
 have : ∀ m < 8, Ux m / 2 = Ux (m + 1) := by decide +kernel
 exact this m h
theorem Zh (m : Nat) (h : m < 8) : 1 ≤ 2 ^ (7 - m) ∧ 2 ^ (7 - m) ≤ 128 ∧ 2 ^ (8 - m) = 2 * 2 ^ (7 - m) := by
 have : ∀ m < 8, 1 ≤ 2 ^ (7 - m) ∧ 2 ^ (7 - m) ≤ 128 ∧ 2 ^ (8 - m) = 2 * 2 ^ (7 - m) := by decide +kernel
 exact this m h
theorem jcs (m n : Nat) (h : m < 8) (hn : n < 2 ^ m) : 2 ^ (8 - m) * n + 2 ^ (7 - m) < 256 ∧ 2 ^ (8 - m) * (n + 1) ≤ 256 := by
 have h1 : 2 ^ (8 - m) * (n + 1) ≤ 2 ^ (8 - m) * 2 ^ m := Nat.mul_le_mul_left _ hn;have h2 := Zh m h;rw [← Nat.pow_add, show 8 - m + m = 8 from by omega] at h1;rw [Nat.mul_succ] at h1;rw [Nat.mul_succ];omega
theorem jct (B : Nat) (t : TypeId) (w : World) (hb : Blk w B t (RL 0 1 0 (List.replicate 256 0))) :
  Calls Tryz.prog 112 #[Q2 B 0] w fun e w' => e = .returned (.tuple #[]) ∧ Blk w' B t (RL 0 1 0 (TA 8 0)) ∧ Kept (fun b => b = B) w w' := by
 have HB : Hid (Blk w B t (RL 0 1 0 (TA 0 0))) := by rw [jbp]; exact hb
 clear hb
 go_enter Tryz.func112, Tryz.ntmps112
 go_wp2
 go_loopw [2, 3] (fun r b wr => ∃ m : Nat, m ≤ 8 ∧ r = .int .u32 (shN m 1) ∧ b = Q1 (Ux m) ∧ Hid (Blk wr B t (RL 0 1 0 (TA m 0))) ∧ Hid (Kept (fun b => b = B) w wr)) (fun _ b _ => (intOf b).toNat)
 case atStart => exact ⟨0, by omega, rfl, rfl, HB, kZ0⟩
 case round =>
  obtain ⟨m, hm, rfl, rfl, jf, cJ⟩ := hrel
  by_cases bg : m < 8
  ·have fi := WA m 1 (by decide)
   have eL := WA (m + 1) 1 (by decide);have HS : Hid (sh (shN m 1) = shN (m + 1) 1) := (Ze m 1).symm;have vh : Hid (Ux m / 2 = Ux (m + 1)) := jat m bg
   have oB : Ux m = ((2 ^ (7 - m) : Nat) : Int) := by unfold Ux; rw [if_pos bg]
   obtain ⟨p1, p2, p3⟩ := Zh m bg;rw [oB];have LK : Hid (Ux m = ((2 ^ (7 - m) : Nat) : Int)) := oB;clear oB;obtain ⟨b, bk⟩ : ∃ b : Nat, 2 ^ (7 - m) = b := ⟨_, rfl⟩;have rC : Hid (2 ^ (7 - m) = b) := bk;rw [bk] at p1 p2 p3 ⊢;clear bk
   go_wp2_with (go_at_call 115; refine (Yz _ fi _).mono ?_; rintro e w' ⟨rfl, rfl⟩; rw [HS.out])
   obtain ⟨s1, rP⟩ : ∃ s1 : Nat, shN (m + 1) 1 = s1 := ⟨_, rfl⟩;have iH : Hid (shN (m + 1) 1 = s1) := rP;rw [rP] at eL ⊢;clear rP fi HS
   go_loopw [4] (fun i wr => ∃ n : Nat, n ≤ 2 ^ m ∧ i = Q1 ((2 ^ (8 - m) * n : Nat) : Int) ∧ Hid (Blk wr B t (RL 0 1 0 (TA m n))) ∧ Hid (Kept (fun b => b = B) w wr)) (fun i _ => 256 - (intOf i).toNat)
   case atStart => exact ⟨0, Nat.zero_le _, rfl, jf, cJ⟩
   case round =>
    obtain ⟨n, hn, rfl, uY, Ia⟩ := hrel
    by_cases oh : n < 2 ^ m
    ·obtain ⟨q1, q2⟩ := jcs m n bg oh
     have fX := (show Hid (_ = _) from jbs m n bg oh)
     have q3 : wr.cell? ⟨B, 3 + 2 ^ (8 - m) * n, none⟩ = some (.int .u32 ((tab (2 ^ (8 - m) * n) : Nat) : Int)) := by
      rw [uY.out.cell, Nat.add_comm, Vg];have := jbr m n bg oh;simp [vals, this]
     have q4 := uY.out.frozen (3 + (2 ^ (8 - m) * n + b))
     obtain ⟨y, q5⟩ : ∃ y, wr.cell? ⟨B, 3 + (2 ^ (8 - m) * n + b), none⟩ = some (.int .u32 y) := by
      rw [uY.out.cell, Nat.add_comm, Vg, Qp _ _ _ (by rw [SI]; rw [rC.out] at q1; exact q1)];exact ⟨_, rfl⟩
     have l6 : Hid (2 ^ (8 - m) * (n + 1) = 2 ^ (8 - m) * n + 2 * b) := (by rw [Nat.mul_succ, p3] : 2 ^ (8 - m) * (n + 1) = 2 ^ (8 - m) * n + 2 * b);rw [l6.out] at q2;have HQ : Hid (2 ^ (8 - m) * n + 2 * b ≤ 256) := q2;rw [rC.out] at q1;obtain ⟨i, hi⟩ : ∃ i : Nat, 2 ^ (8 - m) * n = i := ⟨_, rfl⟩;have HI : Hid (2 ^ (8 - m) * n = i) := hi;rw [hi] at q1 q2 q3 q4 q5 ⊢;have ET := jco i (by omega);have hx := u32_xor_nat (tab i) s1 ET eL
     have C7 : i < 256 := by omega
     have np : Hid (n < 2 ^ m) := oh;clear hi hn oh
     have lP : (i : Int) < 256 := by omega
     have lM : (0 : Int) ≤ (i : Int) := by omega
     have FD : (i : Int) + (b : Int) < 256 := by omega
     have AA : (0 : Int) ≤ (i : Int) + (b : Int) := by omega
     have FN : ((i : Int) + (b : Int)).toNat = i + b := by omega
     have HH : IntKind.i64.wrap ((i : Int) + (b : Int)) = (i : Int) + (b : Int) := by rw [IntKind.wrap_i64]; omega
     have K6 : decide ((i : Int) < 256) = true := by simp; omega
     go_wp2
     have hS : (fun w' => w'.cell? ⟨B, 3 + i, none⟩ = some (.int .u32 ((tab i : Nat) : Int)) ∧ w'.cell? ⟨B, 3 + (i + b), none⟩ = some (.int .u32 y) ∧ w'.frozen? ⟨B, 3 + (i + b), none⟩ = false) wr.drew := by go_keep
     refine O0 (fun w' => w'.cell? ⟨B, 3 + i, none⟩ = some (.int .u32 ((tab i : Nat) : Int)) ∧ w'.cell? ⟨B, 3 + (i + b), none⟩ = some (.int .u32 y) ∧ w'.frozen? ⟨B, 3 + (i + b), none⟩ = false) 15 16 ?_;refine tk 0 17 hS ?_;refine tk 1 18 hS ?_;refine tk 2 19 hS ?_;refine tk 3 20 hS ?_;refine tk 4 21 hS ?_;refine tk 5 22 hS ?_;refine tk 6 23 hS ?_;refine tk 7 24 hS ?_;refine tk 8 25 hS ?_;refine tk 9 26 hS ?_;refine tk 10 27 hS ?_;refine tk 11 28 hS ?_;refine o1Q 12 (fun K hK => ?_);go_simp
     have hS : (fun w' => w'.cell? ⟨B, 3 + i, none⟩ = some (.int .u32 ((tab i : Nat) : Int)) ∧ w'.cell? ⟨B, 3 + (i + b), none⟩ = some (.int .u32 y) ∧ w'.frozen? ⟨B, 3 + (i + b), none⟩ = false) wr.drew := by go_keep
     refine hK.out _ _ (fun _ => hS) ?_;clear hK K
     try simp only [Sp]
     refine o1Q 13 (fun K hK => ?_);go_simp
     have hS : (fun w' => w'.cell? ⟨B, 3 + i, none⟩ = some (.int .u32 ((tab i : Nat) : Int)) ∧ w'.cell? ⟨B, 3 + (i + b), none⟩ = some (.int .u32 y) ∧ w'.frozen? ⟨B, 3 + (i + b), none⟩ = false) wr.drew := by go_keep
     refine hK.out _ _ (fun _ => hS) ?_;clear hK K
     try simp only [Sp]
     refine tk 14 31 hS ?_;refine o1Q 15 (fun K hK => ?_);go_simp;refine hK.out _ _ (fun h => absurd rfl h) ?_;clear hK K;refine OZ ?_
     try simp only [Sp]
     go_wp2;go_roundw
     case rel =>
      have h := uY.out.stored (3 + (i + b)) (.int .u32 ((tab i ^^^ s1 : Nat) : Int));rw [Nat.add_comm 3, jas] at h;have e := fX.out;rw [HI.out, rC.out, iH.out] at e;rw [e] at h;refine ⟨n + 1, by have h1 := np.out; omega, ?_, ?_, ?_⟩
      ·rw [l6.out, HI.out]
       simp
      ·rw [Nat.add_comm 3]
       exact h
      ·exact Ia.out.drew.setCell (.inr rfl) _
     case measure => simp [intOf]; omega
    ·obtain rfl : n = 2 ^ m := by omega
     have e : 2 ^ (8 - m) * 2 ^ m = 256 := by rw [← Nat.pow_add, show 8 - m + m = 8 from by omega]
     have eI := uY.out;rw [jbq m bg] at eI;rw [e];clear e;go_wp2;go_roundw
     case rel => exact ⟨m + 1, by omega, by rw [iH.out], by rw [← vh.out, LK.out, rC.out], eI, Ia⟩
     case measure => simp [intOf]; omega
  ·obtain rfl : m = 8 := by omega
   go_wp2
   go_end0
   exact ⟨rfl, jf.out, cJ.out⟩
theorem jbt (r : Nat) (h : r < 4294967296) : 4294967295 ^^^ r = 4294967295 - r := by
 have e : 4294967295 - r = 2 ^ 32 - (r + 1) := by omega
 rw [e, show 4294967295 = 2 ^ 32 - 1 from rfl];apply Nat.eq_of_testBit_eq;intro i;rw [Nat.testBit_xor, Nat.testBit_two_pow_sub_one, Nat.testBit_two_pow_sub_succ (by omega)]
 by_cases hi : i < 32
 ·simp [hi]
 ·have : r.testBit i = false := Nat.testBit_lt_two_pow (Nat.lt_of_lt_of_le h (Nat.pow_le_pow_right (n := 2) (i := 32) (by decide) (by omega)))
  simp [hi, this]
theorem XV (x : Int) (h0 : 0 ≤ x) (h1 : x ≤ 4294967295) : bits .xor .u32 4294967295 x = 4294967295 - x := by
 obtain ⟨r, rfl⟩ : ∃ r : Nat, x = r := ⟨x.toNat, by omega⟩;have := u32_xor_nat 4294967295 r (by decide) (by omega);rw [jbt r (by omega)] at this;rw [show ((4294967295 : Nat) : Int) = 4294967295 from rfl] at this;rw [this];omega
theorem R6 (sum : Int) (bs : List Int) (h0 : 0 ≤ sum) (h1 : sum ≤ 4294967295) (hB : IsB bs) : 0 ≤ Pp sum bs ∧ Pp sum bs ≤ 4294967295 := by
 unfold Pp;rw [if_neg (by omega)];have := WB (4294967295 - sum).toNat bs (by omega) hB;omega
theorem jcu (B : Nat) (w : World) (sum : Int) (v : Value) (bs : List Int) (hb : Blk w B 161 (RL 0 0 0 (List.replicate 256 0))) (h0 : 0 ≤ sum) (h1 : sum ≤ 4294967295) (hB : IsB bs) (hn : bs.length ≤ 1099511627776) (hv : ∀ w', Kept (fun b => b = B) w w' → Rd .u8 w' v bs) :
  Calls Tryz.prog 104 #[Q2 B 0, Q1 sum, v] w fun e w' => e = .returned (Q1 (Pp sum bs)) ∧ Kept (fun b => b = B) w w' := by
 have hF := jct B 161 (w.setCell ⟨B, 1, none⟩ (.int .i32 1)) (by have := hb.stored 1 (.int .i32 1); exact this);have aW : Kept (fun b => b = B) w (w.setCell ⟨B, 1, none⟩ (.int .i32 1)) := Kept.setCell (R := fun b => b = B) kZ0 (.inr rfl) _
 have hD := jet B 161 _ w hb rfl rfl (fun w' ys => ys = RL 0 1 0 (TA 8 0) ∧ Kept (fun b => b = B) w w') (hF.mono (by
  rintro e w' ⟨rfl, iu, hk⟩
  exact ⟨rfl, _, iu, rfl, rfl, rfl, aW.trans hk⟩))
 clear hF aW;obtain ⟨a, c, rfl⟩ := (hv w kZ0).form;have HV : Hid (∀ w', Kept (fun b => b = B) w w' → Rd .u8 w' (.slice a bs.length c) bs) := hv;have HB : Hid (IsB bs) := hB
 have mO : Pp sum bs = 4294967295 - reg (4294967295 - sum).toNat bs := by unfold Pp; rw [if_neg (by omega)]
 have ru : Hid (Pp sum bs = 4294967295 - reg (4294967295 - sum).toNat bs) := mO;obtain ⟨G, hG⟩ : ∃ G, Pp sum bs = G := ⟨_, rfl⟩;have HG : Hid (Pp sum bs = G) := hG;rw [hG]
 have Au : IntKind.u32.max = 4294967295 := by decide
 have lY := XV sum h0 h1;clear hv hB mO hG hb;generalize hl : bs.length = len at *;have HL : Hid (bs.length = len) := hl;clear hl
 go_enter Tryz.func104, Tryz.ntmps104
 go_wp2_with (go_at_call 111; refine hD.mono ?_; rintro e w' ⟨rfl, w1, ys, hy, ⟨rfl, ah⟩, rfl⟩)
 have HK : Hid (Kept (fun b => b = B) w ((w1.setCell ⟨B, 0, none⟩ (.int .u32 1)).setCell ⟨B, 1, none⟩ (.int .i32 0)).drew) := (Kept.setCell (R := fun b => b = B) (Kept.setCell (R := fun b => b = B) ah (.inr rfl) _) (.inr rfl) _).drew;have HT : Hid (Blk ((w1.setCell ⟨B, 0, none⟩ (.int .u32 1)).setCell ⟨B, 1, none⟩ (.int .i32 0)).drew B 161 (RL 1 0 0 (TA 8 0))) := ((hy.stored 0 _).stored 1 _).drew;clear ah hy hD;generalize ((w1.setCell ⟨B, 0, none⟩ (.int .u32 1)).setCell ⟨B, 1, none⟩ (.int .i32 0)).drew = w2 at *;clear w1
 go_loopw [7, 9, 21] (fun r _ i wr => ∃ k : Nat, k ≤ len ∧ r = .int .u32 ((reg (4294967295 - sum).toNat (bs.take k) : Nat) : Int) ∧ i = Q1 k ∧ wr = w2) (fun _ _ i _ => len - (intOf i).toNat)
 case atStart => exact ⟨0, Nat.zero_le _, by simp [reg]; omega, rfl, rfl⟩
 case round =>
  obtain ⟨k, hk, rfl, rfl, rfl⟩ := hrel
  by_cases bg : k < len
  ·have fe : k < bs.length := by rw [HL.out]; exact bg
   have b9 := HV.out _ HK.out
   rcases b9.2 with ⟨ik, _⟩ | ⟨b, off, c', h, _, hc⟩
   ·rw [ik] at fe
    simp at fe
   ·have h2 := hc k fe
    cases h
    have lc := WB (4294967295 - sum).toNat (bs.take k) (by omega) (fun y hy => HB.out y (List.mem_of_mem_take hy));have Dz := HB.out.at k fe;have HS := (show Hid (_ = _) from Zf (4294967295 - sum).toNat bs k fe);clear b9 hc;obtain ⟨x, hx⟩ : ∃ x : Nat, bs.getD k 0 = (x : Int) := ⟨(bs.getD k 0).toNat, by omega⟩;rw [hx] at h2 Dz;have HX : Hid (bs.getD k 0 = (x : Int)) := hx;clear hx;generalize hR : reg (4294967295 - sum).toNat (bs.take k) = R at *;clear hR
    have l5 : x < 256 := by omega
    have ha := u8_xor_nat (R % 256) x (by omega) l5;have G5 : R % 256 ^^^ x < 256 := Nat.xor_lt_two_pow (n := 8) (by omega) l5;obtain ⟨I, hI⟩ : ∃ I : Nat, R % 256 ^^^ x = I := ⟨_, rfl⟩;have HI : Hid (R % 256 ^^^ x = I) := hI;rw [hI] at ha G5;clear hI;have ET := jco I (by omega)
    have h3 : wr.cell? ⟨B, 3 + I, none⟩ = some (.int .u32 ((tab I : Nat) : Int)) := by
     rw [HT.out.cell, Nat.add_comm, Vg];have := jcq I G5;simp [vals, this]
    have qk := u32_xor_nat (R / 256) (tab I) (by omega) ET
    have LY : bits .xor .u8 ((R : Int) % 256) (x : Int) = (I : Int) := by rw [← ha]; simp
    have Mc : bits .xor .u32 ((R : Int) / 256) ((tab I : Nat) : Int) = ((R / 256 ^^^ tab I : Nat) : Int) := by rw [← qk]; simp
    clear ha qk;go_wp2;go_roundw
    case rel =>
     refine ⟨k + 1, by omega, ?_, by go_num, by first | rfl | trivial⟩;rw [HS.out, HX.out, Int.toNat_natCast, jcp, HI.out]
    case measure => simp [intOf]; omega
  ·have od : k = len := by omega
   have he : reg (4294967295 - sum).toNat (bs.take k) = reg (4294967295 - sum).toNat bs := by rw [od, ← HL.out, List.take_length]
   rw [he];have lc := WB (4294967295 - sum).toNat bs (by omega) HB.out;have zg := ru.out;rw [HG.out] at zg;clear he;generalize reg (4294967295 - sum).toNat bs = R at *;have lP := XV (R : Int) (by omega) (by omega);go_wp2;go_ret;exact ⟨by rw [zg]; rfl, HK.out⟩
theorem jcv {k : IntKind} {w w1 w' : World} {B : Nat} {v : Value} {bs : List Int} (hv : Rd k w v bs) (h1 : Same w w1) (hB : w.heap.size ≤ B) (h2 : Kept (fun b => b = B) w1 w') : Rd k w' v bs :=
 hv.same (h1.next h2 (fun i hi e => by omega))
theorem Xr (w : World) (sum : Int) (v : Value) (bs : List Int) (h0 : 0 ≤ sum) (h1 : sum ≤ 4294967295) (hB : IsB bs) (hn : bs.length ≤ 1099511627776) (hv : Rd .u8 w v bs) :
  Calls Tryz.prog 93 #[Q1 sum, v] w fun e w' => e = .returned (Q1 (Pp sum bs)) ∧ Same w w' := by
 have hz : Tryz.zeroCells161.toList = RL 0 0 0 (List.replicate 256 0) := by kernel_rfl
 have lK := run_storeCells_new (P := Tryz.prog) w 161 Tryz.zeroCells161 Tryz.zeroCells161 (by kernel_rfl) rfl (by kernel_rfl)
 have hG : ∀ w1, w1 = w.alloc (.cells Tryz.zeroCells161 161) → Calls Tryz.prog 104 #[.pointer (some ⟨w.heap.size, 0, none⟩), Q1 sum, v] w1 fun e w' => e = .returned (Q1 (Pp sum bs)) ∧ Kept (fun b => b = w.heap.size) w1 w' := by
  rintro w1 rfl;have zc : Same w (w.alloc (.cells Tryz.zeroCells161 161)) := kZ0.alloc _;exact jcu _ _ sum v bs (by rw [← hz]; exact Blk.new _ _ _) h0 h1 hB hn (fun w' hk => jcv hv zc (Nat.le_refl _) hk)
 clear hz
 go_enter Tryz.func93, Tryz.ntmps93
 go_wp2_with (go_at_call 104; refine (hG _ rfl).mono ?_; rintro e w' ⟨rfl, hk⟩)
 go_ret;exact ⟨rfl, (kZ0.alloc _).next hk (fun i hi e => by omega)⟩
theorem jaZ (a b : Nat) (ha : a < 4294967296) (hb : b < 4294967296) : bits .xor .i64 (a : Int) (b : Int) = ((a ^^^ b : Nat) : Int) := by
 have h1 : a % 18446744073709551616 = a := Nat.mod_eq_of_lt (by omega);have h2 : b % 18446744073709551616 = b := Nat.mod_eq_of_lt (by omega);have h3 : a ^^^ b < 2 ^ 32 := Nat.xor_lt_two_pow (n := 32) (by omega) (by omega)
 have h4 : (BitVec.ofNat 64 a ^^^ BitVec.ofNat 64 b).toNat = a ^^^ b := by
  rw [BitVec.toNat_xor, BitVec.toNat_ofNat, BitVec.toNat_ofNat];simp only [Nat.reducePow, h1, h2]
 have h5 : bits .xor .i64 (a : Int) (b : Int) = IntKind.i64.wrap (((BitVec.ofNat 64 a ^^^ BitVec.ofNat 64 b).toNat : Nat) : Int) := rfl;rw [h5, h4, IntKind.wrap_i64];generalize a ^^^ b = z at *;omega
theorem jcw (r x : Nat) (hr : r < 4294967296) (hx : x < 256) (w : World) :
  Calls Tryz.prog 105 #[Q1 r, .int .u8 x] w fun e w' => e = .returned (Q1 ((shN 8 (r ^^^ x) : Nat) : Int)) ∧ w' = w := by
 have dR := jaZ r x hr (by omega);have pK : r ^^^ x < 4294967296 := Nat.xor_lt_two_pow (n := 32) (by omega) (by omega);generalize r ^^^ x = y at *
 go_enter Tryz.func105, Tryz.ntmps105
 go_wp2
 go_loopw [0, 5, 6] (fun z i _ wr => ∃ k : Nat, k ≤ 8 ∧ z = Q1 ((shN k y : Nat) : Int) ∧ i = Q1 k ∧ wr = w) (fun _ i _ _ => 8 - (intOf i).toNat)
 case atStart => exact ⟨0, Nat.zero_le _, rfl, rfl, rfl⟩
 case round =>
  obtain ⟨k, hk, rfl, rfl, rfl⟩ := hrel
  by_cases bg : k < 8
  ·have uR := WA k y pK
   have HS : Hid (shN (k + 1) y = sh (shN k y)) := Ze k y;generalize shN k y = z at *
   by_cases ho : z % 2 = 1
   ·have h2 := jaZ (z / 2) 3988292384 (by omega) (by decide)
    have kq : bits .xor .i64 ((z : Int) / 2) 3988292384 = ((z / 2 ^^^ 3988292384 : Nat) : Int) := by rw [← h2]; simp
    have h3 : sh z = z / 2 ^^^ 3988292384 := by unfold sh; rw [if_pos ho]
    have h4 : (z : Int) % 2 = 1 := by omega
    clear h2;go_wp2;go_roundw
    case rel => exact ⟨k + 1, by omega, by rw [HS.out, h3], by go_num, by first | rfl | trivial⟩
    case measure => simp [intOf]; omega
   ·have h3 : sh z = z / 2 := by unfold sh; rw [if_neg ho]
    have h4 : (z : Int) % 2 = 0 := by omega
    go_wp2;go_roundw
    case rel => exact ⟨k + 1, by omega, by rw [HS.out, h3]; simp, by go_num, by first | rfl | trivial⟩
    case measure => simp [intOf]; omega
  ·obtain rfl : k = 8 := by omega
   go_wp2;go_ret;exact ⟨rfl, rfl⟩
theorem Xt (w : World) (sum : Int) (v : Value) (bs : List Int) (h0 : 0 ≤ sum) (h1 : sum ≤ 4294967295) (hB : IsB bs) (hn : bs.length ≤ 1099511627776) (hv : Rd .u8 w v bs) :
  Calls Tryz.prog 94 #[Q1 sum, v] w fun e w' => e = .returned (Q1 (Pp sum bs)) ∧ Same w w' := by
 obtain ⟨a, c, rfl⟩ := hv.form;have HV : Hid (Rd .u8 w (.slice a bs.length c) bs) := hv;have HB : Hid (IsB bs) := hB
 have mO : Pp sum bs = 4294967295 - reg (4294967295 - sum).toNat bs := by unfold Pp; rw [if_neg (by omega)]
 have ru : Hid (Pp sum bs = 4294967295 - reg (4294967295 - sum).toNat bs) := mO;obtain ⟨G, hG⟩ : ∃ G, Pp sum bs = G := ⟨_, rfl⟩;have HG : Hid (Pp sum bs = G) := hG;rw [hG];clear hv hB mO hG;generalize hl : bs.length = len at *;have HL : Hid (bs.length = len) := hl;clear hl
 go_enter Tryz.func94, Tryz.ntmps94
 go_wp2
 go_loopw [5, 6] (fun r i wr => ∃ k : Nat, k ≤ len ∧ r = Q1 ((reg (4294967295 - sum).toNat (bs.take k) : Nat) : Int) ∧ i = Q1 k ∧ wr = w) (fun _ i _ => len - (intOf i).toNat)
 case atStart => exact ⟨0, Nat.zero_le _, by simp [reg]; omega, rfl, rfl⟩
 case round =>
  obtain ⟨k, hk, rfl, rfl, rfl⟩ := hrel
  by_cases bg : k < len
  ·have fe : k < bs.length := by rw [HL.out]; exact bg
   have b9 := HV.out
   rcases b9.2 with ⟨ik, _⟩ | ⟨b, off, c', h, _, hc⟩
   ·rw [ik] at fe
    simp at fe
   ·have h2 := hc k fe
    cases h
    have lc := WB (4294967295 - sum).toNat (bs.take k) (by omega) (fun y hy => HB.out y (List.mem_of_mem_take hy));have Dz := HB.out.at k fe;have HS := (show Hid (_ = _) from Zf (4294967295 - sum).toNat bs k fe);clear b9 hc;obtain ⟨x, hx⟩ : ∃ x : Nat, bs.getD k 0 = (x : Int) := ⟨(bs.getD k 0).toNat, by omega⟩;rw [hx] at h2 Dz;have HX : Hid (bs.getD k 0 = (x : Int)) := hx;clear hx;generalize hR : reg (4294967295 - sum).toNat (bs.take k) = R at *;clear hR
    have l5 : x < 256 := by omega
    go_wp2_with (go_at_call 105; refine (jcw R x lc l5 _).mono ?_; rintro e w' ⟨rfl, rfl⟩)
    go_roundw
    case rel =>
     refine ⟨k + 1, by omega, ?_, by go_num, by first | rfl | trivial⟩;rw [HS.out, HX.out, Int.toNat_natCast]
    case measure => simp [intOf]; omega
  ·have od : k = len := by omega
   have he : reg (4294967295 - sum).toNat (bs.take k) = reg (4294967295 - sum).toNat bs := by rw [od, ← HL.out, List.take_length]
   rw [he];have lc := WB (4294967295 - sum).toNat bs (by omega) HB.out;have zg := ru.out;rw [HG.out] at zg;clear he;generalize reg (4294967295 - sum).toNat bs = R at *;go_wp2;go_ret;exact ⟨by rw [zg]; rfl, kZ0⟩
theorem Zi (sum : Int) (bs : List Int) (h : sum < 0 ∨ 4294967295 < sum) : Pp sum bs = -1 := by unfold Pp; rw [if_pos h]
theorem YA (w : World) (sum : Int) (v : Value) (h : sum < 0 ∨ 4294967295 < sum) :
  Calls Tryz.prog 94 #[Q1 sum, v] w fun e w' => e = .returned (Q1 (-1)) ∧ Same w w' := by
 rcases h with h | h <;>
 (go_enter Tryz.func94, Tryz.ntmps94
  go_wp2;go_ret
  exact ⟨rfl, kZ0⟩)
theorem YB (w : World) (sum : Int) (v : Value) (h : sum < 0 ∨ 4294967295 < sum) :
  Calls Tryz.prog 93 #[Q1 sum, v] w fun e w' => e = .returned (Q1 (-1)) ∧ Same w w' := by
 rcases h with h | h <;>
 (go_enter Tryz.func93, Tryz.ntmps93
  go_wp2;go_ret
  exact ⟨rfl, kZ0⟩)
theorem Xu (sum : Int) (v : Value) (bs : List Int) (w : World) (hB : IsB bs) (hn : bs.length ≤ 1099511627776) (hv : Rd .u8 w v bs) :
  Calls Tryz.prog 94 #[Q1 sum, v] w fun e w' => e = .returned (Q1 (Pp sum bs)) ∧ Same w w' := by
 by_cases h : sum < 0 ∨ 4294967295 < sum
 ·rw [Zi sum bs h]
  exact YA w sum v h
 ·exact Xt w sum v bs (by omega) (by omega) hB hn hv
theorem Xv (sum : Int) (v : Value) (bs : List Int) (w : World) (hB : IsB bs) (hn : bs.length ≤ 1099511627776) (hv : Rd .u8 w v bs) :
  Calls Tryz.prog 93 #[Q1 sum, v] w fun e w' => e = .returned (Q1 (Pp sum bs)) ∧ Same w w' := by
 by_cases h : sum < 0 ∨ 4294967295 < sum
 ·rw [Zi sum bs h]
  exact YB w sum v h
 ·exact Xr w sum v bs (by omega) (by omega) hB hn hv
theorem VB (v : Value) (bs : List Int) (w : World) (hB : IsB bs) (hn : bs.length ≤ 1099511627776) (hv : Rd .u8 w v bs) :
  Calls Tryz.prog 54 #[v] w fun e w' => e = .returned (Q1 (Pp 0 bs)) ∧ Same w w' := by
 go_enter Tryz.func54, Tryz.ntmps54
 go_wp2_with (go_at_call 94; refine (Xu 0 v bs _ hB hn hv).mono ?_; rintro e w' ⟨rfl, hk⟩)
 go_ret;exact ⟨rfl, hk⟩
theorem TU (v : Value) (bs : List Int) (w : World) (hB : IsB bs) (hn : bs.length ≤ 1099511627776) (hv : Rd .u8 w v bs) :
  Calls Tryz.prog 50 #[v] w fun e w' => e = .returned (Q1 (Pp 0 bs)) ∧ Same w w' := by
 go_enter Tryz.func50, Tryz.ntmps50
 go_wp2_with (go_at_call 93; refine (Xv 0 v bs _ hB hn hv).mono ?_; rintro e w' ⟨rfl, hk⟩)
 go_ret;exact ⟨rfl, hk⟩
def O5 (v : Int) : Nat → List Int
 | 0 => []
 | k + 1 => (v / 256 ^ k % 256) :: O5 v k
theorem OY (v : Int) (k : Nat) : (O5 v k).length = k := by
 induction k with
 | zero => rfl
 | succ k ih => simp [O5, ih]
def OW (v n : Int) : List Int := if n < 1 ∨ 8 < n ∨ v < 0 ∨ v / 256 ^ n.toNat ≠ 0 then [] else O5 v n.toNat
theorem O3 (v n : Int) : (OW v n).length ≤ 8 := by
 unfold OW
 split
 ·simp
 ·rw [OY]; omega
theorem Zj (v : Int) (k : Nat) : v / 256 ^ k / 256 = v / 256 ^ (k + 1) := by
 rw [Int.ediv_ediv_of_nonneg (Int.le_of_lt (Int.pow_pos (by decide))), Int.pow_succ]
theorem jbu (v : Int) (n k : Nat) (h : k < n) : (List.replicate (n - k) 0 ++ O5 v k).set (n - k - 1) (v / 256 ^ k % 256) = List.replicate (n - (k + 1)) 0 ++ O5 v (k + 1) := by
 have e : n - k = (n - (k + 1)) + 1 := by omega
 rw [e, List.replicate_succ', List.append_assoc, Nat.add_sub_cancel, List.set_append_right (h := by simp)];simp [O5]
theorem Zk (v : Int) (n k : Nat) (h : k ≤ n) : (List.replicate (n - k) 0 ++ O5 v k).length = n := by simp [OY]; omega
theorem Own.empty (w : World) (e : TypeId) : Own 0 e .u8 (w.alloc (Obj.cells #[] e)) (.slice (some ⟨w.heap.size, 0, none⟩) 0 0) [] :=
 ⟨by simp [vals], .inr ⟨w.heap.size, 0, #[], rfl, Nat.zero_le _, by unfold World.alloc; exact Array.getElem?_push_size, Nat.le_refl _, Nat.zero_le _, by simp [vals]⟩⟩
theorem Zl (v n : Int) (w : World) (tU : IsI v) (h1 : 1 ≤ n) (h2 : n ≤ 8) (h3 : 0 ≤ v) :
  Calls Tryz.prog 52 #[Q1 v, Q1 n] w fun e w' => ∃ a c, e = .returned (.slice a (OW v n).length c) ∧ (∀ b, (Value.slice a (OW v n).length c).ownBlock = some b → w.heap.size ≤ b) ∧
   Own 0 5 .u8 w' (.slice a (OW v n).length c) (OW v n) ∧ Same w w' := by
 obtain ⟨n, rfl⟩ : ∃ m : Nat, n = m := ⟨n.toNat, by omega⟩;obtain ⟨i0, hi, b8, cE, cP⟩ := info_parts Tryz.infoByte';obtain ⟨gl, lQ⟩ := tU
 have t7 : ¬ (n : Int) < 1 := by omega
 have kq : ¬ (8 : Int) < n := by omega
 have Mp : ¬ v < 0 := by omega
 go_enter Tryz.func52, Tryz.ntmps52
 go_wp2_with (at_make; refine wpList_make_full _ rfl (.tmp 18) (.tmp 18) 22 rfl 0 5 i0 (.int .u8 0) 1 Tryz.underlying22 hi b8 cE .i64 .i64 _ _ n rfl rfl (by simp) (by simp) (by rw [cP]; omega) (by unfold maxLen; omega) (Nat.zero_le _) ?_; intro w1 bm aV; have HO : Hid (Own 0 5 .u8 w1 (.slice (some ⟨w.heap.size, 0, none⟩) n n) (List.replicate n 0)) := Tc (by simpa using bm); have HK : Hid (Same w w1) := Kept.of_grown aV (fun k e => by cases e); clear bm aV)
 go_loopw [0, 6] (fun x i wr => ∃ (k : Nat), k ≤ n ∧ x = Q1 (v / 256 ^ k) ∧ i = Q1 ((n : Int) - k - 1) ∧ Hid (Own 0 5 .u8 wr (.slice (some ⟨w.heap.size, 0, none⟩) n n) (List.replicate (n - k) 0 ++ O5 v k)) ∧ Hid (Same w wr)) (fun _ i _ => (intOf i + 1).toNat)
 case atStart => exact ⟨0, Nat.zero_le _, by simp, by simp, by simpa [O5] using HO, HK⟩
 case round =>
  obtain ⟨k, hk, rfl, rfl, HOr, cJ⟩ := hrel
  by_cases bg : k < n
  ·obtain ⟨j, rfl⟩ : ∃ j : Nat, n = k + 1 + j := ⟨n - k - 1, by omega⟩
   have ej : ((k + 1 + j : Nat) : Int) - k - 1 = j := by omega
   have cg := Zk v (k + 1 + j) k hk;have q2 := HOr.out.frozen cg.symm j;have q3 := HOr.out.cell cg.symm j (by omega);have dR : 0 ≤ v / 256 ^ k := Int.ediv_nonneg h3 (Int.le_of_lt (Int.pow_pos (by decide)));have lR : v / 256 ^ k ≤ v := Int.ediv_le_self _ h3;have lK := Zj v k;have fX : Hid (v / 256 ^ k / 256 = v / 256 ^ (k + 1)) := lK;have CZ := jbu v (k + 1 + j) k bg;have CW := (show Hid (_ = _) from CZ);clear CZ lK;rw [ej];generalize hx : v / 256 ^ k = x at *;clear hx;go_wp2;go_roundw
   case rel =>
    have h := HOr.out.stored cg.symm j (x % 256);have e2 := CW.out;rw [show k + 1 + j - k - 1 = j from by omega] at e2;rw [e2] at h;exact ⟨k + 1, by omega, by rw [fX.out], by go_num, h, cJ.out.setCell (.inl (Nat.le_refl _)) _⟩
   case measure => simp [intOf]
  ·obtain rfl : k = n := by omega
   have ej : ((k : Nat) : Int) - k - 1 = -1 := by omega
   have dR : 0 ≤ v / 256 ^ k := Int.ediv_nonneg h3 (Int.le_of_lt (Int.pow_pos (by decide)));have lR : v / 256 ^ k ≤ v := Int.ediv_le_self _ h3;rw [ej]
   by_cases hz : v / 256 ^ k = 0
   ·have dY : OW v k = O5 v k := by unfold OW; rw [if_neg (by simp only [Int.toNat_natCast]; omega)]; simp
    have HN : Hid (OW v k = O5 v k) := dY;rw [hz];clear hz dY dR lR;go_wp2;go_ret;rw [HN.out, OY];refine ⟨_, _, rfl, fun b hb => ?_, ?_, cJ.out⟩
    ·simp [Value.ownBlock] at hb; omega
    ·have h := HOr.out; rw [Nat.sub_self, List.replicate_zero, List.nil_append] at h; exact h
   ·have dY : OW v k = [] := by unfold OW; rw [if_pos (by simp only [Int.toNat_natCast]; omega)]
    have HN : Hid (OW v k = []) := dY;clear dY;generalize hx : v / 256 ^ k = x at *;clear hx;go_wp2;go_ret;rw [HN.out];refine ⟨some ⟨wr.heap.size, 0, none⟩, 0, rfl, fun b hb => ?_, Own.empty _ _, cJ.out.alloc _⟩;have := cJ.out.size;simp [Value.ownBlock] at hb; omega
theorem jau (v n : Int) (w : World) (h : n < 1 ∨ 8 < n ∨ v < 0) :
  Calls Tryz.prog 52 #[Q1 v, Q1 n] w fun e w' => e = .returned (.slice (some ⟨w.heap.size, 0, none⟩) 0 0) ∧ w' = w.alloc (Obj.cells #[] 5) := by
 rcases h with h | h
 ·go_enter Tryz.func52, Tryz.ntmps52
  go_wp2;go_ret;exact ⟨rfl, rfl⟩
 ·by_cases h1 : n < 1
  ·go_enter Tryz.func52, Tryz.ntmps52
   go_wp2;go_ret;exact ⟨rfl, rfl⟩
  ·rcases h with h | h
   ·go_enter Tryz.func52, Tryz.ntmps52
    go_wp2;go_ret;exact ⟨rfl, rfl⟩
   ·by_cases h2 : 8 < n
    ·go_enter Tryz.func52, Tryz.ntmps52
     go_wp2;go_ret;exact ⟨rfl, rfl⟩
    ·go_enter Tryz.func52, Tryz.ntmps52
     go_wp2;go_ret;exact ⟨rfl, rfl⟩
theorem QV (v n : Int) (w : World) (tU : IsI v) (Gj : IsI n) :
  Calls Tryz.prog 52 #[Q1 v, Q1 n] w fun e w' => ∃ a c, e = .returned (.slice a (OW v n).length c) ∧ (∀ b, (Value.slice a (OW v n).length c).ownBlock = some b → w.heap.size ≤ b) ∧
   Own 0 5 .u8 w' (.slice a (OW v n).length c) (OW v n) ∧ Same w w' := by
 by_cases h : n < 1 ∨ 8 < n ∨ v < 0
 ·refine (jau v n w h).mono ?_
  rintro e w' ⟨rfl, rfl⟩
  have e : OW v n = [] := by unfold OW; rw [if_pos (by omega)]
  rw [e];exact ⟨some ⟨w.heap.size, 0, none⟩, 0, rfl, fun b hb => by simp [Value.ownBlock] at hb; omega, Own.empty _ _, kZ0.alloc _⟩
 ·exact Zl v n w tU (by omega) (by omega) (by omega)
theorem jfb (n : Nat) : (2 : Int) ^ (8 * n) = 256 ^ n := by
 induction n with
 | zero => rfl
 | succ n ih => rw [Nat.mul_succ, Int.pow_add, ih, Int.pow_succ]; rfl
theorem Qm (g o n c : Nat) (t : TypeId) (xs : List Value) (v : Int) (w : World) (hb : Blk w g t xs) (ho : o + n ≤ xs.length) (h0 : 0 ≤ v) (hi : v ≤ 9223372036854775807) (hn : n ≤ 1099511627776) :
  Calls Tryz.prog 49 #[.slice (some ⟨g, o, none⟩) n c, Q1 v] w fun e w' => e = .returned (.tuple #[]) ∧ Blk w' g t (lay xs o (vals .u8 (O5 v n))) ∧ Kept (fun b => b = g) w w' := by
 have HB : Hid (Blk w g t xs) := hb;clear hb
 go_enter Tryz.func49, Tryz.ntmps49
 go_wp2
 go_loopw [1, 4] (fun x i wr => ∃ k : Nat, k ≤ n ∧ x = Q1 (v / 256 ^ k) ∧ i = Q1 ((n : Int) - k - 1) ∧ Hid (Blk wr g t (lay xs (o + (n - k)) (vals .u8 (O5 v k)))) ∧ Hid (Kept (fun b => b = g) w wr)) (fun _ i _ => (intOf i + 1).toNat)
 case atStart => exact ⟨0, Nat.zero_le _, by simp, by simp, by simpa [O5, vals, Yu] using HB, kZ0⟩
 case round =>
  obtain ⟨k, hk, rfl, rfl, jf, cJ⟩ := hrel
  by_cases bg : k < n
  ·obtain ⟨j, rfl⟩ : ∃ j : Nat, n = k + 1 + j := ⟨n - k - 1, by omega⟩
   have ej : ((k + 1 + j : Nat) : Int) - k - 1 = j := by omega
   have el : (lay xs (o + (k + 1 + j - k)) (vals .u8 (O5 v k))).length = xs.length := jap _ _ _ (by rw [O1, OY]; omega);have q2 := jf.out.frozen (o + j);have q3 := jf.out.cell (o + j);rw [List.getElem?_eq_getElem (by rw [el]; omega)] at q3;have dR : 0 ≤ v / 256 ^ k := Int.ediv_nonneg h0 (Int.le_of_lt (Int.pow_pos (by decide)));have lR : v / 256 ^ k ≤ v := Int.ediv_le_self _ h0;have fX : Hid (v / 256 ^ k / 256 = v / 256 ^ (k + 1)) := Zj v k;have CW : Hid ((lay xs (o + j + 1) (vals .u8 (O5 v k))).set (o + j) (.int .u8 (v / 256 ^ k % 256)) = lay xs (o + j) (vals .u8 (O5 v (k + 1)))) := jdr xs (o + j) _ (vals .u8 (O5 v k)) (by rw [O1, OY]; omega);rw [ej];obtain ⟨z, hz⟩ : ∃ z, (lay xs (o + (k + 1 + j - k)) (vals .u8 (O5 v k)))[o + j]'(by rw [el]; omega) = z := ⟨_, rfl⟩;rw [hz] at q3;clear hz el;generalize hx : v / 256 ^ k = x at *;clear hx;go_wp2;go_roundw
   case rel =>
    have h := jf.out.stored (o + j) (.int .u8 (x % 256));rw [show o + (k + 1 + j - k) = o + j + 1 from by omega, CW.out] at h;refine ⟨k + 1, by omega, by rw [← fX.out], by go_num, ?_, Kept.setCell (R := fun b => b = g) cJ.out (.inr rfl) _⟩;rw [show o + (k + 1 + j - (k + 1)) = o + j from by omega];exact h
   case measure => simp [intOf]
  ·obtain rfl : k = n := by omega
   have ej : ((k : Nat) : Int) - k - 1 = -1 := by omega
   rw [ej];generalize hx : v / 256 ^ k = x at *;go_wp2
   go_end0
   have h := jf.out;rw [Nat.sub_self] at h;exact ⟨rfl, h, cJ.out⟩
end Go.Proofs.YtapdfgkbhaoelaaGreatDoor
