import Derived.Test.YtaojjcnmififoaaGreatG01
import Derived.Test.YtaojjcnmififoaaGreatG07
import Derived.Tactics
import Derived.Tactics2
import Derived.Defers
import Derived.Laws.Pointers
import Derived.Laws.LoneSync
import Derived.RegionTactic
import Derived.RegionCalls
import Derived.WalkKit
import Derived.OrdersHeld
import Derived.Deep.RegionHeld3
import Derived.Deep.MidRow
import Derived.Deep.WholeRow
namespace Go.Proofs.YtaojjcnmififoaaGreat
set_option maxRecDepth 100000
set_option maxHeartbeats 4000000
set_option linter.unusedVariables false
open Go.RowKit Go
theorem disable (w : World) : (callFunc 125 #[]).run Tryz.prog w = .ok (.value (.tuple #[])) w := run_call_mark0 Tryz.func125 (by kernel_rfl) (by kernel_rfl) (by kernel_rfl) .disable (by kernel_rfl) w
theorem enable (w : World) : (callFunc 127 #[]).run Tryz.prog w = .ok (.value (.tuple #[])) w := run_call_mark0 Tryz.func127 (by kernel_rfl) (by kernel_rfl) (by kernel_rfl) .enable (by kernel_rfl) w
theorem acquire (a : Addr) (w : World) : (callFunc 128 #[.pointer (some a)]).run Tryz.prog w = .ok (.value (.tuple #[])) w := run_call_marked Tryz.func128 (by kernel_rfl) (by kernel_rfl) (by kernel_rfl) .acquire (by kernel_rfl) a w
theorem releaseMerge (a : Addr) (w : World) : (callFunc 130 #[.pointer (some a)]).run Tryz.prog w = .ok (.value (.tuple #[])) w := run_call_marked Tryz.func130 (by kernel_rfl) (by kernel_rfl) (by kernel_rfl) .releaseMerge (by kernel_rfl) a w
theorem X7 (a : Addr) (x : Value) (u : FrameMode) (w : World) (hc : w.cell? a = some x) (hz : w.frozen? a = false) :
  CallsD Tryz.prog 120 #[.pointer (some a), .bool true] u w fun e u' w' => u' = u ∧ (e = .returned (.tuple #[]) ∧ w' = w.drew.setCell a (.int .u32 1)) := by
 have wD : w.drew.cell? a = some x := by go_simp
 have FO : w.drew.frozen? a = false := by go_simp
 have kc := run_call_store (P := Tryz.prog) Tryz.func123 (by kernel_rfl) (by kernel_rfl) (by kernel_rfl) (by kernel_rfl) (k := .u32) (y := 1) wD FO
 go_enter_d Tryz.func120, Tryz.ntmps120
 go_wp2
 go_region_calls
 all_goals (go_end0; exact ⟨rfl, rfl⟩)
theorem unlock_deferred (a : Addr) (u : FrameMode) (w : World) (hc : w.cell? a = some (.int .i32 1)) (hz : w.frozen? a = false) :
  CallsD Tryz.prog 119 #[.pointer (some a)] u w fun e u' w' => u' = u ∧ (e = .returned (.tuple #[]) ∧ w' = w.setCell a (.int .i32 0)) := by
 have hd := disable
 have he := enable
 have hr := releaseMerge
 have NM := run_call_add (P := Tryz.prog) Tryz.func131 (by kernel_rfl) (by kernel_rfl) (by kernel_rfl) .i32 (by kernel_rfl) (y := -1) (s := 0) hc hz (by simp [go_sem]; rfl)
 have Ma := run_convert_to_unsafe (P := Tryz.prog) (src := 184) (dst := 188) Tryz.underlying184 Tryz.underlying188 (by kernel_rfl) hc
 go_enter_d Tryz.func119, Tryz.ntmps119
 go_wp2
 go_end0
 go_wp2
 go_end0
 exact ⟨rfl, rfl⟩
theorem lock_free (a : Addr) (w : World) (hc : w.cell? a = some (.int .i32 0)) (hz : w.frozen? a = false) :
  Calls Tryz.prog 118 #[.pointer (some a)] w fun e w' => e = .returned (.tuple #[]) ∧ w' = w.setCell a (.int .i32 1) := by
 have hd := disable
 have he := enable
 have ha := acquire
 have Lu := run_call_cas_hit (P := Tryz.prog) Tryz.func126 (by kernel_rfl) (by kernel_rfl) (by kernel_rfl) .i32 (by kernel_rfl) (y := 1) hc hz
 have wD : (w.setCell a (.int .i32 1)).cell? a = some (.int .i32 1) := World.cell?_setCell_same w a _ hc
 have Ma := run_convert_to_unsafe (P := Tryz.prog) (src := 184) (dst := 188) Tryz.underlying184 Tryz.underlying188 (by kernel_rfl) wD
 go_enter Tryz.func118, Tryz.ntmps118
 go_wp2
 first | go_end0 | (simp only [Exit.inBlock, Exit.then]; refine bodyPost_ret (results_none rfl _ _ _) rfl ?_) | refine bodyPost_ret (results_none rfl _ _ _) rfl ?_
 go_wp2
 go_end0
 exact ⟨rfl, rfl⟩
theorem Zw (a : Addr) (w : World) (hc : w.cell? a = some (.int .u32 0)) :
  Calls Tryz.prog 114 #[.pointer (some a)] w fun e w' => e = .returned (.bool false) ∧ w' = w := by
 have hl := run_call_load (P := Tryz.prog) Tryz.func117 (by kernel_rfl) (by kernel_rfl) (by kernel_rfl) .u32 (by kernel_rfl) hc
 go_enter Tryz.func114, Tryz.ntmps114
 go_wp2
 go_ret
 exact ⟨rfl, rfl⟩
theorem jdp (B : Nat) (t : TypeId) (xs : List Value) (w : World) (hb : Blk w B t xs) (h0 : xs[0]? = some (.int .u32 0)) (h1 : xs[1]? = some (.int .i32 0)) (Q : World → List Value → Prop)
  (hF : Calls Tryz.prog 111 #[.pointer (some ⟨B, 0, none⟩)] (w.setCell ⟨B, 1, none⟩ (.int .i32 1)) fun e w' => e = .returned (.tuple #[]) ∧ ∃ ys, Blk w' B t ys ∧ ys[0]? = some (.int .u32 0) ∧ ys[1]? = some (.int .i32 1) ∧ Q w' ys) :
  Calls Tryz.prog 115 #[.pointer (some ⟨B, 0, none⟩), .func (.func 111) #[.pointer (some ⟨B, 0, none⟩)] #[]] w fun e w' => e = .returned (.tuple #[]) ∧
   ∃ w1 ys, Blk w1 B t ys ∧ Q w1 ys ∧ w' = (w1.drew.setCell ⟨B, 0, none⟩ (.int .u32 1)).setCell ⟨B, 1, none⟩ (.int .i32 0) := by
 have c0 : w.cell? ⟨B, 0, none⟩ = some (.int .u32 0) := by rw [hb.cell, h0]
 have c1 : w.cell? ⟨B, 1, none⟩ = some (.int .i32 0) := by rw [hb.cell, h1]
 have f1 := hb.frozen 1
 have Pf : (w.setCell ⟨B, 1, none⟩ (.int .i32 1)).cell? ⟨B, 0, none⟩ = some (.int .u32 0) := (World.cell?_setCell_other _ ⟨B, 1, none⟩ ⟨B, 0, none⟩ _ (by simp)).trans c0
 go_enter_defers Tryz.func115, Tryz.ntmps115
 go_wp2_with (first
  | (go_at_call 118; refine (lock_free ⟨B, 1, none⟩ _ (by go_simp) (by go_simp)).mono ?_; rintro e w' ⟨rfl, rfl⟩)
  | (go_at_call 114; refine (Zw ⟨B, 0, none⟩ _ Pf).mono ?_; rintro e w' ⟨rfl, rfl⟩)
  | (go_at_call 111; refine hF.mono ?_; rintro e w' ⟨rfl, ys, hy, iu, gZ, hq⟩))
 have k0 : w'.cell? ⟨B, 0, none⟩ = some (.int .u32 0) := by rw [hy.cell, iu]
 have k1 : w'.cell? ⟨B, 1, none⟩ = some (.int .i32 1) := by rw [hy.cell, gZ]
 have z0 := hy.frozen 0
 have z1 := hy.frozen 1
 go_wp2
 refine leaves_cons (f := 120) (args := #[.pointer (some ⟨B, 0, none⟩), .bool true]) (by simp) (by simp [go_sem]) ?_
 refine (X7 ⟨B, 0, none⟩ (.int .u32 0) .returning _ k0 z0).mono ?_
 rintro e u' BX ⟨rfl, rfl, rfl⟩
 refine leaves_cons (f := 119) (args := #[.pointer (some ⟨B, 1, none⟩)]) (by simp [settle]) (by simp [go_sem]) ?_
 refine (unlock_deferred ⟨B, 1, none⟩ _ _ ?_ (by simp [z1])).mono ?_
 ·refine (World.cell?_setCell_other _ ⟨B, 0, none⟩ ⟨B, 1, none⟩ _ (by simp)).trans ?_
  rw [World.cell?_drew]
  exact k1
 rintro e u' BX ⟨rfl, rfl, rfl⟩
 have fin : ∃ w1 ys, Blk w1 B t ys ∧ Q w1 ys ∧ (w'.drew.setCell ⟨B, 0, none⟩ (.int .u32 1)).setCell ⟨B, 1, none⟩ (.int .i32 0) = (w1.drew.setCell ⟨B, 0, none⟩ (.int .u32 1)).setCell ⟨B, 1, none⟩ (.int .i32 0) := ⟨w', ys, hy, hq, rfl⟩
 simpa [Leaves, settle, results, Tryz.results115] using fin
theorem jfr (B : Nat) (t : TypeId) (xs : List Value) (w : World) (hb : Blk w B t xs) (h0 : xs[0]? = some (.int .u32 0)) (h1 : xs[1]? = some (.int .i32 0)) (Q : World → List Value → Prop)
  (hF : Calls Tryz.prog 111 #[.pointer (some ⟨B, 0, none⟩)] (w.setCell ⟨B, 1, none⟩ (.int .i32 1)) fun e w' => e = .returned (.tuple #[]) ∧ ∃ ys, Blk w' B t ys ∧ ys[0]? = some (.int .u32 0) ∧ ys[1]? = some (.int .i32 1) ∧ Q w' ys) :
  Calls Tryz.prog 110 #[.pointer (some ⟨B, 0, none⟩), .func (.func 111) #[.pointer (some ⟨B, 0, none⟩)] #[]] w fun e w' => e = .returned (.tuple #[]) ∧
   ∃ w1 ys, Blk w1 B t ys ∧ Q w1 ys ∧ w' = (w1.drew.setCell ⟨B, 0, none⟩ (.int .u32 1)).setCell ⟨B, 1, none⟩ (.int .i32 0) := by
 have c0 : w.cell? ⟨B, 0, none⟩ = some (.int .u32 0) := by rw [hb.cell, h0]
 go_enter Tryz.func110, Tryz.ntmps110
 go_wp2_with (first
  | (go_at_call 115; refine (jdp B t xs _ hb h0 h1 Q hF).mono ?_; rintro e w' ⟨rfl, hr⟩)
  | (go_at_call 114; refine (Zw ⟨B, 0, none⟩ _ c0).mono ?_; rintro e w' ⟨rfl, rfl⟩))
 go_end0
 exact ⟨rfl, hr⟩
section
variable {P : Program} {ct : Array Oper} {Q : Exit → Act → World → Prop} {md : Region.Mode} {S : World → Prop} {s : Nat}
def Tc (P : Program) (md : Region.Mode) (ct : Array Oper) (Q : Exit → Act → World → Prop) (S : World → Prop) (s : Nat) : Nat → Array Bool → Act → World → Prop
 | 0, listed, a, w => Region.ready md ct listed = [] ∧ Q .normal a w
 | fuel + 1, listed, a, w =>
  (Region.ready md ct listed = [] → Q .normal a w) ∧
  ∀ i ∈ Region.ready md ct listed, wpOp P ct Q i (fun a' w' => (i ≠ s → S w') ∧ Tc P md ct Q S s fuel (listed.setIfInBounds i true) a' w') a w
theorem Wj : ∀ (fuel : Nat) (listed : Array Bool) (a : Act) (w : World), Tc P md ct Q S s fuel listed a w → wpAny P md ct Q fuel listed a w
 | 0, _, _, _, h => h
 | fuel + 1, _, _, _, h => ⟨h.1, fun i hi => wpOp_mono (fun a' w' h' => Wj fuel _ a' w' h'.2) (h.2 i hi)⟩
def waits (md : Region.Mode) (ct : Array Oper) (s i : Nat) : Bool :=
 match ct[s]? with
 | some o => o.after.any fun e => Region.binds md e && e.on == i
 | none => true
theorem jbM {i : Nat} (h : waits md ct s i = true) {os : Oper} (ho : ct[s]? = some os) (hn : ∀ e ∈ os.after, Region.binds md e = true → e.on ≠ i) : False := by
 unfold waits at h
 rw [ho] at h
 obtain ⟨e, he, hb⟩ := Array.any_eq_true'.1 h
 simp only [Bool.and_eq_true, beq_iff_eq] at hb
 exact hn e he hb.1 hb.2
theorem jaF {listed : Array Bool} {i j : Nat} (hi : i ∈ Region.ready md ct listed) (hj : j ∈ Region.ready md ct listed) {oj : Oper} (vS : ct[j]? = some oj) :
  ∀ e ∈ oj.after, Region.binds md e = true → e.on ≠ i := by
 rintro e he hb rfl
 obtain ⟨_, o, ho, qg⟩ := mem_ready.1 hj
 obtain rfl : o = oj := by rw [vS] at ho; exact (Option.some.inj ho).symm
 have MY := qg e he hb
 have J2 := (mem_ready.1 hi).1
 by_cases hl : e.on < listed.size <;> simp_all
def Loose (md : Region.Mode) (ct : Array Oper) (i : Nat) (oi : Oper) (listed : Array Bool) : Prop :=
 ∀ j oj, ct[j]? = some oj → j ≠ i → listed.getD j true = false → (∀ e ∈ oj.after, Region.binds md e = true → e.on ≠ i) → oi.apart ct oj = true
theorem Loose.on {i j : Nat} {oi : Oper} {listed : Array Bool} (h : Loose md ct i oi listed) (hj : listed.getD j true = false) : Loose md ct i oi (listed.setIfInBounds j true) := fun k ok hk Iz kt J2 =>
 h k ok hk Iz (if e : j = k then e ▸ hj else (getD_set_ne true e) ▸ kt) J2
theorem Z8 {i : Nat} {oi : Oper} {v : Value} (hi : ct[i]? = some oi) (nm : ∀ (j : Nat) (o : Oper) cs b, ct[j]? = some o → o.op ≠ .select cs b) (hs : waits md ct s i = true)
  (hQ : ∀ c a w, Q (.panic c) (a.put oi.dst v) w → Q (.panic c) a w) (fuel : Nat) : ∀ (listed : Array Bool) (a : Act) (w : World), Loose md ct i oi listed → i ∈ Region.ready md ct listed → YieldsIf P ct S oi v a → S w →
   Tc P md ct Q S s fuel (listed.setIfInBounds i true) (a.put oi.dst v) w → Tc P md ct Q S s (fuel + 1) listed a w := by
 induction fuel with
 | zero =>
  intro listed a w _ hr hy hS H
  constructor
  ·intro h0; simp [h0] at hr
  ·intro j hj
   by_cases e : j = i
   ·exact e ▸ hy.wpOp hi hS ⟨fun _ => hS, H⟩
   ·have := ready_mono hj e
    simp [H.1] at this
 | succ fuel ih =>
  intro listed a w hl hr hy hS H
  constructor
  ·intro h0; simp [h0] at hr
  ·intro j hj
   by_cases e : j = i
   ·exact e ▸ hy.wpOp hi hS ⟨fun _ => hS, H⟩
   ·obtain ⟨kt, oj, vS, _⟩ := mem_ready.1 hj
    have IG := jaF hr hj vS
    have N9 : j ≠ s := fun es => jbM hs (es ▸ vS) IG
    refine wpOp_mono ?_ (wpOp_putIf vS (hl j oj vS e kt IG) (fun cs b => nm i oi cs b hi) (fun cs b => nm j oj cs b vS) hQ hy (H.2 j (ready_mono hj e)))
    rintro a' w' ⟨EK, IU, Mr⟩
    exact ⟨IU, ih _ a' w' (hl.on kt) (ready_mono hr (Ne.symm e)) EK (IU N9) (by rw [Array.setIfInBounds_comm _ _ e]; exact Mr)⟩
theorem RB {i : Nat} {oi : Oper} {v : Value} {fuel : Nat} {listed : Array Bool} {a : Act} {w : World} (d : Option Tmp) (hi : ct[i]? = some oi) (hd : oi.dst = d)
  (iO : Region.noSelect ct = true) (hf : Region.free md ct listed i = true) (hr : (Region.ready md ct listed).contains i = true) (hs : waits md ct s i = true)
  (hQ : ∀ c a w, Q (.panic c) (a.put d v) w → Q (.panic c) a w) (hy : YieldsIf P ct S oi v a) (hS : S w)
  (h : Tc P md ct Q S s fuel (listed.setIfInBounds i true) (a.put d v) w) : Tc P md ct Q S s (fuel + 1) listed a w := by
 subst hd
 exact Z8 hi (Region.noSelect_spec iO) hs hQ fuel listed a w (Region.free_spec hi hf) (by simpa using hr) hy hS h
theorem sA {α : Type} {l : List α} {i : Nat} {a : α} : l.toArray.setIfInBounds i a = (l.set i a).toArray := List.setIfInBounds_toArray ..
theorem s0 {α : Type} {x : α} {xs : List α} {a : α} : (x :: xs).set 0 a = a :: xs := List.set_cons_zero
theorem sS {α : Type} {x : α} {xs : List α} {i : Nat} {a : α} : (x :: xs).set (i + 1) a = x :: xs.set i a := List.set_cons_succ
theorem tk (i d : Nat) {oi : Oper} {v : Value} {fuel : Nat} {listed : Array Bool} {a a' : Act} {w : World} (hS : S w)
  (h : Tc P md ct Q S s fuel (listed.setIfInBounds i true) a' w) (hi : ct[i]? = some oi := by rfl) (hg : Region.wanted oi (yielded ct a.tmps) = true := by rfl) (hd : oi.dst = some d := by rfl)
  (hy : ∀ w, S w → (execOp a.eval oi).run P w = .ok (.value v) w := by intro w jc; (try dsimp (config := { zetaDelta := true }) only at jc); go_simp; (try with_reducible rfl))
  (iO : Region.noSelect ct = true := by kernel_rfl) (hf : Region.free md ct listed i = true := by kernel_rfl) (hr : (Region.ready md ct listed).contains i = true := by kernel_rfl) (hs : waits md ct s i = true := by kernel_rfl)
  (hQ : ∀ c a w, Q (.panic c) (a.put (some d) v) w → Q (.panic c) a w := by exact fun _ _ _ h => h)
  (ha : a.put (some d) v = a' := by first | (simp only [Act.put, sA, s0, sS]; done) | (simp only [Act.put, sA, s0, sS]; rfl) | rfl) : Tc P md ct Q S s (fuel + 1) listed a w :=
 RB (some d) hi hd iO hf hr hs hQ (Or.inl ⟨hg, hy⟩) hS (ha ▸ h)
theorem tkV (i d : Nat) (v : Value) {oi : Oper} {fuel : Nat} {listed : Array Bool} {a a' : Act} {w : World} (hS : S w)
  (h : Tc P md ct Q S s fuel (listed.setIfInBounds i true) a' w) (hi : ct[i]? = some oi := by rfl) (hg : Region.wanted oi (yielded ct a.tmps) = true := by rfl) (hd : oi.dst = some d := by rfl)
  (hy : ∀ w, S w → (execOp a.eval oi).run P w = .ok (.value v) w := by intro w jc; (try dsimp (config := { zetaDelta := true }) only at jc); go_simp; (try omega))
  (iO : Region.noSelect ct = true := by kernel_rfl) (hf : Region.free md ct listed i = true := by kernel_rfl) (hr : (Region.ready md ct listed).contains i = true := by kernel_rfl) (hs : waits md ct s i = true := by kernel_rfl)
  (hQ : ∀ c a w, Q (.panic c) (a.put (some d) v) w → Q (.panic c) a w := by exact fun _ _ _ h => h)
  (ha : a.put (some d) v = a' := by first | (simp only [Act.put, sA, s0, sS]; done) | (simp only [Act.put, sA, s0, sS]; rfl) | rfl) : Tc P md ct Q S s (fuel + 1) listed a w :=
 RB (some d) hi hd iO hf hr hs hQ (Or.inl ⟨hg, hy⟩) hS (ha ▸ h)
theorem tkS (i d : Nat) {oi : Oper} {fuel : Nat} {listed : Array Bool} {a a' : Act} {w : World} (hS : S w)
  (h : Tc P md ct Q S s fuel (listed.setIfInBounds i true) a' w) (hi : ct[i]? = some oi := by rfl) (hg : Region.wanted oi (yielded ct a.tmps) = false := by rfl) (hd : oi.dst = some d := by rfl)
  (iO : Region.noSelect ct = true := by kernel_rfl) (hf : Region.free md ct listed i = true := by kernel_rfl) (hr : (Region.ready md ct listed).contains i = true := by kernel_rfl) (hs : waits md ct s i = true := by kernel_rfl)
  (hQ : ∀ c a w, Q (.panic c) (a.put (some d) undef) w → Q (.panic c) a w := by exact fun _ _ _ h => h)
  (ha : a.put (some d) undef = a' := by first | (simp only [Act.put, sA, s0, sS]; done) | (simp only [Act.put, sA, s0, sS]; rfl) | rfl) : Tc P md ct Q S s (fuel + 1) listed a w :=
 RB (some d) hi hd iO hf hr hs hQ (Or.inr ⟨hg, rfl⟩) hS (ha ▸ h)
theorem Q5 {i : Nat} {o : Oper} {fuel : Nat} {listed : Array Bool} {a : Act} {w : World} (hr : Region.ready md ct listed = [i]) (ho : ct[i]? = some o)
  (h : ∀ K' : Act → World → Prop, Shut (∀ a w, (i ≠ s → S w) → Tc P md ct Q S s fuel (listed.setIfInBounds i true) a w → K' a w) → if Region.wanted o (yielded ct a.tmps) = true then Oper.wp P o a w K' Q else K' (a.put o.dst undef) w) :
  Tc P md ct Q S s (fuel + 1) listed a w := by
 constructor
 ·intro h0; simp [hr] at h0
 ·intro j hj
  rw [hr] at hj
  obtain rfl : j = i := by simpa using hj
  exact wpOp_step ho (fun K' hK => h K' (fun a w hS hW => hK a w ⟨hS, hW⟩))
theorem o1Q (i : Nat) {o : Oper} {fuel : Nat} {listed : Array Bool} {a : Act} {w : World}
  (h : ∀ K' : Act → World → Prop, Shut (∀ a w, (i ≠ s → S w) → Tc P md ct Q S s fuel (listed.setIfInBounds i true) a w → K' a w) → if Region.wanted o (yielded ct a.tmps) = true then Oper.wp P o a w K' Q else K' (a.put o.dst undef) w) (hr : Region.ready md ct listed = [i] := by kernel_rfl) (ho : ct[i]? = some o := by rfl) :
  Tc P md ct Q S s (fuel + 1) listed a w := Q5 hr ho h
theorem jbN {i j : Nat} {o o' : Oper} {fuel : Nat} {listed : Array Bool} {a : Act} {w : World} (hr : Region.ready md ct listed = [i, j]) (ho : ct[i]? = some o) (B8 : ct[j]? = some o')
  (h : ∀ K' : Act → World → Prop, Shut (∀ a w, (i ≠ s → S w) → Tc P md ct Q S s fuel (listed.setIfInBounds i true) a w → K' a w) → if Region.wanted o (yielded ct a.tmps) = true then Oper.wp P o a w K' Q else K' (a.put o.dst undef) w)
  (h' : ∀ K' : Act → World → Prop, Shut (∀ a w, (j ≠ s → S w) → Tc P md ct Q S s fuel (listed.setIfInBounds j true) a w → K' a w) → if Region.wanted o' (yielded ct a.tmps) = true then Oper.wp P o' a w K' Q else K' (a.put o'.dst undef) w) :
  Tc P md ct Q S s (fuel + 1) listed a w := by
 constructor
 ·intro h0; simp [hr] at h0
 ·intro k hk
  rw [hr] at hk
  simp only [List.mem_cons, List.not_mem_nil, or_false] at hk
  rcases hk with rfl | rfl
  ·exact wpOp_step ho (fun K' hK => h K' (fun a w hS hW => hK a w ⟨hS, hW⟩))
  ·exact wpOp_step B8 (fun K' hK => h' K' (fun a w hS hW => hK a w ⟨hS, hW⟩))
theorem Q8 {fuel : Nat} {listed : Array Bool} {a : Act} {w : World} (hr : Region.ready md ct listed = []) (h : Q .normal a w) : Tc P md ct Q S s fuel listed a w := by
 cases fuel with
 | zero => exact ⟨hr, h⟩
 | succ n => exact ⟨fun _ => h, by rw [hr]; simp⟩
theorem Q9 {id : Nat} {a : Act} {w : World} (S : World → Prop) (s n : Nat) (hn : ct.size = n) (hm : P.follows .mixedOrders = true) (h : Tc P .any ct Q S s n (Array.replicate n false) a w.drew) : (Code.region id ct true).wp P Q a w := by
 subst hn
 exact wp_region_any hm (Wj _ _ _ _ h)
end
def Uf (d s q : Int) (T : List Int) : List Value := .int .u32 d :: .int .i32 s :: .int .u32 q :: vals .u32 T
theorem Xe (d s q : Int) (T : List Int) (j : Nat) : (Uf d s q T)[j + 3]? = (vals .u32 T)[j]? := rfl
theorem jbO (d s q : Int) (T : List Int) (j : Nat) (x : Int) : (Uf d s q T).set (j + 3) (.int .u32 x) = Uf d s q (T.set j x) := by simp [Uf, vals]
theorem Z9 (r : Nat) (h : r < 4294967296) (w : World) :
  Calls Tryz.prog 116 #[.int .u32 r] w fun e w' => e = .returned (.int .u32 (sh r)) ∧ w' = w := by
 have h1 : bits .and .u32 (r : Int) 1 = ((r % 2 : Nat) : Int) := by rw [show (1 : Int) = ((1 : Nat) : Int) from rfl, u32_and_nat r 1 h (by decide), nat_mask1]
 by_cases ho : r % 2 = 1
 ·have h2 : bits .xor .u32 ((r : Int) / 2) 3988292384 = ((r / 2 ^^^ 3988292384 : Nat) : Int) := u32_xor_nat (r / 2) 3988292384 (by omega) (by decide)
  have h3 : sh r = r / 2 ^^^ 3988292384 := by unfold sh; rw [if_pos ho]
  rw [h3]
  rw [ho] at h1
  go_enter Tryz.func116, Tryz.ntmps116
  go_wp2
  go_ret
  exact ⟨rfl, rfl⟩
 ·have h3 : sh r = r / 2 := by unfold sh; rw [if_neg ho]
  rw [h3]
  have B8 : r % 2 = 0 := by omega
  rw [B8] at h1
  go_enter Tryz.func116, Tryz.ntmps116
  go_wp2
  go_ret
  exact ⟨rfl, rfl⟩
def VZ (m : Nat) : Int := if m < 8 then ((2 ^ (7 - m) : Nat) : Int) else 0
theorem jbP (m : Nat) (h : m < 8) : VZ m / 2 = VZ (m + 1) := by
 have : ∀ m < 8, VZ m / 2 = VZ (m + 1) := by decide +kernel
 exact this m h
theorem jaG (m : Nat) (h : m < 8) : 1 ≤ 2 ^ (7 - m) ∧ 2 ^ (7 - m) ≤ 128 ∧ 2 ^ (8 - m) = 2 * 2 ^ (7 - m) := by
 have : ∀ m < 8, 1 ≤ 2 ^ (7 - m) ∧ 2 ^ (7 - m) ≤ 128 ∧ 2 ^ (8 - m) = 2 * 2 ^ (7 - m) := by decide +kernel
 exact this m h
theorem jdq (m n : Nat) (h : m < 8) (hn : n < 2 ^ m) : 2 ^ (8 - m) * n + 2 ^ (7 - m) < 256 ∧ 2 ^ (8 - m) * (n + 1) ≤ 256 := by
 have h1 : 2 ^ (8 - m) * (n + 1) ≤ 2 ^ (8 - m) * 2 ^ m := Nat.mul_le_mul_left _ hn
 have h2 := jaG m h
 rw [← Nat.pow_add, show 8 - m + m = 8 from by omega] at h1
 rw [Nat.mul_succ] at h1
 rw [Nat.mul_succ]
 omega
theorem jdr (B : Nat) (t : TypeId) (w : World) (hb : Blk w B t (Uf 0 1 0 (List.replicate 256 0))) :
  Calls Tryz.prog 111 #[.pointer (some ⟨B, 0, none⟩)] w fun e w' => e = .returned (.tuple #[]) ∧ Blk w' B t (Uf 0 1 0 (Vi 8 0)) ∧ Kept (fun b => b = B) w w' := by
 have HB : Hid (Blk w B t (Uf 0 1 0 (Vi 0 0))) := by rw [jcG]; exact hb
 clear hb
 go_enter Tryz.func111, Tryz.ntmps111
 go_wp2
 go_loopw [2, 3] (fun r b wr => ∃ m : Nat, m ≤ 8 ∧ r = .int .u32 (shN m 1) ∧ b = .int .i64 (VZ m) ∧ Hid (Blk wr B t (Uf 0 1 0 (Vi m 0))) ∧ Hid (Kept (fun b => b = B) w wr)) (fun _ b _ => (intOf b).toNat)
 case atStart => exact ⟨0, by omega, rfl, rfl, HB, kZ0⟩
 case round =>
  obtain ⟨m, hm, rfl, rfl, kq, dO⟩ := hrel
  by_cases bH : m < 8
  ·have lv := X6 m 1 (by decide)
   have vI := X6 (m + 1) 1 (by decide)
   have HS := (show Hid (sh (shN m 1) = shN (m + 1) 1) from (jaD m 1).symm)
   have Oq := (show Hid (VZ m / 2 = VZ (m + 1)) from jbP m bH)
   have p9 : VZ m = ((2 ^ (7 - m) : Nat) : Int) := by unfold VZ; rw [if_pos bH]
   obtain ⟨p1, p2, p3⟩ := jaG m bH
   rw [p9]
   have LB := (show Hid (VZ m = ((2 ^ (7 - m) : Nat) : Int)) from p9)
   clear p9
   obtain ⟨b, eg⟩ : ∃ b : Nat, 2 ^ (7 - m) = b := ⟨_, rfl⟩
   have BD := (show Hid (2 ^ (7 - m) = b) from eg)
   rw [eg] at p1 p2 p3 ⊢
   clear eg
   go_wp2_with (go_at_call 116; refine (Z9 _ lv _).mono ?_; rintro e w' ⟨rfl, rfl⟩; rw [HS.out])
   obtain ⟨s1, uG⟩ : ∃ s1 : Nat, shN (m + 1) 1 = s1 := ⟨_, rfl⟩
   have Iq := (show Hid (shN (m + 1) 1 = s1) from uG)
   rw [uG] at vI ⊢
   clear uG lv HS
   go_loopw [4] (fun i wr => ∃ n : Nat, n ≤ 2 ^ m ∧ i = .int .i64 ((2 ^ (8 - m) * n : Nat) : Int) ∧ Hid (Blk wr B t (Uf 0 1 0 (Vi m n))) ∧ Hid (Kept (fun b => b = B) w wr)) (fun i _ => 256 - (intOf i).toNat)
   case atStart => exact ⟨0, Nat.zero_le _, rfl, kq, dO⟩
   case round =>
    obtain ⟨n, hn, rfl, zW, K2⟩ := hrel
    by_cases oS : n < 2 ^ m
    ·obtain ⟨q1, q2⟩ := jdq m n bH oS
     have ko := (show Hid (_ = _) from jcJ m n bH oS)
     have q3 : wr.cell? ⟨B, 3 + 2 ^ (8 - m) * n, none⟩ = some (.int .u32 ((tab (2 ^ (8 - m) * n) : Nat) : Int)) := by
      rw [zW.out.cell, Nat.add_comm, Xe]
      have := jcI m n bH oS
      simp [vals, this]
     have q4 := zW.out.frozen (3 + (2 ^ (8 - m) * n + b))
     obtain ⟨y, q5⟩ : ∃ y, wr.cell? ⟨B, 3 + (2 ^ (8 - m) * n + b), none⟩ = some (.int .u32 y) := by
      rw [zW.out.cell, Nat.add_comm, Xe, SK _ _ _ (by rw [UO]; rw [BD.out] at q1; exact q1)]
      exact ⟨_, rfl⟩
     have Hw := (show Hid (2 ^ (8 - m) * (n + 1) = 2 ^ (8 - m) * n + 2 * b) from (by rw [Nat.mul_succ, p3] : 2 ^ (8 - m) * (n + 1) = 2 ^ (8 - m) * n + 2 * b))
     rw [Hw.out] at q2
     have HQ := (show Hid (2 ^ (8 - m) * n + 2 * b ≤ 256) from q2)
     rw [BD.out] at q1
     obtain ⟨i, hi⟩ : ∃ i : Nat, 2 ^ (8 - m) * n = i := ⟨_, rfl⟩
     have HI := (show Hid (2 ^ (8 - m) * n = i) from hi)
     rw [hi] at q1 q2 q3 q4 q5 ⊢
     have Em := jdm i (by omega)
     have hx := u32_xor_nat (tab i) s1 Em vI
     have FN : i < 256 := by omega
     have Mi := (show Hid (n < 2 ^ m) from oS)
     clear hi hn oS
     have ku : (i : Int) < 256 := by omega
     have sj : (0 : Int) ≤ (i : Int) := by omega
     have JF : (i : Int) + (b : Int) < 256 := by omega
     have NN : (0 : Int) ≤ (i : Int) + (b : Int) := by omega
     have Lg : ((i : Int) + (b : Int)).toNat = i + b := by omega
     have Ci : IntKind.i64.wrap ((i : Int) + (b : Int)) = (i : Int) + (b : Int) := by rw [IntKind.wrap_i64]; omega
     have LJ : decide ((i : Int) < 256) = true := by simp; omega
     go_wp2
     have hS : (fun w' => w'.cell? ⟨B, 3 + i, none⟩ = some (.int .u32 ((tab i : Nat) : Int)) ∧ w'.cell? ⟨B, 3 + (i + b), none⟩ = some (.int .u32 y) ∧ w'.frozen? ⟨B, 3 + (i + b), none⟩ = false) wr.drew := by go_keep
     refine Q9 (fun w' => w'.cell? ⟨B, 3 + i, none⟩ = some (.int .u32 ((tab i : Nat) : Int)) ∧ w'.cell? ⟨B, 3 + (i + b), none⟩ = some (.int .u32 y) ∧ w'.frozen? ⟨B, 3 + (i + b), none⟩ = false) 15 16 rfl (by kernel_rfl) ?_
     refine tk 0 17 hS ?_
     refine tk 1 18 hS ?_
     refine tk 2 19 hS ?_
     refine tk 3 20 hS ?_
     refine tk 4 21 hS ?_
     refine tk 5 22 hS ?_
     refine tk 6 23 hS ?_
     refine tk 7 24 hS ?_
     refine tk 8 25 hS ?_
     refine tk 9 26 hS ?_
     refine tk 10 27 hS ?_
     refine tk 11 28 hS ?_
     refine o1Q 12 (fun K hK => ?_)
     go_simp
     have hS : (fun w' => w'.cell? ⟨B, 3 + i, none⟩ = some (.int .u32 ((tab i : Nat) : Int)) ∧ w'.cell? ⟨B, 3 + (i + b), none⟩ = some (.int .u32 y) ∧ w'.frozen? ⟨B, 3 + (i + b), none⟩ = false) wr.drew := by go_keep
     refine hK.out _ _ (fun _ => hS) ?_
     clear hK K
     try simp only [Act.put, sA, s0, sS]
     refine o1Q 13 (fun K hK => ?_)
     go_simp
     have hS : (fun w' => w'.cell? ⟨B, 3 + i, none⟩ = some (.int .u32 ((tab i : Nat) : Int)) ∧ w'.cell? ⟨B, 3 + (i + b), none⟩ = some (.int .u32 y) ∧ w'.frozen? ⟨B, 3 + (i + b), none⟩ = false) wr.drew := by go_keep
     refine hK.out _ _ (fun _ => hS) ?_
     clear hK K
     try simp only [Act.put, sA, s0, sS]
     refine tk 14 31 hS ?_
     refine o1Q 15 (fun K hK => ?_)
     go_simp
     refine hK.out _ _ (fun h => absurd rfl h) ?_
     clear hK K
     refine Q8 (by kernel_rfl) ?_
     try simp only [Act.put, sA, s0, sS]
     go_wp2
     go_roundw
     case rel =>
      have h := zW.out.stored (3 + (i + b)) (.int .u32 ((tab i ^^^ s1 : Nat) : Int))
      rw [Nat.add_comm 3, jbO] at h
      have e := ko.out
      rw [HI.out, BD.out, Iq.out] at e
      rw [e] at h
      refine ⟨n + 1, by have h1 := Mi.out; omega, ?_, ?_, ?_⟩
      ·rw [Hw.out, HI.out]
       simp
      ·rw [Nat.add_comm 3]
       exact h
      ·exact K2.out.drew.setCell (.inr rfl) _
     case measure => simp [intOf]; omega
    ·obtain rfl : n = 2 ^ m := by omega
     have e : 2 ^ (8 - m) * 2 ^ m = 256 := by rw [← Nat.pow_add, show 8 - m + m = 8 from by omega]
     have cm := zW.out
     rw [jcH m bH] at cm
     rw [e]
     clear e
     go_wp2
     go_roundw
     case rel => exact ⟨m + 1, by omega, by rw [Iq.out], by rw [← Oq.out, LB.out, BD.out], cm, K2⟩
     case measure => simp [intOf]; omega
  ·obtain rfl : m = 8 := by omega
   go_wp2
   go_end0
   exact ⟨rfl, kq.out, dO.out⟩
theorem jcK (r : Nat) (h : r < 4294967296) : 4294967295 ^^^ r = 4294967295 - r := by
 have e : 4294967295 - r = 2 ^ 32 - (r + 1) := by omega
 rw [e, show 4294967295 = 2 ^ 32 - 1 from rfl]
 apply Nat.eq_of_testBit_eq
 intro i
 rw [Nat.testBit_xor, Nat.testBit_two_pow_sub_one, Nat.testBit_two_pow_sub_succ (by omega)]
 by_cases hi : i < 32
 ·simp [hi]
 ·have : r.testBit i = false := Nat.testBit_lt_two_pow (Nat.lt_of_lt_of_le h (Nat.pow_le_pow_right (n := 2) (i := 32) (by decide) (by omega)))
  simp [hi, this]
theorem Zx (x : Int) (h0 : 0 ≤ x) (h1 : x ≤ 4294967295) : bits .xor .u32 4294967295 x = 4294967295 - x := by
 obtain ⟨r, rfl⟩ : ∃ r : Nat, x = r := ⟨x.toNat, by omega⟩
 have := u32_xor_nat 4294967295 r (by decide) (by omega)
 rw [jcK r (by omega)] at this
 rw [show ((4294967295 : Nat) : Int) = 4294967295 from rfl] at this
 rw [this]
 omega
theorem jds (B : Nat) (w : World) (sum : Int) (v : Value) (bs : List Int) (hb : Blk w B 133 (Uf 0 0 0 (List.replicate 256 0))) (h0 : 0 ≤ sum) (h1 : sum ≤ 4294967295) (hB : IsB bs) (hn : bs.length ≤ 1099511627776) (hv : ∀ w', Kept (fun b => b = B) w w' → Rd .u8 w' v bs) :
  Calls Tryz.prog 81 #[.pointer (some ⟨B, 0, none⟩), .int .i64 sum, v] w fun e w' => e = .returned (.int .i64 (Tv sum bs)) ∧ Kept (fun b => b = B) w w' := by
 have hF := jdr B 133 (w.setCell ⟨B, 1, none⟩ (.int .i32 1)) (by have := hb.stored 1 (.int .i32 1); exact this)
 have du : Kept (fun b => b = B) w (w.setCell ⟨B, 1, none⟩ (.int .i32 1)) := Kept.setCell (R := fun b => b = B) kZ0 (.inr rfl) _
 have hD := jfr B 133 _ w hb rfl rfl (fun w' ys => ys = Uf 0 1 0 (Vi 8 0) ∧ Kept (fun b => b = B) w w') (hF.mono (by
  rintro e w' ⟨rfl, iq, hk⟩
  exact ⟨rfl, _, iq, rfl, rfl, rfl, du.trans hk⟩))
 clear hF du
 obtain ⟨a, c, rfl⟩ := (hv w kZ0).form
 have HV := (show Hid (∀ w', Kept (fun b => b = B) w w' → Rd .u8 w' (.slice a bs.length c) bs) from hv)
 have HB := (show Hid (IsB bs) from hB)
 have nh : Tv sum bs = 4294967295 - reg (4294967295 - sum).toNat bs := by unfold Tv; rw [if_neg (by omega)]
 have ny := (show Hid (Tv sum bs = 4294967295 - reg (4294967295 - sum).toNat bs) from nh)
 obtain ⟨G, hG⟩ : ∃ G, Tv sum bs = G := ⟨_, rfl⟩
 have HG := (show Hid (Tv sum bs = G) from hG)
 rw [hG]
 have vR : IntKind.u32.max = 4294967295 := by decide
 have kr := Zx sum h0 h1
 clear hv hB nh hG hb
 generalize hl : bs.length = len at *
 have HL := (show Hid (bs.length = len) from hl)
 clear hl
 go_enter Tryz.func81, Tryz.ntmps81
 go_wp2_with (go_at_call 110; refine hD.mono ?_; rintro e w' ⟨rfl, w1, ys, hy, ⟨rfl, aH⟩, rfl⟩)
 have HK := (show Hid (Kept (fun b => b = B) w ((w1.setCell ⟨B, 0, none⟩ (.int .u32 1)).setCell ⟨B, 1, none⟩ (.int .i32 0)).drew) from (Kept.setCell (R := fun b => b = B) (Kept.setCell (R := fun b => b = B) aH (.inr rfl) _) (.inr rfl) _).drew)
 have HT := (show Hid (Blk ((w1.setCell ⟨B, 0, none⟩ (.int .u32 1)).setCell ⟨B, 1, none⟩ (.int .i32 0)).drew B 133 (Uf 1 0 0 (Vi 8 0))) from ((hy.stored 0 _).stored 1 _).drew)
 clear aH hy hD
 generalize ((w1.setCell ⟨B, 0, none⟩ (.int .u32 1)).setCell ⟨B, 1, none⟩ (.int .i32 0)).drew = w2 at *
 clear w1
 go_loopw [7, 9, 21] (fun r _ i wr => ∃ k : Nat, k ≤ len ∧ r = .int .u32 ((reg (4294967295 - sum).toNat (bs.take k) : Nat) : Int) ∧ i = .int .i64 k ∧ wr = w2) (fun _ _ i _ => len - (intOf i).toNat)
 case atStart => exact ⟨0, Nat.zero_le _, by simp [reg]; omega, rfl, rfl⟩
 case round =>
  obtain ⟨k, hk, rfl, rfl, rfl⟩ := hrel
  by_cases bH : k < len
  ·have dh : k < bs.length := by rw [HL.out]; exact bH
   have fw := HV.out _ HK.out
   rcases fw.2 with ⟨kR, _⟩ | ⟨b, off, c', h, _, hc⟩
   ·rw [kR] at dh
    simp at dh
   ·have h2 := hc k dh
    cases h
    have mS := Z7 (4294967295 - sum).toNat (bs.take k) (by omega) (fun y hy => HB.out y (List.mem_of_mem_take hy))
    have D4 := HB.out.at k dh
    have HS := (show Hid (_ = _) from jaE (4294967295 - sum).toNat bs k dh)
    clear fw hc
    obtain ⟨x, hx⟩ : ∃ x : Nat, bs.getD k 0 = (x : Int) := ⟨(bs.getD k 0).toNat, by omega⟩
    rw [hx] at h2 D4
    have HX := (show Hid (bs.getD k 0 = (x : Int)) from hx)
    clear hx
    generalize hR : reg (4294967295 - sum).toNat (bs.take k) = R at *
    clear hR
    have nR : x < 256 := by omega
    have ha := u8_xor_nat (R % 256) x (by omega) nR
    have tf : R % 256 ^^^ x < 256 := Nat.xor_lt_two_pow (n := 8) (by omega) nR
    obtain ⟨I, hI⟩ : ∃ I : Nat, R % 256 ^^^ x = I := ⟨_, rfl⟩
    have HI := (show Hid (R % 256 ^^^ x = I) from hI)
    rw [hI] at ha tf
    clear hI
    have Em := jdm I (by omega)
    have h3 : wr.cell? ⟨B, 3 + I, none⟩ = some (.int .u32 ((tab I : Nat) : Int)) := by
     rw [HT.out.cell, Nat.add_comm, Xe]
     have := jdo I tf
     simp [vals, this]
    have tF := u32_xor_nat (R / 256) (tab I) (by omega) Em
    have QF : bits .xor .u8 ((R : Int) % 256) (x : Int) = (I : Int) := by rw [← ha]; simp
    have LX : bits .xor .u32 ((R : Int) / 256) ((tab I : Nat) : Int) = ((R / 256 ^^^ tab I : Nat) : Int) := by rw [← tF]; simp
    clear ha tF
    go_wp2
    go_roundw
    case rel =>
     refine ⟨k + 1, by omega, ?_, by go_num, by first | rfl | trivial⟩
     rw [HS.out, HX.out, Int.toNat_natCast, jdn, HI.out]
    case measure => simp [intOf]; omega
  ·have pR : k = len := by omega
   have he : reg (4294967295 - sum).toNat (bs.take k) = reg (4294967295 - sum).toNat bs := by rw [pR, ← HL.out, List.take_length]
   rw [he]
   have mS := Z7 (4294967295 - sum).toNat bs (by omega) HB.out
   have AF := ny.out
   rw [HG.out] at AF
   clear he
   generalize reg (4294967295 - sum).toNat bs = R at *
   have ku := Zx (R : Int) (by omega) (by omega)
   go_wp2
   go_ret
   exact ⟨by rw [AF]; rfl, HK.out⟩
theorem jdt {k : IntKind} {w w1 w' : World} {B : Nat} {v : Value} {bs : List Int} (hv : Rd k w v bs) (h1 : Same w w1) (hB : w.heap.size ≤ B) (h2 : Kept (fun b => b = B) w1 w') : Rd k w' v bs :=
 hv.same (h1.next h2 (fun i hi e => by omega))
theorem YN (w : World) (sum : Int) (v : Value) (bs : List Int) (h0 : 0 ≤ sum) (h1 : sum ≤ 4294967295) (hB : IsB bs) (hn : bs.length ≤ 1099511627776) (hv : Rd .u8 w v bs) :
  Calls Tryz.prog 67 #[.int .i64 sum, v] w fun e w' => e = .returned (.int .i64 (Tv sum bs)) ∧ Same w w' := by
 have hz : Tryz.zeroCells133.toList = Uf 0 0 0 (List.replicate 256 0) := by kernel_rfl
 have kc := run_storeCells_new (P := Tryz.prog) w 133 Tryz.zeroCells133 Tryz.zeroCells133 (by kernel_rfl) rfl (by kernel_rfl)
 have hG : ∀ w1, w1 = w.alloc (.cells Tryz.zeroCells133 133) → Calls Tryz.prog 81 #[.pointer (some ⟨w.heap.size, 0, none⟩), .int .i64 sum, v] w1 fun e w' => e = .returned (.int .i64 (Tv sum bs)) ∧ Kept (fun b => b = w.heap.size) w1 w' := by
  rintro w1 rfl
  have xF : Same w (w.alloc (.cells Tryz.zeroCells133 133)) := kZ0.alloc _
  exact jds _ _ sum v bs (by rw [← hz]; exact Blk.new _ _ _) h0 h1 hB hn (fun w' hk => jdt hv xF (Nat.le_refl _) hk)
 clear hz
 go_enter Tryz.func67, Tryz.ntmps67
 go_wp2_with (go_at_call 81; refine (hG _ rfl).mono ?_; rintro e w' ⟨rfl, hk⟩)
 go_ret
 exact ⟨rfl, (kZ0.alloc _).next hk (fun i hi e => by omega)⟩
theorem jcp (a b : Nat) (ha : a < 4294967296) (hb : b < 4294967296) : bits .xor .i64 (a : Int) (b : Int) = ((a ^^^ b : Nat) : Int) := by
 have h1 : a % 18446744073709551616 = a := Nat.mod_eq_of_lt (by omega)
 have h2 : b % 18446744073709551616 = b := Nat.mod_eq_of_lt (by omega)
 have h3 : a ^^^ b < 2 ^ 32 := Nat.xor_lt_two_pow (n := 32) (by omega) (by omega)
 have h4 : (BitVec.ofNat 64 a ^^^ BitVec.ofNat 64 b).toNat = a ^^^ b := by
  rw [BitVec.toNat_xor, BitVec.toNat_ofNat, BitVec.toNat_ofNat]
  simp only [Nat.reducePow, h1, h2]
 have h5 : bits .xor .i64 (a : Int) (b : Int) = IntKind.i64.wrap (((BitVec.ofNat 64 a ^^^ BitVec.ofNat 64 b).toNat : Nat) : Int) := rfl
 rw [h5, h4, IntKind.wrap_i64]
 generalize a ^^^ b = z at *
 omega
theorem jdu (r x : Nat) (hr : r < 4294967296) (hx : x < 256) (w : World) :
  Calls Tryz.prog 74 #[.int .i64 r, .int .u8 x] w fun e w' => e = .returned (.int .i64 ((shN 8 (r ^^^ x) : Nat) : Int)) ∧ w' = w := by
 have gi := jcp r x hr (by omega)
 have pO : r ^^^ x < 4294967296 := Nat.xor_lt_two_pow (n := 32) (by omega) (by omega)
 generalize r ^^^ x = y at *
 go_enter Tryz.func74, Tryz.ntmps74
 go_wp2
 go_loopw [0, 5, 6] (fun z i _ wr => ∃ k : Nat, k ≤ 8 ∧ z = .int .i64 ((shN k y : Nat) : Int) ∧ i = .int .i64 k ∧ wr = w) (fun _ i _ _ => 8 - (intOf i).toNat)
 case atStart => exact ⟨0, Nat.zero_le _, rfl, rfl, rfl⟩
 case round =>
  obtain ⟨k, hk, rfl, rfl, rfl⟩ := hrel
  by_cases bH : k < 8
  ·have QC := X6 k y pO
   have HS := (show Hid (shN (k + 1) y = sh (shN k y)) from jaD k y)
   generalize shN k y = z at *
   by_cases ho : z % 2 = 1
   ·have h2 := jcp (z / 2) 3988292384 (by omega) (by decide)
    have ma : bits .xor .i64 ((z : Int) / 2) 3988292384 = ((z / 2 ^^^ 3988292384 : Nat) : Int) := by rw [← h2]; simp
    have h3 : sh z = z / 2 ^^^ 3988292384 := by unfold sh; rw [if_pos ho]
    have h4 : (z : Int) % 2 = 1 := by omega
    clear h2
    go_wp2
    go_roundw
    case rel => exact ⟨k + 1, by omega, by rw [HS.out, h3], by go_num, by first | rfl | trivial⟩
    case measure => simp [intOf]; omega
   ·have h3 : sh z = z / 2 := by unfold sh; rw [if_neg ho]
    have h4 : (z : Int) % 2 = 0 := by omega
    go_wp2
    go_roundw
    case rel => exact ⟨k + 1, by omega, by rw [HS.out, h3]; simp, by go_num, by first | rfl | trivial⟩
    case measure => simp [intOf]; omega
  ·obtain rfl : k = 8 := by omega
   go_wp2
   go_ret
   exact ⟨rfl, rfl⟩
theorem YO (w : World) (sum : Int) (v : Value) (bs : List Int) (h0 : 0 ≤ sum) (h1 : sum ≤ 4294967295) (hB : IsB bs) (hn : bs.length ≤ 1099511627776) (hv : Rd .u8 w v bs) :
  Calls Tryz.prog 60 #[.int .i64 sum, v] w fun e w' => e = .returned (.int .i64 (Tv sum bs)) ∧ Same w w' := by
 obtain ⟨a, c, rfl⟩ := hv.form
 have HV := (show Hid (Rd .u8 w (.slice a bs.length c) bs) from hv)
 have HB := (show Hid (IsB bs) from hB)
 have nh : Tv sum bs = 4294967295 - reg (4294967295 - sum).toNat bs := by unfold Tv; rw [if_neg (by omega)]
 have ny := (show Hid (Tv sum bs = 4294967295 - reg (4294967295 - sum).toNat bs) from nh)
 obtain ⟨G, hG⟩ : ∃ G, Tv sum bs = G := ⟨_, rfl⟩
 have HG := (show Hid (Tv sum bs = G) from hG)
 rw [hG]
 clear hv hB nh hG
 generalize hl : bs.length = len at *
 have HL := (show Hid (bs.length = len) from hl)
 clear hl
 go_enter Tryz.func60, Tryz.ntmps60
 go_wp2
 go_loopw [5, 6] (fun r i wr => ∃ k : Nat, k ≤ len ∧ r = .int .i64 ((reg (4294967295 - sum).toNat (bs.take k) : Nat) : Int) ∧ i = .int .i64 k ∧ wr = w) (fun _ i _ => len - (intOf i).toNat)
 case atStart => exact ⟨0, Nat.zero_le _, by simp [reg]; omega, rfl, rfl⟩
 case round =>
  obtain ⟨k, hk, rfl, rfl, rfl⟩ := hrel
  by_cases bH : k < len
  ·have dh : k < bs.length := by rw [HL.out]; exact bH
   have fw := HV.out
   rcases fw.2 with ⟨kR, _⟩ | ⟨b, off, c', h, _, hc⟩
   ·rw [kR] at dh
    simp at dh
   ·have h2 := hc k dh
    cases h
    have mS := Z7 (4294967295 - sum).toNat (bs.take k) (by omega) (fun y hy => HB.out y (List.mem_of_mem_take hy))
    have D4 := HB.out.at k dh
    have HS := (show Hid (_ = _) from jaE (4294967295 - sum).toNat bs k dh)
    clear fw hc
    obtain ⟨x, hx⟩ : ∃ x : Nat, bs.getD k 0 = (x : Int) := ⟨(bs.getD k 0).toNat, by omega⟩
    rw [hx] at h2 D4
    have HX := (show Hid (bs.getD k 0 = (x : Int)) from hx)
    clear hx
    generalize hR : reg (4294967295 - sum).toNat (bs.take k) = R at *
    clear hR
    have nR : x < 256 := by omega
    go_wp2_with (go_at_call 74; refine (jdu R x mS nR _).mono ?_; rintro e w' ⟨rfl, rfl⟩)
    go_roundw
    case rel =>
     refine ⟨k + 1, by omega, ?_, by go_num, by first | rfl | trivial⟩
     rw [HS.out, HX.out, Int.toNat_natCast]
    case measure => simp [intOf]; omega
  ·have pR : k = len := by omega
   have he : reg (4294967295 - sum).toNat (bs.take k) = reg (4294967295 - sum).toNat bs := by rw [pR, ← HL.out, List.take_length]
   rw [he]
   have mS := Z7 (4294967295 - sum).toNat bs (by omega) HB.out
   have AF := ny.out
   rw [HG.out] at AF
   clear he
   generalize reg (4294967295 - sum).toNat bs = R at *
   go_wp2
   go_ret
   exact ⟨by rw [AF]; rfl, kZ0⟩
theorem jaH (sum : Int) (bs : List Int) (h : sum < 0 ∨ 4294967295 < sum) : Tv sum bs = -1 := by unfold Tv; rw [if_pos h]
theorem jaa (w : World) (sum : Int) (v : Value) (h : sum < 0 ∨ 4294967295 < sum) :
  Calls Tryz.prog 60 #[.int .i64 sum, v] w fun e w' => e = .returned (.int .i64 (-1)) ∧ Same w w' := by
 rcases h with h | h <;>
 (go_enter Tryz.func60, Tryz.ntmps60
  go_wp2
  go_ret
  exact ⟨rfl, kZ0⟩)
theorem jab (w : World) (sum : Int) (v : Value) (h : sum < 0 ∨ 4294967295 < sum) :
  Calls Tryz.prog 67 #[.int .i64 sum, v] w fun e w' => e = .returned (.int .i64 (-1)) ∧ Same w w' := by
 rcases h with h | h <;>
 (go_enter Tryz.func67, Tryz.ntmps67
  go_wp2
  go_ret
  exact ⟨rfl, kZ0⟩)
theorem YP (sum : Int) (v : Value) (bs : List Int) (w : World) (hB : IsB bs) (hn : bs.length ≤ 1099511627776) (hv : Rd .u8 w v bs) :
  Calls Tryz.prog 60 #[.int .i64 sum, v] w fun e w' => e = .returned (.int .i64 (Tv sum bs)) ∧ Same w w' := by
 by_cases h : sum < 0 ∨ 4294967295 < sum
 ·rw [jaH sum bs h]
  exact jaa w sum v h
 ·exact YO w sum v bs (by omega) (by omega) hB hn hv
theorem YQ (sum : Int) (v : Value) (bs : List Int) (w : World) (hB : IsB bs) (hn : bs.length ≤ 1099511627776) (hv : Rd .u8 w v bs) :
  Calls Tryz.prog 67 #[.int .i64 sum, v] w fun e w' => e = .returned (.int .i64 (Tv sum bs)) ∧ Same w w' := by
 by_cases h : sum < 0 ∨ 4294967295 < sum
 ·rw [jaH sum bs h]
  exact jab w sum v h
 ·exact YN w sum v bs (by omega) (by omega) hB hn hv
theorem jaI (v : Value) (bs : List Int) (w : World) (hB : IsB bs) (hn : bs.length ≤ 1099511627776) (hv : Rd .u8 w v bs) :
  Calls Tryz.prog 40 #[v] w fun e w' => e = .returned (.int .i64 (Tv 0 bs)) ∧ Same w w' := by
 go_enter Tryz.func40, Tryz.ntmps40
 go_wp2_with (go_at_call 60; refine (YP 0 v bs _ hB hn hv).mono ?_; rintro e w' ⟨rfl, hk⟩)
 go_ret
 exact ⟨rfl, hk⟩
theorem jaJ (v : Value) (bs : List Int) (w : World) (hB : IsB bs) (hn : bs.length ≤ 1099511627776) (hv : Rd .u8 w v bs) :
  Calls Tryz.prog 49 #[v] w fun e w' => e = .returned (.int .i64 (Tv 0 bs)) ∧ Same w w' := by
 go_enter Tryz.func49, Tryz.ntmps49
 go_wp2_with (go_at_call 67; refine (YQ 0 v bs _ hB hn hv).mono ?_; rintro e w' ⟨rfl, hk⟩)
 go_ret
 exact ⟨rfl, hk⟩
def R8 (v : Int) : Nat → List Int
 | 0 => []
 | k + 1 => (v / 256 ^ k % 256) :: R8 v k
theorem Rs (v : Int) (k : Nat) : (R8 v k).length = k := by
 induction k with
 | zero => rfl
 | succ k ih => simp [R8, ih]
def Q6 (v n : Int) : List Int := if n < 1 ∨ 8 < n ∨ v < 0 ∨ v / 256 ^ n.toNat ≠ 0 then [] else R8 v n.toNat
theorem Ra (v n : Int) : (Q6 v n).length ≤ 8 := by
 unfold Q6
 split
 ·simp
 ·rw [Rs]; omega
theorem jaK (v : Int) (k : Nat) : v / 256 ^ k / 256 = v / 256 ^ (k + 1) := by
 rw [Int.ediv_ediv_of_nonneg (Int.le_of_lt (Int.pow_pos (by decide))), Int.pow_succ]
theorem jcL (v : Int) (n k : Nat) (h : k < n) : (List.replicate (n - k) 0 ++ R8 v k).set (n - k - 1) (v / 256 ^ k % 256) = List.replicate (n - (k + 1)) 0 ++ R8 v (k + 1) := by
 have e : n - k = (n - (k + 1)) + 1 := by omega
 rw [e, List.replicate_succ', List.append_assoc, Nat.add_sub_cancel, List.set_append_right (h := by simp)]
 simp [R8]
theorem jaL (v : Int) (n k : Nat) (h : k ≤ n) : (List.replicate (n - k) 0 ++ R8 v k).length = n := by simp [Rs]; omega
theorem Own.empty (w : World) (e : TypeId) : Own 0 e .u8 (w.alloc (Obj.cells #[] e)) (.slice (some ⟨w.heap.size, 0, none⟩) 0 0) [] :=
 ⟨by simp [vals], .inr ⟨w.heap.size, 0, #[], rfl, Nat.zero_le _, by unfold World.alloc; exact Array.getElem?_push_size, Nat.le_refl _, Nat.zero_le _, by simp [vals]⟩⟩
theorem jaM (v n : Int) (w : World) (tL : IsI v) (h1 : 1 ≤ n) (h2 : n ≤ 8) (h3 : 0 ≤ v) :
  Calls Tryz.prog 109 #[.int .i64 v, .int .i64 n] w fun e w' => ∃ a c, e = .returned (.slice a (Q6 v n).length c) ∧ (∀ b, (Value.slice a (Q6 v n).length c).ownBlock = some b → w.heap.size ≤ b) ∧
   Own 0 5 .u8 w' (.slice a (Q6 v n).length c) (Q6 v n) ∧ Same w w' := by
 obtain ⟨n, rfl⟩ : ∃ m : Nat, n = m := ⟨n.toNat, by omega⟩
 obtain ⟨i0, hi, eL, eT, fM⟩ := info_parts Tryz.infoByte'
 obtain ⟨pW, wL⟩ := tL
 have GM : ¬ (n : Int) < 1 := by omega
 have ma : ¬ (8 : Int) < n := by omega
 have NH : ¬ v < 0 := by omega
 go_enter Tryz.func109, Tryz.ntmps109
 go_wp2_with (at_make; refine wpList_make_full _ rfl (.tmp 18) (.tmp 18) 22 rfl 0 5 i0 (.int .u8 0) 1 Tryz.underlying22 hi eL eT .i64 .i64 _ _ n rfl rfl (by simp) (by simp) (by rw [fM]; omega) (by unfold maxLen; omega) (Nat.zero_le _) ?_; intro w1 cy bS; have HO : Hid (Own 0 5 .u8 w1 (.slice (some ⟨w.heap.size, 0, none⟩) n n) (List.replicate n 0)) := Vw (by simpa using cy); have HK : Hid (Same w w1) := Kept.of_grown bS (fun k e => by cases e); clear cy bS)
 go_loopw [0, 6] (fun x i wr => ∃ (k : Nat), k ≤ n ∧ x = .int .i64 (v / 256 ^ k) ∧ i = .int .i64 ((n : Int) - k - 1) ∧ Hid (Own 0 5 .u8 wr (.slice (some ⟨w.heap.size, 0, none⟩) n n) (List.replicate (n - k) 0 ++ R8 v k)) ∧ Hid (Same w wr)) (fun _ i _ => (intOf i + 1).toNat)
 case atStart => exact ⟨0, Nat.zero_le _, by simp, by simp, by simpa [R8] using HO, HK⟩
 case round =>
  obtain ⟨k, hk, rfl, rfl, HOr, dO⟩ := hrel
  by_cases bH : k < n
  ·obtain ⟨j, rfl⟩ : ∃ j : Nat, n = k + 1 + j := ⟨n - k - 1, by omega⟩
   have ej : ((k + 1 + j : Nat) : Int) - k - 1 = j := by omega
   have dR := jaL v (k + 1 + j) k hk
   have q2 := HOr.out.frozen dR.symm j
   have q3 := HOr.out.cell dR.symm j (by omega)
   have gi : 0 ≤ v / 256 ^ k := Int.ediv_nonneg h3 (Int.le_of_lt (Int.pow_pos (by decide)))
   have wm : v / 256 ^ k ≤ v := Int.ediv_le_self _ h3
   have kc := jaK v k
   have ko : Hid (v / 256 ^ k / 256 = v / 256 ^ (k + 1)) := kc
   have Gs := jcL v (k + 1 + j) k bH
   have wj := (show Hid (_ = _) from Gs)
   clear Gs kc
   rw [ej]
   generalize hx : v / 256 ^ k = x at *
   clear hx
   go_wp2
   go_roundw
   case rel =>
    have h := HOr.out.stored dR.symm j (x % 256)
    have e2 := wj.out
    rw [show k + 1 + j - k - 1 = j from by omega] at e2
    rw [e2] at h
    exact ⟨k + 1, by omega, by rw [ko.out], by go_num, h, dO.out.setCell (.inl (Nat.le_refl _)) _⟩
   case measure => simp [intOf]
  ·obtain rfl : k = n := by omega
   have ej : ((k : Nat) : Int) - k - 1 = -1 := by omega
   have gi : 0 ≤ v / 256 ^ k := Int.ediv_nonneg h3 (Int.le_of_lt (Int.pow_pos (by decide)))
   have wm : v / 256 ^ k ≤ v := Int.ediv_le_self _ h3
   rw [ej]
   by_cases hz : v / 256 ^ k = 0
   ·have gT : Q6 v k = R8 v k := by unfold Q6; rw [if_neg (by simp only [Int.toNat_natCast]; omega)]; simp
    have HN : Hid (Q6 v k = R8 v k) := gT
    rw [hz]
    clear hz gT gi wm
    go_wp2
    go_ret
    rw [HN.out, Rs]
    refine ⟨_, _, rfl, fun b hb => ?_, ?_, dO.out⟩
    ·simp [Value.ownBlock] at hb; omega
    ·have h := HOr.out; rw [Nat.sub_self, List.replicate_zero, List.nil_append] at h; exact h
   ·have gT : Q6 v k = [] := by unfold Q6; rw [if_pos (by simp only [Int.toNat_natCast]; omega)]
    have HN : Hid (Q6 v k = []) := gT
    clear gT
    generalize hx : v / 256 ^ k = x at *
    clear hx
    go_wp2
    go_ret
    rw [HN.out]
    refine ⟨some ⟨wr.heap.size, 0, none⟩, 0, rfl, fun b hb => ?_, Own.empty _ _, dO.out.alloc _⟩
    have := dO.out.size
    simp [Value.ownBlock] at hb; omega
theorem jbQ (v n : Int) (w : World) (h : n < 1 ∨ 8 < n ∨ v < 0) :
  Calls Tryz.prog 109 #[.int .i64 v, .int .i64 n] w fun e w' => e = .returned (.slice (some ⟨w.heap.size, 0, none⟩) 0 0) ∧ w' = w.alloc (Obj.cells #[] 5) := by
 rcases h with h | h
 ·go_enter Tryz.func109, Tryz.ntmps109
  go_wp2
  go_ret
  exact ⟨rfl, rfl⟩
 ·by_cases h1 : n < 1
  ·go_enter Tryz.func109, Tryz.ntmps109
   go_wp2
   go_ret
   exact ⟨rfl, rfl⟩
  ·rcases h with h | h
   ·go_enter Tryz.func109, Tryz.ntmps109
    go_wp2
    go_ret
    exact ⟨rfl, rfl⟩
   ·by_cases h2 : 8 < n
    ·go_enter Tryz.func109, Tryz.ntmps109
     go_wp2
     go_ret
     exact ⟨rfl, rfl⟩
    ·go_enter Tryz.func109, Tryz.ntmps109
     go_wp2
     go_ret
     exact ⟨rfl, rfl⟩
theorem jaN (v n : Int) (w : World) (tL : IsI v) (NS : IsI n) :
  Calls Tryz.prog 109 #[.int .i64 v, .int .i64 n] w fun e w' => ∃ a c, e = .returned (.slice a (Q6 v n).length c) ∧ (∀ b, (Value.slice a (Q6 v n).length c).ownBlock = some b → w.heap.size ≤ b) ∧
   Own 0 5 .u8 w' (.slice a (Q6 v n).length c) (Q6 v n) ∧ Same w w' := by
 by_cases h : n < 1 ∨ 8 < n ∨ v < 0
 ·refine (jbQ v n w h).mono ?_
  rintro e w' ⟨rfl, rfl⟩
  have e : Q6 v n = [] := by unfold Q6; rw [if_pos (by omega)]
  rw [e]
  exact ⟨some ⟨w.heap.size, 0, none⟩, 0, rfl, fun b hb => by simp [Value.ownBlock] at hb; omega, Own.empty _ _, kZ0.alloc _⟩
 ·exact jaM v n w tL (by omega) (by omega) (by omega)
theorem jfK (n : Nat) : (2 : Int) ^ (8 * n) = 256 ^ n := by
 induction n with
 | zero => rfl
 | succ n ih => rw [Nat.mul_succ, Int.pow_add, ih, Int.pow_succ]; rfl
theorem Vr (g o n c : Nat) (t : TypeId) (xs : List Value) (v : Int) (w : World) (hb : Blk w g t xs) (ho : o + n ≤ xs.length) (h0 : 0 ≤ v) (hi : v ≤ 9223372036854775807) (hn : n ≤ 1099511627776) :
  Calls Tryz.prog 68 #[.slice (some ⟨g, o, none⟩) n c, .int .i64 v] w fun e w' => e = .returned (.tuple #[]) ∧ Blk w' g t (lay xs o (vals .u8 (R8 v n))) ∧ Kept (fun b => b = g) w w' := by
 have HB := (show Hid (Blk w g t xs) from hb)
 clear hb
 go_enter Tryz.func68, Tryz.ntmps68
 go_wp2
 go_loopw [1, 4] (fun x i wr => ∃ k : Nat, k ≤ n ∧ x = .int .i64 (v / 256 ^ k) ∧ i = .int .i64 ((n : Int) - k - 1) ∧ Hid (Blk wr g t (lay xs (o + (n - k)) (vals .u8 (R8 v k)))) ∧ Hid (Kept (fun b => b = g) w wr)) (fun _ i _ => (intOf i + 1).toNat)
 case atStart => exact ⟨0, Nat.zero_le _, by simp, by simp, by simpa [R8, vals, jco] using HB, kZ0⟩
 case round =>
  obtain ⟨k, hk, rfl, rfl, kq, dO⟩ := hrel
  by_cases bH : k < n
  ·obtain ⟨j, rfl⟩ : ∃ j : Nat, n = k + 1 + j := ⟨n - k - 1, by omega⟩
   have ej : ((k + 1 + j : Nat) : Int) - k - 1 = j := by omega
   have el : (lay xs (o + (k + 1 + j - k)) (vals .u8 (R8 v k))).length = xs.length := jbJ _ _ _ (by rw [Rb, Rs]; omega)
   have q2 := kq.out.frozen (o + j)
   have q3 := kq.out.cell (o + j)
   rw [List.getElem?_eq_getElem (by rw [el]; omega)] at q3
   have gi : 0 ≤ v / 256 ^ k := Int.ediv_nonneg h0 (Int.le_of_lt (Int.pow_pos (by decide)))
   have wm : v / 256 ^ k ≤ v := Int.ediv_le_self _ h0
   have ko : Hid (v / 256 ^ k / 256 = v / 256 ^ (k + 1)) := jaK v k
   have wj : Hid ((lay xs (o + j + 1) (vals .u8 (R8 v k))).set (o + j) (.int .u8 (v / 256 ^ k % 256)) = lay xs (o + j) (vals .u8 (R8 v (k + 1)))) := jei xs (o + j) _ (vals .u8 (R8 v k)) (by rw [Rb, Rs]; omega)
   rw [ej]
   obtain ⟨z, hz⟩ : ∃ z, (lay xs (o + (k + 1 + j - k)) (vals .u8 (R8 v k)))[o + j]'(by rw [el]; omega) = z := ⟨_, rfl⟩
   rw [hz] at q3
   clear hz el
   generalize hx : v / 256 ^ k = x at *
   clear hx
   go_wp2
   go_roundw
   case rel =>
    have h := kq.out.stored (o + j) (.int .u8 (x % 256))
    rw [show o + (k + 1 + j - k) = o + j + 1 from by omega, wj.out] at h
    refine ⟨k + 1, by omega, by rw [← ko.out], by go_num, ?_, Kept.setCell (R := fun b => b = g) dO.out (.inr rfl) _⟩
    rw [show o + (k + 1 + j - (k + 1)) = o + j from by omega]
    exact h
   case measure => simp [intOf]
  ·obtain rfl : k = n := by omega
   have ej : ((k : Nat) : Int) - k - 1 = -1 := by omega
   rw [ej]
   generalize hx : v / 256 ^ k = x at *
   go_wp2
   go_end0
   have h := kq.out
   rw [Nat.sub_self] at h
   exact ⟨rfl, h, dO.out⟩
end Go.Proofs.YtaojjcnmififoaaGreat
