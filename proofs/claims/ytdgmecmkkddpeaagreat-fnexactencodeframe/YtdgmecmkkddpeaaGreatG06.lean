import Derived.Test.YtdgmecmkkddpeaaGreatG00
import Derived.Test.YtdgmecmkkddpeaaGreatG05
import Derived.Tactics
import Derived.Tactics2
import Derived.Defers
import Derived.Laws.Pointers
import Derived.Laws.LoneSync
import Derived.RegionTactic
import Derived.RegionCalls
import Derived.WalkKit
import Derived.OrdersHeld
import Derived.Deep.RegionHeld3
import Derived.Deep.MidRow
import Derived.Deep.WholeRow
namespace Go.Proofs.YtdgmecmkkddpeaaGreat
set_option maxRecDepth 100000
set_option maxHeartbeats 4000000
set_option linter.unusedVariables false
open Go.RowKit Go
theorem disable (w : World) : (callFunc 89 #[]).run Tryz.prog w = .ok (.value (.tuple #[])) w := run_call_mark0 Tryz.func89 (by kernel_rfl) (by kernel_rfl) (by kernel_rfl) .disable (by kernel_rfl) w
theorem enable (w : World) : (callFunc 91 #[]).run Tryz.prog w = .ok (.value (.tuple #[])) w := run_call_mark0 Tryz.func91 (by kernel_rfl) (by kernel_rfl) (by kernel_rfl) .enable (by kernel_rfl) w
theorem acquire (a : Addr) (w : World) : (callFunc 92 #[.pointer (some a)]).run Tryz.prog w = .ok (.value (.tuple #[])) w := run_call_marked Tryz.func92 (by kernel_rfl) (by kernel_rfl) (by kernel_rfl) .acquire (by kernel_rfl) a w
theorem releaseMerge (a : Addr) (w : World) : (callFunc 94 #[.pointer (some a)]).run Tryz.prog w = .ok (.value (.tuple #[])) w := run_call_marked Tryz.func94 (by kernel_rfl) (by kernel_rfl) (by kernel_rfl) .releaseMerge (by kernel_rfl) a w
theorem store_deferred (a : Addr) (x : Value) (u : FrameMode) (w : World) (hc : w.cell? a = some x) (hz : w.frozen? a = false) :
  CallsD Tryz.prog 84 #[.pointer (some a), .bool true] u w fun e u' w' => u' = u ∧ (e = .returned (.tuple #[]) ∧ w' = w.drew.setCell a (.int .u32 1)) := by
 have hc' : w.drew.cell? a = some x := by go_simp
 have hz' : w.drew.frozen? a = false := by go_simp
 have hst := run_call_store (P := Tryz.prog) Tryz.func87 (by kernel_rfl) (by kernel_rfl) (by kernel_rfl) (by kernel_rfl) (k := .u32) (y := 1) hc' hz'
 go_enter_d Tryz.func84, Tryz.ntmps84
 go_wp2
 go_region_calls
 all_goals (go_end0; exact ⟨rfl, rfl⟩)
theorem unlock_deferred (a : Addr) (u : FrameMode) (w : World) (hc : w.cell? a = some (.int .i32 1)) (hz : w.frozen? a = false) :
  CallsD Tryz.prog 83 #[.pointer (some a)] u w fun e u' w' => u' = u ∧ (e = .returned (.tuple #[]) ∧ w' = w.setCell a (.int .i32 0)) := by
 have hd := disable
 have he := enable
 have hr := releaseMerge
 have hadd := run_call_add (P := Tryz.prog) Tryz.func95 (by kernel_rfl) (by kernel_rfl) (by kernel_rfl) .i32 (by kernel_rfl) (y := -1) (s := 0) hc hz (by simp [go_sem]; rfl)
 have hcv := run_convert_to_unsafe (P := Tryz.prog) (src := 135) (dst := 139) Tryz.underlying135 Tryz.underlying139 (by kernel_rfl) hc
 go_enter_d Tryz.func83, Tryz.ntmps83
 go_wp2
 go_end0
 go_wp2
 go_end0
 exact ⟨rfl, rfl⟩
theorem lock_free (a : Addr) (w : World) (hc : w.cell? a = some (.int .i32 0)) (hz : w.frozen? a = false) :
  Calls Tryz.prog 82 #[.pointer (some a)] w fun e w' => e = .returned (.tuple #[]) ∧ w' = w.setCell a (.int .i32 1) := by
 have hd := disable
 have he := enable
 have ha := acquire
 have hcas := run_call_cas_hit (P := Tryz.prog) Tryz.func90 (by kernel_rfl) (by kernel_rfl) (by kernel_rfl) .i32 (by kernel_rfl) (y := 1) hc hz
 have hc' : (w.setCell a (.int .i32 1)).cell? a = some (.int .i32 1) := World.cell?_setCell_same w a _ hc
 have hcv := run_convert_to_unsafe (P := Tryz.prog) (src := 135) (dst := 139) Tryz.underlying135 Tryz.underlying139 (by kernel_rfl) hc'
 go_enter Tryz.func82, Tryz.ntmps82
 go_wp2
 first | go_end0 | (simp only [Exit.inBlock, Exit.then]; refine bodyPost_ret (results_none rfl _ _ _) rfl ?_) | refine bodyPost_ret (results_none rfl _ _ _) rfl ?_
 go_wp2
 go_end0
 exact ⟨rfl, rfl⟩
theorem load_zero (a : Addr) (w : World) (hc : w.cell? a = some (.int .u32 0)) :
  Calls Tryz.prog 78 #[.pointer (some a)] w fun e w' => e = .returned (.bool false) ∧ w' = w := by
 have hl := run_call_load (P := Tryz.prog) Tryz.func81 (by kernel_rfl) (by kernel_rfl) (by kernel_rfl) .u32 (by kernel_rfl) hc
 go_enter Tryz.func78, Tryz.ntmps78
 go_wp2
 go_ret
 exact ⟨rfl, rfl⟩
theorem slow_any (B : Nat) (t : TypeId) (xs : List Value) (w : World) (hb : Blk w B t xs) (h0 : xs[0]? = some (.int .u32 0)) (h1 : xs[1]? = some (.int .i32 0)) (Q : World → List Value → Prop)
  (hF : Calls Tryz.prog 77 #[.pointer (some ⟨B, 0, none⟩)] (w.setCell ⟨B, 1, none⟩ (.int .i32 1)) fun e w' => e = .returned (.tuple #[]) ∧ ∃ ys, Blk w' B t ys ∧ ys[0]? = some (.int .u32 0) ∧ ys[1]? = some (.int .i32 1) ∧ Q w' ys) :
  Calls Tryz.prog 79 #[.pointer (some ⟨B, 0, none⟩), .func (.func 77) #[.pointer (some ⟨B, 0, none⟩)] #[]] w fun e w' => e = .returned (.tuple #[]) ∧
   ∃ w1 ys, Blk w1 B t ys ∧ Q w1 ys ∧ w' = (w1.drew.setCell ⟨B, 0, none⟩ (.int .u32 1)).setCell ⟨B, 1, none⟩ (.int .i32 0) := by
 have c0 : w.cell? ⟨B, 0, none⟩ = some (.int .u32 0) := by rw [hb.cell, h0]
 have c1 : w.cell? ⟨B, 1, none⟩ = some (.int .i32 0) := by rw [hb.cell, h1]
 have f1 := hb.frozen 1
 have c0' : (w.setCell ⟨B, 1, none⟩ (.int .i32 1)).cell? ⟨B, 0, none⟩ = some (.int .u32 0) := (World.cell?_setCell_other _ ⟨B, 1, none⟩ ⟨B, 0, none⟩ _ (by simp)).trans c0
 go_enter_defers Tryz.func79, Tryz.ntmps79
 go_wp2_with (first
  | (go_at_call 82; refine (lock_free ⟨B, 1, none⟩ _ (by go_simp) (by go_simp)).mono ?_; rintro e w' ⟨rfl, rfl⟩)
  | (go_at_call 78; refine (load_zero ⟨B, 0, none⟩ _ c0').mono ?_; rintro e w' ⟨rfl, rfl⟩)
  | (go_at_call 77; refine hF.mono ?_; rintro e w' ⟨rfl, ys, hy, hy0, hy1, hq⟩))
 have k0 : w'.cell? ⟨B, 0, none⟩ = some (.int .u32 0) := by rw [hy.cell, hy0]
 have k1 : w'.cell? ⟨B, 1, none⟩ = some (.int .i32 1) := by rw [hy.cell, hy1]
 have z0 := hy.frozen 0
 have z1 := hy.frozen 1
 go_wp2
 refine leaves_cons (f := 84) (args := #[.pointer (some ⟨B, 0, none⟩), .bool true]) (by simp) (by simp [go_sem]) ?_
 refine (store_deferred ⟨B, 0, none⟩ (.int .u32 0) .returning _ k0 z0).mono ?_
 rintro e u' w'' ⟨rfl, rfl, rfl⟩
 refine leaves_cons (f := 83) (args := #[.pointer (some ⟨B, 1, none⟩)]) (by simp [settle]) (by simp [go_sem]) ?_
 refine (unlock_deferred ⟨B, 1, none⟩ _ _ ?_ (by simp [z1])).mono ?_
 ·refine (World.cell?_setCell_other _ ⟨B, 0, none⟩ ⟨B, 1, none⟩ _ (by simp)).trans ?_
  rw [World.cell?_drew]
  exact k1
 rintro e u' w'' ⟨rfl, rfl, rfl⟩
 have fin : ∃ w1 ys, Blk w1 B t ys ∧ Q w1 ys ∧ (w'.drew.setCell ⟨B, 0, none⟩ (.int .u32 1)).setCell ⟨B, 1, none⟩ (.int .i32 0) = (w1.drew.setCell ⟨B, 0, none⟩ (.int .u32 1)).setCell ⟨B, 1, none⟩ (.int .i32 0) := ⟨w', ys, hy, hq, rfl⟩
 simpa [Leaves, settle, results, Tryz.results79] using fin
theorem do_any (B : Nat) (t : TypeId) (xs : List Value) (w : World) (hb : Blk w B t xs) (h0 : xs[0]? = some (.int .u32 0)) (h1 : xs[1]? = some (.int .i32 0)) (Q : World → List Value → Prop)
  (hF : Calls Tryz.prog 77 #[.pointer (some ⟨B, 0, none⟩)] (w.setCell ⟨B, 1, none⟩ (.int .i32 1)) fun e w' => e = .returned (.tuple #[]) ∧ ∃ ys, Blk w' B t ys ∧ ys[0]? = some (.int .u32 0) ∧ ys[1]? = some (.int .i32 1) ∧ Q w' ys) :
  Calls Tryz.prog 76 #[.pointer (some ⟨B, 0, none⟩), .func (.func 77) #[.pointer (some ⟨B, 0, none⟩)] #[]] w fun e w' => e = .returned (.tuple #[]) ∧
   ∃ w1 ys, Blk w1 B t ys ∧ Q w1 ys ∧ w' = (w1.drew.setCell ⟨B, 0, none⟩ (.int .u32 1)).setCell ⟨B, 1, none⟩ (.int .i32 0) := by
 have c0 : w.cell? ⟨B, 0, none⟩ = some (.int .u32 0) := by rw [hb.cell, h0]
 go_enter Tryz.func76, Tryz.ntmps76
 go_wp2_with (first
  | (go_at_call 79; refine (slow_any B t xs _ hb h0 h1 Q hF).mono ?_; rintro e w' ⟨rfl, hr⟩)
  | (go_at_call 78; refine (load_zero ⟨B, 0, none⟩ _ c0).mono ?_; rintro e w' ⟨rfl, rfl⟩))
 go_end0
 exact ⟨rfl, hr⟩
section
variable {P : Program} {ops : Array Oper} {Q : Exit → Act → World → Prop} {md : Region.Mode} {S : World → Prop} {s : Nat}
def wpAnyV (P : Program) (md : Region.Mode) (ops : Array Oper) (Q : Exit → Act → World → Prop) (S : World → Prop) (s : Nat) : Nat → Array Bool → Act → World → Prop
 | 0, listed, a, w => Region.ready md ops listed = [] ∧ Q .normal a w
 | fuel + 1, listed, a, w =>
  (Region.ready md ops listed = [] → Q .normal a w) ∧
  ∀ i ∈ Region.ready md ops listed, wpOp P ops Q i (fun a' w' => (i ≠ s → S w') ∧ wpAnyV P md ops Q S s fuel (listed.setIfInBounds i true) a' w') a w
theorem wpAny_of_V : ∀ (fuel : Nat) (listed : Array Bool) (a : Act) (w : World), wpAnyV P md ops Q S s fuel listed a w → wpAny P md ops Q fuel listed a w
 | 0, _, _, _, h => h
 | fuel + 1, _, _, _, h => ⟨h.1, fun i hi => wpOp_mono (fun a' w' h' => wpAny_of_V fuel _ a' w' h'.2) (h.2 i hi)⟩
def waits (md : Region.Mode) (ops : Array Oper) (s i : Nat) : Bool :=
 match ops[s]? with
 | some o => o.after.any fun e => Region.binds md e && e.on == i
 | none => true
theorem waits_spec {i : Nat} (h : waits md ops s i = true) {os : Oper} (ho : ops[s]? = some os) (hn : ∀ e ∈ os.after, Region.binds md e = true → e.on ≠ i) : False := by
 unfold waits at h
 rw [ho] at h
 obtain ⟨e, he, hb⟩ := Array.any_eq_true'.1 h
 simp only [Bool.and_eq_true, beq_iff_eq] at hb
 exact hn e he hb.1 hb.2
theorem ready_apart {listed : Array Bool} {i j : Nat} (hi : i ∈ Region.ready md ops listed) (hj : j ∈ Region.ready md ops listed) {oj : Oper} (hoj : ops[j]? = some oj) :
  ∀ e ∈ oj.after, Region.binds md e = true → e.on ≠ i := by
 rintro e he hb rfl
 obtain ⟨_, o, ho, hall⟩ := mem_ready.1 hj
 obtain rfl : o = oj := by rw [hoj] at ho; exact (Option.some.inj ho).symm
 have hyes := hall e he hb
 have hno := (mem_ready.1 hi).1
 by_cases hl : e.on < listed.size <;> simp_all
def Loose (md : Region.Mode) (ops : Array Oper) (i : Nat) (oi : Oper) (listed : Array Bool) : Prop :=
 ∀ j oj, ops[j]? = some oj → j ≠ i → listed.getD j true = false → (∀ e ∈ oj.after, Region.binds md e = true → e.on ≠ i) → oi.apart ops oj = true
theorem Loose.on {i j : Nat} {oi : Oper} {listed : Array Bool} (h : Loose md ops i oi listed) (hj : listed.getD j true = false) : Loose md ops i oi (listed.setIfInBounds j true) := fun k ok hk hki hun hno =>
 h k ok hk hki (if e : j = k then e ▸ hj else (getD_set_ne true e) ▸ hun) hno
theorem wpAnyV_first {i : Nat} {oi : Oper} {v : Value} (hi : ops[i]? = some oi) (hsel : ∀ (j : Nat) (o : Oper) cs b, ops[j]? = some o → o.op ≠ .select cs b) (hs : waits md ops s i = true)
  (hQ : ∀ c a w, Q (.panic c) (a.put oi.dst v) w → Q (.panic c) a w) (fuel : Nat) : ∀ (listed : Array Bool) (a : Act) (w : World), Loose md ops i oi listed → i ∈ Region.ready md ops listed → YieldsIf P ops S oi v a → S w →
   wpAnyV P md ops Q S s fuel (listed.setIfInBounds i true) (a.put oi.dst v) w → wpAnyV P md ops Q S s (fuel + 1) listed a w := by
 induction fuel with
 | zero =>
  intro listed a w _ hr hy hS H
  constructor
  ·intro h0; simp [h0] at hr
  ·intro j hj
   by_cases e : j = i
   ·exact e ▸ hy.wpOp hi hS ⟨fun _ => hS, H⟩
   ·have := ready_mono hj e
    simp [H.1] at this
 | succ fuel ih =>
  intro listed a w hl hr hy hS H
  constructor
  ·intro h0; simp [h0] at hr
  ·intro j hj
   by_cases e : j = i
   ·exact e ▸ hy.wpOp hi hS ⟨fun _ => hS, H⟩
   ·obtain ⟨hun, oj, hoj, _⟩ := mem_ready.1 hj
    have hap := ready_apart hr hj hoj
    have hjs : j ≠ s := fun es => waits_spec hs (es ▸ hoj) hap
    refine wpOp_mono ?_ (wpOp_putIf hoj (hl j oj hoj e hun hap) (fun cs b => hsel i oi cs b hi) (fun cs b => hsel j oj cs b hoj) hQ hy (H.2 j (ready_mono hj e)))
    rintro a' w' ⟨hy', hS', hw'⟩
    exact ⟨hS', ih _ a' w' (hl.on hun) (ready_mono hr (Ne.symm e)) hy' (hS' hjs) (by rw [Array.setIfInBounds_comm _ _ e]; exact hw')⟩
theorem wpAnyV_take {i : Nat} {oi : Oper} {v : Value} {fuel : Nat} {listed : Array Bool} {a : Act} {w : World} (d : Option Tmp) (hi : ops[i]? = some oi) (hd : oi.dst = d)
  (hsl : Region.noSelect ops = true) (hf : Region.free md ops listed i = true) (hr : (Region.ready md ops listed).contains i = true) (hs : waits md ops s i = true)
  (hQ : ∀ c a w, Q (.panic c) (a.put d v) w → Q (.panic c) a w) (hy : YieldsIf P ops S oi v a) (hS : S w)
  (h : wpAnyV P md ops Q S s fuel (listed.setIfInBounds i true) (a.put d v) w) : wpAnyV P md ops Q S s (fuel + 1) listed a w := by
 subst hd
 exact wpAnyV_first hi (Region.noSelect_spec hsl) hs hQ fuel listed a w (Region.free_spec hi hf) (by simpa using hr) hy hS h
theorem sA {α : Type} {l : List α} {i : Nat} {a : α} : l.toArray.setIfInBounds i a = (l.set i a).toArray := List.setIfInBounds_toArray ..
theorem s0 {α : Type} {x : α} {xs : List α} {a : α} : (x :: xs).set 0 a = a :: xs := List.set_cons_zero
theorem sS {α : Type} {x : α} {xs : List α} {i : Nat} {a : α} : (x :: xs).set (i + 1) a = x :: xs.set i a := List.set_cons_succ
theorem tk (i d : Nat) {oi : Oper} {v : Value} {fuel : Nat} {listed : Array Bool} {a a' : Act} {w : World} (hS : S w)
  (h : wpAnyV P md ops Q S s fuel (listed.setIfInBounds i true) a' w) (hi : ops[i]? = some oi := by rfl) (hg : Region.wanted oi (yielded ops a.tmps) = true := by rfl) (hd : oi.dst = some d := by rfl)
  (hy : ∀ w, S w → (execOp a.eval oi).run P w = .ok (.value v) w := by intro w hSw; (try dsimp (config := { zetaDelta := true }) only at hSw); go_simp; (try with_reducible rfl))
  (hsl : Region.noSelect ops = true := by kernel_rfl) (hf : Region.free md ops listed i = true := by kernel_rfl) (hr : (Region.ready md ops listed).contains i = true := by kernel_rfl) (hs : waits md ops s i = true := by kernel_rfl)
  (hQ : ∀ c a w, Q (.panic c) (a.put (some d) v) w → Q (.panic c) a w := by exact fun _ _ _ h => h)
  (ha : a.put (some d) v = a' := by first | (simp only [Act.put, sA, s0, sS]; done) | (simp only [Act.put, sA, s0, sS]; rfl) | rfl) : wpAnyV P md ops Q S s (fuel + 1) listed a w :=
 wpAnyV_take (some d) hi hd hsl hf hr hs hQ (Or.inl ⟨hg, hy⟩) hS (ha ▸ h)
theorem tkV (i d : Nat) (v : Value) {oi : Oper} {fuel : Nat} {listed : Array Bool} {a a' : Act} {w : World} (hS : S w)
  (h : wpAnyV P md ops Q S s fuel (listed.setIfInBounds i true) a' w) (hi : ops[i]? = some oi := by rfl) (hg : Region.wanted oi (yielded ops a.tmps) = true := by rfl) (hd : oi.dst = some d := by rfl)
  (hy : ∀ w, S w → (execOp a.eval oi).run P w = .ok (.value v) w := by intro w hSw; (try dsimp (config := { zetaDelta := true }) only at hSw); go_simp; (try omega))
  (hsl : Region.noSelect ops = true := by kernel_rfl) (hf : Region.free md ops listed i = true := by kernel_rfl) (hr : (Region.ready md ops listed).contains i = true := by kernel_rfl) (hs : waits md ops s i = true := by kernel_rfl)
  (hQ : ∀ c a w, Q (.panic c) (a.put (some d) v) w → Q (.panic c) a w := by exact fun _ _ _ h => h)
  (ha : a.put (some d) v = a' := by first | (simp only [Act.put, sA, s0, sS]; done) | (simp only [Act.put, sA, s0, sS]; rfl) | rfl) : wpAnyV P md ops Q S s (fuel + 1) listed a w :=
 wpAnyV_take (some d) hi hd hsl hf hr hs hQ (Or.inl ⟨hg, hy⟩) hS (ha ▸ h)
theorem tkS (i d : Nat) {oi : Oper} {fuel : Nat} {listed : Array Bool} {a a' : Act} {w : World} (hS : S w)
  (h : wpAnyV P md ops Q S s fuel (listed.setIfInBounds i true) a' w) (hi : ops[i]? = some oi := by rfl) (hg : Region.wanted oi (yielded ops a.tmps) = false := by rfl) (hd : oi.dst = some d := by rfl)
  (hsl : Region.noSelect ops = true := by kernel_rfl) (hf : Region.free md ops listed i = true := by kernel_rfl) (hr : (Region.ready md ops listed).contains i = true := by kernel_rfl) (hs : waits md ops s i = true := by kernel_rfl)
  (hQ : ∀ c a w, Q (.panic c) (a.put (some d) undef) w → Q (.panic c) a w := by exact fun _ _ _ h => h)
  (ha : a.put (some d) undef = a' := by first | (simp only [Act.put, sA, s0, sS]; done) | (simp only [Act.put, sA, s0, sS]; rfl) | rfl) : wpAnyV P md ops Q S s (fuel + 1) listed a w :=
 wpAnyV_take (some d) hi hd hsl hf hr hs hQ (Or.inr ⟨hg, rfl⟩) hS (ha ▸ h)
theorem wpAnyV_one {i : Nat} {o : Oper} {fuel : Nat} {listed : Array Bool} {a : Act} {w : World} (hr : Region.ready md ops listed = [i]) (ho : ops[i]? = some o)
  (h : ∀ K' : Act → World → Prop, Shut (∀ a w, (i ≠ s → S w) → wpAnyV P md ops Q S s fuel (listed.setIfInBounds i true) a w → K' a w) → if Region.wanted o (yielded ops a.tmps) = true then Oper.wp P o a w K' Q else K' (a.put o.dst undef) w) :
  wpAnyV P md ops Q S s (fuel + 1) listed a w := by
 constructor
 ·intro h0; simp [hr] at h0
 ·intro j hj
  rw [hr] at hj
  obtain rfl : j = i := by simpa using hj
  exact wpOp_step ho (fun K' hK => h K' (fun a w hS hW => hK a w ⟨hS, hW⟩))
theorem wpAnyV_done {fuel : Nat} {listed : Array Bool} {a : Act} {w : World} (hr : Region.ready md ops listed = []) (h : Q .normal a w) : wpAnyV P md ops Q S s fuel listed a w := by
 cases fuel with
 | zero => exact ⟨hr, h⟩
 | succ n => exact ⟨fun _ => h, by rw [hr]; simp⟩
theorem wp_region_V {id : Nat} {a : Act} {w : World} (S : World → Prop) (s n : Nat) (hn : ops.size = n) (hm : P.follows .mixedOrders = true) (h : wpAnyV P .any ops Q S s n (Array.replicate n false) a w.drew) : (Code.region id ops true).wp P Q a w := by
 subst hn
 exact wp_region_any hm (wpAny_of_V _ _ _ _ h)
end
def tcells (d s q : Int) (T : List Int) : List Value := .int .u32 d :: .int .i32 s :: .int .u32 q :: vals .u32 T
theorem tcells_at (d s q : Int) (T : List Int) (j : Nat) : (tcells d s q T)[j + 3]? = (vals .u32 T)[j]? := rfl
theorem tcells_set (d s q : Int) (T : List Int) (j : Nat) (x : Int) : (tcells d s q T).set (j + 3) (.int .u32 x) = tcells d s q (T.set j x) := by simp [tcells, vals]
theorem shiftSum_any (r : Nat) (h : r < 4294967296) (w : World) :
  Calls Tryz.prog 80 #[.int .u32 r] w fun e w' => e = .returned (.int .u32 (sh r)) ∧ w' = w := by
 have h1 : bits .and .u32 (r : Int) 1 = ((r % 2 : Nat) : Int) := by rw [show (1 : Int) = ((1 : Nat) : Int) from rfl, u32_and_nat r 1 h (by decide), nat_mask1]
 by_cases ho : r % 2 = 1
 ·have h2 : bits .xor .u32 ((r : Int) / 2) 3988292384 = ((r / 2 ^^^ 3988292384 : Nat) : Int) := u32_xor_nat (r / 2) 3988292384 (by omega) (by decide)
  have h3 : sh r = r / 2 ^^^ 3988292384 := by unfold sh; rw [if_pos ho]
  rw [h3]
  rw [ho] at h1
  go_enter Tryz.func80, Tryz.ntmps80
  go_wp2
  go_ret
  exact ⟨rfl, rfl⟩
 ·have h3 : sh r = r / 2 := by unfold sh; rw [if_neg ho]
  rw [h3]
  have ho' : r % 2 = 0 := by omega
  rw [ho'] at h1
  go_enter Tryz.func80, Tryz.ntmps80
  go_wp2
  go_ret
  exact ⟨rfl, rfl⟩
def bitOf (m : Nat) : Int := if m < 8 then ((2 ^ (7 - m) : Nat) : Int) else 0
theorem bitOf_next (m : Nat) (h : m < 8) : bitOf m / 2 = bitOf (m + 1) := by
 have : ∀ m < 8, bitOf m / 2 = bitOf (m + 1) := by decide +kernel
 exact this m h
theorem bitOf_lt (m : Nat) (h : m < 8) : 1 ≤ 2 ^ (7 - m) ∧ 2 ^ (7 - m) ≤ 128 ∧ 2 ^ (8 - m) = 2 * 2 ^ (7 - m) := by
 have : ∀ m < 8, 1 ≤ 2 ^ (7 - m) ∧ 2 ^ (7 - m) ≤ 128 ∧ 2 ^ (8 - m) = 2 * 2 ^ (7 - m) := by decide +kernel
 exact this m h
theorem entry_lt (m n : Nat) (h : m < 8) (hn : n < 2 ^ m) : 2 ^ (8 - m) * n + 2 ^ (7 - m) < 256 ∧ 2 ^ (8 - m) * (n + 1) ≤ 256 := by
 have h1 : 2 ^ (8 - m) * (n + 1) ≤ 2 ^ (8 - m) * 2 ^ m := Nat.mul_le_mul_left _ hn
 have h2 := bitOf_lt m h
 rw [← Nat.pow_add, show 8 - m + m = 8 from by omega] at h1
 rw [Nat.mul_succ] at h1
 rw [Nat.mul_succ]
 omega
theorem fill_any (B : Nat) (t : TypeId) (w : World) (hb : Blk w B t (tcells 0 1 0 (List.replicate 256 0))) :
  Calls Tryz.prog 77 #[.pointer (some ⟨B, 0, none⟩)] w fun e w' => e = .returned (.tuple #[]) ∧ Blk w' B t (tcells 0 1 0 (tabM 8 0)) ∧ Kept (fun b => b = B) w w' := by
 have HB : Hid (Blk w B t (tcells 0 1 0 (tabM 0 0))) := by rw [tabM_zero]; exact hb
 clear hb
 go_enter Tryz.func77, Tryz.ntmps77
 go_wp2
 go_loopw [2, 3] (fun r b wr => ∃ m : Nat, m ≤ 8 ∧ r = .int .u32 (shN m 1) ∧ b = .int .i64 (bitOf m) ∧ Hid (Blk wr B t (tcells 0 1 0 (tabM m 0))) ∧ Hid (Kept (fun b => b = B) w wr)) (fun _ b _ => (intOf b).toNat)
 case atStart => exact ⟨0, by omega, rfl, rfl, HB, Kept.refl _ _⟩
 case round =>
  obtain ⟨m, hm, rfl, rfl, HBr, HKr⟩ := hrel
  by_cases hlt : m < 8
  ·have hs1 := shN_lt m 1 (by decide)
   have hs2 := shN_lt (m + 1) 1 (by decide)
   have HS := (show Hid (sh (shN m 1) = shN (m + 1) 1) from (shN_succ m 1).symm)
   have HBN := (show Hid (bitOf m / 2 = bitOf (m + 1)) from bitOf_next m hlt)
   have hbo : bitOf m = ((2 ^ (7 - m) : Nat) : Int) := by unfold bitOf; rw [if_pos hlt]
   obtain ⟨p1, p2, p3⟩ := bitOf_lt m hlt
   rw [hbo]
   have HBO := (show Hid (bitOf m = ((2 ^ (7 - m) : Nat) : Int)) from hbo)
   clear hbo
   obtain ⟨b, hbb⟩ : ∃ b : Nat, 2 ^ (7 - m) = b := ⟨_, rfl⟩
   have HBB := (show Hid (2 ^ (7 - m) = b) from hbb)
   rw [hbb] at p1 p2 p3 ⊢
   clear hbb
   go_wp2_with (go_at_call 80; refine (shiftSum_any _ hs1 _).mono ?_; rintro e w' ⟨rfl, rfl⟩; rw [HS.out])
   obtain ⟨s1, hs1e⟩ : ∃ s1 : Nat, shN (m + 1) 1 = s1 := ⟨_, rfl⟩
   have HS1 := (show Hid (shN (m + 1) 1 = s1) from hs1e)
   rw [hs1e] at hs2 ⊢
   clear hs1e hs1 HS
   go_loopw [4] (fun i wr => ∃ n : Nat, n ≤ 2 ^ m ∧ i = .int .i64 ((2 ^ (8 - m) * n : Nat) : Int) ∧ Hid (Blk wr B t (tcells 0 1 0 (tabM m n))) ∧ Hid (Kept (fun b => b = B) w wr)) (fun i _ => 256 - (intOf i).toNat)
   case atStart => exact ⟨0, Nat.zero_le _, rfl, HBr, HKr⟩
   case round =>
    obtain ⟨n, hn, rfl, HBi, HKi⟩ := hrel
    by_cases hnl : n < 2 ^ m
    ·obtain ⟨q1, q2⟩ := entry_lt m n hlt hnl
     have HST := (show Hid (_ = _) from tabM_step m n hlt hnl)
     have q3 : wr.cell? ⟨B, 3 + 2 ^ (8 - m) * n, none⟩ = some (.int .u32 ((tab (2 ^ (8 - m) * n) : Nat) : Int)) := by
      rw [HBi.out.cell, Nat.add_comm, tcells_at]
      have := tabM_read m n hlt hnl
      simp [vals, this]
     have q4 := HBi.out.frozen (3 + (2 ^ (8 - m) * n + b))
     obtain ⟨y, q5⟩ : ∃ y, wr.cell? ⟨B, 3 + (2 ^ (8 - m) * n + b), none⟩ = some (.int .u32 y) := by
      rw [HBi.out.cell, Nat.add_comm, tcells_at, vals_at _ _ _ (by rw [tabM_length]; rw [HBB.out] at q1; exact q1)]
      exact ⟨_, rfl⟩
     have HNX := (show Hid (2 ^ (8 - m) * (n + 1) = 2 ^ (8 - m) * n + 2 * b) from (by rw [Nat.mul_succ, p3] : 2 ^ (8 - m) * (n + 1) = 2 ^ (8 - m) * n + 2 * b))
     rw [HNX.out] at q2
     have HQ := (show Hid (2 ^ (8 - m) * n + 2 * b ≤ 256) from q2)
     rw [HBB.out] at q1
     obtain ⟨i, hi⟩ : ∃ i : Nat, 2 ^ (8 - m) * n = i := ⟨_, rfl⟩
     have HI := (show Hid (2 ^ (8 - m) * n = i) from hi)
     rw [hi] at q1 q2 q3 q4 q5 ⊢
     have hti := tab_lt i (by omega)
     have hx := u32_xor_nat (tab i) s1 hti hs2
     have hil : i < 256 := by omega
     have HNL := (show Hid (n < 2 ^ m) from hnl)
     clear hi hn hnl
     have hc1 : (i : Int) < 256 := by omega
     have hc2 : (0 : Int) ≤ (i : Int) := by omega
     have hc3 : (i : Int) + (b : Int) < 256 := by omega
     have hc4 : (0 : Int) ≤ (i : Int) + (b : Int) := by omega
     have hc5 : ((i : Int) + (b : Int)).toNat = i + b := by omega
     have hc6 : IntKind.i64.wrap ((i : Int) + (b : Int)) = (i : Int) + (b : Int) := by rw [IntKind.wrap_i64]; omega
     have hdec : decide ((i : Int) < 256) = true := by simp; omega
     go_wp2
     have hS : (fun w' => w'.cell? ⟨B, 3 + i, none⟩ = some (.int .u32 ((tab i : Nat) : Int)) ∧ w'.cell? ⟨B, 3 + (i + b), none⟩ = some (.int .u32 y) ∧ w'.frozen? ⟨B, 3 + (i + b), none⟩ = false) wr.drew := by go_keep
     refine wp_region_V (fun w' => w'.cell? ⟨B, 3 + i, none⟩ = some (.int .u32 ((tab i : Nat) : Int)) ∧ w'.cell? ⟨B, 3 + (i + b), none⟩ = some (.int .u32 y) ∧ w'.frozen? ⟨B, 3 + (i + b), none⟩ = false) 15 16 rfl (by kernel_rfl) ?_
     refine tk 0 17 hS ?_
     refine tk 1 18 hS ?_
     refine tk 2 19 hS ?_
     refine tk 3 20 hS ?_
     refine tk 4 21 hS ?_
     refine tk 5 22 hS ?_
     refine tk 6 23 hS ?_
     refine tk 7 24 hS ?_
     refine tk 8 25 hS ?_
     refine tk 9 26 hS ?_
     refine tk 10 27 hS ?_
     refine tk 11 28 hS ?_
     refine wpAnyV_one (i := 12) (by kernel_rfl) rfl (fun K hK => ?_)
     go_simp
     have hS : (fun w' => w'.cell? ⟨B, 3 + i, none⟩ = some (.int .u32 ((tab i : Nat) : Int)) ∧ w'.cell? ⟨B, 3 + (i + b), none⟩ = some (.int .u32 y) ∧ w'.frozen? ⟨B, 3 + (i + b), none⟩ = false) wr.drew := by go_keep
     refine hK.out _ _ (fun _ => hS) ?_
     clear hK K
     try simp only [Act.put, sA, s0, sS]
     refine wpAnyV_one (i := 13) (by kernel_rfl) rfl (fun K hK => ?_)
     go_simp
     have hS : (fun w' => w'.cell? ⟨B, 3 + i, none⟩ = some (.int .u32 ((tab i : Nat) : Int)) ∧ w'.cell? ⟨B, 3 + (i + b), none⟩ = some (.int .u32 y) ∧ w'.frozen? ⟨B, 3 + (i + b), none⟩ = false) wr.drew := by go_keep
     refine hK.out _ _ (fun _ => hS) ?_
     clear hK K
     try simp only [Act.put, sA, s0, sS]
     refine tk 14 31 hS ?_
     refine wpAnyV_one (i := 15) (by kernel_rfl) rfl (fun K hK => ?_)
     go_simp
     refine hK.out _ _ (fun h => absurd rfl h) ?_
     clear hK K
     refine wpAnyV_done (by kernel_rfl) ?_
     try simp only [Act.put, sA, s0, sS]
     go_wp2
     go_roundw
     case rel =>
      have h := HBi.out.stored (3 + (i + b)) (.int .u32 ((tab i ^^^ s1 : Nat) : Int))
      rw [Nat.add_comm 3, tcells_set] at h
      have e := HST.out
      rw [HI.out, HBB.out, HS1.out] at e
      rw [e] at h
      refine ⟨n + 1, by have h1 := HNL.out; omega, ?_, ?_, ?_⟩
      ·rw [HNX.out, HI.out]
       simp
      ·rw [Nat.add_comm 3]
       exact h
      ·exact HKi.out.drew.setCell (.inr rfl) _
     case measure => simp [intOf]; omega
    ·obtain rfl : n = 2 ^ m := by omega
     have e : 2 ^ (8 - m) * 2 ^ m = 256 := by rw [← Nat.pow_add, show 8 - m + m = 8 from by omega]
     have HB2 := HBi.out
     rw [tabM_next m hlt] at HB2
     rw [e]
     clear e
     go_wp2
     go_roundw
     case rel => exact ⟨m + 1, by omega, by rw [HS1.out], by rw [← HBN.out, HBO.out, HBB.out], HB2, HKi⟩
     case measure => simp [intOf]; omega
  ·obtain rfl : m = 8 := by omega
   go_wp2
   go_end0
   exact ⟨rfl, HBr.out, HKr.out⟩
theorem compl_nat (r : Nat) (h : r < 4294967296) : 4294967295 ^^^ r = 4294967295 - r := by
 have e : 4294967295 - r = 2 ^ 32 - (r + 1) := by omega
 rw [e, show 4294967295 = 2 ^ 32 - 1 from rfl]
 apply Nat.eq_of_testBit_eq
 intro i
 rw [Nat.testBit_xor, Nat.testBit_two_pow_sub_one, Nat.testBit_two_pow_sub_succ (by omega)]
 by_cases hi : i < 32
 ·simp [hi]
 ·have : r.testBit i = false := Nat.testBit_lt_two_pow (Nat.lt_of_lt_of_le h (Nat.pow_le_pow_right (n := 2) (i := 32) (by decide) (by omega)))
  simp [hi, this]
theorem compl_u32 (x : Int) (h0 : 0 ≤ x) (h1 : x ≤ 4294967295) : bits .xor .u32 4294967295 x = 4294967295 - x := by
 obtain ⟨r, rfl⟩ : ∃ r : Nat, x = r := ⟨x.toNat, by omega⟩
 have := u32_xor_nat 4294967295 r (by decide) (by omega)
 rw [compl_nat r (by omega)] at this
 rw [show ((4294967295 : Nat) : Int) = 4294967295 from rfl] at this
 rw [this]
 omega
theorem crcOn_le (sum : Int) (bs : List Int) (h0 : 0 ≤ sum) (h1 : sum ≤ 4294967295) (hB : IsB bs) : 0 ≤ crcOn sum bs ∧ crcOn sum bs ≤ 4294967295 := by
 unfold crcOn
 rw [if_neg (by omega)]
 have := reg_lt (4294967295 - sum).toNat bs (by omega) hB
 omega
theorem goOn_any (B : Nat) (w : World) (sum : Int) (v : Value) (bs : List Int) (hb : Blk w B 122 (tcells 0 0 0 (List.replicate 256 0))) (h0 : 0 ≤ sum) (h1 : sum ≤ 4294967295) (hB : IsB bs) (hn : bs.length ≤ 1099511627776) (hv : ∀ w', Kept (fun b => b = B) w w' → Rd .u8 w' v bs) :
  Calls Tryz.prog 60 #[.pointer (some ⟨B, 0, none⟩), .int .i64 sum, v] w fun e w' => e = .returned (.int .i64 (crcOn sum bs)) ∧ Kept (fun b => b = B) w w' := by
 have hF := fill_any B 122 (w.setCell ⟨B, 1, none⟩ (.int .i32 1)) (by have := hb.stored 1 (.int .i32 1); exact this)
 have hk0 : Kept (fun b => b = B) w (w.setCell ⟨B, 1, none⟩ (.int .i32 1)) := Kept.setCell (R := fun b => b = B) (Kept.refl _ _) (.inr rfl) _
 have hD := do_any B 122 _ w hb rfl rfl (fun w' ys => ys = tcells 0 1 0 (tabM 8 0) ∧ Kept (fun b => b = B) w w') (hF.mono (by
  rintro e w' ⟨rfl, hb', hk⟩
  exact ⟨rfl, _, hb', rfl, rfl, rfl, hk0.trans hk⟩))
 clear hF hk0
 obtain ⟨a, c, rfl⟩ := (hv w (Kept.refl _ _)).form
 have HV := (show Hid (∀ w', Kept (fun b => b = B) w w' → Rd .u8 w' (.slice a bs.length c) bs) from hv)
 have HB := (show Hid (IsB bs) from hB)
 have hcr : crcOn sum bs = 4294967295 - reg (4294967295 - sum).toNat bs := by unfold crcOn; rw [if_neg (by omega)]
 have HCR := (show Hid (crcOn sum bs = 4294967295 - reg (4294967295 - sum).toNat bs) from hcr)
 obtain ⟨G, hG⟩ : ∃ G, crcOn sum bs = G := ⟨_, rfl⟩
 have HG := (show Hid (crcOn sum bs = G) from hG)
 rw [hG]
 have hmx : IntKind.u32.max = 4294967295 := by decide
 have hc0 := compl_u32 sum h0 h1
 clear hv hB hcr hG hb
 generalize hl : bs.length = len at *
 have HL := (show Hid (bs.length = len) from hl)
 clear hl
 go_enter Tryz.func60, Tryz.ntmps60
 go_wp2_with (go_at_call 76; refine hD.mono ?_; rintro e w' ⟨rfl, w1, ys, hy, ⟨rfl, hk1⟩, rfl⟩)
 have HK := (show Hid (Kept (fun b => b = B) w ((w1.setCell ⟨B, 0, none⟩ (.int .u32 1)).setCell ⟨B, 1, none⟩ (.int .i32 0)).drew) from (Kept.setCell (R := fun b => b = B) (Kept.setCell (R := fun b => b = B) hk1 (.inr rfl) _) (.inr rfl) _).drew)
 have HT := (show Hid (Blk ((w1.setCell ⟨B, 0, none⟩ (.int .u32 1)).setCell ⟨B, 1, none⟩ (.int .i32 0)).drew B 122 (tcells 1 0 0 (tabM 8 0))) from ((hy.stored 0 _).stored 1 _).drew)
 clear hk1 hy hD
 generalize ((w1.setCell ⟨B, 0, none⟩ (.int .u32 1)).setCell ⟨B, 1, none⟩ (.int .i32 0)).drew = w2 at *
 clear w1
 go_loopw [7, 9, 21] (fun r _ i wr => ∃ k : Nat, k ≤ len ∧ r = .int .u32 ((reg (4294967295 - sum).toNat (bs.take k) : Nat) : Int) ∧ i = .int .i64 k ∧ wr = w2) (fun _ _ i _ => len - (intOf i).toNat)
 case atStart => exact ⟨0, Nat.zero_le _, by simp [reg]; omega, rfl, rfl⟩
 case round =>
  obtain ⟨k, hk, rfl, rfl, rfl⟩ := hrel
  by_cases hlt : k < len
  ·have hlp : k < bs.length := by rw [HL.out]; exact hlt
   have hrd := HV.out _ HK.out
   rcases hrd.2 with ⟨hnil, _⟩ | ⟨b, off, c', h, _, hc⟩
   ·rw [hnil] at hlp
    simp at hlp
   ·have h2 := hc k hlp
    cases h
    have hrl := reg_lt (4294967295 - sum).toNat (bs.take k) (by omega) (fun y hy => HB.out y (List.mem_of_mem_take hy))
    have hbk := HB.out.at k hlp
    have HS := (show Hid (_ = _) from reg_take (4294967295 - sum).toNat bs k hlp)
    clear hrd hc
    obtain ⟨x, hx⟩ : ∃ x : Nat, bs.getD k 0 = (x : Int) := ⟨(bs.getD k 0).toNat, by omega⟩
    rw [hx] at h2 hbk
    have HX := (show Hid (bs.getD k 0 = (x : Int)) from hx)
    clear hx
    generalize hR : reg (4294967295 - sum).toNat (bs.take k) = R at *
    clear hR
    have hxb : x < 256 := by omega
    have ha := u8_xor_nat (R % 256) x (by omega) hxb
    have hb8 : R % 256 ^^^ x < 256 := Nat.xor_lt_two_pow (n := 8) (by omega) hxb
    obtain ⟨I, hI⟩ : ∃ I : Nat, R % 256 ^^^ x = I := ⟨_, rfl⟩
    have HI := (show Hid (R % 256 ^^^ x = I) from hI)
    rw [hI] at ha hb8
    clear hI
    have hti := tab_lt I (by omega)
    have h3 : wr.cell? ⟨B, 3 + I, none⟩ = some (.int .u32 ((tab I : Nat) : Int)) := by
     rw [HT.out.cell, Nat.add_comm, tcells_at]
     have := tabM_all I hb8
     simp [vals, this]
    have hxx := u32_xor_nat (R / 256) (tab I) (by omega) hti
    have ha' : bits .xor .u8 ((R : Int) % 256) (x : Int) = (I : Int) := by rw [← ha]; simp
    have hxx' : bits .xor .u32 ((R : Int) / 256) ((tab I : Nat) : Int) = ((R / 256 ^^^ tab I : Nat) : Int) := by rw [← hxx]; simp
    clear ha hxx
    go_wp2
    go_roundw
    case rel =>
     refine ⟨k + 1, by omega, ?_, by go_num, by first | rfl | trivial⟩
     rw [HS.out, HX.out, Int.toNat_natCast, step_tab, HI.out]
    case measure => simp [intOf]; omega
  ·have hke : k = len := by omega
   have he : reg (4294967295 - sum).toNat (bs.take k) = reg (4294967295 - sum).toNat bs := by rw [hke, ← HL.out, List.take_length]
   rw [he]
   have hrl := reg_lt (4294967295 - sum).toNat bs (by omega) HB.out
   have hG2 := HCR.out
   rw [HG.out] at hG2
   clear he
   generalize reg (4294967295 - sum).toNat bs = R at *
   have hc1 := compl_u32 (R : Int) (by omega) (by omega)
   go_wp2
   go_ret
   exact ⟨by rw [hG2]; rfl, HK.out⟩
theorem rd_block {k : IntKind} {w w1 w' : World} {B : Nat} {v : Value} {bs : List Int} (hv : Rd k w v bs) (h1 : Same w w1) (hB : w.heap.size ≤ B) (h2 : Kept (fun b => b = B) w1 w') : Rd k w' v bs :=
 hv.same (h1.next h2 (fun i hi e => by omega))
theorem implCrcOn_yes (w : World) (sum : Int) (v : Value) (bs : List Int) (h0 : 0 ≤ sum) (h1 : sum ≤ 4294967295) (hB : IsB bs) (hn : bs.length ≤ 1099511627776) (hv : Rd .u8 w v bs) :
  Calls Tryz.prog 48 #[.int .i64 sum, v] w fun e w' => e = .returned (.int .i64 (crcOn sum bs)) ∧ Same w w' := by
 have hz : Tryz.zeroCells122.toList = tcells 0 0 0 (List.replicate 256 0) := by kernel_rfl
 have hst := run_storeCells_new (P := Tryz.prog) w 122 Tryz.zeroCells122 Tryz.zeroCells122 (by kernel_rfl) rfl (by kernel_rfl)
 have hG : ∀ w1, w1 = w.alloc (.cells Tryz.zeroCells122 122) → Calls Tryz.prog 60 #[.pointer (some ⟨w.heap.size, 0, none⟩), .int .i64 sum, v] w1 fun e w' => e = .returned (.int .i64 (crcOn sum bs)) ∧ Kept (fun b => b = w.heap.size) w1 w' := by
  rintro w1 rfl
  have hsame : Same w (w.alloc (.cells Tryz.zeroCells122 122)) := (Kept.refl _ _).alloc _
  exact goOn_any _ _ sum v bs (by rw [← hz]; exact Blk.new _ _ _) h0 h1 hB hn (fun w' hk => rd_block hv hsame (Nat.le_refl _) hk)
 clear hz
 go_enter Tryz.func48, Tryz.ntmps48
 go_wp2_with (go_at_call 60; refine (hG _ rfl).mono ?_; rintro e w' ⟨rfl, hk⟩)
 go_ret
 exact ⟨rfl, ((Kept.refl _ _).alloc _).next hk (fun i hi e => by omega)⟩
theorem xor_i64 (a b : Nat) (ha : a < 4294967296) (hb : b < 4294967296) : bits .xor .i64 (a : Int) (b : Int) = ((a ^^^ b : Nat) : Int) := by
 have h1 : a % 18446744073709551616 = a := Nat.mod_eq_of_lt (by omega)
 have h2 : b % 18446744073709551616 = b := Nat.mod_eq_of_lt (by omega)
 have h3 : a ^^^ b < 2 ^ 32 := Nat.xor_lt_two_pow (n := 32) (by omega) (by omega)
 have h4 : (BitVec.ofNat 64 a ^^^ BitVec.ofNat 64 b).toNat = a ^^^ b := by
  rw [BitVec.toNat_xor, BitVec.toNat_ofNat, BitVec.toNat_ofNat]
  simp only [Nat.reducePow, h1, h2]
 have h5 : bits .xor .i64 (a : Int) (b : Int) = IntKind.i64.wrap (((BitVec.ofNat 64 a ^^^ BitVec.ofNat 64 b).toNat : Nat) : Int) := rfl
 rw [h5, h4, IntKind.wrap_i64]
 generalize a ^^^ b = z at *
 omega
theorem step_any (r x : Nat) (hr : r < 4294967296) (hx : x < 256) (w : World) :
  Calls Tryz.prog 55 #[.int .i64 r, .int .u8 x] w fun e w' => e = .returned (.int .i64 ((shN 8 (r ^^^ x) : Nat) : Int)) ∧ w' = w := by
 have hx0 := xor_i64 r x hr (by omega)
 have hl0 : r ^^^ x < 4294967296 := Nat.xor_lt_two_pow (n := 32) (by omega) (by omega)
 generalize r ^^^ x = y at *
 go_enter Tryz.func55, Tryz.ntmps55
 go_wp2
 go_loopw [0, 5, 6] (fun z i _ wr => ∃ k : Nat, k ≤ 8 ∧ z = .int .i64 ((shN k y : Nat) : Int) ∧ i = .int .i64 k ∧ wr = w) (fun _ i _ _ => 8 - (intOf i).toNat)
 case atStart => exact ⟨0, Nat.zero_le _, rfl, rfl, rfl⟩
 case round =>
  obtain ⟨k, hk, rfl, rfl, rfl⟩ := hrel
  by_cases hlt : k < 8
  ·have hzl := shN_lt k y hl0
   have HS := (show Hid (shN (k + 1) y = sh (shN k y)) from shN_succ k y)
   generalize shN k y = z at *
   by_cases ho : z % 2 = 1
   ·have h2 := xor_i64 (z / 2) 3988292384 (by omega) (by decide)
    have h2' : bits .xor .i64 ((z : Int) / 2) 3988292384 = ((z / 2 ^^^ 3988292384 : Nat) : Int) := by rw [← h2]; simp
    have h3 : sh z = z / 2 ^^^ 3988292384 := by unfold sh; rw [if_pos ho]
    have h4 : (z : Int) % 2 = 1 := by omega
    clear h2
    go_wp2
    go_roundw
    case rel => exact ⟨k + 1, by omega, by rw [HS.out, h3], by go_num, by first | rfl | trivial⟩
    case measure => simp [intOf]; omega
   ·have h3 : sh z = z / 2 := by unfold sh; rw [if_neg ho]
    have h4 : (z : Int) % 2 = 0 := by omega
    go_wp2
    go_roundw
    case rel => exact ⟨k + 1, by omega, by rw [HS.out, h3]; simp, by go_num, by first | rfl | trivial⟩
    case measure => simp [intOf]; omega
  ·obtain rfl : k = 8 := by omega
   go_wp2
   go_ret
   exact ⟨rfl, rfl⟩
theorem specCrcOn_yes (w : World) (sum : Int) (v : Value) (bs : List Int) (h0 : 0 ≤ sum) (h1 : sum ≤ 4294967295) (hB : IsB bs) (hn : bs.length ≤ 1099511627776) (hv : Rd .u8 w v bs) :
  Calls Tryz.prog 42 #[.int .i64 sum, v] w fun e w' => e = .returned (.int .i64 (crcOn sum bs)) ∧ Same w w' := by
 obtain ⟨a, c, rfl⟩ := hv.form
 have HV := (show Hid (Rd .u8 w (.slice a bs.length c) bs) from hv)
 have HB := (show Hid (IsB bs) from hB)
 have hcr : crcOn sum bs = 4294967295 - reg (4294967295 - sum).toNat bs := by unfold crcOn; rw [if_neg (by omega)]
 have HCR := (show Hid (crcOn sum bs = 4294967295 - reg (4294967295 - sum).toNat bs) from hcr)
 obtain ⟨G, hG⟩ : ∃ G, crcOn sum bs = G := ⟨_, rfl⟩
 have HG := (show Hid (crcOn sum bs = G) from hG)
 rw [hG]
 clear hv hB hcr hG
 generalize hl : bs.length = len at *
 have HL := (show Hid (bs.length = len) from hl)
 clear hl
 go_enter Tryz.func42, Tryz.ntmps42
 go_wp2
 go_loopw [5, 6] (fun r i wr => ∃ k : Nat, k ≤ len ∧ r = .int .i64 ((reg (4294967295 - sum).toNat (bs.take k) : Nat) : Int) ∧ i = .int .i64 k ∧ wr = w) (fun _ i _ => len - (intOf i).toNat)
 case atStart => exact ⟨0, Nat.zero_le _, by simp [reg]; omega, rfl, rfl⟩
 case round =>
  obtain ⟨k, hk, rfl, rfl, rfl⟩ := hrel
  by_cases hlt : k < len
  ·have hlp : k < bs.length := by rw [HL.out]; exact hlt
   have hrd := HV.out
   rcases hrd.2 with ⟨hnil, _⟩ | ⟨b, off, c', h, _, hc⟩
   ·rw [hnil] at hlp
    simp at hlp
   ·have h2 := hc k hlp
    cases h
    have hrl := reg_lt (4294967295 - sum).toNat (bs.take k) (by omega) (fun y hy => HB.out y (List.mem_of_mem_take hy))
    have hbk := HB.out.at k hlp
    have HS := (show Hid (_ = _) from reg_take (4294967295 - sum).toNat bs k hlp)
    clear hrd hc
    obtain ⟨x, hx⟩ : ∃ x : Nat, bs.getD k 0 = (x : Int) := ⟨(bs.getD k 0).toNat, by omega⟩
    rw [hx] at h2 hbk
    have HX := (show Hid (bs.getD k 0 = (x : Int)) from hx)
    clear hx
    generalize hR : reg (4294967295 - sum).toNat (bs.take k) = R at *
    clear hR
    have hxb : x < 256 := by omega
    go_wp2_with (go_at_call 55; refine (step_any R x hrl hxb _).mono ?_; rintro e w' ⟨rfl, rfl⟩)
    go_roundw
    case rel =>
     refine ⟨k + 1, by omega, ?_, by go_num, by first | rfl | trivial⟩
     rw [HS.out, HX.out, Int.toNat_natCast]
    case measure => simp [intOf]; omega
  ·have hke : k = len := by omega
   have he : reg (4294967295 - sum).toNat (bs.take k) = reg (4294967295 - sum).toNat bs := by rw [hke, ← HL.out, List.take_length]
   rw [he]
   have hrl := reg_lt (4294967295 - sum).toNat bs (by omega) HB.out
   have hG2 := HCR.out
   rw [HG.out] at hG2
   clear he
   generalize reg (4294967295 - sum).toNat bs = R at *
   go_wp2
   go_ret
   exact ⟨by rw [hG2]; rfl, Kept.refl _ _⟩
theorem crcOn_no (sum : Int) (bs : List Int) (h : sum < 0 ∨ 4294967295 < sum) : crcOn sum bs = -1 := by unfold crcOn; rw [if_pos h]
theorem specCrcOn_no (w : World) (sum : Int) (v : Value) (h : sum < 0 ∨ 4294967295 < sum) :
  Calls Tryz.prog 42 #[.int .i64 sum, v] w fun e w' => e = .returned (.int .i64 (-1)) ∧ Same w w' := by
 rcases h with h | h <;>
 (go_enter Tryz.func42, Tryz.ntmps42
  go_wp2
  go_ret
  exact ⟨rfl, Kept.refl _ _⟩)
theorem implCrcOn_no (w : World) (sum : Int) (v : Value) (h : sum < 0 ∨ 4294967295 < sum) :
  Calls Tryz.prog 48 #[.int .i64 sum, v] w fun e w' => e = .returned (.int .i64 (-1)) ∧ Same w w' := by
 rcases h with h | h <;>
 (go_enter Tryz.func48, Tryz.ntmps48
  go_wp2
  go_ret
  exact ⟨rfl, Kept.refl _ _⟩)
theorem specCrcOn_any (sum : Int) (v : Value) (bs : List Int) (w : World) (hB : IsB bs) (hn : bs.length ≤ 1099511627776) (hv : Rd .u8 w v bs) :
  Calls Tryz.prog 42 #[.int .i64 sum, v] w fun e w' => e = .returned (.int .i64 (crcOn sum bs)) ∧ Same w w' := by
 by_cases h : sum < 0 ∨ 4294967295 < sum
 ·rw [crcOn_no sum bs h]
  exact specCrcOn_no w sum v h
 ·exact specCrcOn_yes w sum v bs (by omega) (by omega) hB hn hv
theorem implCrcOn_any (sum : Int) (v : Value) (bs : List Int) (w : World) (hB : IsB bs) (hn : bs.length ≤ 1099511627776) (hv : Rd .u8 w v bs) :
  Calls Tryz.prog 48 #[.int .i64 sum, v] w fun e w' => e = .returned (.int .i64 (crcOn sum bs)) ∧ Same w w' := by
 by_cases h : sum < 0 ∨ 4294967295 < sum
 ·rw [crcOn_no sum bs h]
  exact implCrcOn_no w sum v h
 ·exact implCrcOn_yes w sum v bs (by omega) (by omega) hB hn hv
theorem specCrc_any (v : Value) (bs : List Int) (w : World) (hB : IsB bs) (hn : bs.length ≤ 1099511627776) (hv : Rd .u8 w v bs) :
  Calls Tryz.prog 23 #[v] w fun e w' => e = .returned (.int .i64 (crcOn 0 bs)) ∧ Same w w' := by
 go_enter Tryz.func23, Tryz.ntmps23
 go_wp2_with (go_at_call 42; refine (specCrcOn_any 0 v bs _ hB hn hv).mono ?_; rintro e w' ⟨rfl, hk⟩)
 go_ret
 exact ⟨rfl, hk⟩
theorem implCrc_any (v : Value) (bs : List Int) (w : World) (hB : IsB bs) (hn : bs.length ≤ 1099511627776) (hv : Rd .u8 w v bs) :
  Calls Tryz.prog 30 #[v] w fun e w' => e = .returned (.int .i64 (crcOn 0 bs)) ∧ Same w w' := by
 go_enter Tryz.func30, Tryz.ntmps30
 go_wp2_with (go_at_call 48; refine (implCrcOn_any 0 v bs _ hB hn hv).mono ?_; rintro e w' ⟨rfl, hk⟩)
 go_ret
 exact ⟨rfl, hk⟩
def lows (v : Int) : Nat → List Int
 | 0 => []
 | k + 1 => (v / 256 ^ k % 256) :: lows v k
theorem lows_length (v : Int) (k : Nat) : (lows v k).length = k := by
 induction k with
 | zero => rfl
 | succ k ih => simp [lows, ih]
def numB (v n : Int) : List Int := if n < 1 ∨ 8 < n ∨ v < 0 ∨ v / 256 ^ n.toNat ≠ 0 then [] else lows v n.toNat
theorem numB_length (v n : Int) : (numB v n).length ≤ 8 := by
 unfold numB
 split
 ·simp
 ·rw [lows_length]; omega
theorem pow_step (v : Int) (k : Nat) : v / 256 ^ k / 256 = v / 256 ^ (k + 1) := by
 rw [Int.ediv_ediv_of_nonneg (Int.le_of_lt (Int.pow_pos (by decide))), Int.pow_succ]
theorem lows_step (v : Int) (n k : Nat) (h : k < n) : (List.replicate (n - k) 0 ++ lows v k).set (n - k - 1) (v / 256 ^ k % 256) = List.replicate (n - (k + 1)) 0 ++ lows v (k + 1) := by
 have e : n - k = (n - (k + 1)) + 1 := by omega
 rw [e, List.replicate_succ', List.append_assoc, Nat.add_sub_cancel, List.set_append_right (h := by simp)]
 simp [lows]
theorem made_length (v : Int) (n k : Nat) (h : k ≤ n) : (List.replicate (n - k) 0 ++ lows v k).length = n := by simp [lows_length]; omega
theorem Own.empty (w : World) (e : TypeId) : Own 0 e .u8 (w.alloc (Obj.cells #[] e)) (.slice (some ⟨w.heap.size, 0, none⟩) 0 0) [] :=
 ⟨by simp [vals], .inr ⟨w.heap.size, 0, #[], rfl, Nat.zero_le _, by unfold World.alloc; exact Array.getElem?_push_size, Nat.le_refl _, Nat.zero_le _, by simp [vals]⟩⟩
theorem specPut_yes (v n : Int) (w : World) (hi0 : IsI v) (h1 : 1 ≤ n) (h2 : n ≤ 8) (h3 : 0 ≤ v) :
  Calls Tryz.prog 20 #[.int .i64 v, .int .i64 n] w fun e w' => ∃ a c, e = .returned (.slice a (numB v n).length c) ∧ (∀ b, (Value.slice a (numB v n).length c).ownBlock = some b → w.heap.size ≤ b) ∧
   Own 0 5 .u8 w' (.slice a (numB v n).length c) (numB v n) ∧ Same w w' := by
 obtain ⟨n, rfl⟩ : ∃ m : Nat, n = m := ⟨n.toNat, by omega⟩
 obtain ⟨i0, hi, hz0, hz1, hz2⟩ := info_parts Tryz.infoByte'
 obtain ⟨hv1, hv2⟩ := hi0
 have h1' : ¬ (n : Int) < 1 := by omega
 have h2' : ¬ (8 : Int) < n := by omega
 have h3' : ¬ v < 0 := by omega
 go_enter Tryz.func20, Tryz.ntmps20
 go_wp2_with (at_make; refine wpList_make_full _ rfl (.tmp 18) (.tmp 18) 22 rfl 0 5 i0 (.int .u8 0) 1 Tryz.underlying22 hi hz0 hz1 .i64 .i64 _ _ n rfl rfl (by simp) (by simp) (by rw [hz2]; omega) (by unfold maxLen; omega) (Nat.zero_le _) ?_; intro w1 hown1 hgrow1; have HO : Hid (Own 0 5 .u8 w1 (.slice (some ⟨w.heap.size, 0, none⟩) n n) (List.replicate n 0)) := own_made (by simpa using hown1); have HK : Hid (Same w w1) := Kept.of_grown hgrow1 (fun k e => by cases e); clear hown1 hgrow1)
 go_loopw [0, 6] (fun x i wr => ∃ (k : Nat), k ≤ n ∧ x = .int .i64 (v / 256 ^ k) ∧ i = .int .i64 ((n : Int) - k - 1) ∧ Hid (Own 0 5 .u8 wr (.slice (some ⟨w.heap.size, 0, none⟩) n n) (List.replicate (n - k) 0 ++ lows v k)) ∧ Hid (Same w wr)) (fun _ i _ => (intOf i + 1).toNat)
 case atStart => exact ⟨0, Nat.zero_le _, by simp, by simp, by simpa [lows] using HO, HK⟩
 case round =>
  obtain ⟨k, hk, rfl, rfl, HOr, HKr⟩ := hrel
  by_cases hlt : k < n
  ·obtain ⟨j, rfl⟩ : ∃ j : Nat, n = k + 1 + j := ⟨n - k - 1, by omega⟩
   have ej : ((k + 1 + j : Nat) : Int) - k - 1 = j := by omega
   have hlen := made_length v (k + 1 + j) k hk
   have q2 := HOr.out.frozen hlen.symm j
   have q3 := HOr.out.cell hlen.symm j (by omega)
   have hx0 : 0 ≤ v / 256 ^ k := Int.ediv_nonneg h3 (Int.le_of_lt (Int.pow_pos (by decide)))
   have hx1 : v / 256 ^ k ≤ v := Int.ediv_le_self _ h3
   have hst := pow_step v k
   have HST : Hid (v / 256 ^ k / 256 = v / 256 ^ (k + 1)) := hst
   have hls := lows_step v (k + 1 + j) k hlt
   have HLS := (show Hid (_ = _) from hls)
   clear hls hst
   rw [ej]
   generalize hx : v / 256 ^ k = x at *
   clear hx
   go_wp2
   go_roundw
   case rel =>
    have h := HOr.out.stored hlen.symm j (x % 256)
    have e2 := HLS.out
    rw [show k + 1 + j - k - 1 = j from by omega] at e2
    rw [e2] at h
    exact ⟨k + 1, by omega, by rw [HST.out], by go_num, h, HKr.out.setCell (.inl (Nat.le_refl _)) _⟩
   case measure => simp [intOf]
  ·obtain rfl : k = n := by omega
   have ej : ((k : Nat) : Int) - k - 1 = -1 := by omega
   have hx0 : 0 ≤ v / 256 ^ k := Int.ediv_nonneg h3 (Int.le_of_lt (Int.pow_pos (by decide)))
   have hx1 : v / 256 ^ k ≤ v := Int.ediv_le_self _ h3
   rw [ej]
   by_cases hz : v / 256 ^ k = 0
   ·have hnum : numB v k = lows v k := by unfold numB; rw [if_neg (by simp only [Int.toNat_natCast]; omega)]; simp
    have HN : Hid (numB v k = lows v k) := hnum
    rw [hz]
    clear hz hnum hx0 hx1
    go_wp2
    go_ret
    rw [HN.out, lows_length]
    refine ⟨_, _, rfl, fun b hb => ?_, ?_, HKr.out⟩
    ·simp [Value.ownBlock] at hb; omega
    ·have h := HOr.out; rw [Nat.sub_self, List.replicate_zero, List.nil_append] at h; exact h
   ·have hnum : numB v k = [] := by unfold numB; rw [if_pos (by simp only [Int.toNat_natCast]; omega)]
    have HN : Hid (numB v k = []) := hnum
    clear hnum
    generalize hx : v / 256 ^ k = x at *
    clear hx
    go_wp2
    go_ret
    rw [HN.out]
    refine ⟨some ⟨wr.heap.size, 0, none⟩, 0, rfl, fun b hb => ?_, Own.empty _ _, HKr.out.alloc _⟩
    have := HKr.out.size
    simp [Value.ownBlock] at hb; omega
theorem specPut_no (v n : Int) (w : World) (h : n < 1 ∨ 8 < n ∨ v < 0) :
  Calls Tryz.prog 20 #[.int .i64 v, .int .i64 n] w fun e w' => e = .returned (.slice (some ⟨w.heap.size, 0, none⟩) 0 0) ∧ w' = w.alloc (Obj.cells #[] 5) := by
 rcases h with h | h
 ·go_enter Tryz.func20, Tryz.ntmps20
  go_wp2
  go_ret
  exact ⟨rfl, rfl⟩
 ·by_cases h1 : n < 1
  ·go_enter Tryz.func20, Tryz.ntmps20
   go_wp2
   go_ret
   exact ⟨rfl, rfl⟩
  ·rcases h with h | h
   ·go_enter Tryz.func20, Tryz.ntmps20
    go_wp2
    go_ret
    exact ⟨rfl, rfl⟩
   ·by_cases h2 : 8 < n
    ·go_enter Tryz.func20, Tryz.ntmps20
     go_wp2
     go_ret
     exact ⟨rfl, rfl⟩
    ·go_enter Tryz.func20, Tryz.ntmps20
     go_wp2
     go_ret
     exact ⟨rfl, rfl⟩
theorem specPut_any (v n : Int) (w : World) (hi0 : IsI v) (hi1 : IsI n) :
  Calls Tryz.prog 20 #[.int .i64 v, .int .i64 n] w fun e w' => ∃ a c, e = .returned (.slice a (numB v n).length c) ∧ (∀ b, (Value.slice a (numB v n).length c).ownBlock = some b → w.heap.size ≤ b) ∧
   Own 0 5 .u8 w' (.slice a (numB v n).length c) (numB v n) ∧ Same w w' := by
 by_cases h : n < 1 ∨ 8 < n ∨ v < 0
 ·refine (specPut_no v n w h).mono ?_
  rintro e w' ⟨rfl, rfl⟩
  have e : numB v n = [] := by unfold numB; rw [if_pos (by omega)]
  rw [e]
  exact ⟨some ⟨w.heap.size, 0, none⟩, 0, rfl, fun b hb => by simp [Value.ownBlock] at hb; omega, Own.empty _ _, (Kept.refl _ _).alloc _⟩
 ·exact specPut_yes v n w hi0 (by omega) (by omega) (by omega)
theorem pow8 (n : Nat) : (2 : Int) ^ (8 * n) = 256 ^ n := by
 induction n with
 | zero => rfl
 | succ n ih => rw [Nat.mul_succ, Int.pow_add, ih, Int.pow_succ]; rfl
theorem writeNumber_any (g o n c : Nat) (t : TypeId) (xs : List Value) (v : Int) (w : World) (hb : Blk w g t xs) (ho : o + n ≤ xs.length) (h0 : 0 ≤ v) (hi : v ≤ 9223372036854775807) (hn : n ≤ 1099511627776) :
  Calls Tryz.prog 29 #[.slice (some ⟨g, o, none⟩) n c, .int .i64 v] w fun e w' => e = .returned (.tuple #[]) ∧ Blk w' g t (lay xs o (vals .u8 (lows v n))) ∧ Kept (fun b => b = g) w w' := by
 have HB := (show Hid (Blk w g t xs) from hb)
 clear hb
 go_enter Tryz.func29, Tryz.ntmps29
 go_wp2
 go_loopw [1, 4] (fun x i wr => ∃ k : Nat, k ≤ n ∧ x = .int .i64 (v / 256 ^ k) ∧ i = .int .i64 ((n : Int) - k - 1) ∧ Hid (Blk wr g t (lay xs (o + (n - k)) (vals .u8 (lows v k)))) ∧ Hid (Kept (fun b => b = g) w wr)) (fun _ i _ => (intOf i + 1).toNat)
 case atStart => exact ⟨0, Nat.zero_le _, by simp, by simp, by simpa [lows, vals, lay_nil] using HB, Kept.refl _ _⟩
 case round =>
  obtain ⟨k, hk, rfl, rfl, HBr, HKr⟩ := hrel
  by_cases hlt : k < n
  ·obtain ⟨j, rfl⟩ : ∃ j : Nat, n = k + 1 + j := ⟨n - k - 1, by omega⟩
   have ej : ((k + 1 + j : Nat) : Int) - k - 1 = j := by omega
   have el : (lay xs (o + (k + 1 + j - k)) (vals .u8 (lows v k))).length = xs.length := lay_length _ _ _ (by rw [vals_length, lows_length]; omega)
   have q2 := HBr.out.frozen (o + j)
   have q3 := HBr.out.cell (o + j)
   rw [List.getElem?_eq_getElem (by rw [el]; omega)] at q3
   have hx0 : 0 ≤ v / 256 ^ k := Int.ediv_nonneg h0 (Int.le_of_lt (Int.pow_pos (by decide)))
   have hx1 : v / 256 ^ k ≤ v := Int.ediv_le_self _ h0
   have HST : Hid (v / 256 ^ k / 256 = v / 256 ^ (k + 1)) := pow_step v k
   have HLS : Hid ((lay xs (o + j + 1) (vals .u8 (lows v k))).set (o + j) (.int .u8 (v / 256 ^ k % 256)) = lay xs (o + j) (vals .u8 (lows v (k + 1)))) := lay_set xs (o + j) _ (vals .u8 (lows v k)) (by rw [vals_length, lows_length]; omega)
   rw [ej]
   obtain ⟨z, hz⟩ : ∃ z, (lay xs (o + (k + 1 + j - k)) (vals .u8 (lows v k)))[o + j]'(by rw [el]; omega) = z := ⟨_, rfl⟩
   rw [hz] at q3
   clear hz el
   generalize hx : v / 256 ^ k = x at *
   clear hx
   go_wp2
   go_roundw
   case rel =>
    have h := HBr.out.stored (o + j) (.int .u8 (x % 256))
    rw [show o + (k + 1 + j - k) = o + j + 1 from by omega, HLS.out] at h
    refine ⟨k + 1, by omega, by rw [← HST.out], by go_num, ?_, Kept.setCell (R := fun b => b = g) HKr.out (.inr rfl) _⟩
    rw [show o + (k + 1 + j - (k + 1)) = o + j from by omega]
    exact h
   case measure => simp [intOf]
  ·obtain rfl : k = n := by omega
   have ej : ((k : Nat) : Int) - k - 1 = -1 := by omega
   rw [ej]
   generalize hx : v / 256 ^ k = x at *
   go_wp2
   go_end0
   have h := HBr.out
   rw [Nat.sub_self] at h
   exact ⟨rfl, h, HKr.out⟩
end Go.Proofs.YtdgmecmkkddpeaaGreat
