import Derived.Test.YtbbllmlokddolaaG00
import Derived.WalkKit
import Derived.OrdersHeld
import Derived.Deep.RegionHeld3
import Derived.Laws.AppendOwnNone
import Derived.Deep.AppendLies
import Derived.Deep.MidRow
import Derived.Great.BuildSlice
namespace Go.Proofs.Ytbbllmlokddolaa
open Go
section
variable {P : Program} {ops : Array Oper} {Q : Exit → Act → World → Prop} {md : Region.Mode} {S : World → Prop} {s : Nat}
def wpAnyV (P : Program) (md : Region.Mode) (ops : Array Oper) (Q : Exit → Act → World → Prop) (S : World → Prop) (s : Nat) : Nat → Array Bool → Act → World → Prop
  | 0, listed, a, w => Region.ready md ops listed = [] ∧ Q .normal a w
  | fuel + 1, listed, a, w =>
    (Region.ready md ops listed = [] → Q .normal a w) ∧
    ∀ i ∈ Region.ready md ops listed, wpOp P ops Q i (fun a' w' => (i ≠ s → S w') ∧ wpAnyV P md ops Q S s fuel (listed.setIfInBounds i true) a' w') a w
theorem wpAny_of_V : ∀ (fuel : Nat) (listed : Array Bool) (a : Act) (w : World), wpAnyV P md ops Q S s fuel listed a w → wpAny P md ops Q fuel listed a w
  | 0, _, _, _, h => h
  | fuel + 1, _, _, _, h => ⟨h.1, fun i hi => wpOp_mono (fun a' w' h' => wpAny_of_V fuel _ a' w' h'.2) (h.2 i hi)⟩
def waits (md : Region.Mode) (ops : Array Oper) (s i : Nat) : Bool :=
  match ops[s]? with
  | some o => o.after.any fun e => Region.binds md e && e.on == i
  | none => true
theorem waits_spec {i : Nat} (h : waits md ops s i = true) {os : Oper} (ho : ops[s]? = some os) (hn : ∀ e ∈ os.after, Region.binds md e = true → e.on ≠ i) : False := by
  unfold waits at h
  rw [ho] at h
  obtain ⟨e, he, hb⟩ := Array.any_eq_true'.1 h
  simp only [Bool.and_eq_true, beq_iff_eq] at hb
  exact hn e he hb.1 hb.2
theorem ready_apart {listed : Array Bool} {i j : Nat} (hi : i ∈ Region.ready md ops listed) (hj : j ∈ Region.ready md ops listed) {oj : Oper} (hoj : ops[j]? = some oj) :
    ∀ e ∈ oj.after, Region.binds md e = true → e.on ≠ i := by
  rintro e he hb rfl
  obtain ⟨_, o, ho, hall⟩ := mem_ready.1 hj
  obtain rfl : o = oj := by rw [hoj] at ho; exact (Option.some.inj ho).symm
  have hyes := hall e he hb
  have hno := (mem_ready.1 hi).1
  by_cases hl : e.on < listed.size <;> simp_all
def Loose (md : Region.Mode) (ops : Array Oper) (i : Nat) (oi : Oper) (listed : Array Bool) : Prop :=
  ∀ j oj, ops[j]? = some oj → j ≠ i → listed.getD j true = false → (∀ e ∈ oj.after, Region.binds md e = true → e.on ≠ i) → oi.apart ops oj = true
theorem Loose.on {i j : Nat} {oi : Oper} {listed : Array Bool} (h : Loose md ops i oi listed) (hj : listed.getD j true = false) : Loose md ops i oi (listed.setIfInBounds j true) := fun k ok hk hki hun hno =>
  h k ok hk hki (if e : j = k then e ▸ hj else (getD_set_ne true e) ▸ hun) hno
theorem wpAnyV_first {i : Nat} {oi : Oper} {v : Value} (hi : ops[i]? = some oi) (hsel : ∀ (j : Nat) (o : Oper) cs b, ops[j]? = some o → o.op ≠ .select cs b) (hs : waits md ops s i = true)
    (hQ : ∀ c a w, Q (.panic c) (a.put oi.dst v) w → Q (.panic c) a w) (fuel : Nat) : ∀ (listed : Array Bool) (a : Act) (w : World), Loose md ops i oi listed → i ∈ Region.ready md ops listed → YieldsIf P ops S oi v a → S w →
      wpAnyV P md ops Q S s fuel (listed.setIfInBounds i true) (a.put oi.dst v) w → wpAnyV P md ops Q S s (fuel + 1) listed a w := by
  induction fuel with
  | zero =>
    intro listed a w _ hr hy hS H
    constructor
    · intro h0; simp [h0] at hr
    · intro j hj
      by_cases e : j = i
      · exact e ▸ hy.wpOp hi hS ⟨fun _ => hS, H⟩
      · have := ready_mono hj e
        simp [H.1] at this
  | succ fuel ih =>
    intro listed a w hl hr hy hS H
    constructor
    · intro h0; simp [h0] at hr
    · intro j hj
      by_cases e : j = i
      · exact e ▸ hy.wpOp hi hS ⟨fun _ => hS, H⟩
      · obtain ⟨hun, oj, hoj, _⟩ := mem_ready.1 hj
        have hap := ready_apart hr hj hoj
        have hjs : j ≠ s := fun es => waits_spec hs (es ▸ hoj) hap
        refine wpOp_mono ?_ (wpOp_putIf hoj (hl j oj hoj e hun hap) (fun cs b => hsel i oi cs b hi) (fun cs b => hsel j oj cs b hoj) hQ hy (H.2 j (ready_mono hj e)))
        rintro a' w' ⟨hy', hS', hw'⟩
        exact ⟨hS', ih _ a' w' (hl.on hun) (ready_mono hr (Ne.symm e)) hy' (hS' hjs) (by rw [Array.setIfInBounds_comm _ _ e]; exact hw')⟩
theorem wpAnyV_take {i : Nat} {oi : Oper} {v : Value} {fuel : Nat} {listed : Array Bool} {a : Act} {w : World} (d : Option Tmp) (hi : ops[i]? = some oi) (hd : oi.dst = d)
    (hsl : Region.noSelect ops = true) (hf : Region.free md ops listed i = true) (hr : (Region.ready md ops listed).contains i = true) (hs : waits md ops s i = true)
    (hQ : ∀ c a w, Q (.panic c) (a.put d v) w → Q (.panic c) a w) (hy : YieldsIf P ops S oi v a) (hS : S w)
    (h : wpAnyV P md ops Q S s fuel (listed.setIfInBounds i true) (a.put d v) w) : wpAnyV P md ops Q S s (fuel + 1) listed a w := by
  subst hd
  exact wpAnyV_first hi (Region.noSelect_spec hsl) hs hQ fuel listed a w (Region.free_spec hi hf) (by simpa using hr) hy hS h
theorem wpAnyV_tk (i d : Nat) {oi : Oper} {v : Value} {fuel : Nat} {listed : Array Bool} {a : Act} {w : World} (hy : ∀ w, S w → (execOp a.eval oi).run P w = .ok (.value v) w) (hS : S w)
    (h : wpAnyV P md ops Q S s fuel (listed.setIfInBounds i true) (a.put (some d) v) w) (hi : ops[i]? = some oi := by rfl) (hg : Region.wanted oi (yielded ops a.tmps) = true := by rfl) (hd : oi.dst = some d := by rfl)
    (hsl : Region.noSelect ops = true := by kernel_rfl) (hf : Region.free md ops listed i = true := by kernel_rfl) (hr : (Region.ready md ops listed).contains i = true := by kernel_rfl) (hs : waits md ops s i = true := by kernel_rfl)
    (hQ : ∀ c a w, Q (.panic c) (a.put (some d) v) w → Q (.panic c) a w := by exact fun _ _ _ h => h) : wpAnyV P md ops Q S s (fuel + 1) listed a w :=
  wpAnyV_take (some d) hi hd hsl hf hr hs hQ (Or.inl ⟨hg, hy⟩) hS h
theorem sA {α : Type} {l : List α} {i : Nat} {a : α} : l.toArray.setIfInBounds i a = (l.set i a).toArray := List.setIfInBounds_toArray ..
theorem s0 {α : Type} {x : α} {xs : List α} {a : α} : (x :: xs).set 0 a = a :: xs := List.set_cons_zero
theorem sS {α : Type} {x : α} {xs : List α} {i : Nat} {a : α} : (x :: xs).set (i + 1) a = x :: xs.set i a := List.set_cons_succ
theorem tk (i d : Nat) {oi : Oper} {v : Value} {fuel : Nat} {listed : Array Bool} {a a' : Act} {w : World} (hS : S w)
    (h : wpAnyV P md ops Q S s fuel (listed.setIfInBounds i true) a' w) (hi : ops[i]? = some oi := by rfl) (hg : Region.wanted oi (yielded ops a.tmps) = true := by rfl) (hd : oi.dst = some d := by rfl)
    (hy : ∀ w, S w → (execOp a.eval oi).run P w = .ok (.value v) w := by intro w hSw; (try dsimp only at hSw); go_simp; (try with_reducible rfl))
    (hsl : Region.noSelect ops = true := by kernel_rfl) (hf : Region.free md ops listed i = true := by kernel_rfl) (hr : (Region.ready md ops listed).contains i = true := by kernel_rfl) (hs : waits md ops s i = true := by kernel_rfl)
    (hQ : ∀ c a w, Q (.panic c) (a.put (some d) v) w → Q (.panic c) a w := by exact fun _ _ _ h => h)
    (ha : a.put (some d) v = a' := by first | (simp only [Act.put, sA, s0, sS]; done) | (simp only [Act.put, sA, s0, sS]; rfl) | rfl) : wpAnyV P md ops Q S s (fuel + 1) listed a w :=
  wpAnyV_take (some d) hi hd hsl hf hr hs hQ (Or.inl ⟨hg, hy⟩) hS (ha ▸ h)
theorem tkV (i d : Nat) (v : Value) {oi : Oper} {fuel : Nat} {listed : Array Bool} {a a' : Act} {w : World} (hS : S w)
    (h : wpAnyV P md ops Q S s fuel (listed.setIfInBounds i true) a' w) (hi : ops[i]? = some oi := by rfl) (hg : Region.wanted oi (yielded ops a.tmps) = true := by rfl) (hd : oi.dst = some d := by rfl)
    (hy : ∀ w, S w → (execOp a.eval oi).run P w = .ok (.value v) w := by intro w hSw; (try dsimp only at hSw); go_simp; (try omega))
    (hsl : Region.noSelect ops = true := by kernel_rfl) (hf : Region.free md ops listed i = true := by kernel_rfl) (hr : (Region.ready md ops listed).contains i = true := by kernel_rfl) (hs : waits md ops s i = true := by kernel_rfl)
    (hQ : ∀ c a w, Q (.panic c) (a.put (some d) v) w → Q (.panic c) a w := by exact fun _ _ _ h => h)
    (ha : a.put (some d) v = a' := by first | (simp only [Act.put, sA, s0, sS]; done) | (simp only [Act.put, sA, s0, sS]; rfl) | rfl) : wpAnyV P md ops Q S s (fuel + 1) listed a w :=
  wpAnyV_take (some d) hi hd hsl hf hr hs hQ (Or.inl ⟨hg, hy⟩) hS (ha ▸ h)
theorem wpAnyV_one {i : Nat} {o : Oper} {fuel : Nat} {listed : Array Bool} {a : Act} {w : World} (hr : Region.ready md ops listed = [i]) (ho : ops[i]? = some o)
    (h : ∀ K' : Act → World → Prop, Shut (∀ a w, (i ≠ s → S w) → wpAnyV P md ops Q S s fuel (listed.setIfInBounds i true) a w → K' a w) → if Region.wanted o (yielded ops a.tmps) = true then Oper.wp P o a w K' Q else K' (a.put o.dst undef) w) :
    wpAnyV P md ops Q S s (fuel + 1) listed a w := by
  constructor
  · intro h0; simp [hr] at h0
  · intro j hj
    rw [hr] at hj
    obtain rfl : j = i := by simpa using hj
    exact wpOp_step ho (fun K' hK => h K' (fun a w hS hW => hK a w ⟨hS, hW⟩))
theorem wpAnyV_two {i j : Nat} {o o' : Oper} {fuel : Nat} {listed : Array Bool} {a : Act} {w : World} (hr : Region.ready md ops listed = [i, j]) (ho : ops[i]? = some o) (ho' : ops[j]? = some o')
    (h : ∀ K' : Act → World → Prop, Shut (∀ a w, (i ≠ s → S w) → wpAnyV P md ops Q S s fuel (listed.setIfInBounds i true) a w → K' a w) → if Region.wanted o (yielded ops a.tmps) = true then Oper.wp P o a w K' Q else K' (a.put o.dst undef) w)
    (h' : ∀ K' : Act → World → Prop, Shut (∀ a w, (j ≠ s → S w) → wpAnyV P md ops Q S s fuel (listed.setIfInBounds j true) a w → K' a w) → if Region.wanted o' (yielded ops a.tmps) = true then Oper.wp P o' a w K' Q else K' (a.put o'.dst undef) w) :
    wpAnyV P md ops Q S s (fuel + 1) listed a w := by
  constructor
  · intro h0; simp [hr] at h0
  · intro k hk
    rw [hr] at hk
    simp only [List.mem_cons, List.not_mem_nil, or_false] at hk
    rcases hk with rfl | rfl
    · exact wpOp_step ho (fun K' hK => h K' (fun a w hS hW => hK a w ⟨hS, hW⟩))
    · exact wpOp_step ho' (fun K' hK => h' K' (fun a w hS hW => hK a w ⟨hS, hW⟩))
theorem wpAnyV_done {fuel : Nat} {listed : Array Bool} {a : Act} {w : World} (hr : Region.ready md ops listed = []) (h : Q .normal a w) : wpAnyV P md ops Q S s fuel listed a w := by
  cases fuel with
  | zero => exact ⟨hr, h⟩
  | succ n => exact ⟨fun _ => h, by rw [hr]; simp⟩
theorem wp_region_V {id : Nat} {a : Act} {w : World} (S : World → Prop) (s n : Nat) (hn : ops.size = n) (hm : P.follows .mixedOrders = true) (h : wpAnyV P .any ops Q S s n (Array.replicate n false) a w.drew) : (Code.region id ops true).wp P Q a w := by
  subst hn
  exact wp_region_any hm (wpAny_of_V _ _ _ _ h)
end
end Go.Proofs.Ytbbllmlokddolaa

namespace Go.Proofs.Ytbbllmlokddolaa
set_option maxRecDepth 100000
set_option maxHeartbeats 4000000
open Go.RowKit
set_option linter.unusedVariables false
set_option linter.unusedSimpArgs false
def bad3 (f : EFrame) : Bool := if f.page = -1 then (decide (0 < f.bs.length) || f.pins != 0 || f.dirty || f.rl != 0 || f.rf) else (!inB f.page 0 15 || f.bs.length != 4096 || !inB f.pins 0 2147483647)
def bad4 (f : EFrame) : Bool := (f.dirty && !inB f.rl 1 1099511627776) || (!f.dirty && f.rl != 0)
def dupAt (ps : List EFrame) (i : Nat) : Bool := match ps[i]? with
  | some p => p.page != -1 && (ps.take i).any (fun q => p.page == q.page)
  | none => false
def dup (ps : List EFrame) : Bool := (List.range ps.length).any (dupAt ps)
def poolF (ps : List EFrame) (hand : Int) : Int :=
  if ps.length < 1 ∨ 16 < ps.length then 1 else if hand < 0 ∨ (ps.length : Int) ≤ hand then 2 else if ps.any bad3 then 3 else if ps.any bad4 then 4 else if dup ps then 5 else 0
end Go.Proofs.Ytbbllmlokddolaa

namespace Go.Proofs.Ytbbllmlokddolaa
open Go.RowKit
set_option linter.unusedVariables false
set_option linter.unusedSimpArgs false
abbrev FD := Int × List Int × Int × Bool × Int × Bool
def unref (d : FD) : FD := (d.1, d.2.1, d.2.2.1, d.2.2.2.1, d.2.2.2.2.1, false)
def clk : Nat → List FD → Nat → Option (Nat × Nat × List FD)
  | 0, _, _ => none
  | f + 1, fs, h => match fs[h]? with
    | none => none
    | some d => if 0 < d.2.2.1 then clk f fs ((h + 1) % fs.length) else if d.2.2.2.2.2 = false then some (h, (h + 1) % fs.length, fs) else clk f (fs.set h (unref d)) ((h + 1) % fs.length)
section
variable {f h : Nat} {fs : List FD} {d : FD}
theorem clk_pinned (hd : fs[h]? = some d) (hp : 0 < d.2.2.1) : clk (f + 1) fs h = clk f fs ((h + 1) % fs.length) := by
  simp only [clk, hd]
  rw [if_pos hp]
theorem clk_found (hd : fs[h]? = some d) (hp : ¬ 0 < d.2.2.1) (hr : d.2.2.2.2.2 = false) : clk (f + 1) fs h = some (h, (h + 1) % fs.length, fs) := by
  simp only [clk, hd]
  rw [if_neg hp, if_pos hr]
theorem clk_ref (hd : fs[h]? = some d) (hp : ¬ 0 < d.2.2.1) (hr : d.2.2.2.2.2 = true) : clk (f + 1) fs h = clk f (fs.set h (unref d)) ((h + 1) % fs.length) := by
  simp only [clk, hd]
  rw [if_neg hp, if_neg (by rw [hr]; simp)]
end
theorem next_at {n h i : Nat} (hi : 0 < i) : ((h + 1) % n + (i - 1)) % n = (h + i) % n := by
  rw [Nat.mod_add_mod, show h + 1 + (i - 1) = h + i from by omega]
theorem clk_second (m : Nat) : ∀ (fs : List FD) (h i : Nat) (d : FD), h < fs.length → i < m → fs[(h + i) % fs.length]? = some d → ¬ 0 < d.2.2.1 → d.2.2.2.2.2 = false → clk m fs h ≠ none := by
  induction m with
  | zero => intro fs h i d _ hi; omega
  | succ m ih =>
    intro fs h i d hh hi hd hp hr
    have hn : (h + 1) % fs.length < fs.length := Nat.mod_lt _ (by omega)
    obtain ⟨x, hx⟩ : ∃ x, fs[h]? = some x := ⟨_, List.getElem?_eq_getElem hh⟩
    by_cases hxp : 0 < x.2.2.1
    · rw [clk_pinned hx hxp]
      have hi0 : 0 < i := by
        rcases Nat.eq_zero_or_pos i with rfl | h0
        · rw [Nat.add_zero, Nat.mod_eq_of_lt hh, hx] at hd
          obtain rfl := Option.some.inj hd
          exact absurd hxp hp
        · exact h0
      exact ih fs _ (i - 1) d hn (by omega) (by rw [next_at hi0]; exact hd) hp hr
    · cases hxr : x.2.2.2.2.2 with
      | false => rw [clk_found hx hxp hxr]; simp
      | true =>
        rw [clk_ref hx hxp hxr]
        have hi0 : 0 < i := by
          rcases Nat.eq_zero_or_pos i with rfl | h0
          · rw [Nat.add_zero, Nat.mod_eq_of_lt hh, hx] at hd
            obtain rfl := Option.some.inj hd
            rw [hxr] at hr
            cases hr
          · exact h0
        by_cases he : (h + i) % fs.length = h
        · have := ih (fs.set h (unref x)) ((h + 1) % fs.length) (i - 1) (unref x) (by rw [List.length_set]; exact hn) (by omega) (by rw [List.length_set, next_at hi0, he, List.getElem?_set_self hh]) hxp rfl
          exact this
        · exact ih (fs.set h (unref x)) ((h + 1) % fs.length) (i - 1) d (by rw [List.length_set]; exact hn) (by omega) (by rw [List.length_set, next_at hi0, List.getElem?_set_ne (fun e => he e.symm)]; exact hd) hp hr
theorem clk_first (j : Nat) : ∀ (fs : List FD) (h i : Nat) (d : FD), h < fs.length → i < j → fs[(h + i) % fs.length]? = some d → ¬ 0 < d.2.2.1 → clk (j + fs.length) fs h ≠ none := by
  induction j with
  | zero => intro fs h i d _ hi; omega
  | succ j ih =>
    intro fs h i d hh hi hd hp
    have hn : (h + 1) % fs.length < fs.length := Nat.mod_lt _ (by omega)
    obtain ⟨x, hx⟩ : ∃ x, fs[h]? = some x := ⟨_, List.getElem?_eq_getElem hh⟩
    rw [show j + 1 + fs.length = (j + fs.length) + 1 from by omega]
    by_cases hxp : 0 < x.2.2.1
    · rw [clk_pinned hx hxp]
      have hi0 : 0 < i := by
        rcases Nat.eq_zero_or_pos i with rfl | h0
        · rw [Nat.add_zero, Nat.mod_eq_of_lt hh, hx] at hd
          obtain rfl := Option.some.inj hd
          exact absurd hxp hp
        · exact h0
      exact ih fs _ (i - 1) d hn (by omega) (by rw [next_at hi0]; exact hd) hp
    · cases hxr : x.2.2.2.2.2 with
      | false => rw [clk_found hx hxp hxr]; simp
      | true =>
        rw [clk_ref hx hxp hxr]
        refine clk_second _ (fs.set h (unref x)) ((h + 1) % fs.length) (fs.length - 1) (unref x) (by rw [List.length_set]; exact hn) (by omega) ?_ hxp rfl
        rw [List.length_set, Nat.mod_add_mod, show h + 1 + (fs.length - 1) = h + fs.length from by omega, Nat.add_mod_right, Nat.mod_eq_of_lt hh, List.getElem?_set_self hh]
theorem clk_some {fs : List FD} {h k : Nat} {d : FD} (hh : h < fs.length) (hk : fs[k]? = some d) (hp : ¬ 0 < d.2.2.1) : clk (fs.length + fs.length) fs h ≠ none := by
  have hkl : k < fs.length := (List.getElem?_eq_some_iff.1 hk).1
  refine clk_first fs.length fs h ((k + (fs.length - h)) % fs.length) d hh (Nat.mod_lt _ (by omega)) ?_ hp
  rw [Nat.add_mod_mod, show h + (k + (fs.length - h)) = k + fs.length from by omega, Nat.add_mod_right, Nat.mod_eq_of_lt hkl]
  exact hk
section
variable {f h : Nat} {fs : List FD} {d : FD}
end
end Go.Proofs.Ytbbllmlokddolaa

namespace Go.Proofs.Ytbbllmlokddolaa
set_option maxRecDepth 100000
set_option maxHeartbeats 4000000
open Go.RowKit
set_option linter.unusedVariables false
set_option linter.unusedSimpArgs false
def findFrom (page : Int) : Nat → List EFrame → Int
  | _, [] => -1
  | k, p :: ps => if p.page = page then (k : Int) else findFrom page (k + 1) ps
def findP (ps : List EFrame) (hand page : Int) : Int := if poolF ps hand ≠ 0 ∨ page = -1 then -1 else findFrom page 0 ps
theorem poolF_len {ps : List EFrame} {hand : Int} (h : poolF ps hand = 0) : 1 ≤ ps.length ∧ ps.length ≤ 16 ∧ 0 ≤ hand ∧ hand < (ps.length : Int) := by
  unfold poolF at h
  by_cases h1 : ps.length < 1 ∨ 16 < ps.length
  · rw [if_pos h1] at h; cases h
  rw [if_neg h1] at h
  by_cases h2 : hand < 0 ∨ (ps.length : Int) ≤ hand
  · rw [if_pos h2] at h; cases h
  omega
end Go.Proofs.Ytbbllmlokddolaa

namespace Go.Proofs.Ytbbllmlokddolaa
set_option maxRecDepth 100000
open Go.RowKit
set_option linter.unusedVariables false
set_option linter.unusedSimpArgs false
theorem any_dat {ps qs : List EFrame} (h : datFrameS qs = datFrameS ps) (f : EFrame → Bool) (hf : ∀ p q : EFrame, p.dat = q.dat → f p = f q) : qs.any f = ps.any f := by
  induction qs generalizing ps with
  | nil =>
    cases ps with
    | nil => rfl
    | cons p ps => simp [datFrameS] at h
  | cons q qs ih =>
    cases ps with
    | nil => simp [datFrameS] at h
    | cons p ps =>
      simp only [datFrameS, List.map_cons, List.cons.injEq] at h
      rw [List.any_cons, List.any_cons, hf q p h.1, ih h.2]
theorem dat_take {ps qs : List EFrame} (h : datFrameS qs = datFrameS ps) (k : Nat) : datFrameS (qs.take k) = datFrameS (ps.take k) := by
  unfold datFrameS at h ⊢
  rw [List.map_take, List.map_take, h]
theorem EFrame.dat_eq {p q : EFrame} (h : p.dat = q.dat) : p.page = q.page ∧ p.bs = q.bs ∧ p.pins = q.pins ∧ p.dirty = q.dirty ∧ p.rl = q.rl ∧ p.rf = q.rf := by
  simp only [EFrame.dat, Prod.mk.injEq] at h
  exact h
theorem dat_len {ps qs : List EFrame} (h : datFrameS qs = datFrameS ps) : qs.length = ps.length := by rw [← datFrameS_length, h, datFrameS_length]
theorem dupAt_dat {ps qs : List EFrame} (h : datFrameS qs = datFrameS ps) (i : Nat) : dupAt qs i = dupAt ps i := by
  have hl := dat_len h
  unfold dupAt
  by_cases hi : i < ps.length
  · have hi' : i < qs.length := by omega
    rw [List.getElem?_eq_getElem hi, List.getElem?_eq_getElem hi']
    dsimp only
    rw [(EFrame.dat_eq (datFrameS_at h i hi' hi)).1]
    rw [any_dat (dat_take h i) (fun q => ps[i].page == q.page) (fun p q e => by rw [(EFrame.dat_eq e).1])]
  · rw [List.getElem?_eq_none (by omega), List.getElem?_eq_none (by omega)]
theorem poolF_dat {ps qs : List EFrame} {hand : Int} (h : datFrameS qs = datFrameS ps) : poolF qs hand = poolF ps hand := by
  have hl := dat_len h
  unfold poolF
  rw [hl]
  rw [any_dat h bad3 (fun p q e => by obtain ⟨e1, e2, e3, e4, e5, e6⟩ := EFrame.dat_eq e; unfold bad3; rw [e1, e2, e3, e4, e5, e6])]
  rw [any_dat h bad4 (fun p q e => by obtain ⟨e1, e2, e3, e4, e5, e6⟩ := EFrame.dat_eq e; unfold bad4; rw [e4, e5])]
  have hd : dup qs = dup ps := by
    unfold dup
    rw [hl]
    congr 1
    funext i
    exact dupAt_dat h i
  rw [hd]
theorem findFrom_dat {page : Int} {ps qs : List EFrame} (h : datFrameS qs = datFrameS ps) (k : Nat) : findFrom page k qs = findFrom page k ps := by
  induction qs generalizing ps k with
  | nil =>
    cases ps with
    | nil => rfl
    | cons p ps => simp [datFrameS] at h
  | cons q qs ih =>
    cases ps with
    | nil => simp [datFrameS] at h
    | cons p ps =>
      simp only [datFrameS, List.map_cons, List.cons.injEq] at h
      simp only [findFrom]
      rw [(EFrame.dat_eq h.1).1, ih h.2]
end Go.Proofs.Ytbbllmlokddolaa

namespace Go.Proofs.Ytbbllmlokddolaa
set_option maxRecDepth 100000
set_option maxHeartbeats 4000000
open Go.RowKit
set_option linter.unusedVariables false
set_option linter.unusedSimpArgs false
def atP (ps : List EFrame) (hand page : Int) : Int × Int := if poolF ps hand ≠ 0 then (0, 1) else if findP ps hand page < 0 then (0, 2) else (findP ps hand page, 0)
theorem findFrom_lt {page : Int} (ps : List EFrame) (k : Nat) (h : ¬ findFrom page k ps < 0) : ∃ j : Nat, findFrom page k ps = (j : Int) ∧ k ≤ j ∧ j < k + ps.length := by
  induction ps generalizing k with
  | nil => exact absurd (show findFrom page k [] < 0 from by simp [findFrom]) h
  | cons p ps ih =>
    simp only [findFrom] at h ⊢
    by_cases hp : p.page = page
    · rw [if_pos hp]
      exact ⟨k, rfl, Nat.le_refl _, by simp⟩
    · rw [if_neg hp] at h ⊢
      obtain ⟨j, e, h1, h2⟩ := ih (k + 1) h
      exact ⟨j, e, by omega, by simp only [List.length_cons]; omega⟩
end Go.Proofs.Ytbbllmlokddolaa

namespace Go.Proofs.Ytbbllmlokddolaa
open Go.RowKit
set_option linter.unusedVariables false
set_option linter.unusedSimpArgs false
variable {E : Type}
section
variable {K : RowK E} {base : Nat} {tw tb : TypeId} {w w' : World} {v : Value} {qs : List E}
theorem OwnR.snoc {g n cap : Nat} (p : E) (h : OwnR K base tw tb w v qs) (hu : Own base tb .u8 w (K.v p) (K.bs p)) (huf : ∀ b, (K.v p).ownBlock = some b → ¬ footR K v qs b)
    (hg : w.grownBy w' v.ownBlock) (hrow : w'.ownsRow base tw K.m (.slice (some ⟨g, 0, none⟩) (n + 1) cap) (n + 1) (K.all qs ++ K.cells p)) (hn : n = qs.length) (hat : v.ownBlock = some g ∨ g = w.heap.size) :
    OwnR K base tw tb w' (.slice (some ⟨g, 0, none⟩) (n + 1) cap) (qs ++ [p]) := by
  have hk : Kept (fun b => v.ownBlock = some b) w w' := Kept.of_grown hg (fun k e => e)
  have hul : ∀ b, (K.v p).ownBlock = some b → b < w.heap.size := fun b hb => (hu.lt b hb).2
  have hgu : (K.v p).ownBlock ≠ some g := fun e => by
    rcases hat with hat | hat
    · exact huf g e (.inl hat)
    · have := hul g e; omega
  have hgp : ∀ q ∈ qs, (K.v q).ownBlock ≠ some g := fun q hp e => by
    rcases hat with hat | hat
    · exact h.out (K.v q) (List.mem_map_of_mem hp) g hat e
    · have := (h.lt g (.inr ⟨q, hp, e⟩)).2; omega
  refine ⟨?_, fun q hp => ?_, fun x hx => ?_, ?_⟩
  · have e : K.all (qs ++ [p]) = K.all qs ++ K.cells p := by rw [K.all_append]; simp [RowK.all]
    rw [e, List.length_append, List.length_singleton, ← hn]
    exact hrow
  · rcases List.mem_append.1 hp with hp | hp
    · exact (h.data q hp).kept hk (fun b hb e => h.out (K.v q) (List.mem_map_of_mem hp) b e hb)
    · simp at hp
      subst hp
      exact hu.kept hk (fun b hb e => huf b hb (.inl e))
  · rw [List.map_append, List.mem_append] at hx
    intro b hb
    have hb' : b = g := by simpa [Value.ownBlock] using hb.symm
    subst hb'
    rcases hx with hx | hx
    · obtain ⟨q, hp, rfl⟩ := List.mem_map.1 hx
      exact hgp q hp
    · simp at hx
      subst hx
      exact hgu
  · rw [List.map_append]
    refine List.pairwise_append.2 ⟨h.each, by simp, fun x hx y hy => ?_⟩
    obtain ⟨q, hp, rfl⟩ := List.mem_map.1 hx
    simp at hy
    subst hy
    exact fun b hb hb' => huf b hb' (.inr ⟨q, hp, hb⟩)
theorem footR_snoc {g n cap : Nat} {p : E} (b : Nat) (hb : footR K (.slice (some ⟨g, 0, none⟩) n cap) (qs ++ [p]) b) : b = g ∨ footR K v qs b ∨ (K.v p).ownBlock = some b := by
  rcases hb with hb | ⟨q, hp, hb⟩
  · exact .inl (by simpa [Value.ownBlock] using hb.symm)
  · rcases List.mem_append.1 hp with hp | hp
    · exact .inr (.inl (.inr ⟨q, hp, hb⟩))
    · simp at hp
      subst hp
      exact .inr (.inr hb)
theorem footR_nil (b : Nat) : ¬ footR K (.slice none 0 0) [] b := by
  rintro (h | ⟨p, hp, _⟩)
  · simp [Value.ownBlock] at h
  · simp at hp
theorem list_mid {qs : List E} {k : Nat} (h : k < qs.length) : qs = qs.take k ++ qs[k] :: qs.drop (k + 1) := by
  rw [← List.drop_eq_getElem_cons h, List.take_append_drop]
theorem set_mid {qs : List E} {k : Nat} (h : k < qs.length) (p : E) : qs.set k p = qs.take k ++ p :: qs.drop (k + 1) := List.set_eq_take_append_cons_drop.trans (if_pos h)
theorem OwnR.setAt {g n cap k : Nat} {p' : E} (h : OwnR K base tw tb w (.slice (some ⟨g, 0, none⟩) n cap) qs) (hn : n = qs.length) (hk : k < qs.length) (i : Nat) (u : Value) (hi : i < K.m)
    (hc : K.cells p' = (K.cells qs[k]).set i u) (hv : K.v p' = K.v qs[k]) (hb : K.bs p' = K.bs qs[k]) (j : Nat) (hj : j = k * K.m + i) :
    OwnR K base tw tb (w.setCell ⟨g, j, none⟩ u) (.slice (some ⟨g, 0, none⟩) n cap) (qs.set k p') := by
  have h' := h
  rw [list_mid hk] at h'
  rw [set_mid hk]
  exact OwnR.set h' (by rw [← list_mid hk]; exact hn) i u hi hc hv hb j (by rw [List.length_take, Nat.min_eq_left (Nat.le_of_lt hk)]; exact hj)
theorem footR_set {k : Nat} {p' : E} (hk : k < qs.length) (hv : K.v p' = K.v qs[k]) (b : Nat) (h : footR K v (qs.set k p') b) : footR K v qs b := by
  rcases h with h | ⟨q, hq, hb⟩
  · exact .inl h
  · rcases List.mem_or_eq_of_mem_set hq with hq | rfl
    · exact .inr ⟨q, hq, hb⟩
    · exact .inr ⟨qs[k], List.getElem_mem hk, by rw [← hv]; exact hb⟩
end
end Go.Proofs.Ytbbllmlokddolaa

namespace Go.Proofs.Ytbbllmlokddolaa
set_option maxHeartbeats 400000
open Go.RowKit
theorem l1Copy_any (v : Value) (bs : List Int) (w : World) (hn : bs.length ≤ 1099511627776) (hv : Rd .u8 w v bs) :
    Calls Try.prog 57 #[v] w fun e w' => ∃ a n c, e = .returned (.slice a n c) ∧ Own 0 5 .u8 w' (.slice a n c) bs ∧ (∀ b, (Value.slice a n c).ownBlock = some b → w.heap.size ≤ b) ∧ Same w w' := by
  obtain ⟨i0, hi, hz0, hz1, hz2⟩ := info_parts Try.infoByte'
  rcases hv.2 with ⟨rfl, a, c, rfl, hac⟩ | ⟨b, off, c, rfl, _, hc⟩
  · cases a with
    | none =>
      obtain rfl : c = 0 := hac rfl
      clear hv hn hac
      go_enter Try.func57, Try.ntmps57
      go_wp2_with (at_builtin; refine wpList_append_own_none rfl (.tmp 3) (.tmp 4) 22 rfl w.heap.size 5 i0 1 Try.underlying22 hi _ 0 [] rfl (World.ownsRow_made w #[] 0 (Nat.le_refl _) (by simp) (by simp)) rfl ?_)
      go_ret
      exact ⟨_, _, _, rfl, (World.ownsRow_made w #[] 0 (Nat.zero_le _) (by simp) (by simp)), fun b hb => by simp [Value.ownBlock] at hb; omega, (Kept.refl _ _).alloc _⟩
    | some ad =>
      clear hv hn hac
      go_enter Try.func57, Try.ntmps57
      go_wp2_with (at_builtin; refine wpList_append_own _ rfl (.tmp 3) (.tmp 4) 22 rfl w.heap.size 5 i0 (.int .u8 0) 1 1 Try.underlying22 hi hz0 hz1 hz2 rfl (by decide) (.slice (some ⟨w.heap.size, 0, none⟩) 0 0) 0 [] rfl (World.ownsRow_made w #[] 0 (Nat.le_refl _) (by simp) (by simp)) ad 0 c [] rfl rfl (fun j u h => by simp at h) (fun u h => by simp at h) (by simp) (by simp) (by simp) ?_; intro v' w1 hown1 hgrow1 _; have HF := (show Hid (Own w.heap.size 5 .u8 w1 v' []) from hown1); have HK : Hid (Same w w1) := ((Kept.refl _ _).alloc _).grown hgrow1 (fun k e => .inl (by simp [Value.ownBlock] at e; omega)); obtain ⟨aa, na, ca, rfl⟩ := slice_of_own HF.out; clear hown1 hgrow1)
      go_ret
      exact ⟨_, _, _, rfl, HF.out.mono (fun b _ => Nat.zero_le b), fun b hb => (HF.out.lt b hb).1, HK.out⟩
  · have HC : Hid (∀ i, i < bs.length → (w.alloc (.cells #[] 5)).cell? ⟨b, off + i, none⟩ = some (.int .u8 (bs.getD i 0))) := fun i hi => ((Kept.refl (fun _ => False) w).alloc _).cellOf (hc i hi) id
    clear hv hc
    go_enter Try.func57, Try.ntmps57
    go_wp2_with (at_builtin; refine wpList_append_own _ rfl (.tmp 3) (.tmp 4) 22 rfl w.heap.size 5 i0 (.int .u8 0) 1 1 Try.underlying22 hi hz0 hz1 hz2 rfl (by decide) (.slice (some ⟨w.heap.size, 0, none⟩) 0 0) 0 [] rfl (World.ownsRow_made w #[] 0 (Nat.le_refl _) (by simp) (by simp)) ⟨b, off, none⟩ bs.length c (vals .u8 bs) rfl (by simp [vals_length]) (news_of HC.out) vals_one (by unfold maxLen; omega) (by omega) (by simp) ?_; intro v' w1 hown1 hgrow1 _; have HF := (show Hid (Own w.heap.size 5 .u8 w1 v' bs) from (by simpa [Own, Hid] using hown1)); have HK : Hid (Same w w1) := ((Kept.refl _ _).alloc _).grown hgrow1 (fun k e => .inl (by simp [Value.ownBlock] at e; omega)); obtain ⟨aa, na, ca, rfl⟩ := slice_of_own HF.out; clear hown1 hgrow1)
    go_ret
    exact ⟨_, _, _, rfl, HF.out.mono (fun b _ => Nat.zero_le b), fun b hb => (HF.out.lt b hb).1, HK.out⟩
end Go.Proofs.Ytbbllmlokddolaa

namespace Go.Proofs.Ytbbllmlokddolaa
set_option maxRecDepth 100000
set_option maxHeartbeats 4000000
open Go.RowKit
set_option linter.unusedVariables false
set_option linter.unusedSimpArgs false
end Go.Proofs.Ytbbllmlokddolaa

namespace Go.Proofs.Ytbbllmlokddolaa
set_option maxRecDepth 100000
set_option maxHeartbeats 4000000
open Go.RowKit
set_option linter.unusedVariables false
set_option linter.unusedSimpArgs false
def pinsP (more : Int) (ps : List EFrame) (hand page : Int) : Int × Int × Int × List (Int × List Int × Int × Bool × Int × Bool) :=
  if (atP ps hand page).2 ≠ 0 then ((atP ps hand page).2, 0, 0, []) else
  match (datFrameS ps)[(atP ps hand page).1.toNat]? with
  | none => (0, 0, 0, [])
  | some d => if inB (d.2.2.1 + more) 0 2147483647 = false then (3, 0, 0, []) else (0, (atP ps hand page).1, hand, (datFrameS ps).set (atP ps hand page).1.toNat (d.1, d.2.1, d.2.2.1 + more, d.2.2.2.1, d.2.2.2.2.1, d.2.2.2.2.2 || decide (0 < more)))
theorem frame_of {ps : List EFrame} {hand : Int} (h : poolF ps hand = 0) : ∀ p ∈ ps, (0 ≤ p.pins ∧ p.pins ≤ 2147483647) ∧ p.bs.length ≤ 4096 := by
  obtain ⟨h1, h2, h3, h4⟩ := poolF_len h
  unfold poolF at h
  rw [if_neg (by omega), if_neg (by omega)] at h
  have hb : ps.any bad3 = false := by
    cases hx : ps.any bad3 with
    | false => rfl
    | true => rw [hx] at h; simp at h
  intro p hp
  have hq : bad3 p = false := by
    cases hx : bad3 p with
    | false => rfl
    | true => rw [List.any_eq_true.2 ⟨p, hp, hx⟩] at hb; cases hb
  unfold bad3 at hq
  by_cases hm : p.page = -1
  · rw [if_pos hm] at hq
    simp at hq
    obtain ⟨⟨⟨⟨q1, q2⟩, q3⟩, q4⟩, q5⟩ := hq
    rw [q1, q2]
    exact ⟨by omega, by simp⟩
  · rw [if_neg hm] at hq
    simp [inB] at hq
    obtain ⟨⟨_, q2⟩, q3⟩ := hq
    exact ⟨by omega, by omega⟩
end Go.Proofs.Ytbbllmlokddolaa

namespace Go.Proofs.Ytbbllmlokddolaa
set_option maxRecDepth 100000
set_option maxHeartbeats 8000000
open Go.RowKit
set_option linter.unusedVariables false
set_option linter.unusedSimpArgs false
def vicR : Option (Nat × Nat × List FD) → Int × Int × Int × List FD
  | none => (2, 0, 0, [])
  | some R => (0, (R.1 : Int), (R.2.1 : Int), R.2.2)
def victimP (ps : List EFrame) (hand : Int) : Int × Int × Int × List FD :=
  if poolF ps hand ≠ 0 then (1, 0, 0, []) else
  if findFrom (-1) 0 ps ≠ -1 then (0, findFrom (-1) 0 ps, hand, datFrameS ps) else
  vicR (clk (ps.length + ps.length) (datFrameS ps) hand.toNat)
theorem rem_nat (h n : Nat) (hn : 0 < n) : ((h : Int) + 1).tmod (n : Int) = (((h + 1) % n : Nat) : Int) := by
  rw [show (h : Int) + 1 = ((h + 1 : Nat) : Int) from by omega]
  rfl
end Go.Proofs.Ytbbllmlokddolaa

namespace Go.Proofs.Ytbbllmlokddolaa
open Go.RowKit
set_option linter.unusedVariables false
set_option linter.unusedSimpArgs false
variable {E : Type}
def ptrV (b : Nat) : Value := .pointer (some ⟨b, 0, none⟩)
structure Ptrs (K : RowK E) (te tb : TypeId) (w : World) (bl : List Nat) (ps : List E) : Prop where
  len : bl.length = ps.length
  blk : ∀ (j : Nat) (b : Nat) (p : E), bl[j]? = some b → ps[j]? = some p → Blk w b te (K.cells p)
  data : ∀ p ∈ ps, Own 0 tb .u8 w (K.v p) (K.bs p)
  one : ∀ (i j b : Nat), bl[i]? = some b → bl[j]? = some b → i = j
  apart : ∀ b ∈ bl, ∀ p ∈ ps, (K.v p).ownBlock ≠ some b
  each : ∀ (i j : Nat) (p q : E) (x : Nat), ps[i]? = some p → ps[j]? = some q → (K.v p).ownBlock = some x → (K.v q).ownBlock = some x → i = j
def footS (K : RowK E) (bl : List Nat) (ps : List E) (b : Nat) : Prop := b ∈ bl ∨ ∃ p ∈ ps, (K.v p).ownBlock = some b
section
variable {K : RowK E} {te tb : TypeId} {w w' : World} {bl : List Nat} {ps : List E}
theorem Ptrs.nil (K : RowK E) (te tb : TypeId) (w : World) : Ptrs K te tb w [] [] :=
  ⟨rfl, fun j b p h => by simp at h, fun p h => by simp at h, fun i j b h => by simp at h, fun b h => by simp at h, fun i j p q x h => by simp at h⟩
theorem Ptrs.kept {R : Nat → Prop} (h : Ptrs K te tb w bl ps) (hk : Kept R w w') (hr : ∀ b, footS K bl ps b → ¬ R b) : Ptrs K te tb w' bl ps :=
  ⟨h.len, fun j b p h1 h2 => (h.blk j b p h1 h2).kept hk (hr b (.inl (List.mem_of_getElem? h1))), fun p hp => (h.data p hp).kept hk (fun b hb => hr b (.inr ⟨p, hp, hb⟩)), h.one, h.apart, h.each⟩
theorem Ptrs.same (h : Ptrs K te tb w bl ps) (hk : Same w w') : Ptrs K te tb w' bl ps := h.kept hk (fun _ _ => id)
theorem Ptrs.lt (h : Ptrs K te tb w bl ps) (b : Nat) (hb : footS K bl ps b) : b < w.heap.size := by
  rcases hb with hb | ⟨p, hp, hb⟩
  · obtain ⟨j, hj⟩ := List.getElem?_of_mem hb
    have hl := (List.getElem?_eq_some_iff.1 hj).1
    have hl' : j < ps.length := by rw [← h.len]; exact hl
    exact (h.blk j b ps[j] hj (List.getElem?_eq_getElem hl')).lt
  · exact ((h.data p hp).lt b hb).2
theorem Ptrs.snoc {b : Nat} {p : E} (h : Ptrs K te tb w bl ps) (hb : Blk w b te (K.cells p)) (hu : Own 0 tb .u8 w (K.v p) (K.bs p)) (hf : ¬ footS K bl ps b) (huf : ∀ x, (K.v p).ownBlock = some x → ¬ footS K bl ps x ∧ x ≠ b) :
    Ptrs K te tb w (bl ++ [b]) (ps ++ [p]) := by
  have hat : ∀ {α : Type} (l : List α) (x y : α) (j : Nat), (l ++ [x])[j]? = some y → (l[j]? = some y) ∨ (j = l.length ∧ y = x) := fun {α} l x y j hj => by
    by_cases hjl : j < l.length
    · rw [List.getElem?_append_left hjl] at hj; exact .inl hj
    · rw [List.getElem?_append_right (by omega)] at hj
      have := (List.getElem?_eq_some_iff.1 hj).1
      simp at this
      have e : j = l.length := by omega
      subst e
      simp at hj
      exact .inr ⟨rfl, hj.symm⟩
  have hlt : ∀ {α : Type} {l : List α} {j : Nat} {y : α}, l[j]? = some y → j < l.length := fun {α l j y} hj => (List.getElem?_eq_some_iff.1 hj).1
  refine ⟨by simp [h.len], ?_, ?_, ?_, ?_, ?_⟩
  · intro j b' p' h1 h2
    have hlen := h.len
    rcases hat _ _ _ _ h1 with g1 | ⟨e1, rfl⟩
    · rcases hat _ _ _ _ h2 with g2 | ⟨e2, rfl⟩
      · exact h.blk j b' p' g1 g2
      · have := hlt g1; omega
    · rcases hat _ _ _ _ h2 with g2 | ⟨e2, rfl⟩
      · have := hlt g2; omega
      · exact hb
  · intro q hq
    rcases List.mem_append.1 hq with hq | hq
    · exact h.data q hq
    · simp at hq; subst hq; exact hu
  · intro i j b' h1 h2
    rcases hat _ _ _ _ h1 with g1 | ⟨e1, rfl⟩
    · rcases hat _ _ _ _ h2 with g2 | ⟨e2, rfl⟩
      · exact h.one i j b' g1 g2
      · exact absurd (.inl (List.mem_of_getElem? g1)) hf
    · rcases hat _ _ _ _ h2 with g2 | ⟨e2, _⟩
      · exact absurd (.inl (List.mem_of_getElem? g2)) hf
      · rw [e1, e2]
  · intro b' hb' q hq e
    rcases List.mem_append.1 hb' with hb' | hb'
    · rcases List.mem_append.1 hq with hq | hq
      · exact h.apart b' hb' q hq e
      · simp at hq; subst hq
        exact (huf b' e).1 (.inl hb')
    · simp at hb'; subst hb'
      rcases List.mem_append.1 hq with hq | hq
      · exact hf (.inr ⟨q, hq, e⟩)
      · simp at hq; subst hq
        exact (huf _ e).2 rfl
  · intro i j q r x h1 h2 h3 h4
    rcases hat _ _ _ _ h1 with g1 | ⟨e1, rfl⟩
    · rcases hat _ _ _ _ h2 with g2 | ⟨e2, rfl⟩
      · exact h.each i j q r x g1 g2 h3 h4
      · exact absurd (.inr ⟨q, List.mem_of_getElem? g1, h3⟩) (huf x h4).1
    · rcases hat _ _ _ _ h2 with g2 | ⟨e2, _⟩
      · exact absurd (.inr ⟨r, List.mem_of_getElem? g2, h4⟩) (huf x h3).1
      · rw [e1, e2]
theorem at_set {α : Type} {l : List α} {k j : Nat} {x y : α} (hk : k < l.length) (h : (l.set k x)[j]? = some y) : (j = k ∧ y = x) ∨ (j ≠ k ∧ l[j]? = some y) := by
  by_cases e : j = k
  · subst e
    rw [List.getElem?_set_self hk] at h
    exact .inl ⟨rfl, (Option.some.inj h).symm⟩
  · rw [List.getElem?_set_ne (by omega)] at h
    exact .inr ⟨e, h⟩
theorem Ptrs.store {k b i : Nat} {p p' : E} {u : Value} (h : Ptrs K te tb w bl ps) (hb : bl[k]? = some b) (hp : ps[k]? = some p) (hc : K.cells p' = (K.cells p).set i u)
    (hu : Own 0 tb .u8 w (K.v p') (K.bs p')) (hx : ∀ x, (K.v p').ownBlock = some x → x ∉ bl ∧ ∀ (j : Nat) (q : E), j ≠ k → ps[j]? = some q → (K.v q).ownBlock ≠ some x) :
    Ptrs K te tb (w.setCell ⟨b, i, none⟩ u) bl (ps.set k p') := by
  have hkl : k < ps.length := (List.getElem?_eq_some_iff.1 hp).1
  have hk : Kept (fun x => x = b) w (w.setCell ⟨b, i, none⟩ u) := Kept.setCell (R := fun x => x = b) (Kept.refl _ _) (p := ⟨b, i, none⟩) (.inr rfl) _
  have hbm : b ∈ bl := List.mem_of_getElem? hb
  refine ⟨by rw [List.length_set]; exact h.len, ?_, ?_, h.one, ?_, ?_⟩
  · intro j b' q h1 h2
    rcases at_set hkl h2 with ⟨rfl, rfl⟩ | ⟨hne, g2⟩
    · obtain rfl : b' = b := by rw [hb] at h1; exact (Option.some.inj h1).symm
      rw [hc]
      exact (h.blk j b' p hb hp).stored i u
    · exact (h.blk j b' q h1 g2).kept hk (fun e => hne (h.one j k b (e ▸ h1) hb))
  · intro q hq
    rcases List.mem_or_eq_of_mem_set hq with hq | rfl
    · exact (h.data q hq).kept hk (fun x hx' e => h.apart b hbm q hq (e ▸ hx'))
    · exact hu.kept hk (fun x hx' e => (hx x hx').1 (e ▸ hbm))
  · intro b' hb' q hq e
    rcases List.mem_or_eq_of_mem_set hq with hq | rfl
    · exact h.apart b' hb' q hq e
    · exact (hx b' e).1 hb'
  · intro i' j q r x h1 h2 h3 h4
    rcases at_set hkl h1 with ⟨rfl, rfl⟩ | ⟨hne, g1⟩
    · rcases at_set hkl h2 with ⟨rfl, rfl⟩ | ⟨hne2, g2⟩
      · rfl
      · exact absurd h4 ((hx x h3).2 j r hne2 g2)
    · rcases at_set hkl h2 with ⟨rfl, rfl⟩ | ⟨hne2, g2⟩
      · exact absurd h3 ((hx x h4).2 i' q hne g1)
      · exact h.each i' j q r x g1 g2 h3 h4
theorem Ptrs.storeOwn {k b i : Nat} {p p' : E} {u : Value} (h : Ptrs K te tb w bl ps) (hb : bl[k]? = some b) (hp : ps[k]? = some p) (hc : K.cells p' = (K.cells p).set i u) (hv : K.v p' = K.v p) (hs : K.bs p' = K.bs p) :
    Ptrs K te tb (w.setCell ⟨b, i, none⟩ u) bl (ps.set k p') :=
  h.store hb hp hc (by rw [hv, hs]; exact h.data p (List.mem_of_getElem? hp)) (fun x hx => by
    rw [hv] at hx
    refine ⟨fun hm => h.apart x hm p (List.mem_of_getElem? hp) hx, fun j q hne hq e => hne (h.each j k q p x hq hp e hx)⟩)
theorem Ptrs.swap {k b b' : Nat} {p' : E} (h : Ptrs K te tb w bl ps) (hb : bl[k]? = some b) (hb' : Blk w b' te (K.cells p')) (hu : Own 0 tb .u8 w (K.v p') (K.bs p')) (hf : ¬ footS K bl ps b') (huf : ∀ x, (K.v p').ownBlock = some x → ¬ footS K bl ps x ∧ x ≠ b') :
    Ptrs K te tb w (bl.set k b') (ps.set k p') := by
  have hkb : k < bl.length := (List.getElem?_eq_some_iff.1 hb).1
  have hkl : k < ps.length := by rw [← h.len]; exact hkb
  refine ⟨by rw [List.length_set, List.length_set]; exact h.len, ?_, ?_, ?_, ?_, ?_⟩
  · intro j c q h1 h2
    rcases at_set hkb h1 with ⟨rfl, rfl⟩ | ⟨hne, g1⟩
    · rcases at_set hkl h2 with ⟨_, rfl⟩ | ⟨hne, _⟩
      · exact hb'
      · exact absurd rfl hne
    · rcases at_set hkl h2 with ⟨e, _⟩ | ⟨_, g2⟩
      · exact absurd e hne
      · exact h.blk j c q g1 g2
  · intro q hq
    rcases List.mem_or_eq_of_mem_set hq with hq | rfl
    · exact h.data q hq
    · exact hu
  · intro i j c h1 h2
    rcases at_set hkb h1 with ⟨rfl, rfl⟩ | ⟨hne, g1⟩
    · rcases at_set hkb h2 with ⟨rfl, _⟩ | ⟨_, g2⟩
      · rfl
      · exact absurd (.inl (List.mem_of_getElem? g2)) hf
    · rcases at_set hkb h2 with ⟨rfl, rfl⟩ | ⟨_, g2⟩
      · exact absurd (.inl (List.mem_of_getElem? g1)) hf
      · exact h.one i j c g1 g2
  · intro c hc q hq e
    rcases List.mem_or_eq_of_mem_set hc with hc | rfl
    · rcases List.mem_or_eq_of_mem_set hq with hq | rfl
      · exact h.apart c hc q hq e
      · exact (huf c e).1 (.inl hc)
    · rcases List.mem_or_eq_of_mem_set hq with hq | rfl
      · exact hf (.inr ⟨q, hq, e⟩)
      · exact (huf _ e).2 rfl
  · intro i j q r x h1 h2 h3 h4
    rcases at_set hkl h1 with ⟨rfl, rfl⟩ | ⟨hne, g1⟩
    · rcases at_set hkl h2 with ⟨rfl, _⟩ | ⟨_, g2⟩
      · rfl
      · exact absurd (.inr ⟨r, List.mem_of_getElem? g2, h4⟩) (huf x h3).1
    · rcases at_set hkl h2 with ⟨rfl, rfl⟩ | ⟨_, g2⟩
      · exact absurd (.inr ⟨q, List.mem_of_getElem? g1, h3⟩) (huf x h4).1
      · exact h.each i j q r x g1 g2 h3 h4
theorem footS_set {k : Nat} {p p' : E} (hp : ps[k]? = some p) (hv : K.v p' = K.v p) (b : Nat) (h : footS K bl (ps.set k p') b) : footS K bl ps b := by
  rcases h with h | ⟨q, hq, hb⟩
  · exact .inl h
  · rcases List.mem_or_eq_of_mem_set hq with hq | rfl
    · exact .inr ⟨q, hq, hb⟩
    · exact .inr ⟨p, List.mem_of_getElem? hp, by rw [← hv]; exact hb⟩
end
end Go.Proofs.Ytbbllmlokddolaa

namespace Go.Proofs.Ytbbllmlokddolaa
open Go.RowKit
set_option linter.unusedSimpArgs false
section
variable {P : Program} {ops : Array Oper} {S : World → Prop} {o : Oper} {a : Act} {w : World} {K : Act → World → Prop} {Q : Exit → Act → World → Prop} {E : Prop}
theorem step_mk (hgd : o.guard = none) (x y : Operand) (t : TypeId) (hop : o.op = Op.makeSlice t x y) (base : Nat) (e : TypeId) (i : TypeInfo) (z : Value) (size : Nat) (h1 : P.underlying t = some (.slice e)) (h2 : P.info? e = some i) (h3 : i.zero = some z) (h4 : i.size = size)
    (kl kc : IntKind) (L C : Int) (l c : Nat) (hl : a.eval x = .int kl L) (hc : a.eval y = .int kc C) (hL : L = l) (hC : C = c) (hlc : l ≤ c) (b2 : i.bytes * c ≤ 281474976710656) (b3 : c ≤ maxLen) (hb : base ≤ w.heap.size)
    (h : ∀ w', w'.ownsRow base e size (.slice (some ⟨w.heap.size, 0, none⟩) l c) l ((madeCells z.cells (c * size)).toList.take (l * size)) → w.grownBy w' none → w.heap.size < w'.heap.size → K (a.put o.dst (.slice (some ⟨w.heap.size, 0, none⟩) l c)) w') :
    if Region.wanted o (yielded ops a.tmps) = true then Oper.wp P o a w K Q else E := by
  have hw : Region.wanted o (yielded ops a.tmps) = true := by simp [Region.wanted, hgd]
  rw [if_pos hw]
  subst hL hC h4
  have hb' : (i.bytes : Int) * (c : Int) ≤ 281474976710656 := by
    have : ((i.bytes * c : Nat) : Int) ≤ 281474976710656 := by omega
    rwa [Int.natCast_mul] at this
  have hrun := run_make (P := P) w t e i z h1 h2 h3 kl kc l c (by omega) (by omega) hb' (by unfold maxLen at b3; omega)
  simp only [Int.toNat_natCast] at hrun
  unfold Oper.wp
  simp [execOp, hop, hl, hc, hrun, Result.andThen]
  refine h _ ⟨?_, .inr ⟨w.heap.size, c, _, rfl, hb, heap_alloc_new w _, hlc, b3, size_madeCells _ _, rfl⟩⟩ (World.grownBy_alloc w _ none) (by simp)
  rw [List.length_take, Array.length_toList, size_madeCells]
  exact Nat.min_eq_left (Nat.mul_le_mul_right _ hlc)
end
end Go.Proofs.Ytbbllmlokddolaa

namespace Go.Proofs.Ytbbllmlokddolaa
set_option maxHeartbeats 400000
open Go.RowKit
theorem cloneS_any (v : Value) (bs : List Int) (w : World) (hn : bs.length ≤ 1099511627776) (hv : Rd .u8 w v bs) :
    Calls Try.prog 53 #[v] w fun e w' => ∃ a n c, e = .returned (.slice a n c) ∧ Own 0 5 .u8 w' (.slice a n c) bs ∧ (∀ b, (Value.slice a n c).ownBlock = some b → w.heap.size ≤ b) ∧ Same w w' := by
  obtain ⟨i0, hi, hz0, hz1, hz2⟩ := info_parts Try.infoByte'
  have hnil := fun (wx : World) (a : Option Addr) (n c : Nat) => Lib.run_eql_slice_nil (P := Try.prog) wx 22 5 a n c 0 0 Try.underlying22
  rcases hv.2 with ⟨rfl, a, c, rfl, hac⟩ | ⟨b, off, c, rfl, _, hc⟩
  · cases a with
    | none =>
      obtain rfl : c = 0 := hac rfl
      clear hv hn hac
      go_enter Try.func53, Try.ntmps53
      go_wp2
      go_ret
      exact ⟨_, _, _, rfl, Own.nil _ _ _ _, fun b hb => by simp [Value.ownBlock] at hb, Kept.refl _ _⟩
    | some ad =>
      clear hv hn hac
      go_enter Try.func53, Try.ntmps53
      go_wp2_with (at_builtin; refine wpList_append_own _ rfl (.tmp 5) (.tmp 6) 22 rfl w.heap.size 5 i0 (.int .u8 0) 1 1 Try.underlying22 hi hz0 hz1 hz2 rfl (by decide) (.slice (some ⟨w.heap.size, 0, none⟩) 0 0) 0 [] rfl (World.ownsRow_made w #[] 0 (Nat.le_refl _) (by simp) (by simp)) ad 0 c [] rfl rfl (fun j u h => by simp at h) (fun u h => by simp at h) (by simp) (by simp) (by simp) ?_; intro v' w1 hown1 hgrow1 _; have HF := (show Hid (Own w.heap.size 5 .u8 w1 v' []) from hown1); have HK : Hid (Same w w1) := ((Kept.refl _ _).alloc _).grown hgrow1 (fun k e => .inl (by simp [Value.ownBlock] at e; omega)); obtain ⟨aa, na, ca, rfl⟩ := slice_of_own HF.out; clear hown1 hgrow1)
      go_ret
      exact ⟨_, _, _, rfl, HF.out.mono (fun b _ => Nat.zero_le b), fun b hb => (HF.out.lt b hb).1, HK.out⟩
  · have HC : Hid (∀ i, i < bs.length → (w.alloc (.cells #[] 5)).cell? ⟨b, off + i, none⟩ = some (.int .u8 (bs.getD i 0))) := fun i hi => ((Kept.refl (fun _ => False) w).alloc _).cellOf (hc i hi) id
    clear hv hc
    go_enter Try.func53, Try.ntmps53
    go_wp2_with (at_builtin; refine wpList_append_own _ rfl (.tmp 5) (.tmp 6) 22 rfl w.heap.size 5 i0 (.int .u8 0) 1 1 Try.underlying22 hi hz0 hz1 hz2 rfl (by decide) (.slice (some ⟨w.heap.size, 0, none⟩) 0 0) 0 [] rfl (World.ownsRow_made w #[] 0 (Nat.le_refl _) (by simp) (by simp)) ⟨b, off, none⟩ bs.length c (vals .u8 bs) rfl (by simp [vals_length]) (news_of HC.out) vals_one (by unfold maxLen; omega) (by omega) (by simp) ?_; intro v' w1 hown1 hgrow1 _; have HF := (show Hid (Own w.heap.size 5 .u8 w1 v' bs) from (by simpa [Own, Hid] using hown1)); have HK : Hid (Same w w1) := ((Kept.refl _ _).alloc _).grown hgrow1 (fun k e => .inl (by simp [Value.ownBlock] at e; omega)); obtain ⟨aa, na, ca, rfl⟩ := slice_of_own HF.out; clear hown1 hgrow1)
    go_ret
    exact ⟨_, _, _, rfl, HF.out.mono (fun b _ => Nat.zero_le b), fun b hb => (HF.out.lt b hb).1, HK.out⟩
end Go.Proofs.Ytbbllmlokddolaa

namespace Go.Proofs.Ytbbllmlokddolaa
open Go.RowKit
set_option linter.unusedVariables false
set_option linter.unusedSimpArgs false
def isPageB (x : Int) : Bool := decide (0 ≤ x) && decide (x < 16)
set_option maxRecDepth 100000 in
theorem isPage_eq (x : Int) (w : World) : Calls Try.prog 27 #[.int .i64 x] w fun e w' => e = .returned (.bool (isPageB x)) ∧ w' = w := by
  unfold isPageB
  by_cases h : 0 ≤ x
  · by_cases h2 : x < 16
    · go_enter Try.func27, Try.ntmps27
      go_wp2
      go_ret
      exact ⟨by simp [h, h2], rfl⟩
    · go_enter Try.func27, Try.ntmps27
      go_wp2
      go_ret
      exact ⟨by simp [h]; omega, rfl⟩
  · go_enter Try.func27, Try.ntmps27
    go_wp2
    go_ret
    exact ⟨by rw [show decide (0 ≤ x) = false from by simp; omega]; rfl, rfl⟩
end Go.Proofs.Ytbbllmlokddolaa

namespace Go.Proofs.Ytbbllmlokddolaa
set_option maxRecDepth 100000
set_option maxHeartbeats 4000000
open Go.RowKit
set_option linter.unusedVariables false
set_option linter.unusedSimpArgs false
theorem lsn7_any (x : Int) (w : World) : Calls Try.prog 58 #[.int .i64 x] w fun e w' => e = .returned (.bool (inB x 0 1099511627776)) ∧ w' = w := by
  unfold inB
  by_cases h : 0 ≤ x
  · by_cases h2 : x ≤ 1099511627776
    · go_enter Try.func58, Try.ntmps58
      go_wp2
      go_ret
      exact ⟨by simp [h, h2], rfl⟩
    · go_enter Try.func58, Try.ntmps58
      go_wp2
      go_ret
      exact ⟨by simp [h]; try omega, rfl⟩
  · go_enter Try.func58, Try.ntmps58
    go_wp2
    go_ret
    exact ⟨by rw [show decide (0 ≤ x) = false from by simp; omega]; rfl, rfl⟩
theorem chLSN_any (x : Int) (w : World) : Calls Try.prog 47 #[.int .i64 x] w fun e w' => e = .returned (.bool (inB x 1 1099511627776)) ∧ w' = w := by
  have k0 := lsn7_any x
  have hx : inB x 1 1099511627776 = (inB x 0 1099511627776 && x != 0) := by
    unfold inB
    rw [Bool.eq_iff_iff]
    simp
    omega
  rw [hx]
  cases f : inB x 0 1099511627776 with
  | true =>
    rw [f] at k0
    by_cases h : x = 0
    · subst h
      go_enter Try.func47, Try.ntmps47
      go_wp2_with fail
      refine (k0 _).mono ?_
      rintro e w1 ⟨rfl, rfl⟩
      go_wp2
      go_ret
      exact ⟨rfl, rfl⟩
    · have hb : (x != 0) = true := by simp [h]
      rw [hb]
      go_enter Try.func47, Try.ntmps47
      go_wp2_with fail
      refine (k0 _).mono ?_
      rintro e w1 ⟨rfl, rfl⟩
      go_wp2
      go_ret
      exact ⟨rfl, rfl⟩
  | false =>
    rw [f] at k0
    go_enter Try.func47, Try.ntmps47
    go_wp2_with fail
    refine (k0 _).mono ?_
    rintro e w1 ⟨rfl, rfl⟩
    go_wp2
    go_ret
    exact ⟨rfl, rfl⟩
theorem wrongFrame_any (p : EFrame) (a : Option Addr) (c : Nat) (w : World) (hv : p.v = .slice a p.bs.length c) :
    Calls Try.prog 24 #[.agg #[.int .i64 p.page, p.v, .int .i64 p.pins, .bool p.dirty, .int .i64 p.rl, .bool p.rf]] w fun e w' => e = .returned (.bool (bad3 p)) ∧ Same w w' := by
  obtain ⟨B, hB⟩ : ∃ B, bad3 p = B := ⟨_, rfl⟩
  rw [hB, hv]
  unfold bad3 at hB
  obtain ⟨pg, pv, fb, pn, dt, rl, rf⟩ := p
  dsimp only at hB ⊢
  obtain ⟨n, hn⟩ : ∃ n, fb.length = n := ⟨_, rfl⟩
  rw [hn] at hB ⊢
  clear hn hv
  have HB0 := (show Hid (Blk (w.alloc (.cells #[.int .i64 pg, .slice a n c, .int .i64 pn, .bool dt, .int .i64 rl, .bool rf] 36)) w.heap.size 36 [.int .i64 pg, .slice a n c, .int .i64 pn, .bool dt, .int .i64 rl, .bool rf]) from Blk.newL w [.int .i64 pg, .slice a n c, .int .i64 pn, .bool dt, .int .i64 rl, .bool rf] 36)
  have HK0 := hid (sameA w [.int .i64 pg, .slice a n c, .int .i64 pn, .bool dt, .int .i64 rl, .bool rf] 36)
  obtain ⟨c0, c1, c2, c3, c4, c5⟩ := HB0.out.all6
  by_cases h0 : pg = -1
  · rw [if_pos h0] at hB
    subst h0
    by_cases h1 : n = 0
    · subst h1
      by_cases h2 : pn = 0
      · subst h2
        cases dt with
        | true =>
          subst hB
          go_enter Try.func24, Try.ntmps24
          go_wp2
          go_ret
          exact ⟨by simp, HK0.out⟩
        | false =>
          by_cases h4 : rl = 0
          · subst h4
            cases rf with
            | true =>
              subst hB
              go_enter Try.func24, Try.ntmps24
              go_wp2
              go_ret
              exact ⟨by simp, HK0.out⟩
            | false =>
              subst hB
              go_enter Try.func24, Try.ntmps24
              go_wp2
              go_ret
              exact ⟨by simp, HK0.out⟩
          · have q4 : (rl != 0) = true := by simp [h4]
            subst hB
            go_enter Try.func24, Try.ntmps24
            go_wp2
            go_ret
            exact ⟨by simp [h4], HK0.out⟩
      · have q2 : (pn != 0) = true := by simp [h2]
        subst hB
        go_enter Try.func24, Try.ntmps24
        go_wp2
        go_ret
        exact ⟨by simp [h2], HK0.out⟩
    · have q1 : ¬ (n : Int) = 0 := by omega
      subst hB
      go_enter Try.func24, Try.ntmps24
      go_wp2
      go_ret
      exact ⟨by simp; omega, HK0.out⟩
  · rw [if_neg h0] at hB
    have hpg : isPageB pg = inB pg 0 15 := by
      unfold isPageB inB
      rw [Bool.eq_iff_iff]
      simp
      omega
    have k0 := isPage_eq pg
    rw [hpg] at k0
    cases f : inB pg 0 15 with
    | false =>
      rw [f] at k0 hB
      simp at hB
      subst hB
      go_enter Try.func24, Try.ntmps24
      go_wp2_with fail
      refine (k0 _).mono ?_
      rintro e w1 ⟨rfl, rfl⟩
      go_wp2
      go_ret
      exact ⟨rfl, HK0.out⟩
    | true =>
      rw [f] at k0 hB
      by_cases h1 : n = 4096
      · subst h1
        by_cases h2 : pn < 0
        · have q : inB pn 0 2147483647 = false := by simp [inB]; omega
          rw [q] at hB
          subst hB
          go_enter Try.func24, Try.ntmps24
          go_wp2_with fail
          refine (k0 _).mono ?_
          rintro e w1 ⟨rfl, rfl⟩
          go_wp2
          go_ret
          exact ⟨by simp, HK0.out⟩
        · by_cases h3 : 2147483647 < pn
          · have q : inB pn 0 2147483647 = false := by simp [inB]; omega
            rw [q] at hB
            subst hB
            go_enter Try.func24, Try.ntmps24
            go_wp2_with fail
            refine (k0 _).mono ?_
            rintro e w1 ⟨rfl, rfl⟩
            go_wp2
            go_ret
            exact ⟨by simp, HK0.out⟩
          · have q : inB pn 0 2147483647 = true := by simp [inB]; omega
            rw [q] at hB
            subst hB
            go_enter Try.func24, Try.ntmps24
            go_wp2_with fail
            refine (k0 _).mono ?_
            rintro e w1 ⟨rfl, rfl⟩
            go_wp2
            go_ret
            exact ⟨by simp; omega, HK0.out⟩
      · have q1 : ¬ (n : Int) = 4096 := by omega
        have q2 : (n != 4096) = true := by simp [h1]
        rw [q2] at hB
        subst hB
        go_enter Try.func24, Try.ntmps24
        go_wp2_with fail
        refine (k0 _).mono ?_
        rintro e w1 ⟨rfl, rfl⟩
        go_wp2
        go_ret
        exact ⟨by simp, HK0.out⟩
theorem wrongRecLSN_any (p : EFrame) (a : Option Addr) (c : Nat) (w : World) (hv : p.v = .slice a p.bs.length c) :
    Calls Try.prog 25 #[.agg #[.int .i64 p.page, p.v, .int .i64 p.pins, .bool p.dirty, .int .i64 p.rl, .bool p.rf]] w fun e w' => e = .returned (.bool (bad4 p)) ∧ Same w w' := by
  obtain ⟨B, hB⟩ : ∃ B, bad4 p = B := ⟨_, rfl⟩
  rw [hB, hv]
  unfold bad4 at hB
  obtain ⟨pg, pv, fb, pn, dt, rl, rf⟩ := p
  dsimp only at hB ⊢
  obtain ⟨n, hn⟩ : ∃ n, fb.length = n := ⟨_, rfl⟩
  rw [hn]
  clear hn hv
  have HB0 := (show Hid (Blk (w.alloc (.cells #[.int .i64 pg, .slice a n c, .int .i64 pn, .bool dt, .int .i64 rl, .bool rf] 36)) w.heap.size 36 [.int .i64 pg, .slice a n c, .int .i64 pn, .bool dt, .int .i64 rl, .bool rf]) from Blk.newL w [.int .i64 pg, .slice a n c, .int .i64 pn, .bool dt, .int .i64 rl, .bool rf] 36)
  have HK0 := hid (sameA w [.int .i64 pg, .slice a n c, .int .i64 pn, .bool dt, .int .i64 rl, .bool rf] 36)
  obtain ⟨c0, c1, c2, c3, c4, c5⟩ := HB0.out.all6
  have k0 := chLSN_any rl
  cases dt with
  | true =>
    cases f : inB rl 1 1099511627776 with
    | true =>
      rw [f] at k0 hB
      subst hB
      go_enter Try.func25, Try.ntmps25
      go_wp2_with fail
      refine (k0 _).mono ?_
      rintro e w1 ⟨rfl, rfl⟩
      go_wp2
      go_ret
      exact ⟨rfl, HK0.out⟩
    | false =>
      rw [f] at k0 hB
      subst hB
      go_enter Try.func25, Try.ntmps25
      go_wp2_with fail
      refine (k0 _).mono ?_
      rintro e w1 ⟨rfl, rfl⟩
      go_wp2
      go_ret
      exact ⟨rfl, HK0.out⟩
  | false =>
    by_cases h : rl = 0
    · subst h
      subst hB
      go_enter Try.func25, Try.ntmps25
      go_wp2
      go_ret
      exact ⟨rfl, HK0.out⟩
    · have q : (rl != 0) = true := by simp [h]
      rw [q] at hB
      subst hB
      go_enter Try.func25, Try.ntmps25
      go_wp2
      go_ret
      exact ⟨rfl, HK0.out⟩
end Go.Proofs.Ytbbllmlokddolaa
