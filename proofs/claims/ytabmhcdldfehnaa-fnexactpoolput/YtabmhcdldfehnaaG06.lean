import Derived.Test.YtabmhcdldfehnaaG01
import Derived.Test.YtabmhcdldfehnaaG03
import Derived.Test.YtabmhcdldfehnaaG00
import Derived.Test.YtabmhcdldfehnaaG04
import Derived.Deep.MidRow
import Derived.Great.BuildSlice
import Derived.Laws.AppendOwnNone
import Derived.Deep.DeepCutAuto
namespace Go.Proofs.Ytabmhcdldfehnaa
open Go.RowKit
set_option linter.unusedVariables false
set_option linter.unusedSimpArgs false
variable {E : Type}
section
variable {K : RowK E} {base : Nat} {tw tb : TypeId} {w w' : World} {v : Value} {qs : List E}
theorem OwnR.snoc {g n cap : Nat} (p : E) (h : OwnR K base tw tb w v qs) (hu : Own base tb .u8 w (K.v p) (K.bs p)) (huf : ∀ b, (K.v p).ownBlock = some b → ¬ footR K v qs b)
    (hg : w.grownBy w' v.ownBlock) (hrow : w'.ownsRow base tw K.m (.slice (some ⟨g, 0, none⟩) (n + 1) cap) (n + 1) (K.all qs ++ K.cells p)) (hn : n = qs.length) (hat : v.ownBlock = some g ∨ g = w.heap.size) :
    OwnR K base tw tb w' (.slice (some ⟨g, 0, none⟩) (n + 1) cap) (qs ++ [p]) := by
  have hk : Kept (fun b => v.ownBlock = some b) w w' := Kept.of_grown hg (fun k e => e)
  have hul : ∀ b, (K.v p).ownBlock = some b → b < w.heap.size := fun b hb => (hu.lt b hb).2
  have hgu : (K.v p).ownBlock ≠ some g := fun e => by
    rcases hat with hat | hat
    · exact huf g e (.inl hat)
    · have := hul g e; omega
  have hgp : ∀ q ∈ qs, (K.v q).ownBlock ≠ some g := fun q hp e => by
    rcases hat with hat | hat
    · exact h.out (K.v q) (List.mem_map_of_mem hp) g hat e
    · have := (h.lt g (.inr ⟨q, hp, e⟩)).2; omega
  refine ⟨?_, fun q hp => ?_, fun x hx => ?_, ?_⟩
  · have e : K.all (qs ++ [p]) = K.all qs ++ K.cells p := by rw [K.all_append]; simp [RowK.all]
    rw [e, List.length_append, List.length_singleton, ← hn]
    exact hrow
  · rcases List.mem_append.1 hp with hp | hp
    · exact (h.data q hp).kept hk (fun b hb e => h.out (K.v q) (List.mem_map_of_mem hp) b e hb)
    · simp at hp
      subst hp
      exact hu.kept hk (fun b hb e => huf b hb (.inl e))
  · rw [List.map_append, List.mem_append] at hx
    intro b hb
    have hb' : b = g := by simpa [Value.ownBlock] using hb.symm
    subst hb'
    rcases hx with hx | hx
    · obtain ⟨q, hp, rfl⟩ := List.mem_map.1 hx
      exact hgp q hp
    · simp at hx
      subst hx
      exact hgu
  · rw [List.map_append]
    refine List.pairwise_append.2 ⟨h.each, by simp, fun x hx y hy => ?_⟩
    obtain ⟨q, hp, rfl⟩ := List.mem_map.1 hx
    simp at hy
    subst hy
    exact fun b hb hb' => huf b hb' (.inr ⟨q, hp, hb⟩)
theorem footR_snoc {g n cap : Nat} {p : E} (b : Nat) (hb : footR K (.slice (some ⟨g, 0, none⟩) n cap) (qs ++ [p]) b) : b = g ∨ footR K v qs b ∨ (K.v p).ownBlock = some b := by
  rcases hb with hb | ⟨q, hp, hb⟩
  · exact .inl (by simpa [Value.ownBlock] using hb.symm)
  · rcases List.mem_append.1 hp with hp | hp
    · exact .inr (.inl (.inr ⟨q, hp, hb⟩))
    · simp at hp
      subst hp
      exact .inr (.inr hb)
theorem footR_nil (b : Nat) : ¬ footR K (.slice none 0 0) [] b := by
  rintro (h | ⟨p, hp, _⟩)
  · simp [Value.ownBlock] at h
  · simp at hp
theorem list_mid {qs : List E} {k : Nat} (h : k < qs.length) : qs = qs.take k ++ qs[k] :: qs.drop (k + 1) := by
  rw [← List.drop_eq_getElem_cons h, List.take_append_drop]
theorem set_mid {qs : List E} {k : Nat} (h : k < qs.length) (p : E) : qs.set k p = qs.take k ++ p :: qs.drop (k + 1) := List.set_eq_take_append_cons_drop.trans (if_pos h)
theorem OwnR.setAt {g n cap k : Nat} {p' : E} (h : OwnR K base tw tb w (.slice (some ⟨g, 0, none⟩) n cap) qs) (hn : n = qs.length) (hk : k < qs.length) (i : Nat) (u : Value) (hi : i < K.m)
    (hc : K.cells p' = (K.cells qs[k]).set i u) (hv : K.v p' = K.v qs[k]) (hb : K.bs p' = K.bs qs[k]) (j : Nat) (hj : j = k * K.m + i) :
    OwnR K base tw tb (w.setCell ⟨g, j, none⟩ u) (.slice (some ⟨g, 0, none⟩) n cap) (qs.set k p') := by
  have h' := h
  rw [list_mid hk] at h'
  rw [set_mid hk]
  exact OwnR.set h' (by rw [← list_mid hk]; exact hn) i u hi hc hv hb j (by rw [List.length_take, Nat.min_eq_left (Nat.le_of_lt hk)]; exact hj)
theorem footR_set {k : Nat} {p' : E} (hk : k < qs.length) (hv : K.v p' = K.v qs[k]) (b : Nat) (h : footR K v (qs.set k p') b) : footR K v qs b := by
  rcases h with h | ⟨q, hq, hb⟩
  · exact .inl h
  · rcases List.mem_or_eq_of_mem_set hq with hq | rfl
    · exact .inr ⟨q, hq, hb⟩
    · exact .inr ⟨qs[k], List.getElem_mem hk, by rw [← hv]; exact hb⟩
end
end Go.Proofs.Ytabmhcdldfehnaa

namespace Go.Proofs.Ytabmhcdldfehnaa
open Go.RowKit
set_option linter.unusedVariables false
set_option linter.unusedSimpArgs false
variable {E : Type}
def ptrV (b : Nat) : Value := .pointer (some ⟨b, 0, none⟩)
structure Ptrs (K : RowK E) (te tb : TypeId) (w : World) (bl : List Nat) (ps : List E) : Prop where
  len : bl.length = ps.length
  blk : ∀ (j : Nat) (b : Nat) (p : E), bl[j]? = some b → ps[j]? = some p → Blk w b te (K.cells p)
  data : ∀ p ∈ ps, Own 0 tb .u8 w (K.v p) (K.bs p)
  one : ∀ (i j b : Nat), bl[i]? = some b → bl[j]? = some b → i = j
  apart : ∀ b ∈ bl, ∀ p ∈ ps, (K.v p).ownBlock ≠ some b
  each : ∀ (i j : Nat) (p q : E) (x : Nat), ps[i]? = some p → ps[j]? = some q → (K.v p).ownBlock = some x → (K.v q).ownBlock = some x → i = j
def footS (K : RowK E) (bl : List Nat) (ps : List E) (b : Nat) : Prop := b ∈ bl ∨ ∃ p ∈ ps, (K.v p).ownBlock = some b
section
variable {K : RowK E} {te tb : TypeId} {w w' : World} {bl : List Nat} {ps : List E}
theorem Ptrs.nil (K : RowK E) (te tb : TypeId) (w : World) : Ptrs K te tb w [] [] :=
  ⟨rfl, fun j b p h => by simp at h, fun p h => by simp at h, fun i j b h => by simp at h, fun b h => by simp at h, fun i j p q x h => by simp at h⟩
theorem Ptrs.kept {R : Nat → Prop} (h : Ptrs K te tb w bl ps) (hk : Kept R w w') (hr : ∀ b, footS K bl ps b → ¬ R b) : Ptrs K te tb w' bl ps :=
  ⟨h.len, fun j b p h1 h2 => (h.blk j b p h1 h2).kept hk (hr b (.inl (List.mem_of_getElem? h1))), fun p hp => (h.data p hp).kept hk (fun b hb => hr b (.inr ⟨p, hp, hb⟩)), h.one, h.apart, h.each⟩
theorem Ptrs.same (h : Ptrs K te tb w bl ps) (hk : Same w w') : Ptrs K te tb w' bl ps := h.kept hk (fun _ _ => id)
theorem Ptrs.lt (h : Ptrs K te tb w bl ps) (b : Nat) (hb : footS K bl ps b) : b < w.heap.size := by
  rcases hb with hb | ⟨p, hp, hb⟩
  · obtain ⟨j, hj⟩ := List.getElem?_of_mem hb
    have hl := (List.getElem?_eq_some_iff.1 hj).1
    have hl' : j < ps.length := by rw [← h.len]; exact hl
    exact (h.blk j b ps[j] hj (List.getElem?_eq_getElem hl')).lt
  · exact ((h.data p hp).lt b hb).2
theorem Ptrs.snoc {b : Nat} {p : E} (h : Ptrs K te tb w bl ps) (hb : Blk w b te (K.cells p)) (hu : Own 0 tb .u8 w (K.v p) (K.bs p)) (hf : ¬ footS K bl ps b) (huf : ∀ x, (K.v p).ownBlock = some x → ¬ footS K bl ps x ∧ x ≠ b) :
    Ptrs K te tb w (bl ++ [b]) (ps ++ [p]) := by
  have hat : ∀ {α : Type} (l : List α) (x y : α) (j : Nat), (l ++ [x])[j]? = some y → (l[j]? = some y) ∨ (j = l.length ∧ y = x) := fun {α} l x y j hj => by
    by_cases hjl : j < l.length
    · rw [List.getElem?_append_left hjl] at hj; exact .inl hj
    · rw [List.getElem?_append_right (by omega)] at hj
      have := (List.getElem?_eq_some_iff.1 hj).1
      simp at this
      have e : j = l.length := by omega
      subst e
      simp at hj
      exact .inr ⟨rfl, hj.symm⟩
  have hlt : ∀ {α : Type} {l : List α} {j : Nat} {y : α}, l[j]? = some y → j < l.length := fun {α l j y} hj => (List.getElem?_eq_some_iff.1 hj).1
  refine ⟨by simp [h.len], ?_, ?_, ?_, ?_, ?_⟩
  · intro j b' p' h1 h2
    have hlen := h.len
    rcases hat _ _ _ _ h1 with g1 | ⟨e1, rfl⟩
    · rcases hat _ _ _ _ h2 with g2 | ⟨e2, rfl⟩
      · exact h.blk j b' p' g1 g2
      · have := hlt g1; omega
    · rcases hat _ _ _ _ h2 with g2 | ⟨e2, rfl⟩
      · have := hlt g2; omega
      · exact hb
  · intro q hq
    rcases List.mem_append.1 hq with hq | hq
    · exact h.data q hq
    · simp at hq; subst hq; exact hu
  · intro i j b' h1 h2
    rcases hat _ _ _ _ h1 with g1 | ⟨e1, rfl⟩
    · rcases hat _ _ _ _ h2 with g2 | ⟨e2, rfl⟩
      · exact h.one i j b' g1 g2
      · exact absurd (.inl (List.mem_of_getElem? g1)) hf
    · rcases hat _ _ _ _ h2 with g2 | ⟨e2, _⟩
      · exact absurd (.inl (List.mem_of_getElem? g2)) hf
      · rw [e1, e2]
  · intro b' hb' q hq e
    rcases List.mem_append.1 hb' with hb' | hb'
    · rcases List.mem_append.1 hq with hq | hq
      · exact h.apart b' hb' q hq e
      · simp at hq; subst hq
        exact (huf b' e).1 (.inl hb')
    · simp at hb'; subst hb'
      rcases List.mem_append.1 hq with hq | hq
      · exact hf (.inr ⟨q, hq, e⟩)
      · simp at hq; subst hq
        exact (huf _ e).2 rfl
  · intro i j q r x h1 h2 h3 h4
    rcases hat _ _ _ _ h1 with g1 | ⟨e1, rfl⟩
    · rcases hat _ _ _ _ h2 with g2 | ⟨e2, rfl⟩
      · exact h.each i j q r x g1 g2 h3 h4
      · exact absurd (.inr ⟨q, List.mem_of_getElem? g1, h3⟩) (huf x h4).1
    · rcases hat _ _ _ _ h2 with g2 | ⟨e2, _⟩
      · exact absurd (.inr ⟨r, List.mem_of_getElem? g2, h4⟩) (huf x h3).1
      · rw [e1, e2]
theorem at_set {α : Type} {l : List α} {k j : Nat} {x y : α} (hk : k < l.length) (h : (l.set k x)[j]? = some y) : (j = k ∧ y = x) ∨ (j ≠ k ∧ l[j]? = some y) := by
  by_cases e : j = k
  · subst e
    rw [List.getElem?_set_self hk] at h
    exact .inl ⟨rfl, (Option.some.inj h).symm⟩
  · rw [List.getElem?_set_ne (by omega)] at h
    exact .inr ⟨e, h⟩
theorem Ptrs.store {k b i : Nat} {p p' : E} {u : Value} (h : Ptrs K te tb w bl ps) (hb : bl[k]? = some b) (hp : ps[k]? = some p) (hc : K.cells p' = (K.cells p).set i u)
    (hu : Own 0 tb .u8 w (K.v p') (K.bs p')) (hx : ∀ x, (K.v p').ownBlock = some x → x ∉ bl ∧ ∀ (j : Nat) (q : E), j ≠ k → ps[j]? = some q → (K.v q).ownBlock ≠ some x) :
    Ptrs K te tb (w.setCell ⟨b, i, none⟩ u) bl (ps.set k p') := by
  have hkl : k < ps.length := (List.getElem?_eq_some_iff.1 hp).1
  have hk : Kept (fun x => x = b) w (w.setCell ⟨b, i, none⟩ u) := Kept.setCell (R := fun x => x = b) (Kept.refl _ _) (p := ⟨b, i, none⟩) (.inr rfl) _
  have hbm : b ∈ bl := List.mem_of_getElem? hb
  refine ⟨by rw [List.length_set]; exact h.len, ?_, ?_, h.one, ?_, ?_⟩
  · intro j b' q h1 h2
    rcases at_set hkl h2 with ⟨rfl, rfl⟩ | ⟨hne, g2⟩
    · obtain rfl : b' = b := by rw [hb] at h1; exact (Option.some.inj h1).symm
      rw [hc]
      exact (h.blk j b' p hb hp).stored i u
    · exact (h.blk j b' q h1 g2).kept hk (fun e => hne (h.one j k b (e ▸ h1) hb))
  · intro q hq
    rcases List.mem_or_eq_of_mem_set hq with hq | rfl
    · exact (h.data q hq).kept hk (fun x hx' e => h.apart b hbm q hq (e ▸ hx'))
    · exact hu.kept hk (fun x hx' e => (hx x hx').1 (e ▸ hbm))
  · intro b' hb' q hq e
    rcases List.mem_or_eq_of_mem_set hq with hq | rfl
    · exact h.apart b' hb' q hq e
    · exact (hx b' e).1 hb'
  · intro i' j q r x h1 h2 h3 h4
    rcases at_set hkl h1 with ⟨rfl, rfl⟩ | ⟨hne, g1⟩
    · rcases at_set hkl h2 with ⟨rfl, rfl⟩ | ⟨hne2, g2⟩
      · rfl
      · exact absurd h4 ((hx x h3).2 j r hne2 g2)
    · rcases at_set hkl h2 with ⟨rfl, rfl⟩ | ⟨hne2, g2⟩
      · exact absurd h3 ((hx x h4).2 i' q hne g1)
      · exact h.each i' j q r x g1 g2 h3 h4
theorem Ptrs.storeOwn {k b i : Nat} {p p' : E} {u : Value} (h : Ptrs K te tb w bl ps) (hb : bl[k]? = some b) (hp : ps[k]? = some p) (hc : K.cells p' = (K.cells p).set i u) (hv : K.v p' = K.v p) (hs : K.bs p' = K.bs p) :
    Ptrs K te tb (w.setCell ⟨b, i, none⟩ u) bl (ps.set k p') :=
  h.store hb hp hc (by rw [hv, hs]; exact h.data p (List.mem_of_getElem? hp)) (fun x hx => by
    rw [hv] at hx
    refine ⟨fun hm => h.apart x hm p (List.mem_of_getElem? hp) hx, fun j q hne hq e => hne (h.each j k q p x hq hp e hx)⟩)
theorem Ptrs.swap {k b b' : Nat} {p' : E} (h : Ptrs K te tb w bl ps) (hb : bl[k]? = some b) (hb' : Blk w b' te (K.cells p')) (hu : Own 0 tb .u8 w (K.v p') (K.bs p')) (hf : ¬ footS K bl ps b') (huf : ∀ x, (K.v p').ownBlock = some x → ¬ footS K bl ps x ∧ x ≠ b') :
    Ptrs K te tb w (bl.set k b') (ps.set k p') := by
  have hkb : k < bl.length := (List.getElem?_eq_some_iff.1 hb).1
  have hkl : k < ps.length := by rw [← h.len]; exact hkb
  refine ⟨by rw [List.length_set, List.length_set]; exact h.len, ?_, ?_, ?_, ?_, ?_⟩
  · intro j c q h1 h2
    rcases at_set hkb h1 with ⟨rfl, rfl⟩ | ⟨hne, g1⟩
    · rcases at_set hkl h2 with ⟨_, rfl⟩ | ⟨hne, _⟩
      · exact hb'
      · exact absurd rfl hne
    · rcases at_set hkl h2 with ⟨e, _⟩ | ⟨_, g2⟩
      · exact absurd e hne
      · exact h.blk j c q g1 g2
  · intro q hq
    rcases List.mem_or_eq_of_mem_set hq with hq | rfl
    · exact h.data q hq
    · exact hu
  · intro i j c h1 h2
    rcases at_set hkb h1 with ⟨rfl, rfl⟩ | ⟨hne, g1⟩
    · rcases at_set hkb h2 with ⟨rfl, _⟩ | ⟨_, g2⟩
      · rfl
      · exact absurd (.inl (List.mem_of_getElem? g2)) hf
    · rcases at_set hkb h2 with ⟨rfl, rfl⟩ | ⟨_, g2⟩
      · exact absurd (.inl (List.mem_of_getElem? g1)) hf
      · exact h.one i j c g1 g2
  · intro c hc q hq e
    rcases List.mem_or_eq_of_mem_set hc with hc | rfl
    · rcases List.mem_or_eq_of_mem_set hq with hq | rfl
      · exact h.apart c hc q hq e
      · exact (huf c e).1 (.inl hc)
    · rcases List.mem_or_eq_of_mem_set hq with hq | rfl
      · exact hf (.inr ⟨q, hq, e⟩)
      · exact (huf _ e).2 rfl
  · intro i j q r x h1 h2 h3 h4
    rcases at_set hkl h1 with ⟨rfl, rfl⟩ | ⟨hne, g1⟩
    · rcases at_set hkl h2 with ⟨rfl, _⟩ | ⟨_, g2⟩
      · rfl
      · exact absurd (.inr ⟨r, List.mem_of_getElem? g2, h4⟩) (huf x h3).1
    · rcases at_set hkl h2 with ⟨rfl, rfl⟩ | ⟨_, g2⟩
      · exact absurd (.inr ⟨q, List.mem_of_getElem? g1, h3⟩) (huf x h4).1
      · exact h.each i j q r x g1 g2 h3 h4
theorem footS_set {k : Nat} {p p' : E} (hp : ps[k]? = some p) (hv : K.v p' = K.v p) (b : Nat) (h : footS K bl (ps.set k p') b) : footS K bl ps b := by
  rcases h with h | ⟨q, hq, hb⟩
  · exact .inl h
  · rcases List.mem_or_eq_of_mem_set hq with hq | rfl
    · exact .inr ⟨q, hq, hb⟩
    · exact .inr ⟨p, List.mem_of_getElem? hp, by rw [← hv]; exact hb⟩
end
end Go.Proofs.Ytabmhcdldfehnaa

namespace Go.Proofs.Ytabmhcdldfehnaa
open Go.RowKit
set_option linter.unusedSimpArgs false
section
variable {P : Program} {ops : Array Oper} {S : World → Prop} {o : Oper} {a : Act} {w : World} {K : Act → World → Prop} {Q : Exit → Act → World → Prop} {E : Prop}
theorem step_mk (hgd : o.guard = none) (x y : Operand) (t : TypeId) (hop : o.op = Op.makeSlice t x y) (base : Nat) (e : TypeId) (i : TypeInfo) (z : Value) (size : Nat) (h1 : P.underlying t = some (.slice e)) (h2 : P.info? e = some i) (h3 : i.zero = some z) (h4 : i.size = size)
    (kl kc : IntKind) (L C : Int) (l c : Nat) (hl : a.eval x = .int kl L) (hc : a.eval y = .int kc C) (hL : L = l) (hC : C = c) (hlc : l ≤ c) (b2 : i.bytes * c ≤ 281474976710656) (b3 : c ≤ maxLen) (hb : base ≤ w.heap.size)
    (h : ∀ w', w'.ownsRow base e size (.slice (some ⟨w.heap.size, 0, none⟩) l c) l ((madeCells z.cells (c * size)).toList.take (l * size)) → w.grownBy w' none → w.heap.size < w'.heap.size → K (a.put o.dst (.slice (some ⟨w.heap.size, 0, none⟩) l c)) w') :
    if Region.wanted o (yielded ops a.tmps) = true then Oper.wp P o a w K Q else E := by
  have hw : Region.wanted o (yielded ops a.tmps) = true := by simp [Region.wanted, hgd]
  rw [if_pos hw]
  subst hL hC h4
  have hb' : (i.bytes : Int) * (c : Int) ≤ 281474976710656 := by
    have : ((i.bytes * c : Nat) : Int) ≤ 281474976710656 := by omega
    rwa [Int.natCast_mul] at this
  have hrun := run_make (P := P) w t e i z h1 h2 h3 kl kc l c (by omega) (by omega) hb' (by unfold maxLen at b3; omega)
  simp only [Int.toNat_natCast] at hrun
  unfold Oper.wp
  simp [execOp, hop, hl, hc, hrun, Result.andThen]
  refine h _ ⟨?_, .inr ⟨w.heap.size, c, _, rfl, hb, heap_alloc_new w _, hlc, b3, size_madeCells _ _, rfl⟩⟩ (World.grownBy_alloc w _ none) (by simp)
  rw [List.length_take, Array.length_toList, size_madeCells]
  exact Nat.min_eq_left (Nat.mul_le_mul_right _ hlc)
end
end Go.Proofs.Ytabmhcdldfehnaa

namespace Go.Proofs.Ytabmhcdldfehnaa
set_option maxHeartbeats 400000
open Go.RowKit
theorem cloneS_any (v : Value) (bs : List Int) (w : World) (hn : bs.length ≤ 1099511627776) (hv : Rd .u8 w v bs) :
    Calls Try.prog 64 #[v] w fun e w' => ∃ a n c, e = .returned (.slice a n c) ∧ Own 0 5 .u8 w' (.slice a n c) bs ∧ (∀ b, (Value.slice a n c).ownBlock = some b → w.heap.size ≤ b) ∧ Same w w' := by
  obtain ⟨i0, hi, hz0, hz1, hz2⟩ := info_parts Try.infoByte'
  have hnil := fun (wx : World) (a : Option Addr) (n c : Nat) => Lib.run_eql_slice_nil (P := Try.prog) wx 35 5 a n c 0 0 Try.underlying35
  rcases hv.2 with ⟨rfl, a, c, rfl, hac⟩ | ⟨b, off, c, rfl, _, hc⟩
  · cases a with
    | none =>
      obtain rfl : c = 0 := hac rfl
      clear hv hn hac
      go_enter Try.func64, Try.ntmps64
      go_wp2
      go_ret
      exact ⟨_, _, _, rfl, Own.nil _ _ _ _, fun b hb => by simp [Value.ownBlock] at hb, Kept.refl _ _⟩
    | some ad =>
      clear hv hn hac
      go_enter Try.func64, Try.ntmps64
      go_wp2_with (at_builtin; refine wpList_append_own _ rfl (.tmp 5) (.tmp 6) 35 rfl w.heap.size 5 i0 (.int .u8 0) 1 1 Try.underlying35 hi hz0 hz1 hz2 rfl (by decide) (.slice (some ⟨w.heap.size, 0, none⟩) 0 0) 0 [] rfl (World.ownsRow_made w #[] 0 (Nat.le_refl _) (by simp) (by simp)) ad 0 c [] rfl rfl (fun j u h => by simp at h) (fun u h => by simp at h) (by simp) (by simp) (by simp) ?_; intro v' w1 hown1 hgrow1 _; have HF := (show Hid (Own w.heap.size 5 .u8 w1 v' []) from hown1); have HK : Hid (Same w w1) := ((Kept.refl _ _).alloc _).grown hgrow1 (fun k e => .inl (by simp [Value.ownBlock] at e; omega)); obtain ⟨aa, na, ca, rfl⟩ := slice_of_own HF.out; clear hown1 hgrow1)
      go_ret
      exact ⟨_, _, _, rfl, HF.out.mono (fun b _ => Nat.zero_le b), fun b hb => (HF.out.lt b hb).1, HK.out⟩
  · have HC : Hid (∀ i, i < bs.length → (w.alloc (.cells #[] 5)).cell? ⟨b, off + i, none⟩ = some (.int .u8 (bs.getD i 0))) := fun i hi => ((Kept.refl (fun _ => False) w).alloc _).cellOf (hc i hi) id
    clear hv hc
    go_enter Try.func64, Try.ntmps64
    go_wp2_with (at_builtin; refine wpList_append_own _ rfl (.tmp 5) (.tmp 6) 35 rfl w.heap.size 5 i0 (.int .u8 0) 1 1 Try.underlying35 hi hz0 hz1 hz2 rfl (by decide) (.slice (some ⟨w.heap.size, 0, none⟩) 0 0) 0 [] rfl (World.ownsRow_made w #[] 0 (Nat.le_refl _) (by simp) (by simp)) ⟨b, off, none⟩ bs.length c (vals .u8 bs) rfl (by simp [vals_length]) (news_of HC.out) vals_one (by unfold maxLen; omega) (by omega) (by simp) ?_; intro v' w1 hown1 hgrow1 _; have HF := (show Hid (Own w.heap.size 5 .u8 w1 v' bs) from (by simpa [Own, Hid] using hown1)); have HK : Hid (Same w w1) := ((Kept.refl _ _).alloc _).grown hgrow1 (fun k e => .inl (by simp [Value.ownBlock] at e; omega)); obtain ⟨aa, na, ca, rfl⟩ := slice_of_own HF.out; clear hown1 hgrow1)
    go_ret
    exact ⟨_, _, _, rfl, HF.out.mono (fun b _ => Nat.zero_le b), fun b hb => (HF.out.lt b hb).1, HK.out⟩
end Go.Proofs.Ytabmhcdldfehnaa

namespace Go.Proofs.Ytabmhcdldfehnaa
set_option maxRecDepth 100000
set_option maxHeartbeats 8000000
open Go.RowKit
set_option linter.unusedVariables false
set_option linter.unusedSimpArgs false
theorem Try.infoPtrF : (Try.prog.info? 83).map (fun i => (i.zero, i.size, i.bytes)) = some (some (.pointer none), 1, 8) := by kernel_rfl
theorem made_ptrs (n : Nat) : (madeCells (Value.pointer none).cells (n * 1)).toList.take (n * 1) = List.replicate n (.pointer none) := by
  apply List.ext_getElem?
  intro j
  by_cases hj : j < n
  · rw [List.getElem?_take_of_lt (by omega)]
    simp [madeCells, hj, Value.cells, Nat.mod_one]
  · rw [List.getElem?_eq_none (by simp [madeCells]; omega), List.getElem?_eq_none (by simp; omega)]
structure FP (w : World) (P : Nat) (hand : Int) (g n cap : Nat) (bl : List Nat) (ps : List EFrame) : Prop where
  top : Blk w P 82 [.slice (some ⟨g, 0, none⟩) n cap, .int .i64 hand]
  len : n = ps.length
  row : w.ownsRow 0 83 1 (.slice (some ⟨g, 0, none⟩) n cap) n (bl.map ptrV)
  ptr : Ptrs kFrame 51 5 w bl ps
  pg : P ≠ g
  outP : ¬ footS kFrame bl ps P
  outg : ¬ footS kFrame bl ps g
def footFP (P g : Nat) (bl : List Nat) (ps : List EFrame) (b : Nat) : Prop := b = P ∨ b = g ∨ footS kFrame bl ps b
theorem ptrs_step (bl : List Nat) (n k b : Nat) (hk : k < n) (hl : bl.length = k) : (bl.map ptrV ++ List.replicate (n - k) (Value.pointer none)).set k (ptrV b) = (bl ++ [b]).map ptrV ++ List.replicate (n - (k + 1)) (Value.pointer none) := by
  rw [List.set_append_right (h := by simp [hl]), List.length_map, hl, Nat.sub_self, show n - k = (n - (k + 1)) + 1 from by omega, List.replicate_succ, List.set_cons_zero]
  simp
theorem openPool_any (v : Value) (hand : Int) (ps : List EFrame) (w : World) (hv : RdR kFrame w v ps) (hl0 : 1 ≤ ps.length) (hl16 : ps.length ≤ 16) (hsm : ∀ p ∈ ps, p.bs.length ≤ 1099511627776) :
    Calls Try.prog 61 #[.agg #[v, .int .i64 hand]] w fun e w' => ∃ P g n cap bl qs, e = .returned (.pointer (some ⟨P, 0, none⟩)) ∧ datFrameS qs = datFrameS ps ∧ FP w' P hand g n cap bl qs ∧ (∀ b, footFP P g bl qs b → w.heap.size ≤ b) ∧ Same w w' := by
  obtain ⟨i0, hi, hz0, hz1, hz2⟩ := info_parts Try.infoPtrF
  rcases hv.row with ⟨hps, _⟩ | ⟨b, off, c, rfl, hc⟩
  · rw [hps] at hl0; simp at hl0
  have HV := (show Hid (RdR kFrame w (.slice (some ⟨b, off, none⟩) ps.length c) ps) from hv)
  have HC : Hid (∀ j i, (h : j < ps.length) → i < 6 → w.cell? ⟨b, off + (j * 6 + i), none⟩ = (kFrame.cells ps[j])[i]?) := hc
  have HS : Hid (∀ p ∈ ps, p.bs.length ≤ 1099511627776) := hsm
  clear hv hc hsm
  generalize hl : ps.length = len at hl0 hl16 HV ⊢
  have HL : Hid (ps.length = len) := hl
  clear hl
  have HB0 := (show Hid (Blk (w.alloc (.cells #[.slice (some ⟨b, off, none⟩) len c, .int .i64 hand] 29)) w.heap.size 29 [.slice (some ⟨b, off, none⟩) len c, .int .i64 hand]) from Blk.newL w [.slice (some ⟨b, off, none⟩) len c, .int .i64 hand] 29)
  go_enter Try.func61, Try.ntmps61
  go_wp2_with fail
  go_cut [3] (fun v wc => ∃ (P g : Nat), v = .pointer (some ⟨P, 0, none⟩) ∧ Hid (Blk wc P 82 [.slice (some ⟨g, 0, none⟩) len len, .int .i64 hand]) ∧ w.heap.size < P ∧ P ≠ g ∧ w.heap.size < g ∧ Hid (wc.ownsRow 0 83 1 (.slice (some ⟨g, 0, none⟩) len len) len (List.replicate len (.pointer none))) ∧
      Hid (Blk wc w.heap.size 29 [.slice (some ⟨b, off, none⟩) len c, .int .i64 hand]) ∧ Hid (Same w wc))
  case first =>
    have hS : (fun wx : World => wx.cell? ⟨w.heap.size, 0, none⟩ = some (.slice (some ⟨b, off, none⟩) len c) ∧ wx.cell? ⟨w.heap.size, 1, none⟩ = some (.int .i64 hand)) (w.alloc (.cells #[.slice (some ⟨b, off, none⟩) len c, .int .i64 hand] 29)).drew := ⟨HB0.out.cell 0, HB0.out.cell 1⟩
    refine wp_region_V (fun wx : World => wx.cell? ⟨w.heap.size, 0, none⟩ = some (.slice (some ⟨b, off, none⟩) len c) ∧ wx.cell? ⟨w.heap.size, 1, none⟩ = some (.int .i64 hand)) 9 10 rfl (by kernel_rfl) ?_
    refine tk 0 6 hS ?_
    refine tk 1 7 hS ?_
    refine tk 2 8 hS ?_
    refine tk 4 10 hS ?_
    refine tk 5 11 hS ?_
    refine wpAnyV_one (i := 3) (by kernel_rfl) rfl (fun K hK => ?_)
    refine step_mk (by rfl) (.tmp 8) (.tmp 8) 78 (by rfl) 0 83 i0 _ 1 Try.underlying78 hi hz0 hz1 .i64 .i64 _ _ len len (by rfl) (by rfl) (by rfl) (by rfl) (Nat.le_refl _) (by rw [hz2]; omega) (by unfold maxLen; omega) (Nat.zero_le _) ?_
    intro w1 hown1 hgrow1 hlt1
    rw [made_ptrs] at hown1
    have hk1 : Same (w.alloc (.cells #[.slice (some ⟨b, off, none⟩) len c, .int .i64 hand] 29)) w1 := (Kept.refl (fun _ => False) (w.alloc (.cells #[.slice (some ⟨b, off, none⟩) len c, .int .i64 hand] 29))).drew.trans (Kept.of_grown hgrow1 (fun k e => by cases e))
    have HK1 := (show Hid (Same (w.alloc (.cells #[.slice (some ⟨b, off, none⟩) len c, .int .i64 hand] 29)) w1) from hk1)
    have HO1 := (show Hid (w1.ownsRow 0 83 1 (.slice (some ⟨w.heap.size + 1, 0, none⟩) len len) len (List.replicate len (.pointer none))) from (by unfold Hid; simpa using hown1))
    have hz1' : w.heap.size + 1 < w1.heap.size := by simpa using hlt1
    have hB1 := HB0.out.same hk1
    have hS1 : (fun wx : World => wx.cell? ⟨w.heap.size, 0, none⟩ = some (.slice (some ⟨b, off, none⟩) len c) ∧ wx.cell? ⟨w.heap.size, 1, none⟩ = some (.int .i64 hand)) w1 := ⟨hB1.cell 0, hB1.cell 1⟩
    refine hK.out _ _ (fun _ => hS1) ?_
    clear hK K hown1 hgrow1 hlt1 hk1
    try simp only [Act.put, sA, s0, sS]
    refine tk 6 12 hS1 ?_
    refine tk 7 13 hS1 ?_
    refine wpAnyV_one (i := 8) (by kernel_rfl) rfl (fun K hK => ?_)
    go_simp
    have hS2 : (fun wx : World => wx.cell? ⟨w.heap.size, 0, none⟩ = some (.slice (some ⟨b, off, none⟩) len c) ∧ wx.cell? ⟨w.heap.size, 1, none⟩ = some (.int .i64 hand)) (w1.alloc (.cells #[.slice (some ⟨w.heap.size + 1, 0, none⟩) len len, .int .i64 hand] 82)) := ⟨(hB1.alloc _).cell 0, (hB1.alloc _).cell 1⟩
    refine hK.out _ _ (fun _ => hS2) ?_
    clear hK K
    try simp only [Act.put, sA, s0, sS]
    refine wpAnyV_one (i := 9) (by kernel_rfl) rfl (fun K hK => ?_)
    go_simp
    refine hK.out _ _ (fun h => absurd rfl h) ?_
    clear hK K
    refine wpAnyV_done (by kernel_rfl) ?_
    try simp only [Act.put, sA, s0, sS]
    go_wp2_with fail
    go_meet
    case rel =>
      refine ⟨w1.heap.size, w.heap.size + 1, rfl, Blk.newL _ _ _, by omega, by omega, by omega, ?_, hB1.alloc _, ?_⟩
      · exact Kept.owns (R := fun _ => False) ((Kept.refl _ _).alloc _) HO1.out (fun _ _ => id)
      · exact (((Kept.refl _ _).alloc _).trans HK1.out).alloc _
  obtain ⟨P, g, rfl, HX, hP, hPg, hg, HR, HB, HK⟩ := hcut
  obtain ⟨x0, x1⟩ := HB.out.all2
  have hPl := HX.out.lt
  have hgl : g < wc.heap.size := (World.ownsRow.lt HR.out g rfl).2
  clear HB0
  go_wp2_with fail
  go_loopw [18] (fun i wr => ∃ (k : Nat) (bl : List Nat) (qs : List EFrame), k ≤ len ∧ i = .int .i64 k ∧ Hid (bl.length = k) ∧ Hid (datFrameS qs = datFrameS (ps.take k)) ∧ Hid (Blk wr P 82 [.slice (some ⟨g, 0, none⟩) len len, .int .i64 hand]) ∧
      Hid (wr.ownsRow 0 83 1 (.slice (some ⟨g, 0, none⟩) len len) len (bl.map ptrV ++ List.replicate (len - k) (.pointer none))) ∧ Hid (Ptrs kFrame 51 5 wr bl qs) ∧ Hid (∀ b, footS kFrame bl qs b → wc.heap.size ≤ b) ∧ Hid (Same w wr) ∧ wc.heap.size ≤ wr.heap.size) (fun i _ => len - (intOf i).toNat)
  case atStart => exact ⟨0, [], [], Nat.zero_le _, rfl, rfl, rfl, HX, HR, Ptrs.nil _ _ _ _, fun b h => by rcases h with h | ⟨p, h, _⟩ <;> simp at h, HK, Nat.le_refl _⟩
  case round =>
    obtain ⟨k, bl, qs, hk, rfl, HBL, HQ, HXr, HRr, HPr, HFr, HKr, hzr⟩ := hrel
    by_cases hlt : k < len
    · have hlp : k < ps.length := by rw [HL.out]; exact hlt
      obtain ⟨p, hp⟩ : ∃ p, ps[k] = p := ⟨_, rfl⟩
      have hrd : Rd .u8 w ps[k].v ps[k].bs := HV.out.data _ (List.getElem_mem hlp)
      have hm1 := HS.out _ (List.getElem_mem hlp)
      have hcc : ∀ i, i < 6 → wr.cell? ⟨b, off + (k * 6 + i), none⟩ = (kFrame.cells ps[k])[i]? := fun i hi => by
        have h := HC.out k i hlp hi
        have hlen : (kFrame.cells ps[k]).length = 6 := kFrame.len _
        rw [List.getElem?_eq_getElem (by omega)] at h ⊢
        exact HKr.out.cellOf h id
      rw [hp] at hrd hm1 hcc
      have HPE : Hid (ps[k] = p) := hp
      clear hp
      obtain ⟨pg, pv, fb, pn, dt, rl, rf⟩ := p
      dsimp only at hrd hm1
      obtain ⟨a1, c1, e1⟩ := hrd.form
      subst e1
      obtain ⟨n1, hn1⟩ : ∃ n, fb.length = n := ⟨_, rfl⟩
      rw [hn1] at hrd hcc
      have HRD := (show Hid (Rd .u8 w (.slice a1 n1 c1) fb) from hrd)
      have HM1 : Hid (fb.length ≤ 1099511627776) := hm1
      have d0 : wr.cell? ⟨b, off + k * 6, none⟩ = some (.int .i64 pg) := by have h := hcc 0 (by decide); exact h
      have d1 : wr.cell? ⟨b, off + k * 6 + 1, none⟩ = some (.slice a1 n1 c1) := by have h := hcc 1 (by decide); rw [← Nat.add_assoc] at h; exact h
      have d2 : wr.cell? ⟨b, off + k * 6 + 2, none⟩ = some (.int .i64 pn) := by have h := hcc 2 (by decide); rw [← Nat.add_assoc] at h; exact h
      have d3 : wr.cell? ⟨b, off + k * 6 + 3, none⟩ = some (.bool dt) := by have h := hcc 3 (by decide); rw [← Nat.add_assoc] at h; exact h
      have d4 : wr.cell? ⟨b, off + k * 6 + 4, none⟩ = some (.int .i64 rl) := by have h := hcc 4 (by decide); rw [← Nat.add_assoc] at h; exact h
      have d5 : wr.cell? ⟨b, off + k * 6 + 5, none⟩ = some (.bool rf) := by have h := hcc 5 (by decide); rw [← Nat.add_assoc] at h; exact h
      clear hcc hrd hm1 hn1 x0 x1
      have ba := Blk.newL wr [.int .i64 pg, .slice a1 n1 c1, .int .i64 pn, .bool dt, .int .i64 rl, .bool rf] 51
      have hki : (k : Int) < (len : Int) := by omega
      go_wp2_with fail
      refine (cloneS_any _ fb _ HM1.out (HRD.out.same (HKr.out.trans ((Kept.refl _ _).alloc _)))).mono ?_
      rintro e w2 ⟨a4, n4, c4, rfl, ho4, hf4, hk4⟩
      have HB4 := hid (ba.same hk4)
      have HK4 := (show Hid (Same wr w2) from ((Kept.refl _ _).alloc _).trans hk4)
      have HO4 := (show Hid (Own 0 5 .u8 w2 (.slice a4 n4 c4) fb) from ho4)
      have HF4 : Hid (∀ b, (Value.slice a4 n4 c4).ownBlock = some b → wr.heap.size < b) := fun b hb => by have h := hf4 b hb; rw [World.size_alloc] at h; omega
      clear ho4 hf4 hk4 ba d0 d1 d2 d3 d4 d5
      have h2l : wr.heap.size < w2.heap.size := HB4.out.lt
      obtain ⟨c0, c1', c2, c3, c4', c5⟩ := HB4.out.all6
      have fz := HB4.out.frozen
      obtain ⟨y0, y1⟩ := (HXr.out.same HK4.out).all2
      have hrow4 := Kept.owns HK4.out HRr.out (fun _ _ => id)
      have yk : w2.cell? ⟨g, k, none⟩ = some (.pointer none) := by
        have h := World.ownsRow.cellAt hrow4 k (by omega)
        rw [h, List.getElem?_append_right (by simp [HBL.out]), List.length_map, HBL.out, Nat.sub_self, List.getElem?_replicate, if_pos (by omega)]
      have fg := World.ownsRow.frozenAt hrow4
      have HR4 := hid hrow4
      clear hrow4
      have HK23 := (show Hid (Kept (fun b => b = wr.heap.size) w2 (w2.setCell ⟨wr.heap.size, 1, none⟩ (.slice a4 n4 c4))) from Kept.setCell (R := fun b => b = wr.heap.size) (Kept.refl _ _) (p := ⟨wr.heap.size, 1, none⟩) (.inr rfl) _)
      have HK34 := (show Hid (Kept (fun b => b = g) (w2.setCell ⟨wr.heap.size, 1, none⟩ (.slice a4 n4 c4)) ((w2.setCell ⟨wr.heap.size, 1, none⟩ (.slice a4 n4 c4)).setCell ⟨g, k, none⟩ (.pointer (some ⟨wr.heap.size, 0, none⟩)))) from Kept.setCell (R := fun b => b = g) (Kept.refl _ _) (p := ⟨g, k, none⟩) (.inr rfl) _)
      have HFT : Hid (∀ b, footS kFrame bl qs b → wc.heap.size ≤ b ∧ b < wr.heap.size) := fun b hb => ⟨HFr.out b hb, HPr.out.lt b hb⟩
      have HU3 := (show Hid (Own 0 5 .u8 (w2.setCell ⟨wr.heap.size, 1, none⟩ (.slice a4 n4 c4)) (.slice a4 n4 c4) fb) from HO4.out.kept HK23.out (fun b hb e => by have := HF4.out b hb; omega))
      have HP3 := (show Hid (Ptrs kFrame 51 5 (w2.setCell ⟨wr.heap.size, 1, none⟩ (.slice a4 n4 c4)) (bl ++ [wr.heap.size]) (qs ++ [(⟨pg, .slice a4 n4 c4, fb, pn, dt, rl, rf⟩ : EFrame)])) from
        Ptrs.snoc (p := (⟨pg, .slice a4 n4 c4, fb, pn, dt, rl, rf⟩ : EFrame)) ((HPr.out.same HK4.out).kept HK23.out (fun b hb e => by have := HFT.out b hb; omega)) (HB4.out.stored 1 _) HU3.out (fun h => by have := HFT.out _ h; omega)
          (fun x hx => ⟨fun h => by have h1 := HFT.out x h; have h2 := HF4.out x hx; omega, by have h2 := HF4.out x hx; omega⟩))
      have HFN : Hid (∀ b, footS kFrame (bl ++ [wr.heap.size]) (qs ++ [(⟨pg, .slice a4 n4 c4, fb, pn, dt, rl, rf⟩ : EFrame)]) b → wc.heap.size ≤ b) := fun b hb => by
        rcases hb with hb | ⟨q, hq, hb⟩
        · rcases List.mem_append.1 hb with hb | hb
          · exact (HFT.out b (.inl hb)).1
          · simp at hb; omega
        · rcases List.mem_append.1 hq with hq | hq
          · exact (HFT.out b (.inr ⟨q, hq, hb⟩)).1
          · simp at hq
            subst hq
            have := HF4.out b hb
            omega
      go_wp2
      go_roundw
      case rel =>
        refine ⟨k + 1, bl ++ [wr.heap.size], qs ++ [(⟨pg, .slice a4 n4 c4, fb, pn, dt, rl, rf⟩ : EFrame)], by omega, by go_num, ?_, ?_, ?_, ?_, HP3.out.kept HK34.out (fun b hb e => by have := HFN.out b hb; omega), HFN, ?_, ?_⟩
        · have := HBL.out; simp [Hid, this]
        · have h1 := HQ.out
          unfold Hid
          rw [List.take_succ_eq_append_getElem hlp, HPE.out]
          simp only [datFrameS, List.map_append] at h1 ⊢
          rw [h1]; rfl
        · exact ((HXr.out.same HK4.out).kept HK23.out (by intro e; omega)).kept HK34.out hPg
        · unfold Hid
          rw [← ptrs_step bl len k wr.heap.size hlt HBL.out]
          exact (World.ownsRow.stored (Kept.owns HK23.out HR4.out (fun x hx e => by simp [Value.ownBlock] at hx; omega)) k _).1
        · exact ((HKr.out.trans HK4.out).next HK23.out (fun i hi e => by omega)).next HK34.out (fun i hi e => by omega)
        · simp [World.setCell]; omega
      case measure => simp [intOf]; omega
    · obtain rfl : len = k := by omega
      go_wp2
      go_ret
      refine ⟨P, g, len, len, bl, qs, rfl, ?_, ⟨HXr.out, ?_, ?_, HPr.out, hPg, fun h => by have := HFr.out _ h; omega, fun h => by have := HFr.out _ h; omega⟩, ?_, HKr.out⟩
      · have h := HQ.out
        rw [← HL.out, List.take_length] at h
        exact h
      · rw [← HPr.out.len]; exact HBL.out.symm
      · have h := HRr.out
        rw [Nat.sub_self, List.replicate_zero, List.append_nil] at h
        exact h
      · intro b hb
        rcases hb with rfl | rfl | hb
        · omega
        · omega
        · have h1 := HFr.out b hb
          have h2 := HK.out.size
          omega
end Go.Proofs.Ytabmhcdldfehnaa

namespace Go.Proofs.Ytabmhcdldfehnaa
set_option maxRecDepth 100000
set_option maxHeartbeats 8000000
open Go.RowKit
set_option linter.unusedVariables false
set_option linter.unusedSimpArgs false
section
variable {w w' : World} {P : Nat} {hand : Int} {g n cap : Nat} {bl : List Nat} {ps : List EFrame}
theorem FP.kept {R : Nat → Prop} (h : FP w P hand g n cap bl ps) (hk : Kept R w w') (hr : ∀ b, footFP P g bl ps b → ¬ R b) : FP w' P hand g n cap bl ps :=
  ⟨h.top.kept hk (hr P (.inl rfl)), h.len, hk.owns h.row (fun b hb => hr b (.inr (.inl (by simpa [Value.ownBlock] using hb.symm)))), h.ptr.kept hk (fun b hb => hr b (.inr (.inr hb))), h.pg, h.outP, h.outg⟩
theorem FP.same (h : FP w P hand g n cap bl ps) (hk : Same w w') : FP w' P hand g n cap bl ps := h.kept hk (fun _ _ => id)
theorem FP.lt (h : FP w P hand g n cap bl ps) (b : Nat) (hb : footFP P g bl ps b) : b < w.heap.size := by
  rcases hb with rfl | rfl | hb
  · exact h.top.lt
  · exact (World.ownsRow.lt h.row _ rfl).2
  · exact h.ptr.lt b hb
theorem FP.at (h : FP w P hand g n cap bl ps) (k : Nat) (hk : k < n) : ∃ b p, bl[k]? = some b ∧ ps[k]? = some p ∧ w.cell? ⟨g, k, none⟩ = some (.pointer (some ⟨b, 0, none⟩)) ∧ Blk w b 51 (kFrame.cells p) := by
  have hlb : k < bl.length := by rw [h.ptr.len, ← h.len]; exact hk
  have hlp : k < ps.length := by rw [← h.len]; exact hk
  refine ⟨bl[k], ps[k], List.getElem?_eq_getElem hlb, List.getElem?_eq_getElem hlp, ?_, h.ptr.blk k _ _ (List.getElem?_eq_getElem hlb) (List.getElem?_eq_getElem hlp)⟩
  have hc := World.ownsRow.cellAt h.row k (by omega)
  rw [hc, List.getElem?_map, List.getElem?_eq_getElem hlb]
  rfl
end
def zF : EFrame := ⟨0, .slice none 0 0, [], 0, false, 0, false⟩
theorem made_frames {w : World} {v : Value} {n : Nat} (h : w.ownsRow 0 51 6 v n ((madeCells (Value.agg #[.int .i64 0, .slice none 0 0, .int .i64 0, .bool false, .int .i64 0, .bool false]).cells (n * 6)).toList.take (n * 6))) : OwnR kFrame 0 51 5 w v (List.replicate n zF) := by
  rw [List.take_of_length_le (by simp [madeCells])] at h
  exact ownR_made (K := kFrame) (zp := zF) (by decide) rfl rfl rfl h
theorem pool_any (P : Nat) (hand : Int) (g n cap : Nat) (bl : List Nat) (qs : List EFrame) (w : World) (h : FP w P hand g n cap bl qs) (hn : n ≤ 16) :
    Calls Try.prog 62 #[.pointer (some ⟨P, 0, none⟩)] w fun e w' => ∃ a m c, e = .returned (.agg #[.slice a m c, .int .i64 hand]) ∧ OwnR kFrame 0 51 5 w' (.slice a m c) qs ∧ (∀ b, footR kFrame (.slice a m c) qs b → w.heap.size ≤ b ∨ footS kFrame bl qs b) ∧ Same w w' := by
  obtain ⟨i0, hi, hz0, hz1, hz2⟩ := info_parts Try.infoRFrame
  have HF := (show Hid (FP w P hand g n cap bl qs) from h)
  have hPl := h.top.lt
  clear h
  have HB0 := (show Hid (Blk (w.alloc (.cells #[.slice none 0 0, .int .i64 0] 29)) w.heap.size 29 [.slice none 0 0, .int .i64 0]) from Blk.newL w [.slice none 0 0, .int .i64 0] 29)
  have HK0 := hid (sameA w [.slice none 0 0, .int .i64 0] 29)
  go_enter Try.func62, Try.ntmps62
  go_wp2_with fail
  go_cut [3] (fun v wc => ∃ (G h : Nat), v = .pointer (some ⟨G, 0, none⟩) ∧ Hid (Blk wc G 29 [.slice (some ⟨h, 0, none⟩) n n, .int .i64 hand]) ∧ w.heap.size < G ∧ G ≠ h ∧ w.heap.size < h ∧ Hid (OwnR kFrame 0 51 5 wc (.slice (some ⟨h, 0, none⟩) n n) (List.replicate n zF)) ∧
      Hid (Blk wc w.heap.size 29 [.slice none 0 0, .int .i64 0]) ∧ Hid (Same w wc))
  case first =>
    have htop := (HF.out.same HK0.out).top
    have hS : (fun wx : World => wx.cell? ⟨P, 0, none⟩ = some (.slice (some ⟨g, 0, none⟩) n cap) ∧ wx.cell? ⟨P, 1, none⟩ = some (.int .i64 hand)) (w.alloc (.cells #[.slice none 0 0, .int .i64 0] 29)).drew := ⟨htop.cell 0, htop.cell 1⟩
    refine wp_region_V (fun wx : World => wx.cell? ⟨P, 0, none⟩ = some (.slice (some ⟨g, 0, none⟩) n cap) ∧ wx.cell? ⟨P, 1, none⟩ = some (.int .i64 hand)) 14 15 rfl (by kernel_rfl) ?_
    refine tk 0 6 hS ?_
    refine tk 1 7 hS ?_
    refine tk 2 8 hS ?_
    refine tk 3 9 hS ?_
    refine tk 4 10 hS ?_
    refine tk 5 11 hS ?_
    refine tk 7 13 hS ?_
    refine tk 8 14 hS ?_
    refine tk 9 15 hS ?_
    refine tk 10 16 hS ?_
    refine tk 11 17 hS ?_
    refine wpAnyV_two (i := 6) (j := 13) (by kernel_rfl) rfl rfl (fun K hK => ?_) (fun K hK => ?_)
    · refine step_mk (by rfl) (.tmp 11) (.tmp 11) 27 (by rfl) 0 51 i0 _ 6 Try.underlying27 hi hz0 hz1 .i64 .i64 _ _ n n (by rfl) (by rfl) (by rfl) (by rfl) (Nat.le_refl _) (by rw [hz2]; omega) (by unfold maxLen; omega) (Nat.zero_le _) ?_
      intro w1 hown1 hgrow1 hlt1
      have hk1 : Same (w.alloc (.cells #[.slice none 0 0, .int .i64 0] 29)) w1 := (Kept.refl (fun _ => False) (w.alloc (.cells #[.slice none 0 0, .int .i64 0] 29))).drew.trans (Kept.of_grown hgrow1 (fun k e => by cases e))
      have HK1 := (show Hid (Same (w.alloc (.cells #[.slice none 0 0, .int .i64 0] 29)) w1) from hk1)
      have HO1 := (show Hid (OwnR kFrame 0 51 5 w1 (.slice (some ⟨w.heap.size + 1, 0, none⟩) n n) (List.replicate n zF)) from (by unfold Hid; have h := made_frames hown1; simpa using h))
      have hz1' : w.heap.size + 1 < w1.heap.size := by simpa using hlt1
      have ht1 := htop.same hk1
      have hS1 : (fun wx : World => wx.cell? ⟨P, 0, none⟩ = some (.slice (some ⟨g, 0, none⟩) n cap) ∧ wx.cell? ⟨P, 1, none⟩ = some (.int .i64 hand)) w1 := ⟨ht1.cell 0, ht1.cell 1⟩
      refine hK.out _ _ (fun _ => hS1) ?_
      clear hK K hown1 hgrow1 hlt1 hk1
      try simp only [Act.put, sA, s0, sS]
      refine tk 12 18 hS1 ?_
      refine wpAnyV_one (i := 13) (by kernel_rfl) rfl (fun K hK => ?_)
      go_simp
      have hS2 : (fun wx : World => wx.cell? ⟨P, 0, none⟩ = some (.slice (some ⟨g, 0, none⟩) n cap) ∧ wx.cell? ⟨P, 1, none⟩ = some (.int .i64 hand)) (w1.alloc (.cells #[.slice none 0 0, .int .i64 0] 29)) := ⟨(ht1.alloc _).cell 0, (ht1.alloc _).cell 1⟩
      refine hK.out _ _ (fun _ => hS2) ?_
      clear hK K
      try simp only [Act.put, sA, s0, sS]
      refine wpAnyV_one (i := 14) (by kernel_rfl) rfl (fun K hK => ?_)
      go_simp
      refine hK.out _ _ (fun h => absurd rfl h) ?_
      clear hK K
      refine wpAnyV_done (by kernel_rfl) ?_
      try simp only [Act.put, sA, s0, sS]
      go_wp2_with fail
      go_meet
      case rel =>
        refine ⟨w1.heap.size, w.heap.size + 1, rfl, Blk.newL _ _ _, by omega, by omega, by omega, HO1.out.same ((Kept.refl _ _).alloc _), (HB0.out.same HK1.out).alloc _, (HK0.out.trans HK1.out).alloc _⟩
    · go_simp
      have hS1 : (fun wx : World => wx.cell? ⟨P, 0, none⟩ = some (.slice (some ⟨g, 0, none⟩) n cap) ∧ wx.cell? ⟨P, 1, none⟩ = some (.int .i64 hand)) ((w.alloc (.cells #[.slice none 0 0, .int .i64 0] 29)).drew.alloc (.cells #[.slice none 0 0, .int .i64 0] 29)) := ⟨(htop.drew.alloc _).cell 0, (htop.drew.alloc _).cell 1⟩
      refine hK.out _ _ (fun _ => hS1) ?_
      clear hK K
      try simp only [Act.put, sA, s0, sS]
      refine wpAnyV_one (i := 6) (by kernel_rfl) rfl (fun K hK => ?_)
      refine step_mk (by rfl) (.tmp 11) (.tmp 11) 27 (by rfl) 0 51 i0 _ 6 Try.underlying27 hi hz0 hz1 .i64 .i64 _ _ n n (by rfl) (by rfl) (by rfl) (by rfl) (Nat.le_refl _) (by rw [hz2]; omega) (by unfold maxLen; omega) (Nat.zero_le _) ?_
      intro w1 hown1 hgrow1 hlt1
      have hk1 : Same ((w.alloc (.cells #[.slice none 0 0, .int .i64 0] 29)).drew.alloc (.cells #[.slice none 0 0, .int .i64 0] 29)) w1 := Kept.of_grown hgrow1 (fun k e => by cases e)
      have HK1 := (show Hid (Same ((w.alloc (.cells #[.slice none 0 0, .int .i64 0] 29)).drew.alloc (.cells #[.slice none 0 0, .int .i64 0] 29)) w1) from hk1)
      have HO1 := (show Hid (OwnR kFrame 0 51 5 w1 (.slice (some ⟨w.heap.size + 1 + 1, 0, none⟩) n n) (List.replicate n zF)) from (by unfold Hid; have h := made_frames hown1; simpa using h))
      have hz1' : w.heap.size + 1 + 1 < w1.heap.size := by simpa using hlt1
      have hbz : Blk ((w.alloc (.cells #[.slice none 0 0, .int .i64 0] 29)).drew.alloc (.cells #[.slice none 0 0, .int .i64 0] 29)) (w.heap.size + 1) 29 [.slice none 0 0, .int .i64 0] := by
        have h := Blk.newL (w.alloc (.cells #[.slice none 0 0, .int .i64 0] 29)).drew [.slice none 0 0, .int .i64 0] 29
        simpa using h
      have ht1 := (htop.drew.alloc (.cells #[.slice none 0 0, .int .i64 0] 29)).same hk1
      have HZ1 := hid (hbz.same hk1)
      have hS2 : (fun wx : World => wx.cell? ⟨P, 0, none⟩ = some (.slice (some ⟨g, 0, none⟩) n cap) ∧ wx.cell? ⟨P, 1, none⟩ = some (.int .i64 hand)) w1 := ⟨ht1.cell 0, ht1.cell 1⟩
      refine hK.out _ _ (fun _ => hS2) ?_
      clear hK K hown1 hgrow1 hlt1 hk1
      try simp only [Act.put, sA, s0, sS]
      refine tk 12 18 hS2 ?_
      obtain ⟨z0, z1⟩ := HZ1.out.all2
      have fz := HZ1.out.frozen
      refine wpAnyV_one (i := 14) (by kernel_rfl) rfl (fun K hK => ?_)
      go_simp
      refine hK.out _ _ (fun h => absurd rfl h) ?_
      clear hK K
      refine wpAnyV_done (by kernel_rfl) ?_
      try simp only [Act.put, sA, s0, sS]
      go_wp2_with fail
      go_meet
      case rel =>
        have hkw : Same w w1 := (((HK0.out.drew).alloc _).trans HK1.out)
        have hb0 := ((HB0.out.drew).alloc (.cells #[.slice none 0 0, .int .i64 0] 29)).same HK1.out
        have hst : Kept (fun b => b = w.heap.size + 1) w1 ((w1.setCell ⟨w.heap.size + 1, 0, none⟩ (.slice (some ⟨w.heap.size + 1 + 1, 0, none⟩) n n)).setCell ⟨w.heap.size + 1, 1, none⟩ (.int .i64 hand)) := Kept.setCell (R := fun b => b = w.heap.size + 1) (Kept.setCell (R := fun b => b = w.heap.size + 1) (Kept.refl _ _) (p := ⟨w.heap.size + 1, 0, none⟩) (.inr rfl) _) (p := ⟨w.heap.size + 1, 1, none⟩) (.inr rfl) _
        refine ⟨w.heap.size + 1, w.heap.size + 1 + 1, rfl, (HZ1.out.stored 0 _).stored 1 _, by omega, by omega, by omega, HO1.out.kept hst ?_, hb0.kept hst (by intro e; omega), hkw.next hst (fun i hi e => by omega)⟩
        intro b hb e
        rcases hb with hb | ⟨p, hp, hb⟩
        · simp [Value.ownBlock] at hb; omega
        · rw [List.eq_of_mem_replicate hp] at hb
          simp [kFrame, zF, Value.ownBlock] at hb
  obtain ⟨G, h, rfl, HG, hG, hGh, hh, HO, HZ, HK⟩ := hcut
  obtain ⟨x0, x1⟩ := (HF.out.same HK.out).top.all2
  clear HB0 HK0
  go_wp2_with fail
  go_loopw [25] (fun i wr => ∃ (k : Nat), k ≤ n ∧ i = .int .i64 k ∧ Hid (Blk wr G 29 [.slice (some ⟨h, 0, none⟩) n n, .int .i64 hand]) ∧ Hid (OwnR kFrame 0 51 5 wr (.slice (some ⟨h, 0, none⟩) n n) (qs.take k ++ List.replicate (n - k) zF)) ∧
      Hid (Blk wr w.heap.size 29 [.slice none 0 0, .int .i64 0]) ∧ Hid (Same w wr)) (fun i _ => n - (intOf i).toNat)
  case atStart => exact ⟨0, Nat.zero_le _, rfl, HG, by simpa using HO, HZ, HK⟩
  case round =>
    obtain ⟨k, hk, rfl, HGr, HOr, HZr, HKr⟩ := hrel
    have HFr := (show Hid (FP wr P hand g n cap bl qs) from HF.out.same HKr.out)
    clear x0 x1
    by_cases hlt : k < n
    · obtain ⟨bk, p, hbk, hpk, hck, hb⟩ := HFr.out.at k hlt
      have HBK : Hid (bl[k]? = some bk) := hbk
      have HPK : Hid (qs[k]? = some p) := hpk
      have hdat : Own 0 5 .u8 wr p.v p.bs := HFr.out.ptr.data p (List.mem_of_getElem? hpk)
      have HDP := hid hdat
      have hbl : bk < w.heap.size := HF.out.ptr.lt bk (.inl (List.mem_of_getElem? hbk))
      have hlq : k < qs.length := (List.getElem?_eq_some_iff.1 hpk).1
      have hlen := HF.out.len
      have HNE : Hid (∀ b, p.v.ownBlock = some b → ¬ footR kFrame (.slice (some ⟨h, 0, none⟩) n n) (qs.take k ++ zF :: List.replicate (n - (k + 1)) zF) b) := fun b hb hf => by
        have hbw : b < w.heap.size := HF.out.ptr.lt b (.inr ⟨p, List.mem_of_getElem? HPK.out, hb⟩)
        rcases hf with hf | ⟨q, hq, hf⟩
        · simp [Value.ownBlock] at hf; omega
        · rcases List.mem_append.1 hq with hq | hq
          · obtain ⟨j, hj⟩ := List.getElem?_of_mem hq
            have hjl : j < k := by have := (List.getElem?_eq_some_iff.1 hj).1; rw [List.length_take] at this; omega
            rw [List.getElem?_take_of_lt hjl] at hj
            have := HF.out.ptr.each j k q p b hj HPK.out hf hb
            omega
          · have hz : q = zF := by
              rcases List.mem_cons.1 hq with rfl | hq
              · rfl
              · exact List.eq_of_mem_replicate hq
            rw [hz] at hf
            simp [kFrame, zF, Value.ownBlock] at hf
      have HE : Hid (qs.take k ++ List.replicate (n - k) zF = qs.take k ++ zF :: List.replicate (n - (k + 1)) zF) := by
        unfold Hid
        rw [show n - k = (n - (k + 1)) + 1 from by omega, List.replicate_succ]
      have HT : Hid (qs.take (k + 1) = qs.take k ++ [p]) := by
        unfold Hid
        rw [List.take_succ_eq_append_getElem hlq]
        have := List.getElem?_eq_some_iff.1 HPK.out
        rw [this.2]
      have HTL : Hid ((qs.take k).length = k) := by simp [Hid]; omega
      clear hlen hlq hbk hpk
      obtain ⟨pg, pv, fb, pn, dt, rl, rf⟩ := p
      obtain ⟨a1, n1, c1, e1⟩ := slice_of_own hdat
      dsimp only at e1
      subst e1
      clear hdat
      have HBL := (show Hid (Blk wr bk 51 [.int .i64 pg, .slice a1 n1 c1, .int .i64 pn, .bool dt, .int .i64 rl, .bool rf]) from hb)
      clear hb
      have hki : (k : Int) < (n : Int) := by omega
      go_wp2_with fail
      obtain ⟨y0, y1⟩ := HGr.out.all2
      obtain ⟨c0, c1', c2, c3, c4, c5⟩ := HBL.out.all6
      have ho := HOr.out
      rw [HE.out] at ho
      have fh := ho.frozen (by simp [HTL.out]; omega)
      have hcells : ∀ i, i < 6 → wr.cell? ⟨h, k * 6 + i, none⟩ = (kFrame.cells zF)[i]? := fun i hi => ho.cellMid (by simp [HTL.out]; omega) i hi _ (by rw [HTL.out]; rfl)
      have u0 : wr.cell? ⟨h, k * 6, none⟩ = some (.int .i64 0) := hcells 0 (by decide)
      have u1 : wr.cell? ⟨h, k * 6 + 1, none⟩ = some (.slice none 0 0) := hcells 1 (by decide)
      have u2 : wr.cell? ⟨h, k * 6 + 2, none⟩ = some (.int .i64 0) := hcells 2 (by decide)
      have u3 : wr.cell? ⟨h, k * 6 + 3, none⟩ = some (.bool false) := hcells 3 (by decide)
      have u4 : wr.cell? ⟨h, k * 6 + 4, none⟩ = some (.int .i64 0) := hcells 4 (by decide)
      have u5 : wr.cell? ⟨h, k * 6 + 5, none⟩ = some (.bool false) := hcells 5 (by decide)
      have HO2 := hid ho
      clear ho hcells
      have hS : (fun wx : World => wx.cell? ⟨G, 0, none⟩ = some (.slice (some ⟨h, 0, none⟩) n n) ∧ wx.cell? ⟨bk, 0, none⟩ = some (.int .i64 pg) ∧ wx.cell? ⟨bk, 1, none⟩ = some (.slice a1 n1 c1) ∧ wx.cell? ⟨bk, 2, none⟩ = some (.int .i64 pn) ∧ wx.cell? ⟨bk, 3, none⟩ = some (.bool dt) ∧ wx.cell? ⟨bk, 4, none⟩ = some (.int .i64 rl) ∧ wx.cell? ⟨bk, 5, none⟩ = some (.bool rf)) wr.drew := ⟨y0, c0, c1', c2, c3, c4, c5⟩
      refine wp_region_V (fun wx : World => wx.cell? ⟨G, 0, none⟩ = some (.slice (some ⟨h, 0, none⟩) n n) ∧ wx.cell? ⟨bk, 0, none⟩ = some (.int .i64 pg) ∧ wx.cell? ⟨bk, 1, none⟩ = some (.slice a1 n1 c1) ∧ wx.cell? ⟨bk, 2, none⟩ = some (.int .i64 pn) ∧ wx.cell? ⟨bk, 3, none⟩ = some (.bool dt) ∧ wx.cell? ⟨bk, 4, none⟩ = some (.int .i64 rl) ∧ wx.cell? ⟨bk, 5, none⟩ = some (.bool rf)) 7 8 rfl (by kernel_rfl) ?_
      refine tk 0 30 hS ?_
      refine tk 1 31 hS ?_
      refine tk 2 32 hS ?_
      refine tk 3 33 hS ?_
      refine tk 4 34 hS ?_
      refine tk 5 35 hS ?_
      refine wpAnyV_one (i := 6) (by kernel_rfl) rfl (fun K hK => ?_)
      go_simp
      refine hK.out _ _ (fun _ => hS) ?_
      clear hK K
      try simp only [Act.put, sA, s0, sS]
      refine wpAnyV_one (i := 7) (by kernel_rfl) rfl (fun K hK => ?_)
      go_simp
      refine hK.out _ _ (fun h => absurd rfl h) ?_
      clear hK K
      refine wpAnyV_done (by kernel_rfl) ?_
      try simp only [Act.put, sA, s0, sS]
      have HEL := (show Hid (OwnR kFrame 0 51 5 (wr.setCells h (k * 6) [.int .i64 pg, .slice a1 n1 c1, .int .i64 pn, .bool dt, .int .i64 rl, .bool rf]) (.slice (some ⟨h, 0, none⟩) n n) (qs.take k ++ (⟨pg, .slice a1 n1 c1, fb, pn, dt, rl, rf⟩ : EFrame) :: List.replicate (n - (k + 1)) zF)) from
        OwnR.setElem (p' := (⟨pg, .slice a1 n1 c1, fb, pn, dt, rl, rf⟩ : EFrame)) HO2.out (by simp [HTL.out]; omega) (k * 6) (by rw [HTL.out]; rfl) HDP.out HNE.out)
      have HST := (show Hid (Kept (fun b => b = h) wr (wr.setCells h (k * 6) [.int .i64 pg, .slice a1 n1 c1, .int .i64 pn, .bool dt, .int .i64 rl, .bool rf])) from Kept.setCells (R := fun b => b = h) (.inr rfl) _ _ (Kept.refl _ _))
      clear u0 u1 u2 u3 u4 u5 c0 c1' c2 c3 c4 c5 y0 y1 hS fh hck
      go_wp2_with fail
      go_roundw
      case rel =>
        refine ⟨k + 1, by omega, by go_num, (HGr.out.kept HST.out hGh).drew, ?_, (HZr.out.kept HST.out (by intro e; omega)).drew, (HKr.out.next HST.out (fun i hi e => by omega)).drew⟩
        have h1 := HEL.out.same (Kept.refl (fun _ => False) _).drew
        rw [show qs.take k ++ (⟨pg, .slice a1 n1 c1, fb, pn, dt, rl, rf⟩ : EFrame) :: List.replicate (n - (k + 1)) zF = qs.take (k + 1) ++ List.replicate (n - (k + 1)) zF from by rw [HT.out]; simp] at h1
        exact h1
      case measure => simp [intOf]; omega
    · obtain rfl : n = k := by omega
      obtain ⟨y0, y1⟩ := HGr.out.all2
      obtain ⟨z0, z1⟩ := HZr.out.all2
      have fz := HZr.out.frozen
      have lz := HZr.out.lt
      go_wp2
      have ho := HOr.out
      rw [Nat.sub_self, List.replicate_zero, List.append_nil, List.take_of_length_le (by rw [← HF.out.len]; exact Nat.le_refl _)] at ho
      have hst : Kept (fun b => b = w.heap.size) wr ((wr.setCell ⟨w.heap.size, 0, none⟩ (.slice (some ⟨h, 0, none⟩) n n)).setCell ⟨w.heap.size, 1, none⟩ (.int .i64 hand)) := Kept.setCell (R := fun b => b = w.heap.size) (Kept.setCell (R := fun b => b = w.heap.size) (Kept.refl _ _) (p := ⟨w.heap.size, 0, none⟩) (.inr rfl) _) (p := ⟨w.heap.size, 1, none⟩) (.inr rfl) _
      refine bodyPost_ret (v := .agg #[.slice (some ⟨h, 0, none⟩) n n, .int .i64 hand]) (by simp [results, Try.results62, go_sem, z0, z1]) rfl ⟨_, _, _, rfl, ho.kept hst ?_, ?_, HKr.out.next hst (fun i hi e => by omega)⟩
      · intro b hb e
        rcases hb with hb | hb
        · simp [Value.ownBlock] at hb; omega
        · have := HF.out.ptr.lt b (.inr hb)
          omega
      · intro b hb
        rcases hb with hb | hb
        · simp [Value.ownBlock] at hb; exact .inl (by omega)
        · exact .inr (.inr hb)
end Go.Proofs.Ytabmhcdldfehnaa
