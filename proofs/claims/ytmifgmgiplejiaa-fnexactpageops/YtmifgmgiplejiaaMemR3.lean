/-
  Rows of structs with bytes: one more behind them ('append(out, E{..})').
-/
import Derived.Test.YtmifgmgiplejiaaMemR2
namespace Go.Proofs.Ytmifgmgiplejiaa
open Go.RowKit
set_option linter.unusedVariables false
set_option linter.unusedSimpArgs false
variable {E : Type}
section
variable {K : RowK E} {base : Nat} {tw tb : TypeId} {w w' : World} {v : Value} {qs : List E}
theorem OwnR.snoc {g n cap : Nat} (p : E) (h : OwnR K base tw tb w v qs) (hu : Own base tb .u8 w (K.v p) (K.bs p)) (huf : ∀ b, (K.v p).ownBlock = some b → ¬ footR K v qs b)
    (hg : w.grownBy w' v.ownBlock) (hrow : w'.ownsRow base tw K.m (.slice (some ⟨g, 0, none⟩) (n + 1) cap) (n + 1) (K.all qs ++ K.cells p)) (hn : n = qs.length) (hat : v.ownBlock = some g ∨ g = w.heap.size) :
    OwnR K base tw tb w' (.slice (some ⟨g, 0, none⟩) (n + 1) cap) (qs ++ [p]) := by
  have hk : Kept (fun b => v.ownBlock = some b) w w' := Kept.of_grown hg (fun k e => e)
  have hul : ∀ b, (K.v p).ownBlock = some b → b < w.heap.size := fun b hb => (hu.lt b hb).2
  have hgu : (K.v p).ownBlock ≠ some g := fun e => by
    rcases hat with hat | hat
    · exact huf g e (.inl hat)
    · have := hul g e; omega
  have hgp : ∀ q ∈ qs, (K.v q).ownBlock ≠ some g := fun q hp e => by
    rcases hat with hat | hat
    · exact h.out (K.v q) (List.mem_map_of_mem hp) g hat e
    · have := (h.lt g (.inr ⟨q, hp, e⟩)).2; omega
  refine ⟨?_, fun q hp => ?_, fun x hx => ?_, ?_⟩
  · have e : K.all (qs ++ [p]) = K.all qs ++ K.cells p := by rw [K.all_append]; simp [RowK.all]
    rw [e, List.length_append, List.length_singleton, ← hn]
    exact hrow
  · rcases List.mem_append.1 hp with hp | hp
    · exact (h.data q hp).kept hk (fun b hb e => h.out (K.v q) (List.mem_map_of_mem hp) b e hb)
    · simp at hp
      subst hp
      exact hu.kept hk (fun b hb e => huf b hb (.inl e))
  · rw [List.map_append, List.mem_append] at hx
    intro b hb
    have hb' : b = g := by simpa [Value.ownBlock] using hb.symm
    subst hb'
    rcases hx with hx | hx
    · obtain ⟨q, hp, rfl⟩ := List.mem_map.1 hx
      exact hgp q hp
    · simp at hx
      subst hx
      exact hgu
  · rw [List.map_append]
    refine List.pairwise_append.2 ⟨h.each, by simp, fun x hx y hy => ?_⟩
    obtain ⟨q, hp, rfl⟩ := List.mem_map.1 hx
    simp at hy
    subst hy
    exact fun b hb hb' => huf b hb' (.inr ⟨q, hp, hb⟩)
theorem footR_snoc {g n cap : Nat} {p : E} (b : Nat) (hb : footR K (.slice (some ⟨g, 0, none⟩) n cap) (qs ++ [p]) b) : b = g ∨ footR K v qs b ∨ (K.v p).ownBlock = some b := by
  rcases hb with hb | ⟨q, hp, hb⟩
  · exact .inl (by simpa [Value.ownBlock] using hb.symm)
  · rcases List.mem_append.1 hp with hp | hp
    · exact .inr (.inl (.inr ⟨q, hp, hb⟩))
    · simp at hp
      subst hp
      exact .inr (.inr hb)
theorem footR_nil (b : Nat) : ¬ footR K (.slice none 0 0) [] b := by
  rintro (h | ⟨p, hp, _⟩)
  · simp [Value.ownBlock] at h
  · simp at hp
theorem list_mid {qs : List E} {k : Nat} (h : k < qs.length) : qs = qs.take k ++ qs[k] :: qs.drop (k + 1) := by
  rw [← List.drop_eq_getElem_cons h, List.take_append_drop]
theorem set_mid {qs : List E} {k : Nat} (h : k < qs.length) (p : E) : qs.set k p = qs.take k ++ p :: qs.drop (k + 1) := List.set_eq_take_append_cons_drop.trans (if_pos h)
/-- One cell of one element is stored. -/
theorem OwnR.setAt {g n cap k : Nat} {p' : E} (h : OwnR K base tw tb w (.slice (some ⟨g, 0, none⟩) n cap) qs) (hn : n = qs.length) (hk : k < qs.length) (i : Nat) (u : Value) (hi : i < K.m)
    (hc : K.cells p' = (K.cells qs[k]).set i u) (hv : K.v p' = K.v qs[k]) (hb : K.bs p' = K.bs qs[k]) (j : Nat) (hj : j = k * K.m + i) :
    OwnR K base tw tb (w.setCell ⟨g, j, none⟩ u) (.slice (some ⟨g, 0, none⟩) n cap) (qs.set k p') := by
  have h' := h
  rw [list_mid hk] at h'
  rw [set_mid hk]
  exact OwnR.set h' (by rw [← list_mid hk]; exact hn) i u hi hc hv hb j (by rw [List.length_take, Nat.min_eq_left (Nat.le_of_lt hk)]; exact hj)
theorem footR_set {k : Nat} {p' : E} (hk : k < qs.length) (hv : K.v p' = K.v qs[k]) (b : Nat) (h : footR K v (qs.set k p') b) : footR K v qs b := by
  rcases h with h | ⟨q, hq, hb⟩
  · exact .inl h
  · rcases List.mem_or_eq_of_mem_set hq with hq | rfl
    · exact .inr ⟨q, hq, hb⟩
    · exact .inr ⟨qs[k], List.getElem_mem hk, by rw [← hv]; exact hb⟩
end
end Go.Proofs.Ytmifgmgiplejiaa
