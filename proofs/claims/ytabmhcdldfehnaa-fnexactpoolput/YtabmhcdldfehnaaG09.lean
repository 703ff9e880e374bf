import Derived.Test.YtabmhcdldfehnaaG08
import Derived.Test.YtabmhcdldfehnaaG06
namespace Go.Proofs.Ytabmhcdldfehnaa
set_option maxRecDepth 100000
set_option maxHeartbeats 4000000
open Go.RowKit
set_option linter.unusedVariables false
set_option linter.unusedSimpArgs false
theorem turnP_dat {T : Int × Int × List (Int × List Int × Int × Bool × Int × Bool)} {ps qs : List EFrame} {hand : Int} (h : datFrameS qs = datFrameS ps) : turnP T qs hand = turnP T ps hand := by
  unfold turnP
  rw [poolF_dat h]
theorem small_dat {ps : List EFrame} {hand : Int} (h : poolF ps hand = 0) : SmallF (datFrameS ps) := by
  have hl := (poolF_len h).2.1
  refine ⟨by rw [datFrameS_length]; omega, fun x hx => ?_⟩
  obtain ⟨p, hp, rfl⟩ := List.mem_map.1 hx
  have := (frame_of h p hp).2
  exact Nat.le_trans this (by omega)
theorem small_set {l : List (Int × List Int × Int × Bool × Int × Bool)} {k : Nat} {x : Int × List Int × Int × Bool × Int × Bool} (h : SmallF l) (hx : x.2.1.length ≤ 1048576) : SmallF (l.set k x) :=
  ⟨by rw [List.length_set]; exact h.1, fun y hy => by
    rcases List.mem_or_eq_of_mem_set hy with hy | rfl
    · exact h.2 y hy
    · exact hx⟩
theorem small_nil : SmallF [] := ⟨by simp, fun x hx => by simp at hx⟩
theorem turnP_small {T : Int × Int × List (Int × List Int × Int × Bool × Int × Bool)} {ps qs : List EFrame} {hand a b c : Int} (h : (a, b, c, datFrameS qs) = turnP T ps hand) (hT : poolF ps hand = 0 → T.1 = 0 → SmallF T.2.2) : SmallF (datFrameS qs) := by
  unfold turnP at h
  by_cases h0 : poolF ps hand ≠ 0
  · rw [if_pos h0] at h
    simp only [Prod.mk.injEq] at h
    rw [h.2.2.2]; exact small_nil
  rw [if_neg h0] at h
  by_cases h1 : T.1 ≠ 0
  · rw [if_pos h1] at h
    simp only [Prod.mk.injEq] at h
    rw [h.2.2.2]; exact small_nil
  rw [if_neg h1] at h
  simp only [Prod.mk.injEq] at h
  rw [h.2.2.2]
  exact hT (Classical.not_not.1 h0) (Classical.not_not.1 h1)
end Go.Proofs.Ytabmhcdldfehnaa

namespace Go.Proofs.Ytabmhcdldfehnaa
open Go Go.RowKit
set_option linter.unusedVariables false
set_option linter.unusedSimpArgs false
variable {E : Type}
section
variable {K : RowK E} {base : Nat} {tw tb : TypeId} {w w' : World} {qs : List E}
theorem OwnR.setNew' {g n cap : Nat} {pre post : List E} {p p' : E} (h : OwnR K base tw tb w (.slice (some ⟨g, 0, none⟩) n cap) (pre ++ p :: post)) (hn : n = (pre ++ p :: post).length) (i : Nat) (x : Value) (hi : i < K.m) (hc : K.cells p' = (K.cells p).set i x) (j : Nat) (hj : j = pre.length * K.m + i)
    (hu : Own base tb .u8 w (K.v p') (K.bs p')) (hf : ∀ b, (K.v p').ownBlock = some b → ¬ footR K (.slice (some ⟨g, 0, none⟩) n cap) (pre ++ p :: post) b) :
    OwnR K base tw tb (w.setCell ⟨g, j, none⟩ x) (.slice (some ⟨g, 0, none⟩) n cap) (pre ++ p' :: post) := by
  subst hn hj
  have hk : Kept (fun b => b = g) w (w.setCell ⟨g, pre.length * K.m + i, none⟩ x) := Kept.setCell (R := fun b => b = g) (Kept.refl _ _) (p := ⟨g, pre.length * K.m + i, none⟩) (.inr rfl) _
  have hug : ∀ b, (K.v p').ownBlock = some b → ¬ b = g := fun b hb e => hf b hb (.inl (by rw [e]; rfl))
  have hold : ∀ q ∈ pre ++ post, q ∈ pre ++ p :: post := fun q hq => by
    rcases List.mem_append.1 hq with hq | hq
    · simp [hq]
    · simp [hq]
  have hea := h.each
  rw [List.map_append, List.map_cons] at hea
  obtain ⟨h1, h2, h3⟩ := List.pairwise_append.1 hea
  have h4 := List.pairwise_cons.1 h2
  refine ⟨?_, fun q hq => ?_, ?_, ?_⟩
  · have hs := (World.ownsRow.stored h.row (pre.length * K.m + i) x).1
    have e : K.all (pre ++ p' :: post) = (K.all (pre ++ p :: post)).set (pre.length * K.m + i) x := by
      rw [K.all_append, K.all_append, List.set_append_right (h := by rw [K.all_length]; omega), K.all_length, Nat.add_sub_cancel_left, RowK.all, RowK.all, List.set_append_left (h := by rw [K.len]; exact hi), hc]
    rw [e]
    simpa using hs
  · have hd : ∀ q ∈ pre ++ post, Own base tb .u8 (w.setCell ⟨g, pre.length * K.m + i, none⟩ x) (K.v q) (K.bs q) := fun q hq =>
      (h.data q (hold q hq)).kept hk (fun b hb e => h.out (K.v q) (List.mem_map_of_mem (hold q hq)) b (by rw [e]; rfl) hb)
    rcases List.mem_append.1 hq with hq | hq
    · exact hd q (by simp [hq])
    · rcases List.mem_cons.1 hq with rfl | hq
      · exact hu.kept hk hug
      · exact hd q (by simp [hq])
  · intro y hx
    rw [List.map_append, List.map_cons] at hx
    have hx' : y ∈ (pre ++ post).map K.v ∨ y = K.v p' := by
      simp only [List.mem_append, List.mem_cons, List.map_append] at hx ⊢
      rcases hx with hx | hx | hx
      · exact .inl (.inl hx)
      · exact .inr hx
      · exact .inl (.inr hx)
    rcases hx' with hx' | rfl
    · obtain ⟨q, hq, rfl⟩ := List.mem_map.1 hx'
      exact h.out (K.v q) (List.mem_map_of_mem (hold q hq))
    · exact fun b hb hu' => hf b hu' (.inl hb)
  · rw [List.map_append, List.map_cons]
    have hua : ∀ q ∈ pre ++ post, Apart (K.v p') (K.v q) := fun q hq b hb hq' => hf b hb (.inr ⟨q, hold q hq, hq'⟩)
    refine List.pairwise_append.2 ⟨h1, List.pairwise_cons.2 ⟨fun x hx => ?_, h4.2⟩, fun x hx y hy => ?_⟩
    · obtain ⟨q, hq, rfl⟩ := List.mem_map.1 hx
      exact hua q (by simp [hq])
    · obtain ⟨q, hq, rfl⟩ := List.mem_map.1 hx
      rcases List.mem_cons.1 hy with rfl | hy
      · exact (hua q (by simp [hq])).symm
      · exact h3 (K.v q) hx y (List.mem_cons_of_mem _ hy)
theorem OwnR.setNew {g n cap k : Nat} {p' : E} (h : OwnR K base tw tb w (.slice (some ⟨g, 0, none⟩) n cap) qs) (hn : n = qs.length) (hk : k < qs.length) (i : Nat) (x : Value) (hi : i < K.m) (hc : K.cells p' = (K.cells qs[k]).set i x)
    (hu : Own base tb .u8 w (K.v p') (K.bs p')) (hf : ∀ b, (K.v p').ownBlock = some b → ¬ footR K (.slice (some ⟨g, 0, none⟩) n cap) qs b) (j : Nat) (hj : j = k * K.m + i) :
    OwnR K base tw tb (w.setCell ⟨g, j, none⟩ x) (.slice (some ⟨g, 0, none⟩) n cap) (qs.set k p') := by
  have h' := h
  rw [list_mid hk] at h' hf
  rw [set_mid hk]
  exact OwnR.setNew' h' (by rw [← list_mid hk]; exact hn) i x hi hc j (by rw [List.length_take, Nat.min_eq_left (Nat.le_of_lt hk)]; exact hj) hu hf
theorem OwnR.setWhole {g n cap k : Nat} {p' : E} (h : OwnR K base tw tb w (.slice (some ⟨g, 0, none⟩) n cap) qs) (hn : n = qs.length) (hk : k < qs.length)
    (hu : Own base tb .u8 w (K.v p') (K.bs p')) (hf : ∀ b, (K.v p').ownBlock = some b → ¬ footR K (.slice (some ⟨g, 0, none⟩) n cap) qs b) (j : Nat) (hj : j = k * K.m) :
    OwnR K base tw tb (w.setCells g j (K.cells p')) (.slice (some ⟨g, 0, none⟩) n cap) (qs.set k p') := by
  have h' := h
  rw [list_mid hk] at h' hf
  rw [set_mid hk]
  exact OwnR.setElem h' (by rw [← list_mid hk]; exact hn) j (by rw [List.length_take, Nat.min_eq_left (Nat.le_of_lt hk)]; exact hj) hu hf
theorem footR_setNew {v : Value} {k : Nat} {p' : E} (b : Nat) (h : footR K v (qs.set k p') b) : footR K v qs b ∨ (K.v p').ownBlock = some b := by
  rcases h with h | ⟨q, hq, hb⟩
  · exact .inl (.inl h)
  · rcases List.mem_or_eq_of_mem_set hq with hq | rfl
    · exact .inl (.inr ⟨q, hq, hb⟩)
    · exact .inr hb
end
end Go.Proofs.Ytabmhcdldfehnaa
