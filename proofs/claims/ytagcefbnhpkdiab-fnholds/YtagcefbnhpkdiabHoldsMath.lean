/-
  FnHolds, without memory: lengths, holds, owners and the changes that may be given up.
-/
import Derived.Test.YtagcefbnhpkdiabRoomNeed
namespace Go.Proofs.Ytagcefbnhpkdiab
set_option maxRecDepth 100000
set_option maxHeartbeats 1000000
open Go.RowKit
set_option linter.unusedVariables false
set_option linter.unusedSimpArgs false

theorem holdsF_iff {hs : List T3} : holdsF hs = 0 ↔ hs.length ≤ 512 ∧ RisH hs ∧ hs.any hdBad = false := by
  constructor
  · intro h
    exact ⟨holdsF_len h, holdsF_ris h, holdsF_any h⟩
  · rintro ⟨h1, h2, h3⟩
    unfold holdsF
    rw [if_neg (by omega), if_neg (by
      rw [nbr_no (fun k hk => by
        have := (List.pairwise_iff_getElem.1 h2) k (k + 1) (by omega) hk (by omega)
        simp [hdAfter]
        omega)]
      exact Bool.false_ne_true), if_neg (by rw [h3]; exact Bool.false_ne_true)]
theorem holdOf_mem {i : Int} {p : T3} {hs : List T3} (hr : RisH hs) (hp : p ∈ hs) (hi : p.1 = i) : holdOf i hs = p.2.2 := by
  induction hs with
  | nil => simp at hp
  | cons q t ih =>
    unfold holdOf
    rcases List.mem_cons.1 hp with rfl | hp'
    · rw [if_pos hi]
    · have := (List.pairwise_cons.1 hr).1 p hp'
      rw [if_neg (by omega)]
      exact ih (List.pairwise_cons.1 hr).2 hp'
theorem holdOf_cases (i : Int) (hs : List T3) : (holdOf i hs = -1 ∧ ∀ p ∈ hs, p.1 ≠ i) ∨ ∃ p ∈ hs, p.1 = i ∧ holdOf i hs = p.2.2 := by
  induction hs with
  | nil => exact .inl ⟨rfl, fun p hp => by simp at hp⟩
  | cons q t ih =>
    unfold holdOf
    by_cases hq : q.1 = i
    · rw [if_pos hq]
      exact .inr ⟨q, List.mem_cons_self .., hq, rfl⟩
    · rw [if_neg hq]
      rcases ih with ⟨h1, h2⟩ | ⟨p, h1, h2, h3⟩
      · exact .inl ⟨h1, fun p hp => by
          rcases List.mem_cons.1 hp with rfl | hp
          · exact hq
          · exact h2 p hp⟩
      · exact .inr ⟨p, List.mem_cons_of_mem _ h1, h2, h3⟩
/-- what is in and what is not -/
theorem insH_mem {e p : T3} {hs : List T3} (hr : RisH hs) : p ∈ insH e false hs ↔ p = e ∨ (p ∈ hs ∧ p.1 ≠ e.1) := by
  have key : ∀ (hs : List T3) (d : Bool), RisH hs → (d = true → ∀ q ∈ hs, e.1 < q.1 ∨ q.1 < e.1 ∨ q.1 = e.1) → (p ∈ insH e d hs ↔ (d = false ∧ p = e) ∨ (p ∈ hs ∧ p.1 ≠ e.1)) := by
    intro hs
    induction hs with
    | nil => intro d _ _; cases d <;> simp [insH]
    | cons q t ih =>
      intro d hr _
      unfold insH
      rw [List.mem_append, List.mem_append, ih _ (List.pairwise_cons.1 hr).2 (fun _ q _ => by omega)]
      rw [List.mem_cons]
      by_cases h1 : d = false ∧ e.1 ≤ q.1
      · rw [if_pos h1]
        have hd : (d || decide (e.1 ≤ q.1)) = true := by simp [h1.2]
        rw [hd]
        by_cases h2 : q.1 = e.1
        · rw [if_neg (by simp [h2])]
          simp only [List.mem_singleton, List.not_mem_nil, false_or]
          constructor
          · rintro (h | ⟨h, _⟩ | ⟨h3, h4⟩)
            · exact .inl ⟨h1.1, h⟩
            · cases h
            · exact .inr ⟨.inr h3, h4⟩
          · rintro (⟨_, h⟩ | ⟨h3 | h3, h4⟩)
            · exact .inl h
            · rw [h3] at h4; exact absurd h2 h4
            · exact .inr (.inr ⟨h3, h4⟩)
        · rw [if_pos h2]
          simp only [List.mem_singleton]
          constructor
          · rintro (h | h | ⟨h, _⟩ | ⟨h3, h4⟩)
            · exact .inl ⟨h1.1, h⟩
            · exact .inr ⟨.inl h, by rw [h]; exact h2⟩
            · cases h
            · exact .inr ⟨.inr h3, h4⟩
          · rintro (⟨_, h⟩ | ⟨h3 | h3, h4⟩)
            · exact .inl h
            · exact .inr (.inl h3)
            · exact .inr (.inr (.inr ⟨h3, h4⟩))
      · rw [if_neg h1]
        simp only [List.not_mem_nil, false_or]
        have hd : (d || decide (e.1 ≤ q.1)) = false ↔ d = false ∧ ¬ e.1 ≤ q.1 := by simp
        by_cases h2 : q.1 = e.1
        · rw [if_neg (by simp [h2])]
          simp only [List.not_mem_nil, false_or]
          have hdt : d = true := by
            cases d with
            | true => rfl
            | false => exact absurd ⟨rfl, by omega⟩ h1
          subst hdt
          simp only [Bool.true_or]
          constructor
          · rintro (⟨h, _⟩ | ⟨h3, h4⟩)
            · cases h
            · exact .inr ⟨.inr h3, h4⟩
          · rintro (⟨h, _⟩ | ⟨h3 | h3, h4⟩)
            · cases h
            · rw [h3] at h4; exact absurd h2 h4
            · exact .inr ⟨h3, h4⟩
        · rw [if_pos h2]
          simp only [List.mem_singleton]
          constructor
          · rintro (h | ⟨h, h'⟩ | ⟨h3, h4⟩)
            · exact .inr ⟨.inl h, by rw [h]; exact h2⟩
            · exact .inl ⟨(hd.1 h).1, h'⟩
            · exact .inr ⟨.inr h3, h4⟩
          · rintro (⟨h, h'⟩ | ⟨h3 | h3, h4⟩)
            · refine .inr (.inl ⟨hd.2 ⟨h, fun hle => h1 ⟨h, hle⟩⟩, h'⟩)
            · exact .inl h3
            · exact .inr (.inr ⟨h3, h4⟩)
  have := key hs false hr (fun h => by cases h)
  simpa using this
theorem insH_ris {e : T3} {hs : List T3} (hr : RisH hs) : RisH (insH e false hs) := by
  have hlb : ∃ k, LbH e.1 hs k := by
    induction hs with
    | nil => exact ⟨0, by simp, fun i h _ => by simp at h, fun i h _ => by simp at h⟩
    | cons q t ih =>
      obtain ⟨k, h1, h2, h3⟩ := ih (List.pairwise_cons.1 hr).2
      by_cases hq : q.1 < e.1
      · refine ⟨k + 1, by simpa using h1, fun i h hi => ?_, fun i h hi => ?_⟩
        · cases i with
          | zero => simpa using hq
          | succ i => simpa using h2 i (by simpa using h) (by omega)
        · cases i with
          | zero => omega
          | succ i => simpa using h3 i (by simpa using h) (by omega)
      · refine ⟨0, by simp, fun i h hi => by omega, fun i h _ => ?_⟩
        cases i with
        | zero => simp; omega
        | succ i =>
          have := (List.pairwise_cons.1 hr).1 (t[i]'(by simpa using h)) (List.getElem_mem _)
          simp
          omega
  obtain ⟨k, hl⟩ := hlb
  rw [insH_lb e hs k hr hl]
  have hp := List.pairwise_iff_getElem.1 hr
  split
  · rename_i hf
    obtain ⟨hk, hke⟩ := fndH_some hf
    refine List.pairwise_iff_getElem.2 (fun i j hi hj hij => ?_)
    rw [List.length_set] at hi hj
    simp only [List.getElem_set]
    split <;> split
    · omega
    · have := hp i j hi hj hij; subst_vars; omega
    · have := hp i j hi hj hij; subst_vars; omega
    · exact hp i j hi hj hij
  · rename_i hf
    have hf' : fndH e.1 hs k = false := by simpa using hf
    refine List.pairwise_append.2 ⟨List.Pairwise.sublist (List.take_sublist _ _) hr, List.pairwise_cons.2 ⟨fun q hq => ?_, List.Pairwise.sublist (List.drop_sublist _ _) hr⟩, fun a ha b hb => ?_⟩
    · obtain ⟨i, hi, rfl⟩ := List.getElem_of_mem hq
      rw [List.length_drop] at hi
      rw [List.getElem_drop]
      have h1 := hl.2.2 (k + i) (by omega) (by omega)
      have h2 : hs[k + i].1 ≠ e.1 := by
        intro h
        by_cases hi0 : i = 0
        · subst hi0
          exact fndH_none hf' (by omega) h
        · have := hp k (k + i) (by omega) (by omega) (by omega)
          have := hl.2.2 k (by omega) (by omega)
          omega
      omega
    · obtain ⟨i, hi, rfl⟩ := List.getElem_of_mem ha
      rw [List.length_take] at hi
      rw [List.getElem_take]
      have h1 := hl.2.1 i (by omega) (by omega)
      rcases List.mem_cons.1 hb with rfl | hb
      · exact h1
      · obtain ⟨j, hj, rfl⟩ := List.getElem_of_mem hb
        rw [List.length_drop] at hj
        rw [List.getElem_drop]
        have := hl.2.2 (k + j) (by omega) (by omega)
        omega
theorem insH_len {e : T3} {hs : List T3} (hr : RisH hs) : (insH e false hs).length ≤ hs.length + 1 ∧ 0 < (insH e false hs).length := by
  have hme : e ∈ insH e false hs := (insH_mem hr).2 (.inl rfl)
  refine ⟨?_, List.length_pos_of_mem hme⟩
  have key : ∀ (hs : List T3) (d : Bool), (insH e d hs).length ≤ hs.length + (if d = true then 0 else 1) := by
    intro hs
    induction hs with
    | nil => intro d; cases d <;> simp [insH]
    | cons q t ih =>
      intro d
      unfold insH
      have := ih (d || decide (e.1 ≤ q.1))
      rw [List.length_append, List.length_append, List.length_cons]
      cases d with
      | true =>
        simp only [Bool.true_or, if_true] at this
        rw [if_neg (by simp)]
        simp only [Bool.true_or, if_true, List.length_nil]
        split <;> simp <;> omega
      | false =>
        by_cases h : e.1 ≤ q.1
        · have hd : (false || decide (e.1 ≤ q.1)) = true := by simp [h]
          rw [hd] at this ⊢
          rw [if_pos ⟨rfl, h⟩]
          simp only [if_true] at this
          simp
          split <;> simp <;> omega
        · have hd : (false || decide (e.1 ≤ q.1)) = false := by simp [h]
          rw [hd] at this ⊢
          rw [if_neg (fun hh => h hh.2)]
          simp at this ⊢
          split <;> simp <;> omega
  simpa using key hs false
end Go.Proofs.Ytagcefbnhpkdiab
