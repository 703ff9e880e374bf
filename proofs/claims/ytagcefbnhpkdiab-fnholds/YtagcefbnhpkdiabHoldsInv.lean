/-
  FnHolds, without memory: what holds at all times, and how the steps keep it.
-/
import Derived.Test.YtagcefbnhpkdiabHoldsMath
namespace Go.Proofs.Ytagcefbnhpkdiab
set_option maxRecDepth 100000
set_option maxHeartbeats 1000000
open Go.RowKit
set_option linter.unusedVariables false
set_option linter.unusedSimpArgs false

/-- the changes of one transaction -/
def StOK (t : Nat) (I Z os : List Int) (hs : List T3) : Prop :=
  I.length = Z.length ∧ ∀ p, p < I.length → ∃ i : Nat, I.getD p 0 = (i : Int) ∧ i < 9 ∧ -1 ≤ Z.getD p 0 ∧ Z.getD p 0 ≤ 1000 ∧ os.getD i 0 = (t : Int) ∧ ∃ m, ((i : Int), (t : Int), m) ∈ hs ∧ Z.getD p 0 ≤ m
structure PH (zs os : List Int) (hs : List T3) (I Z : Nat → List Int) (j : Nat) : Prop where
  zl : zs.length = 32
  zb : ∀ z ∈ zs, -1 ≤ z ∧ z ≤ 1000
  ol : os.length = 32
  ho : holdsF hs = 0
  hl : hs.length ≤ j
  su : sumA zs hs 0 32 ≤ 3948
  st : ∀ t, 1 ≤ t → t ≤ 3 → StOK t (I t) (Z t) os hs
  ln : ∀ t, (I t).length ≤ j ∧ (Z t).length ≤ j
theorem PH.lens {zs os : List Int} {hs : List T3} {I Z : Nat → List Int} {j : Nat} (h : PH zs os hs I Z j) : lenOK zs = true := by
  unfold lenOK
  rw [h.zl]
  simp [inB]
  intro z hz
  have := h.zb z hz
  omega
theorem PH.zat {zs os : List Int} {hs : List T3} {I Z : Nat → List Int} {j : Nat} (h : PH zs os hs I Z j) (i : Nat) (hi : i < 32) : -1 ≤ zs.getD i 0 ∧ zs.getD i 0 ≤ 1000 := by
  have hi' : i < zs.length := by rw [h.zl]; exact hi
  rw [show zs.getD i 0 = zs[i] from by simp [List.getD, hi']]
  exact h.zb _ (List.getElem_mem hi')
theorem PH.left {zs os : List Int} {hs : List T3} {I Z : Nat → List Int} {j : Nat} (h : PH zs os hs I Z j) : 0 ≤ roomL zs hs 0 := by
  unfold roomL
  split
  · have := h.su; simp; omega
  · rename_i hh
    exfalso
    apply hh
    unfold roomB
    rw [h.lens, h.ho, h.zl]
    simp [inB]
theorem sumA_le {zs zs' : List Int} {hs hs' : List T3} {a : Nat} : ∀ {m : Nat}, (∀ i, i < m → needA zs' hs' (a + i) ≤ needA zs hs (a + i)) → sumA zs' hs' a m ≤ sumA zs hs a m
  | 0, _ => Int.le_refl _
  | m + 1, h => by
    have ih := sumA_le (m := m) (fun i hi => h i (by omega))
    have := h m (by omega)
    show sumA zs' hs' a m + needA zs' hs' (a + m) ≤ sumA zs hs a m + needA zs hs (a + m)
    omega
theorem sumA_one {zs zs' : List Int} {hs hs' : List T3} {a k : Nat} {d : Int} : ∀ {m : Nat}, (∀ i, i ≠ k → needA zs' hs' (a + i) = needA zs hs (a + i)) → needA zs' hs' (a + k) = needA zs hs (a + k) + d → sumA zs' hs' a m = sumA zs hs a m + (if k < m then d else 0)
  | 0, _, _ => by simp [sumA]
  | m + 1, h, hk => by
    have ih := sumA_one (m := m) h hk
    show sumA zs' hs' a m + needA zs' hs' (a + m) = sumA zs hs a m + needA zs hs (a + m) + _
    by_cases e : m = k
    · subst e
      rw [ih, hk, if_neg (by omega), if_pos (by omega)]
      omega
    · rw [ih, h m e]
      by_cases hkm : k < m
      · rw [if_pos hkm, if_pos (by omega)]; omega
      · rw [if_neg hkm, if_neg (by omega)]; omega
/-- a transaction ends well -/
theorem PH.free {zs os : List Int} {hs : List T3} {I Z : Nat → List Int} {j : Nat} (h : PH zs os hs I Z j) (T : Nat) :
    PH zs (os.map (fun o => if o = (T : Int) then 0 else o)) (hs.filter (fun l => decide (l.2.1 ≠ (T : Int)))) (fun t => if t = T then [] else I t) (fun t => if t = T then [] else Z t) (j + 1) := by
  obtain ⟨h1, h2, h3⟩ := holdsF_iff.1 h.ho
  have hr : RisH (hs.filter (fun l => decide (l.2.1 ≠ (T : Int)))) := List.Pairwise.sublist List.filter_sublist h2
  have hle := List.length_filter_le (fun l : T3 => decide (l.2.1 ≠ (T : Int))) hs
  refine ⟨h.zl, h.zb, by rw [List.length_map]; exact h.ol, holdsF_iff.2 ⟨by omega, hr, ?_⟩, by have := h.hl; omega, ?_, ?_, fun t => by
    have := h.ln t
    by_cases e : t = T
    · subst e; simp
    · simp only [if_neg e]; omega⟩
  · rw [List.any_eq_false] at h3 ⊢
    exact fun p hp => h3 p (List.mem_filter.1 hp).1
  · refine Int.le_trans (sumA_le (fun i _ => ?_)) h.su
    unfold needA
    have hb := holdOf_bound h3 ((0 + i : Nat) : Int)
    rcases holdOf_cases ((0 + i : Nat) : Int) (hs.filter (fun l => decide (l.2.1 ≠ (T : Int)))) with ⟨e, _⟩ | ⟨p, hp, hpi, e⟩
    · rw [e]
      unfold maxI
      repeat' split
      all_goals omega
    · rw [e, holdOf_mem h2 (List.mem_filter.1 hp).1 hpi]
      exact Int.le_refl _
  · intro t ht1 ht3
    by_cases e : t = T
    · subst e
      simp only [if_true]
      exact ⟨rfl, fun p hp => by simp at hp⟩
    · simp only [if_neg e]
      obtain ⟨s1, s2⟩ := h.st t ht1 ht3
      refine ⟨s1, fun p hp => ?_⟩
      obtain ⟨i, e1, e2, e3, e4, e5, m, e6, e7⟩ := s2 p hp
      refine ⟨i, e1, e2, e3, e4, ?_, m, List.mem_filter.2 ⟨e6, ?_⟩, e7⟩
      · have hi : i < os.length := by rw [h.ol]; omega
        have e5' : os[i] = (t : Int) := by rw [← e5]; simp [List.getD, hi]
        rw [show (os.map (fun o => if o = (T : Int) then 0 else o)).getD i 0 = (if os[i] = (T : Int) then 0 else os[i]) from by simp [List.getD, hi], e5', if_neg (by omega)]
      · simp
        omega
/-- a change -/
theorem PH.change {zs os : List Int} {hs : List T3} {I Z : Nat → List Int} {j : Nat} (h : PH zs os hs I Z j) (hj : j < 512) (T i : Nat) (len : Int) (hT1 : 1 ≤ T) (hT3 : T ≤ 3) (hi : i < 9) (hl1 : -1 ≤ len) (hl2 : len ≤ 1000)
    (hown : os.getD i 0 = 0 ∨ os.getD i 0 = (T : Int)) (hroom : 0 ≤ len → roomFor zs hs (i : Int) len = true) :
    PH (zs.set i len) (os.set i (T : Int)) (insH ((i : Int), (T : Int), mostH hs (i : Int) (zs.getD i 0) len) false hs) (fun t => if t = T then I t ++ [(i : Int)] else I t) (fun t => if t = T then Z t ++ [zs.getD i 0] else Z t) (j + 1) := by
  obtain ⟨h1, h2, h3⟩ := holdsF_iff.1 h.ho
  obtain ⟨z1, z2⟩ := h.zat i (by omega)
  obtain ⟨z, hz⟩ : ∃ z, zs.getD i 0 = z := ⟨_, rfl⟩
  rw [hz] at z1 z2 ⊢
  have hb := holdOf_bound h3 (i : Int)
  obtain ⟨M, hM⟩ : ∃ M, mostH hs (i : Int) z len = M := ⟨_, rfl⟩
  have hMe : M = maxI (maxI (holdOf (i : Int) hs) 0) (maxI z len) := hM.symm
  have hM0 : 0 ≤ M ∧ M ≤ 1000 ∧ holdOf (i : Int) hs ≤ M ∧ z ≤ M ∧ len ≤ M := by
    rw [hMe]
    unfold maxI
    repeat' split
    all_goals omega
  rw [hM]
  have hri := insH_ris (e := ((i : Int), (T : Int), M)) h2
  obtain ⟨hn1, hn2⟩ := insH_len (e := ((i : Int), (T : Int), M)) h2
  have hjl := h.hl
  have hmem := fun p => insH_mem (e := ((i : Int), (T : Int), M)) (p := p) h2
  have hzi : i < zs.length := by rw [h.zl]; omega
  have hset : ∀ k, (zs.set i len).getD k 0 = if k = i then len else zs.getD k 0 := fun k => by
    by_cases e : k = i
    · subst e; rw [if_pos rfl]; simp [List.getD, hzi]
    · rw [if_neg e]; simp [List.getD, List.getElem?_set_ne (Ne.symm e)]
  have hho : ∀ k : Nat, k ≠ i → holdOf (k : Int) (insH ((i : Int), (T : Int), M) false hs) = holdOf (k : Int) hs := fun k hk => by
    rcases holdOf_cases (k : Int) hs with ⟨e, hno⟩ | ⟨p, hp, hpi, e⟩
    · rw [e]
      rcases holdOf_cases (k : Int) (insH ((i : Int), (T : Int), M) false hs) with ⟨e', _⟩ | ⟨p, hp, hpi, e'⟩
      · exact e'
      · rcases (hmem p).1 hp with rfl | ⟨hp', _⟩
        · dsimp only at hpi; omega
        · exact absurd hpi (hno p hp')
    · rw [e]
      exact holdOf_mem hri ((hmem p).2 (.inr ⟨hp, by dsimp only; omega⟩)) hpi
  have hhi : holdOf (i : Int) (insH ((i : Int), (T : Int), M) false hs) = M := holdOf_mem hri ((hmem _).2 (.inl rfl)) rfl
  refine ⟨by rw [List.length_set]; exact h.zl, fun y hy => ?_, by rw [List.length_set]; exact h.ol, holdsF_iff.2 ⟨by omega, hri, ?_⟩, by omega, ?_, ?_, fun t => by
    have := h.ln t
    by_cases e : t = T
    · subst e; simp only [if_true, List.length_append, List.length_singleton]; omega
    · simp only [if_neg e]; omega⟩
  · rcases List.mem_or_eq_of_mem_set hy with hy | rfl
    · exact h.zb y hy
    · exact ⟨hl1, hl2⟩
  · rw [List.any_eq_false] at h3 ⊢
    intro p hp
    rcases (hmem p).1 hp with rfl | ⟨hp', _⟩
    · simp [hdBad, inB]
      omega
    · exact h3 p hp'
  · have hne : ∀ k, k ≠ i → needA (zs.set i len) (insH ((i : Int), (T : Int), M) false hs) (0 + k) = needA zs hs (0 + k) := fun k hk => by
      unfold needA
      rw [hset, if_neg (by omega), hho (0 + k) (by omega)]
    have hself : needA (zs.set i len) (insH ((i : Int), (T : Int), M) false hs) (0 + i) = needA zs hs (0 + i) + (if 0 < len - needA zs hs i then len - needA zs hs i else 0) := by
      rw [Nat.zero_add]
      unfold needA
      rw [hset, if_pos rfl, hhi, hz, hMe]
      unfold maxI
      repeat' split
      all_goals omega
    rw [sumA_one hne hself, if_pos (by omega)]
    have hsu := h.su
    by_cases hd : 0 < len - needA zs hs i
    · rw [if_pos hd]
      have hnb := needA_bound h.lens h.ho i
      have hf := hroom (by omega)
      unfold roomFor at hf
      split at hf
      · cases hf
      · rename_i hcond
        have hrb : roomB zs hs ((i : Int) / 32) = true := by
          cases e : roomB zs hs ((i : Int) / 32) with
          | true => rfl
          | false => exact absurd (.inr (.inl e)) hcond
        rw [show ((i : Int)).toNat = i from by omega] at hf
        unfold roomL at hf
        rw [if_pos hrb, show ((i : Int) / 32).toNat = 0 from by omega] at hf
        simp only [Bool.or_eq_true, Bool.and_eq_true, decide_eq_true_eq, Nat.zero_mul] at hf
        omega
    · rw [if_neg hd]; omega
  · intro t ht1 ht3
    obtain ⟨s1, s2⟩ := h.st t ht1 ht3
    have keep : ∀ p, p < (I t).length → ∃ k : Nat, (I t).getD p 0 = (k : Int) ∧ k < 9 ∧ -1 ≤ (Z t).getD p 0 ∧ (Z t).getD p 0 ≤ 1000 ∧ (os.set i (T : Int)).getD k 0 = (t : Int) ∧ ∃ m, ((k : Int), (t : Int), m) ∈ insH ((i : Int), (T : Int), M) false hs ∧ (Z t).getD p 0 ≤ m := fun p hp => by
      obtain ⟨k, e1, e2, e3, e4, e5, m, e6, e7⟩ := s2 p hp
      by_cases e : k = i
      · subst e
        have htT : t = T := by
          rcases hown with ho | ho
          · omega
          · omega
        subst htT
        refine ⟨k, e1, e2, e3, e4, ?_, M, (hmem _).2 (.inl rfl), ?_⟩
        · have : k < os.length := by rw [h.ol]; omega
          simp [List.getD, this]
        · have := holdOf_mem h2 e6 rfl
          dsimp only at this
          omega
      · refine ⟨k, e1, e2, e3, e4, ?_, m, (hmem _).2 (.inr ⟨e6, by dsimp only; omega⟩), e7⟩
        rw [← e5]
        simp [List.getD, List.getElem?_set_ne (Ne.symm e)]
    by_cases e : t = T
    · subst e
      simp only [if_true]
      refine ⟨by simp [s1], fun p hp => ?_⟩
      rw [List.length_append, List.length_singleton] at hp
      by_cases hpl : p < (I t).length
      · have e1 : (I t ++ [(i : Int)]).getD p 0 = (I t).getD p 0 := by simp [List.getD, List.getElem?_append_left hpl]
        have e2 : (Z t ++ [z]).getD p 0 = (Z t).getD p 0 := by simp [List.getD, List.getElem?_append_left (show p < (Z t).length from by omega)]
        rw [e1, e2]
        exact keep p hpl
      · have hpe : p = (I t).length := by omega
        have e1 : (I t ++ [(i : Int)]).getD p 0 = (i : Int) := by subst hpe; simp [List.getD]
        have e2 : (Z t ++ [z]).getD p 0 = z := by rw [hpe, s1]; simp [List.getD]
        rw [e1, e2]
        refine ⟨i, rfl, hi, z1, z2, ?_, M, (hmem _).2 (.inl rfl), hM0.2.2.2.1⟩
        have : i < os.length := by rw [h.ol]; omega
        simp [List.getD, this]
    · simp only [if_neg e]
      exact ⟨s1, keep⟩
/-- the lengths that are above 0 -/
def sumP (zs : List Int) : Nat → Int
  | 0 => 0
  | k + 1 => if 0 < zs.getD k 0 then sumP zs k + zs.getD k 0 else sumP zs k
/-- giving up -/
structure PG (zs : List Int) (N : Nat → Int) (I Z : Nat → List Int) : Prop where
  zl : zs.length = 32
  zn : ∀ i, i < 32 → zs.getD i 0 ≤ N i
  nn : ∀ i, 0 ≤ N i ∧ N i ≤ 1000
  st : ∀ t, 1 ≤ t → t ≤ 3 → (I t).length = (Z t).length ∧ ∀ p, p < (I t).length → ∃ i : Nat, (I t).getD p 0 = (i : Int) ∧ i < 9 ∧ (Z t).getD p 0 ≤ N i
theorem PH.give {zs os : List Int} {hs : List T3} {I Z : Nat → List Int} {j : Nat} (h : PH zs os hs I Z j) : PG zs (needA zs hs) I Z := by
  obtain ⟨h1, h2, h3⟩ := holdsF_iff.1 h.ho
  refine ⟨h.zl, fun i hi => ?_, fun i => needA_bound h.lens h.ho i, fun t ht1 ht3 => ?_⟩
  · unfold needA maxI
    repeat' split
    all_goals omega
  · obtain ⟨s1, s2⟩ := h.st t ht1 ht3
    refine ⟨s1, fun p hp => ?_⟩
    obtain ⟨i, e1, e2, e3, e4, e5, m, e6, e7⟩ := s2 p hp
    refine ⟨i, e1, e2, ?_⟩
    have := holdOf_mem h2 e6 rfl
    dsimp only at this
    unfold needA
    rw [this]
    unfold maxI
    repeat' split
    all_goals omega
theorem PG.sum {zs zs0 : List Int} {hs : List T3} {I Z : Nat → List Int} (h : PG zs (needA zs0 hs) I Z) : ∀ k, k ≤ 32 → sumP zs k ≤ sumA zs0 hs 0 k
  | 0, _ => Int.le_refl _
  | k + 1, hk => by
    have ih := PG.sum h k (by omega)
    have h1 := h.zn k (by omega)
    have h2 := (h.nn k).1
    unfold sumP
    show _ ≤ sumA zs0 hs 0 k + needA zs0 hs (0 + k)
    rw [Nat.zero_add]
    split <;> omega
theorem PG.back {zs : List Int} {N : Nat → Int} {I Z : Nat → List Int} (h : PG zs N I Z) (T i n : Nat) (hT1 : 1 ≤ T) (hT3 : T ≤ 3) (hn : (I T).length = n + 1) (hi : (I T).getD n 0 = (i : Int)) :
    i < 9 ∧ PG (zs.set i ((Z T).getD n 0)) N (fun t => if t = T then (I t).take n else I t) (fun t => if t = T then (Z t).take n else Z t) := by
  obtain ⟨s1, s2⟩ := h.st T hT1 hT3
  obtain ⟨i', e1, e2, e3⟩ := s2 n (by omega)
  have : i = i' := by omega
  subst this
  refine ⟨e2, by rw [List.length_set]; exact h.zl, fun k hk => ?_, h.nn, fun t ht1 ht3 => ?_⟩
  · by_cases e : k = i
    · subst e
      have hkl : k < zs.length := by rw [h.zl]; exact hk
      rw [show (zs.set k ((Z T).getD n 0)).getD k 0 = (Z T).getD n 0 from by simp [List.getD, hkl]]
      exact e3
    · rw [show (zs.set i ((Z T).getD n 0)).getD k 0 = zs.getD k 0 from by simp [List.getD, List.getElem?_set_ne (Ne.symm e)]]
      exact h.zn k hk
  · obtain ⟨q1, q2⟩ := h.st t ht1 ht3
    by_cases e : t = T
    · subst e
      simp only [if_true]
      refine ⟨by rw [List.length_take, List.length_take]; omega, fun p hp => ?_⟩
      rw [List.length_take] at hp
      obtain ⟨k, a1, a2, a3⟩ := q2 p (by omega)
      refine ⟨k, ?_, a2, ?_⟩
      · rw [← a1]; simp [List.getD, List.getElem?_take, show p < n from by omega]
      · refine Int.le_trans (Int.le_of_eq ?_) a3
        simp [List.getD, List.getElem?_take, show p < n from by omega]
    · simp only [if_neg e]
      exact ⟨q1, q2⟩
end Go.Proofs.Ytagcefbnhpkdiab
