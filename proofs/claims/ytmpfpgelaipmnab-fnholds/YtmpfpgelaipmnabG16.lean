import Derived.Test.YtmpfpgelaipmnabG06
import Derived.Test.YtmpfpgelaipmnabG03
import Derived.Test.YtmpfpgelaipmnabG10
namespace Go.Proofs.Ytmpfpgelaipmnab
set_option maxRecDepth 100000
set_option maxHeartbeats 4000000
set_option linter.unusedVariables false
set_option linter.unusedSimpArgs false
open Go.RowKit
theorem holdsF_iff {hs : List T3} : holdsF hs = 0 ↔ hs.length ≤ 512 ∧ RisH hs ∧ hs.any hdBad = false := by
  constructor
  · intro h
    exact ⟨holdsF_len h, holdsF_ris h, holdsF_any h⟩
  · rintro ⟨h1, h2, h3⟩
    unfold holdsF
    rw [if_neg (by omega), if_neg (by
      rw [nbr_no (fun k hk => by
        have := (List.pairwise_iff_getElem.1 h2) k (k + 1) (by omega) hk (by omega)
        simp [hdAfter]
        omega)]
      exact Bool.false_ne_true), if_neg (by rw [h3]; exact Bool.false_ne_true)]
theorem holdOf_mem {i : Int} {p : T3} {hs : List T3} (hr : RisH hs) (hp : p ∈ hs) (hi : p.1 = i) : holdOf i hs = p.2.2 := by
  induction hs with
  | nil => simp at hp
  | cons q t ih =>
    unfold holdOf
    rcases List.mem_cons.1 hp with rfl | hp'
    · rw [if_pos hi]
    · have := (List.pairwise_cons.1 hr).1 p hp'
      rw [if_neg (by omega)]
      exact ih (List.pairwise_cons.1 hr).2 hp'
theorem holdOf_cases (i : Int) (hs : List T3) : (holdOf i hs = -1 ∧ ∀ p ∈ hs, p.1 ≠ i) ∨ ∃ p ∈ hs, p.1 = i ∧ holdOf i hs = p.2.2 := by
  induction hs with
  | nil => exact .inl ⟨rfl, fun p hp => by simp at hp⟩
  | cons q t ih =>
    unfold holdOf
    by_cases hq : q.1 = i
    · rw [if_pos hq]
      exact .inr ⟨q, List.mem_cons_self .., hq, rfl⟩
    · rw [if_neg hq]
      rcases ih with ⟨h1, h2⟩ | ⟨p, h1, h2, h3⟩
      · exact .inl ⟨h1, fun p hp => by
          rcases List.mem_cons.1 hp with rfl | hp
          · exact hq
          · exact h2 p hp⟩
      · exact .inr ⟨p, List.mem_cons_of_mem _ h1, h2, h3⟩
theorem insH_mem {e p : T3} {hs : List T3} (hr : RisH hs) : p ∈ insH e false hs ↔ p = e ∨ (p ∈ hs ∧ p.1 ≠ e.1) := by
  have key : ∀ (hs : List T3) (d : Bool), RisH hs → (d = true → ∀ q ∈ hs, e.1 < q.1 ∨ q.1 < e.1 ∨ q.1 = e.1) → (p ∈ insH e d hs ↔ (d = false ∧ p = e) ∨ (p ∈ hs ∧ p.1 ≠ e.1)) := by
    intro hs
    induction hs with
    | nil => intro d _ _; cases d <;> simp [insH]
    | cons q t ih =>
      intro d hr _
      unfold insH
      rw [List.mem_append, List.mem_append, ih _ (List.pairwise_cons.1 hr).2 (fun _ q _ => by omega)]
      rw [List.mem_cons]
      by_cases h1 : d = false ∧ e.1 ≤ q.1
      · rw [if_pos h1]
        have hd : (d || decide (e.1 ≤ q.1)) = true := by simp [h1.2]
        rw [hd]
        by_cases h2 : q.1 = e.1
        · rw [if_neg (by simp [h2])]
          simp only [List.mem_singleton, List.not_mem_nil, false_or]
          constructor
          · rintro (h | ⟨h, _⟩ | ⟨h3, h4⟩)
            · exact .inl ⟨h1.1, h⟩
            · cases h
            · exact .inr ⟨.inr h3, h4⟩
          · rintro (⟨_, h⟩ | ⟨h3 | h3, h4⟩)
            · exact .inl h
            · rw [h3] at h4; exact absurd h2 h4
            · exact .inr (.inr ⟨h3, h4⟩)
        · rw [if_pos h2]
          simp only [List.mem_singleton]
          constructor
          · rintro (h | h | ⟨h, _⟩ | ⟨h3, h4⟩)
            · exact .inl ⟨h1.1, h⟩
            · exact .inr ⟨.inl h, by rw [h]; exact h2⟩
            · cases h
            · exact .inr ⟨.inr h3, h4⟩
          · rintro (⟨_, h⟩ | ⟨h3 | h3, h4⟩)
            · exact .inl h
            · exact .inr (.inl h3)
            · exact .inr (.inr (.inr ⟨h3, h4⟩))
      · rw [if_neg h1]
        simp only [List.not_mem_nil, false_or]
        have hd : (d || decide (e.1 ≤ q.1)) = false ↔ d = false ∧ ¬ e.1 ≤ q.1 := by simp
        by_cases h2 : q.1 = e.1
        · rw [if_neg (by simp [h2])]
          simp only [List.not_mem_nil, false_or]
          have hdt : d = true := by
            cases d with
            | true => rfl
            | false => exact absurd ⟨rfl, by omega⟩ h1
          subst hdt
          simp only [Bool.true_or]
          constructor
          · rintro (⟨h, _⟩ | ⟨h3, h4⟩)
            · cases h
            · exact .inr ⟨.inr h3, h4⟩
          · rintro (⟨h, _⟩ | ⟨h3 | h3, h4⟩)
            · cases h
            · rw [h3] at h4; exact absurd h2 h4
            · exact .inr ⟨h3, h4⟩
        · rw [if_pos h2]
          simp only [List.mem_singleton]
          constructor
          · rintro (h | ⟨h, h'⟩ | ⟨h3, h4⟩)
            · exact .inr ⟨.inl h, by rw [h]; exact h2⟩
            · exact .inl ⟨(hd.1 h).1, h'⟩
            · exact .inr ⟨.inr h3, h4⟩
          · rintro (⟨h, h'⟩ | ⟨h3 | h3, h4⟩)
            · refine .inr (.inl ⟨hd.2 ⟨h, fun hle => h1 ⟨h, hle⟩⟩, h'⟩)
            · exact .inl h3
            · exact .inr (.inr ⟨h3, h4⟩)
  have := key hs false hr (fun h => by cases h)
  simpa using this
theorem insH_ris {e : T3} {hs : List T3} (hr : RisH hs) : RisH (insH e false hs) := by
  have hlb : ∃ k, LbH e.1 hs k := by
    induction hs with
    | nil => exact ⟨0, by simp, fun i h _ => by simp at h, fun i h _ => by simp at h⟩
    | cons q t ih =>
      obtain ⟨k, h1, h2, h3⟩ := ih (List.pairwise_cons.1 hr).2
      by_cases hq : q.1 < e.1
      · refine ⟨k + 1, by simpa using h1, fun i h hi => ?_, fun i h hi => ?_⟩
        · cases i with
          | zero => simpa using hq
          | succ i => simpa using h2 i (by simpa using h) (by omega)
        · cases i with
          | zero => omega
          | succ i => simpa using h3 i (by simpa using h) (by omega)
      · refine ⟨0, by simp, fun i h hi => by omega, fun i h _ => ?_⟩
        cases i with
        | zero => simp; omega
        | succ i =>
          have := (List.pairwise_cons.1 hr).1 (t[i]'(by simpa using h)) (List.getElem_mem _)
          simp
          omega
  obtain ⟨k, hl⟩ := hlb
  rw [insH_lb e hs k hr hl]
  have hp := List.pairwise_iff_getElem.1 hr
  split
  · rename_i hf
    obtain ⟨hk, hke⟩ := fndH_some hf
    refine List.pairwise_iff_getElem.2 (fun i j hi hj hij => ?_)
    rw [List.length_set] at hi hj
    simp only [List.getElem_set]
    split <;> split
    · omega
    · have := hp i j hi hj hij; subst_vars; omega
    · have := hp i j hi hj hij; subst_vars; omega
    · exact hp i j hi hj hij
  · rename_i hf
    have hf' : fndH e.1 hs k = false := by simpa using hf
    refine List.pairwise_append.2 ⟨List.Pairwise.sublist (List.take_sublist _ _) hr, List.pairwise_cons.2 ⟨fun q hq => ?_, List.Pairwise.sublist (List.drop_sublist _ _) hr⟩, fun a ha b hb => ?_⟩
    · obtain ⟨i, hi, rfl⟩ := List.getElem_of_mem hq
      rw [List.length_drop] at hi
      rw [List.getElem_drop]
      have h1 := hl.2.2 (k + i) (by omega) (by omega)
      have h2 : hs[k + i].1 ≠ e.1 := by
        intro h
        by_cases hi0 : i = 0
        · subst hi0
          exact fndH_none hf' (by omega) h
        · have := hp k (k + i) (by omega) (by omega) (by omega)
          have := hl.2.2 k (by omega) (by omega)
          omega
      omega
    · obtain ⟨i, hi, rfl⟩ := List.getElem_of_mem ha
      rw [List.length_take] at hi
      rw [List.getElem_take]
      have h1 := hl.2.1 i (by omega) (by omega)
      rcases List.mem_cons.1 hb with rfl | hb
      · exact h1
      · obtain ⟨j, hj, rfl⟩ := List.getElem_of_mem hb
        rw [List.length_drop] at hj
        rw [List.getElem_drop]
        have := hl.2.2 (k + j) (by omega) (by omega)
        omega
theorem insH_len {e : T3} {hs : List T3} (hr : RisH hs) : (insH e false hs).length ≤ hs.length + 1 ∧ 0 < (insH e false hs).length := by
  have hme : e ∈ insH e false hs := (insH_mem hr).2 (.inl rfl)
  refine ⟨?_, List.length_pos_of_mem hme⟩
  have key : ∀ (hs : List T3) (d : Bool), (insH e d hs).length ≤ hs.length + (if d = true then 0 else 1) := by
    intro hs
    induction hs with
    | nil => intro d; cases d <;> simp [insH]
    | cons q t ih =>
      intro d
      unfold insH
      have := ih (d || decide (e.1 ≤ q.1))
      rw [List.length_append, List.length_append, List.length_cons]
      cases d with
      | true =>
        simp only [Bool.true_or, if_true] at this
        rw [if_neg (by simp)]
        simp only [Bool.true_or, if_true, List.length_nil]
        split <;> simp <;> omega
      | false =>
        by_cases h : e.1 ≤ q.1
        · have hd : (false || decide (e.1 ≤ q.1)) = true := by simp [h]
          rw [hd] at this ⊢
          rw [if_pos ⟨rfl, h⟩]
          simp only [if_true] at this
          simp
          split <;> simp <;> omega
        · have hd : (false || decide (e.1 ≤ q.1)) = false := by simp [h]
          rw [hd] at this ⊢
          rw [if_neg (fun hh => h hh.2)]
          simp at this ⊢
          split <;> simp <;> omega
  simpa using key hs false
def StOK (t : Nat) (I Z os : List Int) (hs : List T3) : Prop :=
  I.length = Z.length ∧ ∀ p, p < I.length → ∃ i : Nat, I.getD p 0 = (i : Int) ∧ i < 9 ∧ -1 ≤ Z.getD p 0 ∧ Z.getD p 0 ≤ 1000 ∧ os.getD i 0 = (t : Int) ∧ ∃ m, ((i : Int), (t : Int), m) ∈ hs ∧ Z.getD p 0 ≤ m
structure PH (zs os : List Int) (hs : List T3) (I Z : Nat → List Int) (j : Nat) : Prop where
  zl : zs.length = 32
  zb : ∀ z ∈ zs, -1 ≤ z ∧ z ≤ 1000
  ol : os.length = 32
  ho : holdsF hs = 0
  hl : hs.length ≤ j
  su : sumA zs hs 0 32 ≤ 3948
  st : ∀ t, 1 ≤ t → t ≤ 3 → StOK t (I t) (Z t) os hs
  ln : ∀ t, (I t).length ≤ j ∧ (Z t).length ≤ j
theorem PH.lens {zs os : List Int} {hs : List T3} {I Z : Nat → List Int} {j : Nat} (h : PH zs os hs I Z j) : lenOK zs = true := by
  unfold lenOK
  rw [h.zl]
  simp [inB]
  intro z hz
  have := h.zb z hz
  omega
theorem PH.zat {zs os : List Int} {hs : List T3} {I Z : Nat → List Int} {j : Nat} (h : PH zs os hs I Z j) (i : Nat) (hi : i < 32) : -1 ≤ zs.getD i 0 ∧ zs.getD i 0 ≤ 1000 := by
  have hi' : i < zs.length := by rw [h.zl]; exact hi
  rw [show zs.getD i 0 = zs[i] from by simp [List.getD, hi']]
  exact h.zb _ (List.getElem_mem hi')
theorem PH.left {zs os : List Int} {hs : List T3} {I Z : Nat → List Int} {j : Nat} (h : PH zs os hs I Z j) : 0 ≤ roomL zs hs 0 := by
  unfold roomL
  split
  · have := h.su; simp; omega
  · rename_i hh
    exfalso
    apply hh
    unfold roomB
    rw [h.lens, h.ho, h.zl]
    simp [inB]
theorem sumA_le {zs zs' : List Int} {hs hs' : List T3} {a : Nat} : ∀ {m : Nat}, (∀ i, i < m → needA zs' hs' (a + i) ≤ needA zs hs (a + i)) → sumA zs' hs' a m ≤ sumA zs hs a m
  | 0, _ => Int.le_refl _
  | m + 1, h => by
    have ih := sumA_le (m := m) (fun i hi => h i (by omega))
    have := h m (by omega)
    show sumA zs' hs' a m + needA zs' hs' (a + m) ≤ sumA zs hs a m + needA zs hs (a + m)
    omega
theorem sumA_one {zs zs' : List Int} {hs hs' : List T3} {a k : Nat} {d : Int} : ∀ {m : Nat}, (∀ i, i ≠ k → needA zs' hs' (a + i) = needA zs hs (a + i)) → needA zs' hs' (a + k) = needA zs hs (a + k) + d → sumA zs' hs' a m = sumA zs hs a m + (if k < m then d else 0)
  | 0, _, _ => by simp [sumA]
  | m + 1, h, hk => by
    have ih := sumA_one (m := m) h hk
    show sumA zs' hs' a m + needA zs' hs' (a + m) = sumA zs hs a m + needA zs hs (a + m) + _
    by_cases e : m = k
    · subst e
      rw [ih, hk, if_neg (by omega), if_pos (by omega)]
      omega
    · rw [ih, h m e]
      by_cases hkm : k < m
      · rw [if_pos hkm, if_pos (by omega)]; omega
      · rw [if_neg hkm, if_neg (by omega)]; omega
theorem PH.free {zs os : List Int} {hs : List T3} {I Z : Nat → List Int} {j : Nat} (h : PH zs os hs I Z j) (T : Nat) :
    PH zs (os.map (fun o => if o = (T : Int) then 0 else o)) (hs.filter (fun l => decide (l.2.1 ≠ (T : Int)))) (fun t => if t = T then [] else I t) (fun t => if t = T then [] else Z t) (j + 1) := by
  obtain ⟨h1, h2, h3⟩ := holdsF_iff.1 h.ho
  have hr : RisH (hs.filter (fun l => decide (l.2.1 ≠ (T : Int)))) := List.Pairwise.sublist List.filter_sublist h2
  have hle := List.length_filter_le (fun l : T3 => decide (l.2.1 ≠ (T : Int))) hs
  refine ⟨h.zl, h.zb, by rw [List.length_map]; exact h.ol, holdsF_iff.2 ⟨by omega, hr, ?_⟩, by have := h.hl; omega, ?_, ?_, fun t => by
    have := h.ln t
    by_cases e : t = T
    · subst e; simp
    · simp only [if_neg e]; omega⟩
  · rw [List.any_eq_false] at h3 ⊢
    exact fun p hp => h3 p (List.mem_filter.1 hp).1
  · refine Int.le_trans (sumA_le (fun i _ => ?_)) h.su
    unfold needA
    have hb := holdOf_bound h3 ((0 + i : Nat) : Int)
    rcases holdOf_cases ((0 + i : Nat) : Int) (hs.filter (fun l => decide (l.2.1 ≠ (T : Int)))) with ⟨e, _⟩ | ⟨p, hp, hpi, e⟩
    · rw [e]
      unfold maxI
      repeat' split
      all_goals omega
    · rw [e, holdOf_mem h2 (List.mem_filter.1 hp).1 hpi]
      exact Int.le_refl _
  · intro t ht1 ht3
    by_cases e : t = T
    · subst e
      simp only [if_true]
      exact ⟨rfl, fun p hp => by simp at hp⟩
    · simp only [if_neg e]
      obtain ⟨s1, s2⟩ := h.st t ht1 ht3
      refine ⟨s1, fun p hp => ?_⟩
      obtain ⟨i, e1, e2, e3, e4, e5, m, e6, e7⟩ := s2 p hp
      refine ⟨i, e1, e2, e3, e4, ?_, m, List.mem_filter.2 ⟨e6, ?_⟩, e7⟩
      · have hi : i < os.length := by rw [h.ol]; omega
        have e5' : os[i] = (t : Int) := by rw [← e5]; simp [List.getD, hi]
        rw [show (os.map (fun o => if o = (T : Int) then 0 else o)).getD i 0 = (if os[i] = (T : Int) then 0 else os[i]) from by simp [List.getD, hi], e5', if_neg (by omega)]
      · simp
        omega
theorem PH.change {zs os : List Int} {hs : List T3} {I Z : Nat → List Int} {j : Nat} (h : PH zs os hs I Z j) (hj : j < 512) (T i : Nat) (len : Int) (hT1 : 1 ≤ T) (hT3 : T ≤ 3) (hi : i < 9) (hl1 : -1 ≤ len) (hl2 : len ≤ 1000)
    (hown : os.getD i 0 = 0 ∨ os.getD i 0 = (T : Int)) (hroom : 0 ≤ len → roomFor zs hs (i : Int) len = true) :
    PH (zs.set i len) (os.set i (T : Int)) (insH ((i : Int), (T : Int), mostH hs (i : Int) (zs.getD i 0) len) false hs) (fun t => if t = T then I t ++ [(i : Int)] else I t) (fun t => if t = T then Z t ++ [zs.getD i 0] else Z t) (j + 1) := by
  obtain ⟨h1, h2, h3⟩ := holdsF_iff.1 h.ho
  obtain ⟨z1, z2⟩ := h.zat i (by omega)
  obtain ⟨z, hz⟩ : ∃ z, zs.getD i 0 = z := ⟨_, rfl⟩
  rw [hz] at z1 z2 ⊢
  have hb := holdOf_bound h3 (i : Int)
  obtain ⟨M, hM⟩ : ∃ M, mostH hs (i : Int) z len = M := ⟨_, rfl⟩
  have hMe : M = maxI (maxI (holdOf (i : Int) hs) 0) (maxI z len) := hM.symm
  have hM0 : 0 ≤ M ∧ M ≤ 1000 ∧ holdOf (i : Int) hs ≤ M ∧ z ≤ M ∧ len ≤ M := by
    rw [hMe]
    unfold maxI
    repeat' split
    all_goals omega
  rw [hM]
  have hri := insH_ris (e := ((i : Int), (T : Int), M)) h2
  obtain ⟨hn1, hn2⟩ := insH_len (e := ((i : Int), (T : Int), M)) h2
  have hjl := h.hl
  have hmem := fun p => insH_mem (e := ((i : Int), (T : Int), M)) (p := p) h2
  have hzi : i < zs.length := by rw [h.zl]; omega
  have hset : ∀ k, (zs.set i len).getD k 0 = if k = i then len else zs.getD k 0 := fun k => by
    by_cases e : k = i
    · subst e; rw [if_pos rfl]; simp [List.getD, hzi]
    · rw [if_neg e]; simp [List.getD, List.getElem?_set_ne (Ne.symm e)]
  have hho : ∀ k : Nat, k ≠ i → holdOf (k : Int) (insH ((i : Int), (T : Int), M) false hs) = holdOf (k : Int) hs := fun k hk => by
    rcases holdOf_cases (k : Int) hs with ⟨e, hno⟩ | ⟨p, hp, hpi, e⟩
    · rw [e]
      rcases holdOf_cases (k : Int) (insH ((i : Int), (T : Int), M) false hs) with ⟨e', _⟩ | ⟨p, hp, hpi, e'⟩
      · exact e'
      · rcases (hmem p).1 hp with rfl | ⟨hp', _⟩
        · dsimp only at hpi; omega
        · exact absurd hpi (hno p hp')
    · rw [e]
      exact holdOf_mem hri ((hmem p).2 (.inr ⟨hp, by dsimp only; omega⟩)) hpi
  have hhi : holdOf (i : Int) (insH ((i : Int), (T : Int), M) false hs) = M := holdOf_mem hri ((hmem _).2 (.inl rfl)) rfl
  refine ⟨by rw [List.length_set]; exact h.zl, fun y hy => ?_, by rw [List.length_set]; exact h.ol, holdsF_iff.2 ⟨by omega, hri, ?_⟩, by omega, ?_, ?_, fun t => by
    have := h.ln t
    by_cases e : t = T
    · subst e; simp only [if_true, List.length_append, List.length_singleton]; omega
    · simp only [if_neg e]; omega⟩
  · rcases List.mem_or_eq_of_mem_set hy with hy | rfl
    · exact h.zb y hy
    · exact ⟨hl1, hl2⟩
  · rw [List.any_eq_false] at h3 ⊢
    intro p hp
    rcases (hmem p).1 hp with rfl | ⟨hp', _⟩
    · simp [hdBad, inB]
      omega
    · exact h3 p hp'
  · have hne : ∀ k, k ≠ i → needA (zs.set i len) (insH ((i : Int), (T : Int), M) false hs) (0 + k) = needA zs hs (0 + k) := fun k hk => by
      unfold needA
      rw [hset, if_neg (by omega), hho (0 + k) (by omega)]
    have hself : needA (zs.set i len) (insH ((i : Int), (T : Int), M) false hs) (0 + i) = needA zs hs (0 + i) + (if 0 < len - needA zs hs i then len - needA zs hs i else 0) := by
      rw [Nat.zero_add]
      unfold needA
      rw [hset, if_pos rfl, hhi, hz, hMe]
      unfold maxI
      repeat' split
      all_goals omega
    rw [sumA_one hne hself, if_pos (by omega)]
    have hsu := h.su
    by_cases hd : 0 < len - needA zs hs i
    · rw [if_pos hd]
      have hnb := needA_bound h.lens h.ho i
      have hf := hroom (by omega)
      unfold roomFor at hf
      split at hf
      · cases hf
      · rename_i hcond
        have hrb : roomB zs hs ((i : Int) / 32) = true := by
          cases e : roomB zs hs ((i : Int) / 32) with
          | true => rfl
          | false => exact absurd (.inr (.inl e)) hcond
        rw [show ((i : Int)).toNat = i from by omega] at hf
        unfold roomL at hf
        rw [if_pos hrb, show ((i : Int) / 32).toNat = 0 from by omega] at hf
        simp only [Bool.or_eq_true, Bool.and_eq_true, decide_eq_true_eq, Nat.zero_mul] at hf
        omega
    · rw [if_neg hd]; omega
  · intro t ht1 ht3
    obtain ⟨s1, s2⟩ := h.st t ht1 ht3
    have keep : ∀ p, p < (I t).length → ∃ k : Nat, (I t).getD p 0 = (k : Int) ∧ k < 9 ∧ -1 ≤ (Z t).getD p 0 ∧ (Z t).getD p 0 ≤ 1000 ∧ (os.set i (T : Int)).getD k 0 = (t : Int) ∧ ∃ m, ((k : Int), (t : Int), m) ∈ insH ((i : Int), (T : Int), M) false hs ∧ (Z t).getD p 0 ≤ m := fun p hp => by
      obtain ⟨k, e1, e2, e3, e4, e5, m, e6, e7⟩ := s2 p hp
      by_cases e : k = i
      · subst e
        have htT : t = T := by
          rcases hown with ho | ho
          · omega
          · omega
        subst htT
        refine ⟨k, e1, e2, e3, e4, ?_, M, (hmem _).2 (.inl rfl), ?_⟩
        · have : k < os.length := by rw [h.ol]; omega
          simp [List.getD, this]
        · have := holdOf_mem h2 e6 rfl
          dsimp only at this
          omega
      · refine ⟨k, e1, e2, e3, e4, ?_, m, (hmem _).2 (.inr ⟨e6, by dsimp only; omega⟩), e7⟩
        rw [← e5]
        simp [List.getD, List.getElem?_set_ne (Ne.symm e)]
    by_cases e : t = T
    · subst e
      simp only [if_true]
      refine ⟨by simp [s1], fun p hp => ?_⟩
      rw [List.length_append, List.length_singleton] at hp
      by_cases hpl : p < (I t).length
      · have e1 : (I t ++ [(i : Int)]).getD p 0 = (I t).getD p 0 := by simp [List.getD, List.getElem?_append_left hpl]
        have e2 : (Z t ++ [z]).getD p 0 = (Z t).getD p 0 := by simp [List.getD, List.getElem?_append_left (show p < (Z t).length from by omega)]
        rw [e1, e2]
        exact keep p hpl
      · have hpe : p = (I t).length := by omega
        have e1 : (I t ++ [(i : Int)]).getD p 0 = (i : Int) := by subst hpe; simp [List.getD]
        have e2 : (Z t ++ [z]).getD p 0 = z := by rw [hpe, s1]; simp [List.getD]
        rw [e1, e2]
        refine ⟨i, rfl, hi, z1, z2, ?_, M, (hmem _).2 (.inl rfl), hM0.2.2.2.1⟩
        have : i < os.length := by rw [h.ol]; omega
        simp [List.getD, this]
    · simp only [if_neg e]
      exact ⟨s1, keep⟩
def sumP (zs : List Int) : Nat → Int
  | 0 => 0
  | k + 1 => if 0 < zs.getD k 0 then sumP zs k + zs.getD k 0 else sumP zs k
structure PG (zs : List Int) (N : Nat → Int) (I Z : Nat → List Int) : Prop where
  zl : zs.length = 32
  zn : ∀ i, i < 32 → zs.getD i 0 ≤ N i
  nn : ∀ i, 0 ≤ N i ∧ N i ≤ 1000
  st : ∀ t, 1 ≤ t → t ≤ 3 → (I t).length = (Z t).length ∧ ∀ p, p < (I t).length → ∃ i : Nat, (I t).getD p 0 = (i : Int) ∧ i < 9 ∧ (Z t).getD p 0 ≤ N i
theorem PH.give {zs os : List Int} {hs : List T3} {I Z : Nat → List Int} {j : Nat} (h : PH zs os hs I Z j) : PG zs (needA zs hs) I Z := by
  obtain ⟨h1, h2, h3⟩ := holdsF_iff.1 h.ho
  refine ⟨h.zl, fun i hi => ?_, fun i => needA_bound h.lens h.ho i, fun t ht1 ht3 => ?_⟩
  · unfold needA maxI
    repeat' split
    all_goals omega
  · obtain ⟨s1, s2⟩ := h.st t ht1 ht3
    refine ⟨s1, fun p hp => ?_⟩
    obtain ⟨i, e1, e2, e3, e4, e5, m, e6, e7⟩ := s2 p hp
    refine ⟨i, e1, e2, ?_⟩
    have := holdOf_mem h2 e6 rfl
    dsimp only at this
    unfold needA
    rw [this]
    unfold maxI
    repeat' split
    all_goals omega
theorem PG.sum {zs zs0 : List Int} {hs : List T3} {I Z : Nat → List Int} (h : PG zs (needA zs0 hs) I Z) : ∀ k, k ≤ 32 → sumP zs k ≤ sumA zs0 hs 0 k
  | 0, _ => Int.le_refl _
  | k + 1, hk => by
    have ih := PG.sum h k (by omega)
    have h1 := h.zn k (by omega)
    have h2 := (h.nn k).1
    unfold sumP
    show _ ≤ sumA zs0 hs 0 k + needA zs0 hs (0 + k)
    rw [Nat.zero_add]
    split <;> omega
theorem PG.back {zs : List Int} {N : Nat → Int} {I Z : Nat → List Int} (h : PG zs N I Z) (T i n : Nat) (hT1 : 1 ≤ T) (hT3 : T ≤ 3) (hn : (I T).length = n + 1) (hi : (I T).getD n 0 = (i : Int)) :
    i < 9 ∧ PG (zs.set i ((Z T).getD n 0)) N (fun t => if t = T then (I t).take n else I t) (fun t => if t = T then (Z t).take n else Z t) := by
  obtain ⟨s1, s2⟩ := h.st T hT1 hT3
  obtain ⟨i', e1, e2, e3⟩ := s2 n (by omega)
  have : i = i' := by omega
  subst this
  refine ⟨e2, by rw [List.length_set]; exact h.zl, fun k hk => ?_, h.nn, fun t ht1 ht3 => ?_⟩
  · by_cases e : k = i
    · subst e
      have hkl : k < zs.length := by rw [h.zl]; exact hk
      rw [show (zs.set k ((Z T).getD n 0)).getD k 0 = (Z T).getD n 0 from by simp [List.getD, hkl]]
      exact e3
    · rw [show (zs.set i ((Z T).getD n 0)).getD k 0 = zs.getD k 0 from by simp [List.getD, List.getElem?_set_ne (Ne.symm e)]]
      exact h.zn k hk
  · obtain ⟨q1, q2⟩ := h.st t ht1 ht3
    by_cases e : t = T
    · subst e
      simp only [if_true]
      refine ⟨by rw [List.length_take, List.length_take]; omega, fun p hp => ?_⟩
      rw [List.length_take] at hp
      obtain ⟨k, a1, a2, a3⟩ := q2 p (by omega)
      refine ⟨k, ?_, a2, ?_⟩
      · rw [← a1]; simp [List.getD, List.getElem?_take, show p < n from by omega]
      · refine Int.le_trans (Int.le_of_eq ?_) a3
        simp [List.getD, List.getElem?_take, show p < n from by omega]
    · simp only [if_neg e]
      exact ⟨q1, q2⟩
theorem lwFits_any (v : Value) (zs : List Int) (w : World) (hv : Rd .i64 w v zs) (hl : zs.length = 32) (hb : ∀ i, zs.getD i 0 ≤ 1000) (hs : sumP zs 32 ≤ 3948) :
    Calls Try.prog 28 #[v] w fun e w' => e = .returned (.bool true) ∧ w' = w := by
  obtain ⟨a, c, rfl⟩ := hv.form
  rw [hl] at hv ⊢
  have HV := hid hv
  have HL := hid hl
  have HB := hid hb
  have HS := hid hs
  have HP : Hid (∀ k, k ≤ 32 → 0 ≤ sumP zs k ∧ sumP zs k ≤ 1000 * (k : Int)) := by
    intro k
    induction k with
    | zero => intro _; exact ⟨Int.le_refl _, by simp [sumP]⟩
    | succ k ih =>
      intro hk
      have h1 := ih (by omega)
      have h2 := hb k
      unfold sumP
      split <;> omega
  clear hv hl hb hs
  go_enter Try.func28, Try.ntmps28
  go_wp2_with fail
  go_loopw [3, 4] (fun s i wr => ∃ (k : Nat), k ≤ 32 ∧ s = .int .i64 (sumP zs k) ∧ i = .int .i64 k ∧ wr = w) (fun _ i _ => 32 - (intOf i).toNat)
  case atStart => exact ⟨0, by omega, rfl, rfl, rfl⟩
  case round =>
    obtain ⟨k, hk, rfl, rfl, rfl⟩ := hrel
    by_cases hlt : k < 32
    · obtain ⟨b, off, rfl, hc⟩ := HV.out.at (show k < zs.length from by rw [HL.out]; exact hlt)
      have hlt' : (k : Int) < 32 := by omega
      have hp := HP.out k hk
      have hb := HB.out k
      have hsp : sumP zs (k + 1) = if 0 < zs.getD k 0 then sumP zs k + zs.getD k 0 else sumP zs k := rfl
      generalize zs.getD k 0 = z at hc hb hsp
      have HSP := hid hsp
      generalize sumP zs k = s at hp HSP
      clear hsp
      by_cases h1 : 0 < z
      · have hw : IntKind.i64.wrap (s + z) = s + z := by rw [IntKind.wrap_i64]; omega
        have HE : Hid (sumP zs (k + 1) = s + z) := by unfold Hid; rw [HSP.out, if_pos h1]
        go_wp2
        go_roundw
        case rel => exact ⟨k + 1, by omega, by rw [HE.out], by go_num, by trivial⟩
        case measure => simp [intOf]; omega
      · have HE : Hid (sumP zs (k + 1) = s) := by unfold Hid; rw [HSP.out, if_neg h1]
        go_wp2
        go_roundw
        case rel => exact ⟨k + 1, by omega, by rw [HE.out], by go_num, by trivial⟩
        case measure => simp [intOf]; omega
    · obtain rfl : k = 32 := by omega
      have h := HS.out
      generalize sumP zs 32 = s at h
      go_wp2
      go_ret
      exact ⟨by simp [h], rfl⟩
theorem OwnL.set {w w' : World} {rs : List Row} {r r' : Row} {k : Nat} (h : OwnL w rs) (hr : rs[k]? = some r) (hk : Kept (fun b => r.v.ownBlock = some b) w w') (ho : w'.ownsRow 0 r'.e r'.m r'.v r'.n r'.xs) (hf : ∀ b, r'.v.ownBlock = some b → r.v.ownBlock = some b ∨ w.heap.size ≤ b) : OwnL w' (rs.set k r') := by
  obtain ⟨hkl, hrk⟩ := List.getElem?_eq_some_iff.1 hr
  have hap := List.pairwise_iff_getElem.1 h.apart
  have hne : ∀ i (hi : i < rs.length), i ≠ k → ∀ b, rs[i].v.ownBlock = some b → ¬ r.v.ownBlock = some b := fun i hi hik b hb hb' => by
    rcases Nat.lt_or_gt_of_ne hik with hlt | hgt
    · have := hap i k hi hkl hlt
      rw [hrk] at this
      exact this b hb hb'
    · have := hap k i hkl hi hgt
      rw [hrk] at this
      exact this b hb' hb
  have hlt : ∀ i (hi : i < rs.length) b, rs[i].v.ownBlock = some b → b < w.heap.size := fun i hi b hb => (World.ownsRow.lt (h.own _ (List.getElem_mem hi)) b hb).2
  refine ⟨fun s hs => ?_, List.pairwise_iff_getElem.2 (fun i j hi hj hij => ?_)⟩
  · obtain ⟨i, hi, rfl⟩ := List.getElem_of_mem hs
    rw [List.length_set] at hi
    rw [List.getElem_set]
    split
    · exact ho
    · rename_i hne'
      exact hk.owns (h.own _ (List.getElem_mem hi)) (fun b hb => hne i hi (fun e => hne' e.symm) b hb)
  · rw [List.length_set] at hi hj
    rw [List.getElem_set, List.getElem_set]
    split <;> split
    · omega
    · rename_i e1 e2
      subst e1
      intro b hb hb'
      rcases hf b hb with h1 | h1
      · exact hne j hj (fun e => e2 e.symm) b hb' h1
      · have := hlt j hj b hb'; omega
    · rename_i e1 e2
      subst e2
      intro b hb hb'
      rcases hf b hb' with h1 | h1
      · exact hne i hi (fun e => e1 e.symm) b hb h1
      · have := hlt i hi b hb; omega
    · exact hap i j hi hj hij
theorem OwnL.at {w : World} {rs : List Row} {r : Row} {k : Nat} (h : OwnL w rs) (hr : rs[k]? = some r) : w.ownsRow 0 r.e r.m r.v r.n r.xs := by
  obtain ⟨hkl, hrk⟩ := List.getElem?_eq_some_iff.1 hr
  rw [← hrk]
  exact h.own _ (List.getElem_mem hkl)
structure IS where
  a : Option Addr
  c : Nat
  bs : List Int
def IS.v (x : IS) : Value := .slice x.a x.bs.length x.c
def IS.row (x : IS) : Row := ints 2 .i64 x.v x.bs
def hrows (gl cl go gi gz : Nat) (hv : FR) (zs os : List Int) (iv zv : List IS) : List Row :=
  ⟨2, 1, .slice (some ⟨gl, 0, none⟩) 32 cl, 32, vals .i64 zs⟩ :: ⟨hv.e, 3, hv.v, hv.n, vals .i64 hv.bs⟩ :: ⟨3, 1, .slice (some ⟨go, 0, none⟩) 32 32, 32, vals .i64 os⟩ ::
    ⟨30, 1, .slice (some ⟨gi, 0, none⟩) 4 4, 4, iv.map IS.v⟩ :: ⟨30, 1, .slice (some ⟨gz, 0, none⟩) 4 4, 4, zv.map IS.v⟩ :: (iv.map IS.row ++ zv.map IS.row)
structure HM (w0 w : World) (gl cl go gi gz : Nat) (hv : FR) (zs os : List Int) (iv zv : List IS) : Prop where
  own : OwnL w (hrows gl cl go gi gz hv zs os iv zv)
  new : ∀ b, FootL (hrows gl cl go gi gz hv zs os iv zv) b → w0.heap.size ≤ b
  kept : Same w0 w
  il : iv.length = 4
  zl : zv.length = 4
section
variable {w0 w w' : World} {gl cl go gi gz : Nat} {hv : FR} {zs os : List Int} {iv zv : List IS}
theorem HM.same (h : HM w0 w gl cl go gi gz hv zs os iv zv) (hk : Same w w') : HM w0 w' gl cl go gi gz hv zs os iv zv := ⟨h.own.same hk, h.new, h.kept.trans hk, h.il, h.zl⟩
theorem HM.step (h : HM w0 w gl cl go gi gz hv zs os iv zv) {k : Nat} {r r' : Row} {hv' : FR} {zs' os' : List Int} {iv' zv' : List IS} (hr : (hrows gl cl go gi gz hv zs os iv zv)[k]? = some r) (hk : Kept (fun b => r.v.ownBlock = some b) w w') (ho : w'.ownsRow 0 r'.e r'.m r'.v r'.n r'.xs)
    (hf : ∀ b, r'.v.ownBlock = some b → r.v.ownBlock = some b ∨ w.heap.size ≤ b) (he : (hrows gl cl go gi gz hv zs os iv zv).set k r' = hrows gl cl go gi gz hv' zs' os' iv' zv') (hi : iv'.length = 4) (hz : zv'.length = 4) : HM w0 w' gl cl go gi gz hv' zs' os' iv' zv' := by
  refine ⟨he ▸ h.own.set hr hk ho hf, fun b hb => ?_, h.kept.next hk (fun i hi e => ?_), hi, hz⟩
  · rw [← he] at hb
    obtain ⟨s, hs, hsb⟩ := hb
    rcases List.mem_or_eq_of_mem_set hs with hs | rfl
    · exact h.new b ⟨s, hs, hsb⟩
    · rcases hf b hsb with h1 | h1
      · exact h.new b ⟨r, List.mem_of_getElem? hr, h1⟩
      · exact Nat.le_trans h.kept.size h1
  · have := h.new i ⟨r, List.mem_of_getElem? hr, e⟩
    omega
theorem HM.zrow (h : HM w0 w gl cl go gi gz hv zs os iv zv) : w.ownsRow 0 2 1 (.slice (some ⟨gl, 0, none⟩) 32 cl) 32 (vals .i64 zs) := h.own.at (k := 0) rfl
theorem HM.hrow (h : HM w0 w gl cl go gi gz hv zs os iv zv) : OwnL w (FR.rows 3 hv) := ⟨fun r hr => by rw [List.mem_singleton.1 hr]; exact h.own.at (k := 1) rfl, List.pairwise_singleton _ _⟩
theorem HM.orow (h : HM w0 w gl cl go gi gz hv zs os iv zv) : w.ownsRow 0 3 1 (.slice (some ⟨go, 0, none⟩) 32 32) 32 (vals .i64 os) := h.own.at (k := 2) rfl
theorem HM.irow (h : HM w0 w gl cl go gi gz hv zs os iv zv) : w.ownsRow 0 30 1 (.slice (some ⟨gi, 0, none⟩) 4 4) 4 (iv.map IS.v) := h.own.at (k := 3) rfl
theorem HM.jrow (h : HM w0 w gl cl go gi gz hv zs os iv zv) : w.ownsRow 0 30 1 (.slice (some ⟨gz, 0, none⟩) 4 4) 4 (zv.map IS.v) := h.own.at (k := 4) rfl
theorem hrows_i {t : Nat} {x : IS} (h : iv[t]? = some x) : (hrows gl cl go gi gz hv zs os iv zv)[5 + t]? = some x.row := by
  obtain ⟨ht, rfl⟩ := List.getElem?_eq_some_iff.1 h
  have e : (hrows gl cl go gi gz hv zs os iv zv)[5 + t]? = (iv.map IS.row ++ zv.map IS.row)[t]? := by
    rw [Nat.add_comm]
    rfl
  rw [e, List.getElem?_append_left (by simpa using ht)]
  simp [ht]
theorem hrows_z {t : Nat} {x : IS} (hl : iv.length = 4) (h : zv[t]? = some x) : (hrows gl cl go gi gz hv zs os iv zv)[9 + t]? = some x.row := by
  obtain ⟨ht, rfl⟩ := List.getElem?_eq_some_iff.1 h
  have e : (hrows gl cl go gi gz hv zs os iv zv)[9 + t]? = (iv.map IS.row ++ zv.map IS.row)[4 + t]? := by
    rw [show 9 + t = (4 + t) + 5 from by omega]
    rfl
  rw [e, List.getElem?_append_right (by simp [hl])]
  simp [hl, ht]
theorem hrows_seti {t : Nat} {x : IS} (ht : t < iv.length) : ((hrows gl cl go gi gz hv zs os iv zv).set (5 + t) x.row).set 3 ⟨30, 1, .slice (some ⟨gi, 0, none⟩) 4 4, 4, (iv.map IS.v).set t x.v⟩ = hrows gl cl go gi gz hv zs os (iv.set t x) zv := by
  unfold hrows
  rw [show 5 + t = t + 1 + 1 + 1 + 1 + 1 from by omega]
  simp only [List.set_cons_succ, List.set_cons_zero]
  rw [List.set_append_left _ _ (by simpa using ht), List.map_set, List.map_set]
theorem hrows_setz {t : Nat} {x : IS} (hl : iv.length = 4) (ht : t < zv.length) : ((hrows gl cl go gi gz hv zs os iv zv).set (9 + t) x.row).set 4 ⟨30, 1, .slice (some ⟨gz, 0, none⟩) 4 4, 4, (zv.map IS.v).set t x.v⟩ = hrows gl cl go gi gz hv zs os iv (zv.set t x) := by
  unfold hrows
  rw [show 9 + t = (4 + t) + 1 + 1 + 1 + 1 + 1 from by omega]
  simp only [List.set_cons_succ, List.set_cons_zero]
  rw [List.set_append_right _ _ (by simp [hl]), List.map_set, List.map_set]
  simp [hl]
theorem HM.two (h : HM w0 w gl cl go gi gz hv zs os iv zv) {k q : Nat} {r r' s s' : Row} {w1 : World} {iv' zv' : List IS} (hkq : k ≠ q) (hr : (hrows gl cl go gi gz hv zs os iv zv)[k]? = some r) (hk : Kept (fun b => r.v.ownBlock = some b) w w1) (ho : w1.ownsRow 0 r'.e r'.m r'.v r'.n r'.xs)
    (hf : ∀ b, r'.v.ownBlock = some b → r.v.ownBlock = some b ∨ w.heap.size ≤ b) (hs : (hrows gl cl go gi gz hv zs os iv zv)[q]? = some s) (hsv : s'.v = s.v) (hk2 : Kept (fun b => s.v.ownBlock = some b) w1 w') (ho2 : w1.ownsRow 0 s.e s.m s.v s.n s.xs → w'.ownsRow 0 s'.e s'.m s'.v s'.n s'.xs)
    (he : ((hrows gl cl go gi gz hv zs os iv zv).set k r').set q s' = hrows gl cl go gi gz hv zs os iv' zv') (hi : iv'.length = 4) (hz : zv'.length = 4) : HM w0 w' gl cl go gi gz hv zs os iv' zv' := by
  have h1 := h.own.set hr hk ho hf
  have hs1 : ((hrows gl cl go gi gz hv zs os iv zv).set k r')[q]? = some s := by rw [List.getElem?_set_ne hkq]; exact hs
  have h2 := h1.set hs1 hk2 (ho2 (h1.at hs1)) (fun b hb => .inl (by rw [hsv] at hb; exact hb))
  have hk1 : Same w0 w1 := h.kept.next hk (fun i hi e => by have := h.new i ⟨r, List.mem_of_getElem? hr, e⟩; omega)
  refine ⟨he ▸ h2, fun b hb => ?_, hk1.next hk2 (fun i hi e => by have := h.new i ⟨s, List.mem_of_getElem? hs, e⟩; omega), hi, hz⟩
  rw [← he] at hb
  obtain ⟨u, hu, hub⟩ := hb
  rcases List.mem_or_eq_of_mem_set hu with hu | rfl
  · rcases List.mem_or_eq_of_mem_set hu with hu | rfl
    · exact h.new b ⟨u, hu, hub⟩
    · rcases hf b hub with h3 | h3
      · exact h.new b ⟨r, List.mem_of_getElem? hr, h3⟩
      · exact Nat.le_trans h.kept.size h3
  · rw [hsv] at hub
    exact h.new b ⟨s, List.mem_of_getElem? hs, hub⟩
theorem HM.setI (h : HM w0 w gl cl go gi gz hv zs os iv zv) {t : Nat} {x x' : IS} {w1 : World} (hx : iv[t]? = some x) (hk : Kept (fun b => x.v.ownBlock = some b) w w1) (ho : w1.ownsRow 0 2 1 x'.v x'.bs.length (vals .i64 x'.bs)) (hf : ∀ b, x'.v.ownBlock = some b → x.v.ownBlock = some b ∨ w.heap.size ≤ b) :
    HM w0 (w1.setCell ⟨gi, t, none⟩ x'.v) gl cl go gi gz hv zs os (iv.set t x') zv := by
  have ht : t < iv.length := (List.getElem?_eq_some_iff.1 hx).1
  exact h.two (k := 5 + t) (q := 3) (r := x.row) (r' := x'.row) (s' := ⟨30, 1, .slice (some ⟨gi, 0, none⟩) 4 4, 4, (iv.map IS.v).set t x'.v⟩) (by omega) (hrows_i hx) hk ho hf rfl rfl (Kept.setCell (R := fun b => (Value.slice (some ⟨gi, 0, none⟩) 4 4).ownBlock = some b) (Kept.refl _ _) (p := ⟨gi, t, none⟩) (.inr rfl) _) (fun hh => (World.ownsRow.stored hh t x'.v).1) (hrows_seti ht) (by rw [List.length_set]; exact h.il) h.zl
theorem HM.setZ (h : HM w0 w gl cl go gi gz hv zs os iv zv) {t : Nat} {x x' : IS} {w1 : World} (hx : zv[t]? = some x) (hk : Kept (fun b => x.v.ownBlock = some b) w w1) (ho : w1.ownsRow 0 2 1 x'.v x'.bs.length (vals .i64 x'.bs)) (hf : ∀ b, x'.v.ownBlock = some b → x.v.ownBlock = some b ∨ w.heap.size ≤ b) :
    HM w0 (w1.setCell ⟨gz, t, none⟩ x'.v) gl cl go gi gz hv zs os iv (zv.set t x') := by
  have ht : t < zv.length := (List.getElem?_eq_some_iff.1 hx).1
  exact h.two (k := 9 + t) (q := 4) (r := x.row) (r' := x'.row) (s' := ⟨30, 1, .slice (some ⟨gz, 0, none⟩) 4 4, 4, (zv.map IS.v).set t x'.v⟩) (by omega) (hrows_z h.il hx) hk ho hf rfl rfl (Kept.setCell (R := fun b => (Value.slice (some ⟨gz, 0, none⟩) 4 4).ownBlock = some b) (Kept.refl _ _) (p := ⟨gz, t, none⟩) (.inr rfl) _) (fun hh => (World.ownsRow.stored hh t x'.v).1) (hrows_setz h.il ht) h.il (by rw [List.length_set]; exact h.zl)
theorem HM.setL (h : HM w0 w gl cl go gi gz hv zs os iv zv) (j : Nat) (x : Int) : HM w0 (w.setCell ⟨gl, j, none⟩ (.int .i64 x)) gl cl go gi gz hv (zs.set j x) os iv zv :=
  h.step (k := 0) (r' := ⟨2, 1, .slice (some ⟨gl, 0, none⟩) 32 cl, 32, vals .i64 (zs.set j x)⟩) rfl (Kept.setCell (R := fun b => (Value.slice (some ⟨gl, 0, none⟩) 32 cl).ownBlock = some b) (Kept.refl _ _) (p := ⟨gl, j, none⟩) (.inr rfl) _)
    (by have := (World.ownsRow.stored h.zrow j (.int .i64 x)).1
        rwa [show (vals .i64 zs).set j (.int .i64 x) = vals .i64 (zs.set j x) from by simp [vals]] at this) (fun b hb => .inl hb) rfl h.il h.zl
theorem HM.setO (h : HM w0 w gl cl go gi gz hv zs os iv zv) (j : Nat) (x : Int) : HM w0 (w.setCell ⟨go, j, none⟩ (.int .i64 x)) gl cl go gi gz hv zs (os.set j x) iv zv :=
  h.step (k := 2) (r' := ⟨3, 1, .slice (some ⟨go, 0, none⟩) 32 32, 32, vals .i64 (os.set j x)⟩) rfl (Kept.setCell (R := fun b => (Value.slice (some ⟨go, 0, none⟩) 32 32).ownBlock = some b) (Kept.refl _ _) (p := ⟨go, j, none⟩) (.inr rfl) _)
    (by have := (World.ownsRow.stored h.orow j (.int .i64 x)).1
        rwa [show (vals .i64 os).set j (.int .i64 x) = vals .i64 (os.set j x) from by simp [vals]] at this) (fun b hb => .inl hb) rfl h.il h.zl
theorem HM.setH (h : HM w0 w gl cl go gi gz hv zs os iv zv) {y : FR} (hk : Same w w') (ho : OwnL w' (FR.rows 3 y)) (hf : ∀ b, FootL (FR.rows 3 y) b → w.heap.size ≤ b) : HM w0 w' gl cl go gi gz y zs os iv zv :=
  h.step (k := 1) (r' := ⟨y.e, 3, y.v, y.n, vals .i64 y.bs⟩) rfl (hk.mono (fun b _ e => e.elim)) (FR.own_one ho) (fun b hb => .inr (hf b ((FootL_one _ _).2 hb))) rfl h.il h.zl
theorem ints_cell {e : TypeId} {g n c : Nat} {bs : List Int} (h : w.ownsRow 0 e 1 (.slice (some ⟨g, 0, none⟩) n c) n (vals .i64 bs)) (j : Nat) (hj : j < n) : w.cell? ⟨g, j, none⟩ = some (.int .i64 (bs.getD j 0)) := by
  have h1 := h.1
  rw [vals_length] at h1
  rw [World.ownsRow.cellAt h j (by omega), vals_at .i64 bs j (by omega)]
theorem vs_cell {g : Nat} {xs : List IS} (h : w.ownsRow 0 30 1 (.slice (some ⟨g, 0, none⟩) 4 4) 4 (xs.map IS.v)) {j : Nat} {x : IS} (hx : xs[j]? = some x) (hj : j < 4) : w.cell? ⟨g, j, none⟩ = some x.v := by
  rw [World.ownsRow.cellAt h j (by omega)]
  rw [List.getElem?_map, hx]
  rfl
theorem HM.rd (h : HM w0 w gl cl go gi gz hv zs os iv zv) (hz : zs.length = 32) : Rd .i64 w (.slice (some ⟨gl, 0, none⟩) 32 cl) zs := by
  have : Own 0 2 .i64 w (.slice (some ⟨gl, 0, none⟩) 32 cl) zs := by
    have h1 := h.zrow
    rw [← hz] at h1 ⊢
    exact h1
  exact this.rd
theorem HM.inner (h : HM w0 w gl cl go gi gz hv zs os iv zv) {t : Nat} {x : IS} (hx : iv[t]? = some x) : w.ownsRow 0 2 1 x.v x.bs.length (vals .i64 x.bs) := h.own.at (hrows_i hx)
theorem HM.innerZ (h : HM w0 w gl cl go gi gz hv zs os iv zv) {t : Nat} {x : IS} (hx : zv[t]? = some x) : w.ownsRow 0 2 1 x.v x.bs.length (vals .i64 x.bs) := h.own.at (hrows_z h.il hx)
end
theorem own_front {w : World} {e : TypeId} {x : IS} (h : w.ownsRow 0 e 1 x.v x.bs.length (vals .i64 x.bs)) (m : Nat) (hm : m ≤ x.bs.length) : w.ownsRow 0 e 1 (IS.v ⟨x.a, x.c, x.bs.take m⟩) (x.bs.take m).length (vals .i64 (x.bs.take m)) := by
  have hl : (x.bs.take m).length = m := by rw [List.length_take]; omega
  refine ⟨by rw [vals_length, Nat.mul_one], ?_⟩
  rcases h.2 with ⟨h1, h2⟩ | ⟨g, cap, cur, h1, hb, hgg, hc, hmx, hs, ht⟩
  · unfold IS.v at h1 ⊢
    injection h1 with a1 a2 a3
    dsimp only
    rw [a1, a3, hl]
    obtain rfl : m = 0 := by omega
    exact .inl ⟨rfl, by simp [vals]⟩
  · unfold IS.v at h1 ⊢
    injection h1 with a1 a2 a3
    dsimp only
    rw [hl]
    refine .inr ⟨g, cap, cur, by rw [a1, a3], hb, hgg, by omega, hmx, hs, ?_⟩
    rw [Nat.mul_one] at ht ⊢
    have := congrArg (List.take m) ht
    rw [List.take_take, show min m x.bs.length = m from by omega] at this
    rw [this]
    simp [vals]
theorem insertH_any (xa : Option Addr) (n c k vb : Nat) (bs : List Int) (p q r : Int) (w : World) (hn : n ≤ 1048576) (hk : k ≤ n) (ho : OwnL w (FR.rows 3 ⟨53, xa, n, c, bs⟩)) (hb : Blk w vb 53 [.int .i64 p, .int .i64 q, .int .i64 r]) (hap : ∀ b, FootL (FR.rows 3 ⟨53, xa, n, c, bs⟩) b → vb ≠ b) :
    Calls Try.prog 58 #[.slice xa n c, .int .i64 k, .slice (some ⟨vb, 0, none⟩) 1 1] w fun e w' => ∃ a' c', e = .returned (.slice a' (n + 1) c') ∧ OwnL w' (FR.rows 3 ⟨53, a', n + 1, c', bs.take (k * 3) ++ (p :: q :: r :: bs.drop (k * 3))⟩) ∧ (∀ b, FootL (FR.rows 3 ⟨53, a', n + 1, c', bs.take (k * 3) ++ (p :: q :: r :: bs.drop (k * 3))⟩) b → FootL (FR.rows 3 ⟨53, xa, n, c, bs⟩) b ∨ w.heap.size ≤ b) ∧ Kept (FootL (FR.rows 3 ⟨53, xa, n, c, bs⟩)) w w' := by
  have hl : bs.length = n * 3 := FR.own_len ho
  by_cases hkn : k = n
  · subst hkn
    have h := insertEnd_any xa k c vb bs p q r w hn ho hb
    rw [List.take_of_length_le (by omega), List.drop_eq_nil_of_le (by omega)]
    exact h
  rcases FR.own_form ho with ⟨h1, _, _⟩ | ⟨g, h1, h2, h3, h4⟩
  · dsimp only at h1; omega
  dsimp only at h1 h2 h3 h4
  subst h1
  have hf : FootL (FR.rows 3 ⟨53, some ⟨g, 0, none⟩, n, c, bs⟩) g := (FootL_one _ _).2 rfl
  by_cases hc : n + 1 ≤ c
  · refine (insertRoom_any g n c k vb bs p q r w hn (by omega) hc h4 hb (hap g hf)).mono ?_
    rintro e w1 ⟨rfl, ho1, hk1⟩
    exact ⟨_, _, rfl, ho1.out, fun b hb1 => by have := FootL_fr hb1; subst this; exact .inl hf, hk1.mono (fun b _ e => by subst e; exact hf)⟩
  · obtain rfl : c = n := by omega
    refine (insertGrow_any g c k vb bs p q r w hn (by omega) h4 hb).mono ?_
    rintro e w1 ⟨c', rfl, ho1, hk1⟩
    exact ⟨_, _, rfl, ho1.out, fun b hb1 => by have := FootL_fr hb1; subst this; exact .inr (Nat.le_refl _), hk1.mono (fun b _ e => e.elim)⟩
theorem flat_set (ls : List T3) (k : Nat) (h : k < ls.length) (p q r : Int) : (((flat3 ls).set (k * 3) p).set (k * 3 + 1) q).set (k * 3 + 2) r = flat3 (ls.set k (p, q, r)) := by
  induction ls generalizing k with
  | nil => simp at h
  | cons a t ih =>
    obtain ⟨a1, a2, a3⟩ := a
    cases k with
    | zero => simp [flat3]
    | succ k =>
      have := ih k (by simpa using h)
      rw [show (k + 1) * 3 = k * 3 + 3 from by omega]
      simp only [flat3, List.set_cons_succ]
      rw [← this]
theorem flat_take (ls : List T3) (k : Nat) (h : k ≤ ls.length) : (flat3 ls).take (k * 3) = flat3 (ls.take k) := by
  induction ls generalizing k with
  | nil => obtain rfl : k = 0 := by simpa using h
           rfl
  | cons a t ih =>
    obtain ⟨a1, a2, a3⟩ := a
    cases k with
    | zero => simp [flat3]
    | succ k =>
      have := ih k (by simpa using h)
      rw [show (k + 1) * 3 = k * 3 + 3 from by omega]
      simp only [flat3, List.take_succ_cons]
      rw [← this]
theorem flat_drop (ls : List T3) (k : Nat) (h : k ≤ ls.length) : (flat3 ls).drop (k * 3) = flat3 (ls.drop k) := by
  induction ls generalizing k with
  | nil => obtain rfl : k = 0 := by simpa using h
           rfl
  | cons a t ih =>
    obtain ⟨a1, a2, a3⟩ := a
    cases k with
    | zero => simp [flat3]
    | succ k =>
      have := ih k (by simpa using h)
      rw [show (k + 1) * 3 = k * 3 + 3 from by omega]
      simp only [flat3, List.drop_succ_cons]
      rw [← this]
theorem implHoldTake_any (x : FR) (txn id be af : Int) (w : World) (hv : RdF 3 w x) :
    Calls Try.prog 27 #[x.v, .int .i64 txn, .int .i64 id, .int .i64 be, .int .i64 af] w fun e w' => ∃ y : FR, e = .returned y.v ∧ y.bs = takeH (tri x.bs) txn id be af ∧ (∀ b, FootL (FR.rows 3 y) b → w.heap.size ≤ b) ∧ OwnL w' (FR.rows 3 y) ∧ Same w w' := by
  have k0 := implHoldsFault_any x w hv
  have k1 := isTxn8_any txn
  have k2 := isId8_any id
  have k3 := isLength_any be
  have k4 := isLength_any af
  have HV := hid hv
  obtain ⟨xe, xa, n, xc, bs⟩ := x
  have hbl : bs.length = n * 3 := hv.2.1
  dsimp only [FR.v] at k0 ⊢
  clear hv
  obtain ⟨R, hR⟩ : ∃ R, takeH (tri bs) txn id be af = R := ⟨_, rfl⟩
  rw [hR]
  unfold takeH at hR
  obtain ⟨q, hq⟩ : ∃ q, holdsF (tri bs) = q := ⟨_, rfl⟩
  rw [hq] at k0 hR
  have fin : ∀ w1, Same w w1 → R = [] → ∃ y : FR, Ending.returned (.slice none 0 0) = .returned y.v ∧ y.bs = R ∧ (∀ b, FootL (FR.rows 3 y) b → w.heap.size ≤ b) ∧ OwnL w1 (FR.rows 3 y) ∧ Same w w1 := fun w1 hk hr =>
    ⟨⟨53, none, 0, 0, []⟩, rfl, hr.symm, fun b hb => by have := (FootL_one _ _).1 hb; simp [FR.v, Value.ownBlock] at this, FR.own_nil _, hk⟩
  by_cases h0 : q = 0
  case neg =>
    rw [if_neg (fun h => h0 h.1)] at hR
    clear k1 k2 k3 k4 hq hbl
    go_enter Try.func27, Try.ntmps27
    go_wp2_with fail
    refine k0.mono ?_
    rintro e w1 ⟨rfl, hk1⟩
    go_wp2
    go_ret
    exact fin _ hk1 hR.symm
  subst h0
  cases f0 : inB txn 1 2147483647 with
  | false =>
    rw [f0] at k1 hR
    rw [if_neg (by simp)] at hR
    clear hq hbl
    go_enter Try.func27, Try.ntmps27
    go_wp2_with fail
    refine k0.mono ?_
    rintro e w1 ⟨rfl, hk1⟩
    go_wp2_with fail
    refine (k1 _).mono ?_
    rintro e w2 ⟨rfl, rfl⟩
    go_wp2
    go_ret
    exact fin _ hk1 hR.symm
  | true =>
  rw [f0] at k1 hR
  cases f1 : inB id 0 511 with
  | false =>
    rw [f1] at k2 hR
    rw [if_neg (by simp)] at hR
    clear hq hbl
    go_enter Try.func27, Try.ntmps27
    go_wp2_with fail
    refine k0.mono ?_
    rintro e w1 ⟨rfl, hk1⟩
    go_wp2_with fail
    refine (k1 _).mono ?_
    rintro e w2 ⟨rfl, rfl⟩
    go_wp2_with fail
    refine (k2 _).mono ?_
    rintro e w2 ⟨rfl, rfl⟩
    go_wp2
    go_ret
    exact fin _ hk1 hR.symm
  | true =>
  rw [f1] at k2 hR
  cases f2 : inB be (-1) 1000 with
  | false =>
    rw [f2] at k3 hR
    rw [if_neg (by simp)] at hR
    clear hq hbl
    go_enter Try.func27, Try.ntmps27
    go_wp2_with fail
    refine k0.mono ?_
    rintro e w1 ⟨rfl, hk1⟩
    go_wp2_with fail
    refine (k1 _).mono ?_
    rintro e w2 ⟨rfl, rfl⟩
    go_wp2_with fail
    refine (k2 _).mono ?_
    rintro e w2 ⟨rfl, rfl⟩
    go_wp2_with fail
    refine (k3 _).mono ?_
    rintro e w2 ⟨rfl, rfl⟩
    go_wp2
    go_ret
    exact fin _ hk1 hR.symm
  | true =>
  rw [f2] at k3 hR
  cases f3 : inB af (-1) 1000 with
  | false =>
    rw [f3] at k4 hR
    rw [if_neg (by simp)] at hR
    clear hq hbl
    go_enter Try.func27, Try.ntmps27
    go_wp2_with fail
    refine k0.mono ?_
    rintro e w1 ⟨rfl, hk1⟩
    go_wp2_with fail
    refine (k1 _).mono ?_
    rintro e w2 ⟨rfl, rfl⟩
    go_wp2_with fail
    refine (k2 _).mono ?_
    rintro e w2 ⟨rfl, rfl⟩
    go_wp2_with fail
    refine (k3 _).mono ?_
    rintro e w2 ⟨rfl, rfl⟩
    go_wp2_with fail
    refine (k4 _).mono ?_
    rintro e w2 ⟨rfl, rfl⟩
    go_wp2
    go_ret
    exact fin _ hk1 hR.symm
  | true =>
  rw [f3] at k4 hR
  rw [if_pos ⟨rfl, rfl, rfl, rfl, rfl⟩] at hR
  have hn := holdsF_len hq
  rw [tri_length n bs hbl] at hn
  have HRI := hid (holdsF_ris hq)
  have HR := hid hR
  have HBL := hid hbl
  obtain ⟨e1, e2⟩ := (show -1 ≤ be ∧ be ≤ 1000 from by simpa [inB] using f2)
  obtain ⟨e3, e4⟩ := (show -1 ≤ af ∧ af ≤ 1000 from by simpa [inB] using f3)
  clear hR hbl f0 f1 f2 f3 fin
  have HMO : Hid (mostH (tri bs) id be af = maxI (holdOf id (tri bs)) (grI 0 [be, af])) := by
    unfold Hid mostH maxI
    simp only [grI]
    repeat' split
    all_goals omega
  have kg := fun (wx : World) h => greatest_any 0 (.slice (some ⟨wx.heap.size, 0, none⟩) 2 2) [be, af] (wx.alloc (.cells #[.int .i64 be, .int .i64 af] 2)) h
  have HRD : Hid (∀ wx : World, Rd .i64 (wx.alloc (.cells #[.int .i64 be, .int .i64 af] 2)) (.slice (some ⟨wx.heap.size, 0, none⟩) 2 2) [be, af]) := fun wx => rd_new wx 2 [be, af] (by unfold maxLen; simp)
  obtain ⟨m0, hm0⟩ : ∃ m0, grI 0 [be, af] = m0 := ⟨_, rfl⟩
  simp only [hm0] at kg
  rw [hm0] at HMO
  have HM0 : Hid (0 ≤ m0) := by
    unfold Hid
    rw [← hm0]
    simp only [grI]
    repeat' split
    all_goals omega
  clear hm0
  go_enter Try.func27, Try.ntmps27
  go_wp2_with fail
  refine k0.mono ?_
  rintro e w1 ⟨rfl, hk1⟩
  have HK1 := hid hk1
  clear hk1 k0 hq
  go_wp2_with fail
  refine (k1 _).mono ?_
  rintro e wz ⟨rfl, rfl⟩
  go_wp2_with fail
  refine (k2 _).mono ?_
  rintro e wz ⟨rfl, rfl⟩
  go_wp2_with fail
  refine (k3 _).mono ?_
  rintro e wz ⟨rfl, rfl⟩
  go_wp2_with fail
  refine (k4 _).mono ?_
  rintro e wz ⟨rfl, rfl⟩
  clear k1 k2 k3 k4
  go_wp2_with fail
  refine (kg _ (HRD.out _)).mono ?_
  rintro e w2 ⟨rfl, hk2⟩
  have HK2 := hid ((HK1.out.alloc (.cells #[.int .i64 be, .int .i64 af] 2)).trans hk2)
  clear hk2 kg HRD HK1
  go_wp2_with fail
  have HB3 := (show Hid (Blk (w2.alloc (.cells #[.int .i64 id, .int .i64 txn, .int .i64 m0] 53)) w2.heap.size 53 [.int .i64 id, .int .i64 txn, .int .i64 m0]) from Blk.newL w2 _ _)
  have HK3 := (show Hid (Same w (w2.alloc (.cells #[.int .i64 id, .int .i64 txn, .int .i64 m0] 53))) from HK2.out.alloc _)
  have hw2 : w.heap.size ≤ w2.heap.size := HK2.out.size
  generalize w2.alloc (.cells #[.int .i64 id, .int .i64 txn, .int .i64 m0] 53) = w3 at HB3 HK3 ⊢
  generalize w2.heap.size = tb at HB3 hw2 ⊢
  clear HK2
  have kc := cloneH_any ⟨xe, xa, n, xc, bs⟩ w3 (by dsimp only; omega) (HV.out.same HK3.out)
  dsimp only [FR.v] at kc
  refine kc.mono ?_
  rintro e w4 ⟨ya, yc, rfl, ho, hfr, hk4⟩
  have hw3 := HB3.out.lt
  have kf := findHold_any ⟨53, ya, n, yc, bs⟩ id w4 (FR.own_rd ho) (by dsimp only; omega) HRI.out
  dsimp only [FR.v] at kf
  have HO := hid ho
  have HFR : Hid (∀ b, FootL (FR.rows 3 ⟨53, ya, n, yc, bs⟩) b → w3.heap.size ≤ b) := hfr
  have HK4 := hid (HK3.out.trans hk4)
  have HB4 := hid (HB3.out.same hk4)
  have hw34 := HK3.out.size
  clear kc ho hfr hk4 HB3 HK3
  go_wp2_with fail
  refine kf.mono ?_
  rintro e w5 ⟨k, rfl, hlb, hk5⟩
  have HLB := hid hlb
  have HO5 := hid (HO.out.same hk5)
  have HK5 := hid (HK4.out.trans hk5)
  have HB5 := hid (HB4.out.same hk5)
  obtain ⟨b0, b1, b2⟩ := HB5.out.all3
  have hkn : k ≤ n := by have := hlb.1; rw [tri_length n bs HBL.out] at this; exact this
  have HHO := hid (holdOf_lb id (tri bs) k HRI.out hlb)
  have HIN : ∀ m, Hid (insH (id, txn, m) false (tri bs) = if fndH id (tri bs) k = true then (tri bs).set k (id, txn, m) else (tri bs).take k ++ (id, txn, m) :: (tri bs).drop k) := fun m => insH_lb (id, txn, m) (tri bs) k HRI.out hlb
  clear kf hlb hk5 HO HK4 HB4
  cases hfd : fndH id (tri bs) k with
  | false =>
    rw [hfd] at HHO
    simp only [hfd] at HIN
    have HRR : Hid (R = bs.take (k * 3) ++ (id :: txn :: m0 :: bs.drop (k * 3))) := by
      have h1 := HHO.out
      rw [if_neg Bool.false_ne_true] at h1
      have h2 := HMO.out
      rw [h1, show maxI (-1) m0 = m0 from by
        unfold maxI
        rw [if_neg (by
          have := HM0.out
          omega)]] at h2
      have h3 := (HIN m0).out
      rw [if_neg Bool.false_ne_true] at h3
      have hll : k ≤ (tri bs).length := by rw [tri_length n bs HBL.out]; exact hkn
      unfold Hid
      rw [← HR.out, h2, h3, flat3_append]
      have e1 := flat_take (tri bs) k hll
      have e2 := flat_drop (tri bs) k hll
      rw [flat3_tri n bs HBL.out] at e1 e2
      rw [e1, e2]
      rfl
    clear HHO HIN HMO hfd
    go_wp2_with fail
    have ki := insertH_any ya n yc k w5.heap.size bs id txn m0 (w5.alloc (.cells #[.int .i64 id, .int .i64 txn, .int .i64 m0] 53)) (by omega) hkn (HO5.out.same ((Kept.refl _ _).alloc _)) (Blk.newL w5 _ _) (fun b hb e => by have := HO5.out.lt b hb; omega)
    have HK6 := (show Hid (Same w (w5.alloc (.cells #[.int .i64 id, .int .i64 txn, .int .i64 m0] 53))) from HK5.out.alloc _)
    have hs6 : w.heap.size ≤ (w5.alloc (.cells #[.int .i64 id, .int .i64 txn, .int .i64 m0] 53)).heap.size := HK6.out.size
    refine ki.mono ?_
    rintro e w7 ⟨za, zc, rfl, ho7, hf7, hk7⟩
    have HO7 := hid ho7
    have HF7 : Hid (∀ b, FootL (FR.rows 3 ⟨53, za, n + 1, zc, bs.take (k * 3) ++ (id :: txn :: m0 :: bs.drop (k * 3))⟩) b → w.heap.size ≤ b) := fun b hb => by
      rcases hf7 b hb with h | h
      · exact Nat.le_trans hw34 (HFR.out b h)
      · exact Nat.le_trans hs6 h
    have HK7 : Hid (Same w w7) := HK6.out.next hk7 (fun i hi h => absurd (HFR.out i h) (by omega))
    clear ki ho7 hf7 hk7 b0 b1 b2
    go_wp2
    go_ret
    exact ⟨⟨53, za, n + 1, zc, bs.take (k * 3) ++ (id :: txn :: m0 :: bs.drop (k * 3))⟩, rfl, HRR.out.symm, HF7.out, HO7.out, HK7.out⟩
  | true =>
    obtain ⟨hkl, hki⟩ := fndH_some hfd
    have hkn2 : k < n := by rw [tri_length n bs HBL.out] at hkl; exact hkl
    rcases FR.own_form HO5.out with ⟨h1, _, _⟩ | ⟨g, h1, h2, h3, h4⟩
    · dsimp only at h1; omega
    dsimp only at h1 h2 h3 h4
    subst h1
    have HO6 := hid h4
    clear h4
    obtain ⟨⟨x1, y1, z1⟩, hx1⟩ : ∃ q, (tri bs)[k] = q := ⟨_, rfl⟩
    obtain ⟨da0, da1, da2⟩ := (FR.own_rd HO5.out).tri k hkl _ _ _ hx1
    rw [Nat.zero_add] at da0 da1 da2
    have hgf := HFR.out g ((FootL_one _ _).2 rfl)
    have htg : tb ≠ g := by omega
    obtain ⟨m1, hm1⟩ : ∃ m1, grI m0 [z1] = m1 := ⟨_, rfl⟩
    have HRR : Hid (R = ((bs.set (k * 3) id).set (k * 3 + 1) txn).set (k * 3 + 2) m1) := by
      have h1 := HHO.out
      rw [if_pos hfd, show (tri bs).getD k (0, 0, 0) = (x1, y1, z1) from by rw [← hx1]; simp [List.getD, hkl]] at h1
      have h2 := HMO.out
      rw [h1] at h2
      have h3 := (HIN m1).out
      rw [if_pos hfd] at h3
      have e1 : maxI z1 m0 = m1 := by rw [← hm1]; rfl
      dsimp only at h2
      rw [e1] at h2
      unfold Hid
      rw [← HR.out, h2, h3, ← flat_set _ _ hkl, flat3_tri n bs HBL.out]
    have kg := fun (wx : World) h => greatest_any m0 (.slice (some ⟨wx.heap.size, 0, none⟩) 1 1) [z1] (wx.alloc (.cells #[.int .i64 z1] 2)) h
    have HRD : Hid (∀ wx : World, Rd .i64 (wx.alloc (.cells #[.int .i64 z1] 2)) (.slice (some ⟨wx.heap.size, 0, none⟩) 1 1) [z1]) := fun wx => rd_new wx 2 [z1] (by unfold maxLen; simp)
    simp only [hm1] at kg
    clear HHO HIN HMO hfd hm1 hx1 hki hkl
    go_wp2_with fail
    let Y1 : World → Prop := fun wx : World => wx.cell? ⟨tb, 2, none⟩ = some (.int .i64 m0) ∧ wx.cell? ⟨g, k * 3 + 2, none⟩ = some (.int .i64 z1)
    have hS : Y1 w5.drew := ⟨b2, da2⟩
    refine wp_region_V Y1 10 11 rfl (by kernel_rfl) ?_
    refine tk 0 60 hS ?_
    refine tk 1 61 hS ?_
    refine tk 2 62 hS ?_
    refine tk 3 63 hS ?_
    refine tk 4 64 hS ?_
    refine tk 5 65 hS ?_
    refine tk 6 66 hS ?_
    refine wpAnyV_one (i := 7) (by kernel_rfl) rfl (fun K hK => ?_)
    go_simp
    have k7 : Calls Try.prog 57 #[.int .i64 m0, .slice (some ⟨w5.heap.size, 0, none⟩) 1 1] (w5.alloc (.cells #[.int .i64 z1] 2)).drew fun e w' => e = .returned (.int .i64 m1) ∧ Same (w5.alloc (.cells #[.int .i64 z1] 2)).drew w' := kg w5.drew (HRD.out _)
    have HKa : Hid (Same w5 (w5.alloc (.cells #[.int .i64 z1] 2)).drew) := ((Kept.refl _ _).alloc _).drew
    generalize (w5.alloc (.cells #[.int .i64 z1] 2)).drew = w6 at k7 HKa ⊢
    have hS : Y1 w6 := ⟨HKa.out.cellOf b2 (fun h => h), HKa.out.cellOf da2 (fun h => h)⟩
    refine hK.out _ _ (fun _ => hS) ?_
    clear hK K kg HRD
    try simp only [Act.put, sA, s0, sS]
    refine wpAnyV_one (i := 8) (by kernel_rfl) rfl (fun K hK => ?_)
    go_simp
    refine k7.mono ?_
    rintro e w7 ⟨rfl, hk7⟩
    have HK57 := hid (HKa.out.trans hk7)
    have HK7 := hid (HK5.out.trans HK57.out)
    have HO7 := hid (HO6.out.same HK57.out)
    have HB7 := hid (HB5.out.same HK57.out)
    have hS : Y1 w7 := ⟨HK57.out.cellOf b2 (fun h => h), HK57.out.cellOf da2 (fun h => h)⟩
    have hf7 : w7.frozen? ⟨tb, 2, none⟩ = false := HB7.out.frozen 2
    obtain ⟨c0, c1, c2⟩ := HB7.out.all3
    refine hK.out _ _ (fun _ => hS) ?_
    clear hK K k7 hk7 b0 b1 b2 da0 da1 da2 HKa
    try simp only [Act.put, sA, s0, sS]
    refine tk 9 69 hS ?_
    refine wpAnyV_one (i := 10) (by kernel_rfl) rfl (fun K hK => ?_)
    go_simp
    refine hK.out _ _ (fun h => absurd rfl h) ?_
    clear hK K
    refine wpAnyV_done (by kernel_rfl) ?_
    try simp only [Act.put, sA, s0, sS]
    have HB8 := (show Hid (Blk (w7.setCell ⟨tb, 2, none⟩ (.int .i64 m1)) tb 53 [.int .i64 id, .int .i64 txn, .int .i64 m1]) from HB7.out.stored 2 (.int .i64 m1))
    have HK78 := (show Hid (Kept (fun b => b = tb) w7 (w7.setCell ⟨tb, 2, none⟩ (.int .i64 m1))) from Kept.setCell (R := fun b => b = tb) (Kept.refl _ _) (.inr rfl) _)
    generalize w7.setCell ⟨tb, 2, none⟩ (.int .i64 m1) = w8 at HB8 HK78 ⊢
    have HK8 := (show Hid (Same w w8) from HK7.out.next HK78.out (fun i hi e => by omega))
    have HO8 := (show Hid (OwnF 3 53 w8 g n yc bs) from HO7.out.kept HK78.out (fun e => htg e.symm))
    clear hS c0 c1 c2 hf7 HB7 HO7 HK7
    obtain ⟨c0, c1, c2⟩ := HB8.out.all3
    have f0 := HO8.out.frozen (k * 3)
    have f1 := HO8.out.frozen (k * 3 + 1)
    have f2 := HO8.out.frozen (k * 3 + 2)
    have d0 := HO8.out.cell (k * 3) (by omega)
    have d1 := HO8.out.cell (k * 3 + 1) (by omega)
    have d2 := HO8.out.cell (k * 3 + 2) (by omega)
    go_wp2
    have HO9 := (show Hid (OwnF 3 53 (((w8.setCell ⟨g, k * 3, none⟩ (.int .i64 id)).setCell ⟨g, k * 3 + 1, none⟩ (.int .i64 txn)).setCell ⟨g, k * 3 + 2, none⟩ (.int .i64 m1)) g n yc (((bs.set (k * 3) id).set (k * 3 + 1) txn).set (k * 3 + 2) m1)) from ((HO8.out.stored (k * 3) id).stored (k * 3 + 1) txn).stored (k * 3 + 2) m1)
    have hgw : w.heap.size ≤ g := Nat.le_trans hw34 hgf
    have HK9 := (show Hid (Same w (((w8.setCell ⟨g, k * 3, none⟩ (.int .i64 id)).setCell ⟨g, k * 3 + 1, none⟩ (.int .i64 txn)).setCell ⟨g, k * 3 + 2, none⟩ (.int .i64 m1))) from ((HK8.out.setCell (.inl hgw) _).setCell (.inl hgw) _).setCell (.inl hgw) _)
    go_ret
    exact ⟨⟨53, some ⟨g, 0, none⟩, n, yc, ((bs.set (k * 3) id).set (k * 3 + 1) txn).set (k * 3 + 2) m1⟩, rfl, HRR.out.symm, fun b hb => by have := FootL_fr hb; omega, HO9.out.out, HK9.out⟩
end Go.Proofs.Ytmpfpgelaipmnab
