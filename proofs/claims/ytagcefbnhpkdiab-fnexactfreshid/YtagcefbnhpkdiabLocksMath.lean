/-
  What LockAsk and LockFree keep of a list of locks.
-/
import Derived.Test.YtagcefbnhpkdiabLockAskS
import Derived.Test.YtagcefbnhpkdiabLockFreeS
import Derived.Test.YtagcefbnhpkdiabLockMath
namespace Go.Proofs.Ytagcefbnhpkdiab
open Go.RowKit
set_option linter.unusedVariables false
set_option linter.unusedSimpArgs false

def ltK (a b : T3) : Prop := a.1 < b.1 ∨ (a.1 = b.1 ∧ a.2.1 < b.2.1)
def apartK (a b : T3) : Prop := a.1 = b.1 → a.2.2 ≠ 2 ∧ b.2.2 ≠ 2
/-- A list without fault, said of all pairs. -/
structure GoodL (ls : List T3) : Prop where
  len : ls.length ≤ 4096
  fine : ∀ l ∈ ls, (0 ≤ l.1 ∧ l.1 ≤ 511) ∧ (1 ≤ l.2.1 ∧ l.2.1 ≤ 2147483647) ∧ (1 ≤ l.2.2 ∧ l.2.2 ≤ 2)
  rise : ls.Pairwise ltK
  apart : ls.Pairwise apartK
theorem lkBad_no (l : T3) : lkBad l = false ↔ (0 ≤ l.1 ∧ l.1 ≤ 511) ∧ (1 ≤ l.2.1 ∧ l.2.1 ≤ 2147483647) ∧ (1 ≤ l.2.2 ∧ l.2.2 ≤ 2) := by
  simp only [lkBad, inB, Bool.or_eq_false_iff, Bool.not_eq_false', Bool.and_eq_true, decide_eq_true_eq]
  constructor
  · rintro ⟨⟨h1, h2⟩, h3⟩; exact ⟨h1, h2, h3⟩
  · rintro ⟨h1, h2, h3⟩; exact ⟨⟨h1, h2⟩, h3⟩
theorem lkAfter_no (a b : T3) : lkAfter a b = false ↔ ltK a b := by
  simp only [lkAfter, ltK, Bool.or_eq_false_iff, decide_eq_false_iff_not, Bool.and_eq_false_iff]
  omega
theorem lkClash_no (a b : T3) : lkClash a b = false ↔ apartK a b := by
  simp only [lkClash, apartK, Bool.and_eq_false_iff, decide_eq_false_iff_not, Bool.or_eq_false_iff]
  constructor
  · rintro (h | h) e
    · exact absurd e h
    · exact h
  · intro h
    by_cases e : a.1 = b.1
    · exact .inr (h e)
    · exact .inl e
theorem ltK.trans {a b c : T3} (h : ltK a b) (k : ltK b c) : ltK a c := by unfold ltK at *; omega
/-- neighbours that rise: all rise -/
theorem rise_of {ls : List T3} (h : nbr lkAfter ls = false) : ls.Pairwise ltK := by
  rw [List.pairwise_iff_getElem]
  intro i j hi hj hij
  obtain ⟨d, rfl⟩ : ∃ d, j = i + 1 + d := ⟨j - (i + 1), by omega⟩
  induction d with
  | zero => exact (lkAfter_no _ _).1 (nbr_at h i hj)
  | succ d ih => exact (ih (by omega) (by omega)).trans ((lkAfter_no _ _).1 (nbr_at h (i + 1 + d) (by omega)))
theorem apart_of {ls : List T3} (hr : ls.Pairwise ltK) (h : nbr lkClash ls = false) : ls.Pairwise apartK := by
  rw [List.pairwise_iff_getElem] at hr ⊢
  intro i j hi hj hij e
  have n1 := (lkClash_no _ _).1 (nbr_at h i (by omega))
  have n2 := (lkClash_no _ _).1 (nbr_at h (j - 1) (by omega))
  have ej : j - 1 + 1 = j := by omega
  have a1 : ls[i].1 = ls[i + 1].1 := by
    by_cases h1 : i + 1 = j
    · subst h1; exact e
    · have x1 := hr i (i + 1) hi (by omega) (by omega)
      have x2 := hr (i + 1) j (by omega) hj (by omega)
      unfold ltK at x1 x2; omega
  have a2 : ls[j - 1].1 = ls[j].1 := by
    by_cases h1 : i + 1 = j
    · subst h1; simpa using e
    · have x1 := hr i (j - 1) hi (by omega) (by omega)
      have x2 := hr (j - 1) j (by omega) hj (by omega)
      unfold ltK at x1 x2; omega
  simp only [ej] at n2
  exact ⟨(n1 a1).1, (n2 a2).2⟩
theorem goodL_iff (ls : List T3) : locksF ls = 0 ↔ GoodL ls := by
  unfold locksF
  constructor
  · intro h
    split at h
    · cases h
    · split at h
      · cases h
      · split at h
        · cases h
        · split at h
          · cases h
          · rename_i h1 h2 h3 h4
            have hr := rise_of (by simpa using h3)
            exact ⟨by omega, fun l hl => (lkBad_no l).1 (by simpa using fun e => h2 (List.any_eq_true.2 ⟨l, hl, e⟩)), hr, apart_of hr (by simpa using h4)⟩
  · intro h
    have hr := h.rise
    have ha := h.apart
    rw [List.pairwise_iff_getElem] at hr ha
    rw [if_neg (by have := h.len; omega), if_neg ?_, if_neg ?_, if_neg ?_]
    · rw [nbr_no (fun k hk => (lkClash_no _ _).2 (ha k (k + 1) (by omega) hk (by omega)))]; exact Bool.false_ne_true
    · rw [nbr_no (fun k hk => (lkAfter_no _ _).2 (hr k (k + 1) (by omega) hk (by omega)))]; exact Bool.false_ne_true
    · rw [any3_no (fun k hk => (lkBad_no _).2 (h.fine _ (List.getElem_mem hk)))]; exact Bool.false_ne_true
theorem GoodL.filter {ls : List T3} (h : GoodL ls) (f : T3 → Bool) : GoodL (ls.filter f) :=
  ⟨Nat.le_trans (List.length_filter_le _ _) h.len, fun l hl => h.fine l (List.mem_filter.1 hl).1, h.rise.filter f, h.apart.filter f⟩
theorem goodL_nil : GoodL [] := ⟨by simp, fun _ h => by simp at h, .nil, .nil⟩
/-- the key of a lock -/
def isK (txn id : Int) (l : T3) : Bool := decide (l.1 = id) && decide (l.2.1 = txn)
theorem insF_cons (e l : T3) (d : Bool) (t : List T3) : insF e d (l :: t) = if l.1 = e.1 ∧ l.2.1 = e.2.1 then insF e d t else if !d ∧ (e.1 < l.1 ∨ l.1 = e.1 ∧ e.2.1 < l.2.1) then e :: l :: insF e true t else l :: insF e d t := by
  cases d <;> rfl
theorem pairwise_two {R : T3 → T3 → Prop} {ls : List T3} (h : ls.Pairwise R) {x y : T3} (hx : x ∈ ls) (hy : y ∈ ls) (hne : x ≠ y) : R x y ∨ R y x := by
  rw [List.pairwise_iff_getElem] at h
  obtain ⟨i, hi, rfl⟩ := List.getElem_of_mem hx
  obtain ⟨j, hj, rfl⟩ := List.getElem_of_mem hy
  rcases Nat.lt_trichotomy i j with k | rfl | k
  · exact .inl (h i j hi hj k)
  · exact absurd rfl hne
  · exact .inr (h j i hj hi k)
theorem modeFrom_ex {txn id : Int} {ls : List T3} (h : modeFrom txn id ls ≠ 0) : ∃ l ∈ ls, l.1 = id ∧ l.2.1 = txn ∧ l.2.2 = modeFrom txn id ls := by
  induction ls with
  | nil => exact absurd rfl h
  | cons l t ih =>
    unfold modeFrom at h ⊢
    by_cases hk : l.1 = id ∧ l.2.1 = txn
    · rw [if_pos hk]
      exact ⟨l, List.mem_cons_self, hk.1, hk.2, rfl⟩
    · rw [if_neg hk] at h ⊢
      obtain ⟨x, hx, h1, h2, h3⟩ := ih h
      exact ⟨x, List.mem_cons_of_mem _ hx, h1, h2, h3⟩
theorem modeFrom_mem {ls : List T3} (hr : ls.Pairwise ltK) {l : T3} (hl : l ∈ ls) : modeFrom l.2.1 l.1 ls = l.2.2 := by
  induction ls with
  | nil => simp at hl
  | cons x t ih =>
    obtain ⟨h1, h2⟩ := List.pairwise_cons.1 hr
    unfold modeFrom
    rcases List.mem_cons.1 hl with rfl | hl
    · rw [if_pos ⟨rfl, rfl⟩]
    · have hk := h1 l hl
      rw [if_neg (by unfold ltK at hk; omega)]
      exact ih h2 hl
theorem modeFrom_free (t id t0 : Int) (ls : List T3) : modeFrom t id (ls.filter (fun l => decide (l.2.1 ≠ t0))) = if t = t0 then 0 else modeFrom t id ls := by
  induction ls with
  | nil => simp [modeFrom]
  | cons l r ih =>
    by_cases hl : l.2.1 = t0
    · rw [List.filter_cons_of_neg (by simp [hl]), ih]
      by_cases ht : t = t0
      · rw [if_pos ht, if_pos ht]
      · rw [if_neg ht, if_neg ht]
        conv => rhs; unfold modeFrom
        rw [if_neg (fun h => ht (by rw [← h.2, hl]))]
    · rw [List.filter_cons_of_pos (by simp [hl])]
      conv => lhs; unfold modeFrom
      rw [ih]
      by_cases ht : t = t0
      · simp only [if_pos ht]
        rw [if_neg (fun h => hl (by rw [h.2, ht]))]
      · simp only [if_neg ht]
        conv => rhs; unfold modeFrom
theorem modeFrom_ins_ne (e : T3) (t id : Int) (hne : ¬ (e.1 = id ∧ e.2.1 = t)) : ∀ (ls : List T3) (d : Bool), modeFrom t id (insF e d ls) = modeFrom t id ls
  | [], true => rfl
  | [], false => by simp only [insF, modeFrom]; rw [if_neg hne]
  | l :: r, d => by
    have ih := fun d => modeFrom_ins_ne e t id hne r d
    rw [insF_cons]
    by_cases h1 : l.1 = e.1 ∧ l.2.1 = e.2.1
    · rw [if_pos h1, ih]
      conv => rhs; unfold modeFrom
      rw [if_neg (fun h => hne ⟨by rw [← h1.1]; exact h.1, by rw [← h1.2]; exact h.2⟩)]
    · rw [if_neg h1]
      split
      · simp only [modeFrom]
        rw [if_neg hne, ih]
      · simp only [modeFrom]
        rw [ih]
theorem modeFrom_ins_self (e : T3) : ∀ (ls : List T3), modeFrom e.2.1 e.1 (insF e false ls) = e.2.2
  | [] => by simp [insF, modeFrom]
  | l :: r => by
    have ih := modeFrom_ins_self e r
    rw [insF_cons]
    by_cases h1 : l.1 = e.1 ∧ l.2.1 = e.2.1
    · rw [if_pos h1]; exact ih
    · rw [if_neg h1]
      split
      · simp [modeFrom]
      · simp only [modeFrom]
        rw [if_neg h1]
        exact ih
theorem insF_mem (e : T3) : ∀ (ls : List T3) (d : Bool) (x : T3), x ∈ insF e d ls → (x = e ∧ d = false) ∨ (x ∈ ls ∧ ¬ (x.1 = e.1 ∧ x.2.1 = e.2.1))
  | [], true, x, h => by simp [insF] at h
  | [], false, x, h => by simp [insF] at h; exact .inl ⟨h, rfl⟩
  | l :: r, d, x, h => by
    have ih := fun d => insF_mem e r d x
    rw [insF_cons] at h
    by_cases h1 : l.1 = e.1 ∧ l.2.1 = e.2.1
    · rw [if_pos h1] at h
      rcases ih d h with h | ⟨h, k⟩
      · exact .inl h
      · exact .inr ⟨List.mem_cons_of_mem _ h, k⟩
    · rw [if_neg h1] at h
      split at h
      · rename_i h2
        have hd : d = false := by simpa using h2.1
        rcases List.mem_cons.1 h with h | h
        · exact .inl ⟨h, hd⟩
        · rcases List.mem_cons.1 h with rfl | h
          · exact .inr ⟨List.mem_cons_self, h1⟩
          · rcases ih true h with h | ⟨h, k⟩
            · exact absurd h.2 (by simp)
            · exact .inr ⟨List.mem_cons_of_mem _ h, k⟩
      · rcases List.mem_cons.1 h with rfl | h
        · exact .inr ⟨List.mem_cons_self, h1⟩
        · rcases ih d h with h | ⟨h, k⟩
          · exact .inl h
          · exact .inr ⟨List.mem_cons_of_mem _ h, k⟩
theorem insF_rise (e : T3) : ∀ (ls : List T3) (d : Bool), ls.Pairwise ltK → (insF e d ls).Pairwise ltK
  | [], true, _ => by simp [insF]
  | [], false, _ => by simp [insF]
  | l :: r, d, hr => by
    obtain ⟨h1, h2⟩ := List.pairwise_cons.1 hr
    have ih := fun d => insF_rise e r d h2
    rw [insF_cons]
    by_cases hk : l.1 = e.1 ∧ l.2.1 = e.2.1
    · rw [if_pos hk]; exact ih d
    · rw [if_neg hk]
      split
      · rename_i h3
        have hel : ltK e l := by have := h3.2; unfold ltK; omega
        have hlx : ∀ x ∈ insF e true r, ltK l x := fun x hx => by
          rcases insF_mem e r true x hx with h | ⟨h, _⟩
          · exact absurd h.2 (by simp)
          · exact h1 x h
        refine List.pairwise_cons.2 ⟨fun x hx => ?_, List.pairwise_cons.2 ⟨hlx, ih true⟩⟩
        rcases List.mem_cons.1 hx with rfl | hx
        · exact hel
        · exact hel.trans (hlx x hx)
      · rename_i h3
        refine List.pairwise_cons.2 ⟨fun x hx => ?_, ih d⟩
        rcases insF_mem e r d x hx with ⟨rfl, rfl⟩ | ⟨h, _⟩
        · simp only [Bool.not_false, true_and] at h3
          unfold ltK; omega
        · exact h1 x h
theorem insF_apart (e : T3) : ∀ (ls : List T3) (d : Bool), ls.Pairwise apartK → (∀ l ∈ ls, ¬ (l.1 = e.1 ∧ l.2.1 = e.2.1) → apartK l e ∧ apartK e l) → (insF e d ls).Pairwise apartK
  | [], true, _, _ => by simp [insF]
  | [], false, _, _ => by simp [insF]
  | l :: r, d, hr, he => by
    obtain ⟨h1, h2⟩ := List.pairwise_cons.1 hr
    have ih := fun d => insF_apart e r d h2 (fun x hx => he x (List.mem_cons_of_mem _ hx))
    rw [insF_cons]
    by_cases hk : l.1 = e.1 ∧ l.2.1 = e.2.1
    · rw [if_pos hk]; exact ih d
    · rw [if_neg hk]
      have hle := he l List.mem_cons_self hk
      split
      · have hlx : ∀ x ∈ insF e true r, apartK l x := fun x hx => by
          rcases insF_mem e r true x hx with h | ⟨h, _⟩
          · exact absurd h.2 (by simp)
          · exact h1 x h
        refine List.pairwise_cons.2 ⟨fun x hx => ?_, List.pairwise_cons.2 ⟨hlx, ih true⟩⟩
        rcases List.mem_cons.1 hx with rfl | hx
        · exact hle.2
        · rcases insF_mem e r true x hx with h | ⟨h, k⟩
          · exact absurd h.2 (by simp)
          · exact (he x (List.mem_cons_of_mem _ h) k).2
      · refine List.pairwise_cons.2 ⟨fun x hx => ?_, ih d⟩
        rcases insF_mem e r d x hx with ⟨rfl, rfl⟩ | ⟨h, _⟩
        · exact hle.1
        · exact h1 x h
theorem othersFrom_spec (txn id : Int) : ∀ (ls : List T3) (m : Int), m ≤ othersFrom txn id m ls ∧ (∀ l ∈ ls, l.1 = id → l.2.1 ≠ txn → l.2.2 ≤ othersFrom txn id m ls) ∧ (othersFrom txn id m ls = m ∨ ∃ l ∈ ls, l.1 = id ∧ l.2.1 ≠ txn ∧ l.2.2 = othersFrom txn id m ls)
  | [], m => ⟨Int.le_refl _, fun _ h => by simp at h, .inl rfl⟩
  | l :: r, m => by
    unfold othersFrom
    by_cases h : l.1 = id ∧ l.2.1 ≠ txn ∧ m < l.2.2
    · rw [if_pos h]
      obtain ⟨i1, i2, i3⟩ := othersFrom_spec txn id r l.2.2
      refine ⟨by omega, fun x hx h1 h2 => ?_, ?_⟩
      · rcases List.mem_cons.1 hx with rfl | hx
        · exact i1
        · exact i2 x hx h1 h2
      · rcases i3 with i3 | ⟨x, hx, h1, h2, h3⟩
        · exact .inr ⟨l, List.mem_cons_self, h.1, h.2.1, i3.symm⟩
        · exact .inr ⟨x, List.mem_cons_of_mem _ hx, h1, h2, h3⟩
    · rw [if_neg h]
      obtain ⟨i1, i2, i3⟩ := othersFrom_spec txn id r m
      refine ⟨i1, fun x hx h1 h2 => ?_, ?_⟩
      · rcases List.mem_cons.1 hx with rfl | hx
        · by_cases h3 : m < x.2.2
          · exact absurd ⟨h1, h2, h3⟩ h
          · omega
        · exact i2 x hx h1 h2
      · rcases i3 with i3 | ⟨x, hx, h1, h2, h3⟩
        · exact .inl i3
        · exact .inr ⟨x, List.mem_cons_of_mem _ hx, h1, h2, h3⟩
/-- A lock that is given leaves the list without fault. -/
theorem GoodL.ask {ls : List T3} (h : GoodL ls) {txn id mode : Int} (hid : 0 ≤ id ∧ id ≤ 511) (htx : 1 ≤ txn ∧ txn ≤ 2147483647) (hmo : 1 ≤ mode ∧ mode ≤ 2) (hlen : ls.length < 4096)
    (hc : ¬ (othersFrom txn id 0 ls = 2 ∨ ¬ othersFrom txn id 0 ls = 0 ∧ mode = 2)) : GoodL (insF (id, txn, if mode < modeFrom txn id ls then modeFrom txn id ls else mode) false ls) := by
  obtain ⟨o1, o2, o3⟩ := othersFrom_spec txn id ls 0
  have hmf : modeFrom txn id ls = 0 ∨ ∃ l ∈ ls, l.1 = id ∧ l.2.1 = txn ∧ l.2.2 = modeFrom txn id ls := by
    by_cases h0 : modeFrom txn id ls = 0
    · exact .inl h0
    · exact .inr (modeFrom_ex h0)
  have hmb : 0 ≤ modeFrom txn id ls ∧ modeFrom txn id ls ≤ 2 := by
    rcases hmf with h0 | ⟨l, hl, _, _, e⟩
    · omega
    · have := (h.fine l hl).2.2; omega
  have hL := insF_length (id, txn, if mode < modeFrom txn id ls then modeFrom txn id ls else mode) ls false
  refine ⟨by simp at hL; omega, fun l hl => ?_, insF_rise _ _ _ h.rise, insF_apart _ _ _ h.apart (fun l hl hk => ?_)⟩
  · rcases insF_mem _ _ _ l hl with ⟨rfl, _⟩ | ⟨hl, _⟩
    · refine ⟨hid, htx, ?_⟩
      dsimp only
      split <;> omega
    · exact h.fine l hl
  · dsimp only at hk
    have key : l.1 = id → l.2.2 ≠ 2 ∧ (if mode < modeFrom txn id ls then modeFrom txn id ls else mode) ≠ 2 := fun e => by
      have ht : l.2.1 ≠ txn := fun e2 => hk ⟨e, e2⟩
      have h1 := o2 l hl e ht
      have h2 := (h.fine l hl).2.2
      have ho : othersFrom txn id 0 ls ≤ 2 := by
        rcases o3 with o3 | ⟨x, hx, _, _, e3⟩
        · omega
        · have := (h.fine x hx).2.2; omega
      have ho2 : othersFrom txn id 0 ls ≠ 2 := fun e3 => hc (.inl e3)
      refine ⟨by clear hmf o3 o2; omega, ?_⟩
      have hm1 : mode ≠ 2 := fun e3 => hc (.inr ⟨by clear hmf o3 o2; omega, e3⟩)
      have hm2 : modeFrom txn id ls ≠ 2 := fun e3 => by
        rcases hmf with h0 | ⟨y, hy, y1, y2, y3⟩
        · omega
        · have hp : apartK y l ∨ apartK l y := by
            have hne : y ≠ l := fun e4 => ht (by rw [← e4]; exact y2)
            exact pairwise_two h.apart hy hl hne
          rcases hp with hp | hp
          · exact (hp (by rw [y1, e])).1 (by rw [y3, e3])
          · exact (hp (by rw [y1, e])).2 (by rw [y3, e3])
      split <;> assumption
    exact ⟨fun e => key e, fun e => ⟨(key e.symm).2, (key e.symm).1⟩⟩
end Go.Proofs.Ytagcefbnhpkdiab
