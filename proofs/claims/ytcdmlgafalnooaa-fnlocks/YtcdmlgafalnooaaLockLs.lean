/-
  A rising list of locks, id by id.
-/
import Derived.Test.YtcdmlgafalnooaaLockFr
import Derived.Test.YtcdmlgafalnooaaLockSort
import Derived.Test.YtcdmlgafalnooaaLockAskS
namespace Go.Proofs.Ytcdmlgafalnooaa
set_option maxRecDepth 100000
set_option maxHeartbeats 4000000
open Go Go.RowKit Go.MapKept
set_option linter.unusedVariables false
set_option linter.unusedSimpArgs false

def grp (S : List T3) (i : Int) : List T3 := S.filter (fun l => decide (l.1 = i))
theorem grp_split {S : List T3} {i : Int} (hr : S.Pairwise ltK) (hi : ∀ l ∈ S, i ≤ l.1) : grp S i ++ S.filter (fun l => decide (l.1 ≠ i)) = S := by
  induction S with
  | nil => rfl
  | cons l t ih =>
    have hr' := List.pairwise_cons.1 hr
    by_cases h : l.1 = i
    · unfold grp
      rw [List.filter_cons_of_pos (by simpa using h), List.filter_cons_of_neg (by simpa using h), List.cons_append]
      congr 1
      exact ih hr'.2 (fun x hx => hi x (List.mem_cons_of_mem _ hx))
    · have h2 : ∀ x ∈ l :: t, x.1 ≠ i := fun x hx => by
        have h3 := hi l List.mem_cons_self
        rcases List.mem_cons.1 hx with rfl | hx
        · exact h
        · have := hr'.1 x hx
          unfold ltK at this
          omega
      unfold grp
      rw [List.filter_eq_nil_iff.2 (fun x hx => by simpa using h2 x hx), List.filter_eq_self.2 (fun x hx => by simpa using h2 x hx), List.nil_append]
theorem grp_all : ∀ (ids : List Int) (S : List T3), S.Pairwise ltK → ids.Pairwise (· < ·) → (∀ l ∈ S, l.1 ∈ ids) → ids.flatMap (grp S) = S
  | [], S, _, _, h => by
    cases S with
    | nil => rfl
    | cons l t => exact absurd (h l List.mem_cons_self) (by simp)
  | i :: r, S, hr, hp, h => by
    have hp' := List.pairwise_cons.1 hp
    have hi : ∀ l ∈ S, i ≤ l.1 := fun l hl => by
      rcases List.mem_cons.1 (h l hl) with e | e
      · omega
      · have := hp'.1 _ e; omega
    have ih := grp_all r (S.filter (fun l => decide (l.1 ≠ i))) (hr.sublist List.filter_sublist) hp'.2 (fun l hl => by
      obtain ⟨h1, h2⟩ := List.mem_filter.1 hl
      exact (List.mem_cons.1 (h l h1)).resolve_left (by simpa using h2))
    have hg : r.flatMap (grp (S.filter (fun l => decide (l.1 ≠ i)))) = r.flatMap (grp S) := by
      show (r.map _).flatten = (r.map _).flatten
      congr 1
      apply List.map_congr_left
      intro j hj
      have := hp'.1 j hj
      unfold grp
      rw [List.filter_filter]
      apply List.filter_congr
      intro l _
      by_cases hl : l.1 = j
      · simp [hl]; omega
      · simp [hl]
    rw [List.flatMap_cons, ← hg, ih]
    exact grp_split hr hi
theorem sortI_lt {l : List Int} (hn : l.Nodup) : (sortI l).Pairwise (· < ·) := by
  have tr : ∀ a b c : Int, decide (a ≤ b) = true → decide (b ≤ c) = true → decide (a ≤ c) = true := fun a b c h1 h2 => by simp only [decide_eq_true_eq] at *; omega
  have tot : ∀ a b : Int, (decide (a ≤ b) || decide (b ≤ a)) = true := fun a b => by simp only [Bool.or_eq_true, decide_eq_true_eq]; omega
  have h1 := List.pairwise_mergeSort (le := fun x y : Int => decide (x ≤ y)) tr tot l
  have h2 : (sortI l).Nodup := (List.mergeSort_perm l _).nodup_iff.2 hn
  unfold sortI at h2 ⊢
  refine (List.Pairwise.and h1 h2).imp ?_
  rintro a b ⟨h3, h4⟩
  simp only [decide_eq_true_eq] at h3
  omega
theorem sortI_mem {l : List Int} {x : Int} : x ∈ sortI l ↔ x ∈ l := (List.mergeSort_perm l _).mem_iff
theorem lt_eq {a b : List Int} (ha : a.Pairwise (· < ·)) (hb : b.Pairwise (· < ·)) (hp : a.Perm b) : a = b :=
  List.Perm.eq_of_pairwise (le := (· < ·)) (fun x y _ _ h1 h2 => by omega) ha hb hp
/-- the ids of the table, sorted, cut the list into its parts -/
theorem ids_all {w : World} {b0 B ck : Nat} {tt : List TE} {S : List T3} (h : Tab w b0 B tt ck) (hp : (cont tt).Perm S) (hr : S.Pairwise ltK) : (sortI ((tt.map TE.kv).map (·.1))).flatMap (grp S) = S := by
  refine grp_all _ S hr (sortI_lt h.ok.keys) (fun l hl => sortI_mem.2 ?_)
  obtain ⟨e, he, h1, _⟩ := mem_cont.1 (hp.mem_iff.2 hl)
  rw [List.map_map]
  exact List.mem_map.2 ⟨e, he, h1⟩
/-- one id's transactions, sorted, are those of its part -/
theorem txns_all {w : World} {b0 B ck : Nat} {pre post : List TE} {e : TE} {S : List T3} (h : Tab w b0 B (pre ++ e :: post) ck) (hp : (cont (pre ++ e :: post)).Perm S) (hr : S.Pairwise ltK) : sortI ((e.inn.map ikv).map (·.1)) = (grp S e.id).map (·.2.1) := by
  have he : e ∈ pre ++ e :: post := List.mem_append_right _ List.mem_cons_self
  refine lt_eq (sortI_lt (h.iok e he).keys) ?_ ?_
  · rw [List.pairwise_map]
    have h1 : (grp S e.id).Pairwise ltK := hr.sublist List.filter_sublist
    refine h1.imp_of_mem ?_
    intro a b ha hb hab
    have h2 := (List.mem_filter.1 ha).2
    have h3 := (List.mem_filter.1 hb).2
    simp only [decide_eq_true_eq] at h2 h3
    unfold ltK at hab
    omega
  · refine (List.mergeSort_perm _ _).trans ?_
    have h1 : ((cont (pre ++ e :: post)).filter (fun l => decide (l.1 = e.id))).Perm (grp S e.id) := hp.filter _
    have h2 : ((cont (pre ++ e :: post)).filter (fun l => decide (l.1 = e.id))).Perm e.ls := by
      refine ((cont_mid_perm pre post e).filter _).trans ?_
      rw [List.filter_append]
      have h3 : e.ls.filter (fun l => decide (l.1 = e.id)) = e.ls := by
        rw [List.filter_eq_self]
        intro l hl
        obtain ⟨x, _, rfl⟩ := List.mem_map.1 hl
        simp
      have h4 : (cont (pre ++ post)).filter (fun l => decide (l.1 = e.id)) = [] := by
        rw [List.filter_eq_nil_iff]
        intro l hl
        obtain ⟨y, hy, h5, _⟩ := mem_cont.1 hl
        have := h.once y hy
        simp only [decide_eq_true_eq]
        rw [← h5]
        exact this
      rw [h3, h4, List.append_nil]
    have h5 := (h2.symm.trans h1).map (fun l : T3 => l.2.1)
    refine .trans ?_ h5
    unfold TE.ls
    rw [List.map_map, List.map_map]
    exact List.Perm.refl _
theorem look_at {w : World} {b0 B ck : Nat} {pre post : List TE} {e : TE} {S : List T3} (h : Tab w b0 B (pre ++ e :: post) ck) (hp : (cont (pre ++ e :: post)).Perm S) {q : T3} (hq : q ∈ grp S e.id) : q.1 = e.id ∧ ∃ pr s po, e.inn = pr ++ (q.2.1, q.2.2, s) :: po ∧ ∀ y ∈ pr, y.1 ≠ q.2.1 := by
  obtain ⟨h1, h2⟩ := List.mem_filter.1 hq
  simp only [decide_eq_true_eq] at h2
  obtain ⟨y, hy, h3, x, hx, h4, h5⟩ := mem_cont.1 (hp.mem_iff.2 h1)
  have hye : y = e := by
    rcases List.mem_append.1 hy with h6 | h6
    · exact absurd (h3.trans h2) (h.once y (List.mem_append_left _ h6))
    · rcases List.mem_cons.1 h6 with h6 | h6
      · exact h6
      · exact absurd (h3.trans h2) (h.once y (List.mem_append_right _ h6))
  subst hye
  obtain ⟨pr, po, hin⟩ := List.append_of_mem hx
  obtain ⟨t, m, s⟩ := x
  dsimp only at h4 h5
  subst h4 h5
  refine ⟨h2, pr, s, po, hin, fun z hz => ?_⟩
  have hk := h.iok y (List.mem_append_right _ List.mem_cons_self)
  rw [hin] at hk
  exact IE.once hk z (List.mem_append_left _ hz)
end Go.Proofs.Ytcdmlgafalnooaa
