import Derived.Test.YtelijknekfipfaaG04
import Derived.Test.YtelijknekfipfaaG01
import Derived.Test.YtelijknekfipfaaLockAskS
namespace Go.Proofs.Ytelijknekfipfaa
set_option maxRecDepth 100000
set_option maxHeartbeats 4000000
set_option linter.unusedVariables false
set_option linter.unusedSimpArgs false
open Go.RowKit Go Go.MapKept
theorem markLockResult_own (x : StLockResult) (k0 : Int) (w : World) (h0 : 0 ≤ k0) (h1 : k0 + x.size ≤ 1125899906842624) (ha : OwnL w x.rows) :
  Calls Try.prog 24 #[x.val, .int .i64 k0] w fun e w' => e = .returned (.int .i64 (k0 + x.size)) ∧ OwnL w' (x.marked k0).rows ∧ Kept (FootL x.rows) w w' := by
 have hlt := ha.lt
 have HLT := (show Hid (∀ b, FootL x.rows b → b < w.heap.size) from hlt)
 have HA := (show Hid (OwnL w x.rows) from ha)
 clear hlt
 obtain ⟨xcode, ⟨xlocks_e, xlocks_a, xlocks_n, xlocks_c, xlocks_b⟩⟩ := x
 have HO0_0 := (show Hid (OwnL w [⟨xlocks_e, 3, .slice xlocks_a xlocks_n xlocks_c, xlocks_n, vals .i64 xlocks_b⟩]) from ha)
 clear ha
 simp only [StLockResult.size] at h1
 dsimp only [StLockResult.val, BS.v, FR.v]
 go_enter Try.func24, Try.ntmps24
 have HK_0 := (show Hid (Kept (FootL (StLockResult.rows ⟨xcode, ⟨xlocks_e, xlocks_a, xlocks_n, xlocks_c, xlocks_b⟩⟩)) w (w.alloc (.cells #[.int .i64 xcode, .slice xlocks_a xlocks_n xlocks_c] 27))) from (Kept.refl _ _).alloc _)
 have HB_0 := hid (Blk.newL w [.int .i64 xcode, .slice xlocks_a xlocks_n xlocks_c] 27)
 go_wp2_with fail
 refine (markLockS_own ⟨xlocks_e, xlocks_a, xlocks_n, xlocks_c, xlocks_b⟩ (k0) _ (by omega) (by dsimp only; omega) (HO0_0.out.same ((Kept.refl _ _).alloc _))).mono ?_
 rintro e w1 ⟨rfl, ho, hk⟩
 have HB_1 := (show Hid (Blk w1 w.heap.size 27 [.int .i64 xcode, .slice xlocks_a xlocks_n xlocks_c]) from HB_0.out.kept hk (fun e => by have := HLT.out _ (e); omega))
 have HK_1 := (show Hid (Kept (FootL (StLockResult.rows ⟨xcode, ⟨xlocks_e, xlocks_a, xlocks_n, xlocks_c, xlocks_b⟩⟩)) w w1) from HK_0.out.next hk (fun b _ e => e))
 have HO0_1 := (show Hid (OwnL w1 (FR.rows 3 (FR.marked ⟨xlocks_e, xlocks_a, xlocks_n, xlocks_c, xlocks_b⟩ (k0)))) from ho)
 clear ho hk HB_0 HK_0 HO0_0
 go_wp2
 go_ret
 refine ⟨rfl, ?_, HK_1.out⟩
 exact HO0_1.out
theorem heldLockResult_own (x : StLockResult) (k0 : Int) (w : World) (h0 : 0 ≤ k0) (h1 : k0 + x.size ≤ 1125899906842624) (ha : OwnL w (x.marked k0).rows) :
  Calls Try.prog 25 #[x.val, .int .i64 k0] w fun e w' => e = .returned (.int .i64 (k0 + x.size)) ∧ Same w w' := by
 obtain ⟨xcode, ⟨xlocks_e, xlocks_a, xlocks_n, xlocks_c, xlocks_b⟩⟩ := x
 have HO0 := (show Hid (OwnL w (FR.rows 3 (FR.marked ⟨xlocks_e, xlocks_a, xlocks_n, xlocks_c, xlocks_b⟩ (k0)))) from ha)
 clear ha
 simp only [StLockResult.size] at h1
 dsimp only [StLockResult.val, BS.v, FR.v]
 go_enter Try.func25, Try.ntmps25
 obtain ⟨HK0, HB0⟩ := new1 w [.int .i64 xcode, .slice xlocks_a xlocks_n xlocks_c] 27
 have hneg0 : ¬ (k0 + (xlocks_b.length : Int)) < 0 := by omega
 go_wp2_with fail
 refine (heldLockS_own ⟨xlocks_e, xlocks_a, xlocks_n, xlocks_c, xlocks_b⟩ (k0) _ (by omega) (by dsimp only; omega) (HO0.out.same HK0.out)).mono ?_
 rintro e w1 ⟨rfl, hk⟩
 have HK1 := hid (HK0.out.trans hk)
 have HB1 := hid (HB0.out.same hk)
 clear hk
 go_wp2
 go_ret
 exact ⟨rfl, HK1.out⟩
theorem insF_length (e : T3) : ∀ (ls : List T3) (d : Bool), (insF e d ls).length ≤ ls.length + (if d then 0 else 1)
 | [], true => by simp [insF]
 | [], false => by simp [insF]
 | l :: t, d => by
  have h1 := insF_length e t d
  have h2 := insF_length e t true
  have e0 : insF e d (l :: t) = if l.1 = e.1 ∧ l.2.1 = e.2.1 then insF e d t else if !d ∧ (e.1 < l.1 ∨ l.1 = e.1 ∧ e.2.1 < l.2.1) then e :: l :: insF e true t else l :: insF e d t := by cases d <;> rfl
  rw [e0]
  by_cases c1 : l.1 = e.1 ∧ l.2.1 = e.2.1
  ·rw [if_pos c1, List.length_cons]; omega
  ·rw [if_neg c1]
   by_cases c2 : !d ∧ (e.1 < l.1 ∨ l.1 = e.1 ∧ e.2.1 < l.2.1)
   ·rw [if_pos c2]
    cases d with
    | true => exact absurd c2.1 (by simp)
    | false => simp at h2 ⊢; omega
   ·rw [if_neg c2, List.length_cons, List.length_cons]; omega
theorem free_small {y : StLockResult} {bs : List Int} {n : Nat} {txn : Int} (hd : y.dat = freeP (tri bs) txn) (hl : bs.length = n * 3) (hp : n ≤ 1048576) : y.size ≤ 1099511627776 := by
 have h2 : y.locks.bs = (freeP (tri bs) txn).2 := by rw [← hd]; rfl
 have ht := tri_length n bs hl
 unfold StLockResult.size
 rw [h2]
 unfold freeP
 split
 ·have h := List.length_filter_le (fun l : T3 => decide (l.2.1 ≠ txn)) (tri bs)
  rw [flat3_length]
  omega
 ·simp
theorem ask_small {y : StLockResult} {bs : List Int} {n : Nat} {txn id mode : Int} (hd : y.dat = askP (tri bs) txn id mode) (hl : bs.length = n * 3) (hp : n ≤ 1048576) : y.size ≤ 1099511627776 := by
 have h2 : y.locks.bs = (askP (tri bs) txn id mode).2 := by rw [← hd]; rfl
 have ht := tri_length n bs hl
 unfold StLockResult.size
 rw [h2]
 unfold askP
 split
 ·split
  ·simp
  ·split
   ·simp
   ·dsimp only
    have h := insF_length (id, txn, if mode < modeP (tri bs) txn id then modeP (tri bs) txn id else mode) (tri bs) false
    simp at h
    rw [flat3_length]
    omega
 ·simp
def ltK (a b : T3) : Prop := a.1 < b.1 ∨ (a.1 = b.1 ∧ a.2.1 < b.2.1)
def apartK (a b : T3) : Prop := a.1 = b.1 → a.2.2 ≠ 2 ∧ b.2.2 ≠ 2
structure GoodL (ls : List T3) : Prop where
 len : ls.length ≤ 4096
 fine : ∀ l ∈ ls, (0 ≤ l.1 ∧ l.1 ≤ 511) ∧ (1 ≤ l.2.1 ∧ l.2.1 ≤ 2147483647) ∧ (1 ≤ l.2.2 ∧ l.2.2 ≤ 2)
 rise : ls.Pairwise ltK
 apart : ls.Pairwise apartK
theorem lkBad_no (l : T3) : lkBad l = false ↔ (0 ≤ l.1 ∧ l.1 ≤ 511) ∧ (1 ≤ l.2.1 ∧ l.2.1 ≤ 2147483647) ∧ (1 ≤ l.2.2 ∧ l.2.2 ≤ 2) := by
 simp only [lkBad, inB, Bool.or_eq_false_iff, Bool.not_eq_false', Bool.and_eq_true, decide_eq_true_eq]
 constructor
 ·rintro ⟨⟨h1, h2⟩, h3⟩; exact ⟨h1, h2, h3⟩
 ·rintro ⟨h1, h2, h3⟩; exact ⟨⟨h1, h2⟩, h3⟩
theorem lkAfter_no (a b : T3) : lkAfter a b = false ↔ ltK a b := by
 simp only [lkAfter, ltK, Bool.or_eq_false_iff, decide_eq_false_iff_not, Bool.and_eq_false_iff]
 omega
theorem lkClash_no (a b : T3) : lkClash a b = false ↔ apartK a b := by
 simp only [lkClash, apartK, Bool.and_eq_false_iff, decide_eq_false_iff_not, Bool.or_eq_false_iff]
 constructor
 ·rintro (h | h) e
  ·exact absurd e h
  ·exact h
 ·intro h
  by_cases e : a.1 = b.1
  ·exact .inr (h e)
  ·exact .inl e
theorem ltK.trans {a b c : T3} (h : ltK a b) (k : ltK b c) : ltK a c := by unfold ltK at *; omega
theorem rise_of {ls : List T3} (h : nbr lkAfter ls = false) : ls.Pairwise ltK := by
 rw [List.pairwise_iff_getElem]
 intro i j hi hj hij
 obtain ⟨d, rfl⟩ : ∃ d, j = i + 1 + d := ⟨j - (i + 1), by omega⟩
 induction d with
 | zero => exact (lkAfter_no _ _).1 (nbr_at h i hj)
 | succ d ih => exact (ih (by omega) (by omega)).trans ((lkAfter_no _ _).1 (nbr_at h (i + 1 + d) (by omega)))
theorem apart_of {ls : List T3} (hr : ls.Pairwise ltK) (h : nbr lkClash ls = false) : ls.Pairwise apartK := by
 rw [List.pairwise_iff_getElem] at hr ⊢
 intro i j hi hj hij e
 have n1 := (lkClash_no _ _).1 (nbr_at h i (by omega))
 have n2 := (lkClash_no _ _).1 (nbr_at h (j - 1) (by omega))
 have ej : j - 1 + 1 = j := by omega
 have a1 : ls[i].1 = ls[i + 1].1 := by
  by_cases h1 : i + 1 = j
  ·subst h1; exact e
  ·have x1 := hr i (i + 1) hi (by omega) (by omega)
   have x2 := hr (i + 1) j (by omega) hj (by omega)
   unfold ltK at x1 x2; omega
 have a2 : ls[j - 1].1 = ls[j].1 := by
  by_cases h1 : i + 1 = j
  ·subst h1; simpa using e
  ·have x1 := hr i (j - 1) hi (by omega) (by omega)
   have x2 := hr (j - 1) j (by omega) hj (by omega)
   unfold ltK at x1 x2; omega
 simp only [ej] at n2
 exact ⟨(n1 a1).1, (n2 a2).2⟩
theorem goodL_iff (ls : List T3) : locksF ls = 0 ↔ GoodL ls := by
 unfold locksF
 constructor
 ·intro h
  split at h
  ·cases h
  ·split at h
   ·cases h
   ·split at h
    ·cases h
    ·split at h
     ·cases h
     ·rename_i h1 h2 h3 h4
      have hr := rise_of (by simpa using h3)
      exact ⟨by omega, fun l hl => (lkBad_no l).1 (by simpa using fun e => h2 (List.any_eq_true.2 ⟨l, hl, e⟩)), hr, apart_of hr (by simpa using h4)⟩
 ·intro h
  have hr := h.rise
  have ha := h.apart
  rw [List.pairwise_iff_getElem] at hr ha
  rw [if_neg (by have := h.len; omega), if_neg ?_, if_neg ?_, if_neg ?_]
  ·rw [nbr_no (fun k hk => (lkClash_no _ _).2 (ha k (k + 1) (by omega) hk (by omega)))]; exact Bool.false_ne_true
  ·rw [nbr_no (fun k hk => (lkAfter_no _ _).2 (hr k (k + 1) (by omega) hk (by omega)))]; exact Bool.false_ne_true
  ·rw [any3_no (fun k hk => (lkBad_no _).2 (h.fine _ (List.getElem_mem hk)))]; exact Bool.false_ne_true
theorem GoodL.filter {ls : List T3} (h : GoodL ls) (f : T3 → Bool) : GoodL (ls.filter f) :=
 ⟨Nat.le_trans (List.length_filter_le _ _) h.len, fun l hl => h.fine l (List.mem_filter.1 hl).1, h.rise.filter f, h.apart.filter f⟩
theorem goodL_nil : GoodL [] := ⟨by simp, fun _ h => by simp at h, .nil, .nil⟩
theorem insF_cons (e l : T3) (d : Bool) (t : List T3) : insF e d (l :: t) = if l.1 = e.1 ∧ l.2.1 = e.2.1 then insF e d t else if !d ∧ (e.1 < l.1 ∨ l.1 = e.1 ∧ e.2.1 < l.2.1) then e :: l :: insF e true t else l :: insF e d t := by
 cases d <;> rfl
theorem pairwise_two {R : T3 → T3 → Prop} {ls : List T3} (h : ls.Pairwise R) {x y : T3} (hx : x ∈ ls) (hy : y ∈ ls) (hne : x ≠ y) : R x y ∨ R y x := by
 rw [List.pairwise_iff_getElem] at h
 obtain ⟨i, hi, rfl⟩ := List.getElem_of_mem hx
 obtain ⟨j, hj, rfl⟩ := List.getElem_of_mem hy
 rcases Nat.lt_trichotomy i j with k | rfl | k
 ·exact .inl (h i j hi hj k)
 ·exact absurd rfl hne
 ·exact .inr (h j i hj hi k)
theorem modeFrom_ex {txn id : Int} {ls : List T3} (h : modeFrom txn id ls ≠ 0) : ∃ l ∈ ls, l.1 = id ∧ l.2.1 = txn ∧ l.2.2 = modeFrom txn id ls := by
 induction ls with
 | nil => exact absurd rfl h
 | cons l t ih =>
  unfold modeFrom at h ⊢
  by_cases hk : l.1 = id ∧ l.2.1 = txn
  ·rw [if_pos hk]
   exact ⟨l, List.mem_cons_self, hk.1, hk.2, rfl⟩
  ·rw [if_neg hk] at h ⊢
   obtain ⟨x, hx, h1, h2, h3⟩ := ih h
   exact ⟨x, List.mem_cons_of_mem _ hx, h1, h2, h3⟩
theorem modeFrom_mem {ls : List T3} (hr : ls.Pairwise ltK) {l : T3} (hl : l ∈ ls) : modeFrom l.2.1 l.1 ls = l.2.2 := by
 induction ls with
 | nil => simp at hl
 | cons x t ih =>
  obtain ⟨h1, h2⟩ := List.pairwise_cons.1 hr
  unfold modeFrom
  rcases List.mem_cons.1 hl with rfl | hl
  ·rw [if_pos ⟨rfl, rfl⟩]
  ·have hk := h1 l hl
   rw [if_neg (by unfold ltK at hk; omega)]
   exact ih h2 hl
theorem modeFrom_free (t id t0 : Int) (ls : List T3) : modeFrom t id (ls.filter (fun l => decide (l.2.1 ≠ t0))) = if t = t0 then 0 else modeFrom t id ls := by
 induction ls with
 | nil => simp [modeFrom]
 | cons l r ih =>
  by_cases hl : l.2.1 = t0
  ·rw [List.filter_cons_of_neg (by simp [hl]), ih]
   by_cases ht : t = t0
   ·rw [if_pos ht, if_pos ht]
   ·rw [if_neg ht, if_neg ht]
    conv => rhs; unfold modeFrom
    rw [if_neg (fun h => ht (by rw [← h.2, hl]))]
  ·rw [List.filter_cons_of_pos (by simp [hl])]
   conv => lhs; unfold modeFrom
   rw [ih]
   by_cases ht : t = t0
   ·simp only [if_pos ht]
    rw [if_neg (fun h => hl (by rw [h.2, ht]))]
   ·simp only [if_neg ht]
    conv => rhs; unfold modeFrom
theorem modeFrom_ins_ne (e : T3) (t id : Int) (hne : ¬ (e.1 = id ∧ e.2.1 = t)) : ∀ (ls : List T3) (d : Bool), modeFrom t id (insF e d ls) = modeFrom t id ls
 | [], true => rfl
 | [], false => by simp only [insF, modeFrom]; rw [if_neg hne]
 | l :: r, d => by
  have ih := fun d => modeFrom_ins_ne e t id hne r d
  rw [insF_cons]
  by_cases h1 : l.1 = e.1 ∧ l.2.1 = e.2.1
  ·rw [if_pos h1, ih]
   conv => rhs; unfold modeFrom
   rw [if_neg (fun h => hne ⟨by rw [← h1.1]; exact h.1, by rw [← h1.2]; exact h.2⟩)]
  ·rw [if_neg h1]
   split
   ·simp only [modeFrom]
    rw [if_neg hne, ih]
   ·simp only [modeFrom]
    rw [ih]
theorem modeFrom_ins_self (e : T3) : ∀ (ls : List T3), modeFrom e.2.1 e.1 (insF e false ls) = e.2.2
 | [] => by simp [insF, modeFrom]
 | l :: r => by
  have ih := modeFrom_ins_self e r
  rw [insF_cons]
  by_cases h1 : l.1 = e.1 ∧ l.2.1 = e.2.1
  ·rw [if_pos h1]; exact ih
  ·rw [if_neg h1]
   split
   ·simp [modeFrom]
   ·simp only [modeFrom]
    rw [if_neg h1]
    exact ih
theorem insF_mem (e : T3) : ∀ (ls : List T3) (d : Bool) (x : T3), x ∈ insF e d ls → (x = e ∧ d = false) ∨ (x ∈ ls ∧ ¬ (x.1 = e.1 ∧ x.2.1 = e.2.1))
 | [], true, x, h => by simp [insF] at h
 | [], false, x, h => by simp [insF] at h; exact .inl ⟨h, rfl⟩
 | l :: r, d, x, h => by
  have ih := fun d => insF_mem e r d x
  rw [insF_cons] at h
  by_cases h1 : l.1 = e.1 ∧ l.2.1 = e.2.1
  ·rw [if_pos h1] at h
   rcases ih d h with h | ⟨h, k⟩
   ·exact .inl h
   ·exact .inr ⟨List.mem_cons_of_mem _ h, k⟩
  ·rw [if_neg h1] at h
   split at h
   ·rename_i h2
    have hd : d = false := by simpa using h2.1
    rcases List.mem_cons.1 h with h | h
    ·exact .inl ⟨h, hd⟩
    ·rcases List.mem_cons.1 h with rfl | h
     ·exact .inr ⟨List.mem_cons_self, h1⟩
     ·rcases ih true h with h | ⟨h, k⟩
      ·exact absurd h.2 (by simp)
      ·exact .inr ⟨List.mem_cons_of_mem _ h, k⟩
   ·rcases List.mem_cons.1 h with rfl | h
    ·exact .inr ⟨List.mem_cons_self, h1⟩
    ·rcases ih d h with h | ⟨h, k⟩
     ·exact .inl h
     ·exact .inr ⟨List.mem_cons_of_mem _ h, k⟩
theorem insF_rise (e : T3) : ∀ (ls : List T3) (d : Bool), ls.Pairwise ltK → (insF e d ls).Pairwise ltK
 | [], true, _ => by simp [insF]
 | [], false, _ => by simp [insF]
 | l :: r, d, hr => by
  obtain ⟨h1, h2⟩ := List.pairwise_cons.1 hr
  have ih := fun d => insF_rise e r d h2
  rw [insF_cons]
  by_cases hk : l.1 = e.1 ∧ l.2.1 = e.2.1
  ·rw [if_pos hk]; exact ih d
  ·rw [if_neg hk]
   split
   ·rename_i h3
    have hel : ltK e l := by have := h3.2; unfold ltK; omega
    have hlx : ∀ x ∈ insF e true r, ltK l x := fun x hx => by
     rcases insF_mem e r true x hx with h | ⟨h, _⟩
     ·exact absurd h.2 (by simp)
     ·exact h1 x h
    refine List.pairwise_cons.2 ⟨fun x hx => ?_, List.pairwise_cons.2 ⟨hlx, ih true⟩⟩
    rcases List.mem_cons.1 hx with rfl | hx
    ·exact hel
    ·exact hel.trans (hlx x hx)
   ·rename_i h3
    refine List.pairwise_cons.2 ⟨fun x hx => ?_, ih d⟩
    rcases insF_mem e r d x hx with ⟨rfl, rfl⟩ | ⟨h, _⟩
    ·simp only [Bool.not_false, true_and] at h3
     unfold ltK; omega
    ·exact h1 x h
theorem insF_apart (e : T3) : ∀ (ls : List T3) (d : Bool), ls.Pairwise apartK → (∀ l ∈ ls, ¬ (l.1 = e.1 ∧ l.2.1 = e.2.1) → apartK l e ∧ apartK e l) → (insF e d ls).Pairwise apartK
 | [], true, _, _ => by simp [insF]
 | [], false, _, _ => by simp [insF]
 | l :: r, d, hr, he => by
  obtain ⟨h1, h2⟩ := List.pairwise_cons.1 hr
  have ih := fun d => insF_apart e r d h2 (fun x hx => he x (List.mem_cons_of_mem _ hx))
  rw [insF_cons]
  by_cases hk : l.1 = e.1 ∧ l.2.1 = e.2.1
  ·rw [if_pos hk]; exact ih d
  ·rw [if_neg hk]
   have hle := he l List.mem_cons_self hk
   split
   ·have hlx : ∀ x ∈ insF e true r, apartK l x := fun x hx => by
     rcases insF_mem e r true x hx with h | ⟨h, _⟩
     ·exact absurd h.2 (by simp)
     ·exact h1 x h
    refine List.pairwise_cons.2 ⟨fun x hx => ?_, List.pairwise_cons.2 ⟨hlx, ih true⟩⟩
    rcases List.mem_cons.1 hx with rfl | hx
    ·exact hle.2
    ·rcases insF_mem e r true x hx with h | ⟨h, k⟩
     ·exact absurd h.2 (by simp)
     ·exact (he x (List.mem_cons_of_mem _ h) k).2
   ·refine List.pairwise_cons.2 ⟨fun x hx => ?_, ih d⟩
    rcases insF_mem e r d x hx with ⟨rfl, rfl⟩ | ⟨h, _⟩
    ·exact hle.1
    ·exact h1 x h
theorem othersFrom_spec (txn id : Int) : ∀ (ls : List T3) (m : Int), m ≤ othersFrom txn id m ls ∧ (∀ l ∈ ls, l.1 = id → l.2.1 ≠ txn → l.2.2 ≤ othersFrom txn id m ls) ∧ (othersFrom txn id m ls = m ∨ ∃ l ∈ ls, l.1 = id ∧ l.2.1 ≠ txn ∧ l.2.2 = othersFrom txn id m ls)
 | [], m => ⟨Int.le_refl _, fun _ h => by simp at h, .inl rfl⟩
 | l :: r, m => by
  unfold othersFrom
  by_cases h : l.1 = id ∧ l.2.1 ≠ txn ∧ m < l.2.2
  ·rw [if_pos h]
   obtain ⟨i1, i2, i3⟩ := othersFrom_spec txn id r l.2.2
   refine ⟨by omega, fun x hx h1 h2 => ?_, ?_⟩
   ·rcases List.mem_cons.1 hx with rfl | hx
    ·exact i1
    ·exact i2 x hx h1 h2
   ·rcases i3 with i3 | ⟨x, hx, h1, h2, h3⟩
    ·exact .inr ⟨l, List.mem_cons_self, h.1, h.2.1, i3.symm⟩
    ·exact .inr ⟨x, List.mem_cons_of_mem _ hx, h1, h2, h3⟩
  ·rw [if_neg h]
   obtain ⟨i1, i2, i3⟩ := othersFrom_spec txn id r m
   refine ⟨i1, fun x hx h1 h2 => ?_, ?_⟩
   ·rcases List.mem_cons.1 hx with rfl | hx
    ·by_cases h3 : m < x.2.2
     ·exact absurd ⟨h1, h2, h3⟩ h
     ·omega
    ·exact i2 x hx h1 h2
   ·rcases i3 with i3 | ⟨x, hx, h1, h2, h3⟩
    ·exact .inl i3
    ·exact .inr ⟨x, List.mem_cons_of_mem _ hx, h1, h2, h3⟩
theorem GoodL.ask {ls : List T3} (h : GoodL ls) {txn id mode : Int} (hid : 0 ≤ id ∧ id ≤ 511) (htx : 1 ≤ txn ∧ txn ≤ 2147483647) (hmo : 1 ≤ mode ∧ mode ≤ 2) (hlen : ls.length < 4096)
  (hc : ¬ (othersFrom txn id 0 ls = 2 ∨ ¬ othersFrom txn id 0 ls = 0 ∧ mode = 2)) : GoodL (insF (id, txn, if mode < modeFrom txn id ls then modeFrom txn id ls else mode) false ls) := by
 obtain ⟨o1, o2, o3⟩ := othersFrom_spec txn id ls 0
 have hmf : modeFrom txn id ls = 0 ∨ ∃ l ∈ ls, l.1 = id ∧ l.2.1 = txn ∧ l.2.2 = modeFrom txn id ls := by
  by_cases h0 : modeFrom txn id ls = 0
  ·exact .inl h0
  ·exact .inr (modeFrom_ex h0)
 have hmb : 0 ≤ modeFrom txn id ls ∧ modeFrom txn id ls ≤ 2 := by
  rcases hmf with h0 | ⟨l, hl, _, _, e⟩
  ·omega
  ·have := (h.fine l hl).2.2; omega
 have hL := insF_length (id, txn, if mode < modeFrom txn id ls then modeFrom txn id ls else mode) ls false
 refine ⟨by simp at hL; omega, fun l hl => ?_, insF_rise _ _ _ h.rise, insF_apart _ _ _ h.apart (fun l hl hk => ?_)⟩
 ·rcases insF_mem _ _ _ l hl with ⟨rfl, _⟩ | ⟨hl, _⟩
  ·refine ⟨hid, htx, ?_⟩
   dsimp only
   split <;> omega
  ·exact h.fine l hl
 ·dsimp only at hk
  have key : l.1 = id → l.2.2 ≠ 2 ∧ (if mode < modeFrom txn id ls then modeFrom txn id ls else mode) ≠ 2 := fun e => by
   have ht : l.2.1 ≠ txn := fun e2 => hk ⟨e, e2⟩
   have h1 := o2 l hl e ht
   have h2 := (h.fine l hl).2.2
   have ho : othersFrom txn id 0 ls ≤ 2 := by
    rcases o3 with o3 | ⟨x, hx, _, _, e3⟩
    ·omega
    ·have := (h.fine x hx).2.2; omega
   have ho2 : othersFrom txn id 0 ls ≠ 2 := fun e3 => hc (.inl e3)
   refine ⟨by clear hmf o3 o2; omega, ?_⟩
   have hm1 : mode ≠ 2 := fun e3 => hc (.inr ⟨by clear hmf o3 o2; omega, e3⟩)
   have hm2 : modeFrom txn id ls ≠ 2 := fun e3 => by
    rcases hmf with h0 | ⟨y, hy, y1, y2, y3⟩
    ·omega
    ·have hp : apartK y l ∨ apartK l y := by
      have hne : y ≠ l := fun e4 => ht (by rw [← e4]; exact y2)
      exact pairwise_two h.apart hy hl hne
     rcases hp with hp | hp
     ·exact (hp (by rw [y1, e])).1 (by rw [y3, e3])
     ·exact (hp (by rw [y1, e])).2 (by rw [y3, e3])
   split <;> assumption
  exact ⟨fun e => key e, fun e => ⟨(key e.symm).2, (key e.symm).1⟩⟩
abbrev IE := Int × Int × Nat
structure TE where
 id : Int
 blk : Nat
 st : Nat
 inn : List IE
 ck : Nat
def TE.kv (e : TE) : KV := (e.id, .map (some e.blk), e.st)
def ikv (x : IE) : KV := (x.1, .int .i64 x.2.1, x.2.2)
def TE.ls (e : TE) : List T3 := e.inn.map fun x => (e.id, x.1, x.2.1)
def cont : List TE → List T3
 | [] => []
 | e :: r => e.ls ++ cont r
theorem cont_append : ∀ a b : List TE, cont (a ++ b) = cont a ++ cont b
 | [], b => rfl
 | e :: r, b => by simp [cont, cont_append r b]
theorem mem_cont {l : T3} : ∀ {tt : List TE}, l ∈ cont tt ↔ ∃ e ∈ tt, e.id = l.1 ∧ ∃ x ∈ e.inn, x.1 = l.2.1 ∧ x.2.1 = l.2.2
 | [] => by simp [cont]
 | e :: r => by
  rw [cont, List.mem_append, mem_cont (tt := r)]
  constructor
  ·rintro (h | ⟨e', he, h⟩)
   ·obtain ⟨x, hx, rfl⟩ := List.mem_map.1 h
    exact ⟨e, List.mem_cons_self, rfl, x, hx, rfl, rfl⟩
   ·exact ⟨e', List.mem_cons_of_mem _ he, h⟩
  ·rintro ⟨e', he, h1, x, hx, h2, h3⟩
   rcases List.mem_cons.1 he with rfl | he
   ·refine .inl (List.mem_map.2 ⟨x, hx, ?_⟩)
    rw [h1, h2, h3]
   ·exact .inr ⟨e', he, h1, x, hx, h2, h3⟩
def Full (tt : List TE) : Prop := ∀ e ∈ tt, e.inn ≠ []
theorem Full.mid {pre post : List TE} {e e' : TE} (h : Full (pre ++ e :: post)) (he : e'.inn ≠ []) : Full (pre ++ e' :: post) := fun y hy => by
 rcases List.mem_append.1 hy with hy | hy
 ·exact h y (List.mem_append_left _ hy)
 ·rcases List.mem_cons.1 hy with rfl | hy
  ·exact he
  ·exact h y (List.mem_append_right _ (List.mem_cons_of_mem _ hy))
theorem Full.snoc {tt : List TE} {e : TE} (h : Full tt) (he : e.inn ≠ []) : Full (tt ++ [e]) := fun y hy => by
 rcases List.mem_append.1 hy with hy | hy
 ·exact h y hy
 ·rw [List.mem_singleton.1 hy]; exact he
structure Tab (w : World) (b0 B : Nat) (tt : List TE) (ck : Nat) : Prop where
 out : MapB w B (tt.map TE.kv) ck
 ok : KVok (tt.map TE.kv) ck
 inn : ∀ e ∈ tt, MapB w e.blk (e.inn.map ikv) e.ck
 iok : ∀ e ∈ tt, KVok (e.inn.map ikv) e.ck
 low : b0 ≤ B
 lows : ∀ e ∈ tt, b0 ≤ e.blk
 blks : (tt.map TE.blk).Nodup
 ne : ∀ e ∈ tt, e.blk ≠ B
theorem Tab.kept {R : Nat → Prop} {w w' : World} {b0 B ck : Nat} {tt : List TE} (h : Tab w b0 B tt ck) (hk : Kept R w w') (hB : ¬ R B) (hi : ∀ e ∈ tt, ¬ R e.blk) : Tab w' b0 B tt ck :=
 ⟨h.out.kept hk hB, h.ok, fun e he => (h.inn e he).kept hk (hi e he), h.iok, h.low, h.lows, h.blks, h.ne⟩
theorem Tab.same {w w' : World} {b0 B ck : Nat} {tt : List TE} (h : Tab w b0 B tt ck) (hk : Same w w') : Tab w' b0 B tt ck := h.kept hk id (fun _ _ => id)
theorem Tab.new (w : World) : Tab (w.alloc (.map #[] 0)) w.heap.size w.heap.size [] 0 :=
 ⟨MapB.new w, KVok.nil 0, fun _ h => by simp at h, fun _ h => by simp at h, Nat.le_refl _, fun _ h => by simp at h, by simp, fun _ h => by simp at h⟩
theorem te_cases (id : Int) (tt : List TE) : (∀ e ∈ tt, e.id ≠ id) ∨ ∃ pre e post, tt = pre ++ e :: post ∧ e.id = id ∧ ∀ y ∈ pre, y.id ≠ id := by
 induction tt with
 | nil => exact .inl (fun _ h => by simp at h)
 | cons e r ih =>
  by_cases h : e.id = id
  ·exact .inr ⟨[], e, r, rfl, h, fun _ h => by simp at h⟩
  ·rcases ih with ih | ⟨pre, e', post, rfl, he, hp⟩
   ·exact .inl (fun y hy => by rcases List.mem_cons.1 hy with rfl | hy; exact h; exact ih y hy)
   ·exact .inr ⟨e :: pre, e', post, rfl, he, fun y hy => by rcases List.mem_cons.1 hy with rfl | hy; exact h; exact hp y hy⟩
theorem ie_cases (txn : Int) (l : List IE) : (∀ e ∈ l, e.1 ≠ txn) ∨ ∃ pre m s post, l = pre ++ (txn, m, s) :: post ∧ ∀ y ∈ pre, y.1 ≠ txn := by
 induction l with
 | nil => exact .inl (fun _ h => by simp at h)
 | cons e r ih =>
  by_cases h : e.1 = txn
  ·obtain ⟨t, m, s⟩ := e
   dsimp only at h
   subst h
   exact .inr ⟨[], m, s, r, rfl, fun _ h => by simp at h⟩
  ·rcases ih with ih | ⟨pre, m, s, post, rfl, hp⟩
   ·exact .inl (fun y hy => by rcases List.mem_cons.1 hy with rfl | hy; exact h; exact ih y hy)
   ·exact .inr ⟨e :: pre, m, s, post, rfl, fun y hy => by rcases List.mem_cons.1 hy with rfl | hy; exact h; exact hp y hy⟩
theorem Tab.once {w : World} {b0 B ck : Nat} {pre post : List TE} {e : TE} (h : Tab w b0 B (pre ++ e :: post) ck) : ∀ y ∈ pre ++ post, y.id ≠ e.id := by
 have hk := h.ok
 rw [List.map_append, List.map_cons, show e.kv = (e.id, .map (some e.blk), e.st) from rfl] at hk
 intro y hy
 refine hk.others y.kv ?_
 rw [← List.map_append]
 exact List.mem_map_of_mem hy
theorem Tab.twice {w : World} {b0 B ck : Nat} {pre post : List TE} {e : TE} (h : Tab w b0 B (pre ++ e :: post) ck) : ∀ y ∈ pre ++ post, y.blk ≠ e.blk := by
 have hn := h.blks
 rw [List.map_append, List.map_cons] at hn
 obtain ⟨h1, h2, h3⟩ := List.nodup_append.1 hn
 intro y hy
 rcases List.mem_append.1 hy with hy | hy
 ·exact h3 y.blk (List.mem_map_of_mem hy) e.blk List.mem_cons_self
 ·intro e'
  have h4 : y.blk ∈ post.map TE.blk := List.mem_map_of_mem hy
  rw [e'] at h4
  exact (List.nodup_cons.1 h2).1 h4
theorem Tab.inner {w w' : World} {b0 B ck : Nat} {pre post : List TE} {e e' : TE} (h : Tab w b0 B (pre ++ e :: post) ck) (hid : e'.id = e.id) (hb : e'.blk = e.blk) (hs : e'.st = e.st)
  (hm : MapB w' e.blk (e'.inn.map ikv) e'.ck) (hk : KVok (e'.inn.map ikv) e'.ck) (hw : Kept (fun b => b = e.blk) w w') : Tab w' b0 B (pre ++ e' :: post) ck := by
 have hkv : (pre ++ e' :: post).map TE.kv = (pre ++ e :: post).map TE.kv := by
  rw [List.map_append, List.map_append, List.map_cons, List.map_cons, show e'.kv = e.kv by unfold TE.kv; rw [hid, hb, hs]]
 have hin : ∀ y ∈ pre ++ e' :: post, y = e' ∨ y ∈ pre ++ post := fun y hy => by
  rcases List.mem_append.1 hy with hy | hy
  ·exact .inr (List.mem_append_left _ hy)
  ·rcases List.mem_cons.1 hy with hy | hy
   ·exact .inl hy
   ·exact .inr (List.mem_append_right _ hy)
 have hold : ∀ y ∈ pre ++ post, y ∈ pre ++ e :: post := fun y hy => by
  rcases List.mem_append.1 hy with hy | hy
  ·exact List.mem_append_left _ hy
  ·exact List.mem_append_right _ (List.mem_cons_of_mem _ hy)
 have he : e ∈ pre ++ e :: post := List.mem_append_right _ List.mem_cons_self
 refine ⟨?_, ?_, ?_, ?_, h.low, ?_, ?_, ?_⟩
 ·rw [hkv]; exact h.out.kept hw (fun e1 => h.ne e he e1.symm)
 ·rw [hkv]; exact h.ok
 ·intro y hy
  rcases hin y hy with rfl | hy
  ·rw [hb]; exact hm
  ·exact (h.inn y (hold y hy)).kept hw (h.twice y hy)
 ·intro y hy
  rcases hin y hy with rfl | hy
  ·exact hk
  ·exact h.iok y (hold y hy)
 ·intro y hy
  rcases hin y hy with rfl | hy
  ·rw [hb]; exact h.lows e he
  ·exact h.lows y (hold y hy)
 ·have : (pre ++ e' :: post).map TE.blk = (pre ++ e :: post).map TE.blk := by
   rw [List.map_append, List.map_append, List.map_cons, List.map_cons, hb]
  rw [this]; exact h.blks
 ·intro y hy
  rcases hin y hy with rfl | hy
  ·rw [hb]; exact h.ne e he
  ·exact h.ne y (hold y hy)
theorem Tab.snoc {w w' : World} {b0 B ck nb : Nat} {tt : List TE} {id : Int} (h : Tab w b0 B tt ck) (hp : ∀ e ∈ tt, e.id ≠ id) (hnb : MapB w nb [] 0) (hne : nb ≠ B) (hnew : ∀ e ∈ tt, e.blk ≠ nb) (hlow : b0 ≤ nb)
  (hm : MapB w' B ((tt ++ [(⟨id, nb, ck, [], 0⟩ : TE)]).map TE.kv) (ck + 1)) (hw : Kept (fun b => b = B) w w') : Tab w' b0 B (tt ++ [⟨id, nb, ck, [], 0⟩]) (ck + 1) := by
 refine ⟨hm, ?_, ?_, ?_, h.low, ?_, ?_, ?_⟩
 ·rw [List.map_append]
  exact h.ok.snoc (fun y hy => by
   obtain ⟨e, he, rfl⟩ := List.mem_map.1 hy
   exact hp e he)
 ·intro y hy
  rcases List.mem_append.1 hy with hy | hy
  ·exact (h.inn y hy).kept hw (h.ne y hy)
  ·rw [List.mem_singleton.1 hy]
   exact hnb.kept hw hne
 ·intro y hy
  rcases List.mem_append.1 hy with hy | hy
  ·exact h.iok y hy
  ·rw [List.mem_singleton.1 hy]
   exact KVok.nil 0
 ·intro y hy
  rcases List.mem_append.1 hy with hy | hy
  ·exact h.lows y hy
  ·rw [List.mem_singleton.1 hy]; exact hlow
 ·rw [List.map_append]
  refine List.nodup_append.2 ⟨h.blks, by simp, fun a ha b hb => ?_⟩
  obtain ⟨e, he, rfl⟩ := List.mem_map.1 ha
  have : b = nb := by simpa using hb
  rw [this]
  exact hnew e he
 ·intro y hy
  rcases List.mem_append.1 hy with hy | hy
  ·exact h.ne y hy
  ·rw [List.mem_singleton.1 hy]; exact hne
theorem Tab.drop {w w' : World} {b0 B ck : Nat} {pre post : List TE} {e : TE} (h : Tab w b0 B (pre ++ e :: post) ck) (hm : MapB w' B ((pre ++ post).map TE.kv) ck) (hw : Kept (fun b => b = B) w w') : Tab w' b0 B (pre ++ post) ck := by
 have hold : ∀ y ∈ pre ++ post, y ∈ pre ++ e :: post := fun y hy => by
  rcases List.mem_append.1 hy with hy | hy
  ·exact List.mem_append_left _ hy
  ·exact List.mem_append_right _ (List.mem_cons_of_mem _ hy)
 have hk := h.ok
 rw [List.map_append, List.map_cons, show e.kv = (e.id, .map (some e.blk), e.st) from rfl] at hk
 refine ⟨hm, ?_, fun y hy => (h.inn y (hold y hy)).kept hw (h.ne y (hold y hy)), fun y hy => h.iok y (hold y hy), h.low, fun y hy => h.lows y (hold y hy), ?_, fun y hy => h.ne y (hold y hy)⟩
 ·rw [List.map_append]; exact hk.drop
 ·have hs : (pre ++ post).Sublist (pre ++ e :: post) := List.Sublist.append_left (List.sublist_cons_self _ _) _
  exact (hs.map _).nodup h.blks
def keyB (l : T3) (x : T3) : Bool := decide (x.1 = l.1) && decide (x.2.1 = l.2.1)
theorem filter_mid {α : Type} {f : α → Bool} {pre post : List α} {a : α} (hp : ∀ x ∈ pre, f x = true) (hq : ∀ x ∈ post, f x = true) (ha : f a = false) : (pre ++ a :: post).filter f = pre ++ post := by
 rw [List.filter_append, List.filter_cons_of_neg (by rw [ha]; simp), List.filter_eq_self.2 hp, List.filter_eq_self.2 hq]
theorem IE.once {ck : Nat} {pre post : List IE} {t m : Int} {s : Nat} (h : KVok ((pre ++ (t, m, s) :: post).map ikv) ck) : ∀ y ∈ pre ++ post, y.1 ≠ t := by
 rw [List.map_append, List.map_cons, show ikv (t, m, s) = (t, .int .i64 m, s) from rfl] at h
 intro y hy
 refine h.others (ikv y) ?_
 rw [← List.map_append]
 exact List.mem_map_of_mem hy
theorem cont_mid_perm (pre post : List TE) (e : TE) : (cont (pre ++ e :: post)).Perm (e.ls ++ cont (pre ++ post)) := by
 rw [cont_append, cont_append, cont]
 exact (List.perm_append_comm_assoc _ _ _)
theorem cont_other {w : World} {b0 B ck : Nat} {pre post : List TE} {e : TE} (h : Tab w b0 B (pre ++ e :: post) ck) (l : T3) (hl : l.1 = e.id) : (cont (pre ++ post)).filter (fun x => !keyB l x) = cont (pre ++ post) := by
 rw [List.filter_eq_self]
 intro x hx
 obtain ⟨y, hy, h1, _⟩ := mem_cont.1 hx
 have := h.once y hy
 simp only [keyB, Bool.not_eq_true', Bool.and_eq_false_iff, decide_eq_false_iff_not]
 exact .inl (by rw [← h1, hl]; exact this)
theorem put_old {w : World} {b0 B ck : Nat} {pre post : List TE} {e : TE} (h : Tab w b0 B (pre ++ e :: post) ck) {l : T3} (hl : e.id = l.1) {inn' : List IE} {ck' : Nat} (hin : (inn'.map fun x => (e.id, x.1, x.2.1)).Perm (l :: e.ls.filter (fun x => !keyB l x))) :
  (cont (pre ++ { e with inn := inn', ck := ck' } :: post)).Perm (l :: (cont (pre ++ e :: post)).filter (fun x => !keyB l x)) := by
 refine (cont_mid_perm pre post _).trans ?_
 refine .trans ?_ (((cont_mid_perm pre post e).filter _).symm.cons l)
 rw [List.filter_append, cont_other h l hl.symm, ← List.cons_append]
 exact List.Perm.append_right _ hin
theorem put_miss {e : TE} {l : T3} (hl : e.id = l.1) (hp : ∀ x ∈ e.inn, x.1 ≠ l.2.1) (s : Nat) : ((e.inn ++ [(l.2.1, l.2.2, s)]).map fun x => (e.id, x.1, x.2.1)).Perm (l :: e.ls.filter (fun x => !keyB l x)) := by
 have h1 : e.ls.filter (fun x => !keyB l x) = e.ls := by
  rw [List.filter_eq_self]
  intro x hx
  obtain ⟨y, hy, rfl⟩ := List.mem_map.1 hx
  have := hp y hy
  simp only [keyB, Bool.not_eq_true', Bool.and_eq_false_iff, decide_eq_false_iff_not]
  exact .inr this
 rw [h1, List.map_append]
 refine (List.perm_append_comm).trans ?_
 unfold TE.ls
 rw [hl]
 exact List.Perm.refl _
theorem put_hit {e : TE} {l : T3} {ck : Nat} {pre post : List IE} {m : Int} {s : Nat} (hl : e.id = l.1) (he : e.inn = pre ++ (l.2.1, m, s) :: post) (hk : KVok (e.inn.map ikv) ck) : ((pre ++ (l.2.1, l.2.2, s) :: post).map fun x => (e.id, x.1, x.2.1)).Perm (l :: e.ls.filter (fun x => !keyB l x)) := by
 rw [he] at hk
 have ho := IE.once hk
 have h1 : e.ls.filter (fun x => !keyB l x) = (pre ++ post).map fun x => (e.id, x.1, x.2.1) := by
  unfold TE.ls
  rw [he, List.map_append, List.map_cons, List.map_append]
  refine filter_mid ?_ ?_ ?_
  ·intro x hx
   obtain ⟨y, hy, rfl⟩ := List.mem_map.1 hx
   simp only [keyB, Bool.not_eq_true', Bool.and_eq_false_iff, decide_eq_false_iff_not]
   exact .inr (ho y (List.mem_append_left _ hy))
  ·intro x hx
   obtain ⟨y, hy, rfl⟩ := List.mem_map.1 hx
   simp only [keyB, Bool.not_eq_true', Bool.and_eq_false_iff, decide_eq_false_iff_not]
   exact .inr (ho y (List.mem_append_right _ hy))
  ·simp [keyB, hl]
 rw [h1, List.map_append, List.map_cons, List.map_append, hl]
 exact List.perm_middle
theorem put_new {tt : List TE} {l : T3} (hp : ∀ e ∈ tt, e.id ≠ l.1) (nb s c : Nat) (i : Nat) : (cont (tt ++ [⟨l.1, nb, s, [(l.2.1, l.2.2, i)], c⟩])).Perm (l :: (cont tt).filter (fun x => !keyB l x)) := by
 have h1 : (cont tt).filter (fun x => !keyB l x) = cont tt := by
  rw [List.filter_eq_self]
  intro x hx
  obtain ⟨y, hy, h1, _⟩ := mem_cont.1 hx
  simp only [keyB, Bool.not_eq_true', Bool.and_eq_false_iff, decide_eq_false_iff_not]
  exact .inl (by rw [← h1]; exact hp y hy)
 rw [h1, cont_append]
 refine (List.perm_append_comm).trans ?_
 exact List.Perm.refl _
theorem modeFrom_none {txn id : Int} {ls : List T3} (h : ∀ l ∈ ls, ¬ (l.1 = id ∧ l.2.1 = txn)) : modeFrom txn id ls = 0 := by
 induction ls with
 | nil => rfl
 | cons l r ih =>
  rw [modeFrom, if_neg (h l List.mem_cons_self)]
  exact ih (fun x hx => h x (List.mem_cons_of_mem _ hx))
theorem mode_hit {w : World} {b0 B ck : Nat} {tt : List TE} {ls : List T3} (h : Tab w b0 B tt ck) (hp : (cont tt).Perm ls) (hr : ls.Pairwise ltK) {e : TE} (he : e ∈ tt) {x : IE} (hx : x ∈ e.inn) : modeFrom x.1 e.id ls = x.2.1 := by
 have : ((e.id, x.1, x.2.1) : T3) ∈ ls := hp.mem_iff.1 (mem_cont.2 ⟨e, he, rfl, x, hx, rfl, rfl⟩)
 exact modeFrom_mem hr this
theorem mode_miss_id {tt : List TE} {ls : List T3} (hp : (cont tt).Perm ls) {txn id : Int} (hm : ∀ e ∈ tt, e.id ≠ id) : modeFrom txn id ls = 0 := by
 refine modeFrom_none (fun l hl ⟨h1, h2⟩ => ?_)
 obtain ⟨e, he, h3, _⟩ := mem_cont.1 (hp.mem_iff.2 hl)
 exact hm e he (h3.trans h1)
theorem mode_miss_txn {w : World} {b0 B ck : Nat} {pre post : List TE} {e : TE} {ls : List T3} (h : Tab w b0 B (pre ++ e :: post) ck) (hp : (cont (pre ++ e :: post)).Perm ls) {txn : Int} (hm : ∀ x ∈ e.inn, x.1 ≠ txn) : modeFrom txn e.id ls = 0 := by
 refine modeFrom_none (fun l hl ⟨h1, h2⟩ => ?_)
 obtain ⟨y, hy, h3, x, hx, h4, _⟩ := mem_cont.1 (hp.mem_iff.2 hl)
 have : y = e := by
  rcases List.mem_append.1 hy with h5 | h5
  ·exact absurd (h3.trans h1) (h.once y (List.mem_append_left _ h5))
  ·rcases List.mem_cons.1 h5 with h5 | h5
   ·exact h5
   ·exact absurd (h3.trans h1) (h.once y (List.mem_append_right _ h5))
 subst this
 exact hm x hx (h4.trans h2)
theorem insF_perm (e : T3) : ∀ ls : List T3, (insF e false ls).Perm (e :: ls.filter (fun x => !keyB e x)) ∧ insF e true ls = ls.filter (fun x => !keyB e x)
 | [] => ⟨List.Perm.refl _, rfl⟩
 | l :: t => by
  obtain ⟨h1, h2⟩ := insF_perm e t
  rw [insF_cons, insF_cons]
  by_cases hk : l.1 = e.1 ∧ l.2.1 = e.2.1
  ·have hf : (l :: t).filter (fun x => !keyB e x) = t.filter (fun x => !keyB e x) := List.filter_cons_of_neg (by simp [keyB, hk])
   rw [if_pos hk, if_pos hk, hf]
   exact ⟨h1, h2⟩
  ·have hkb : keyB e l = false := by
    simp only [keyB, Bool.and_eq_false_iff, decide_eq_false_iff_not]
    by_cases h : l.1 = e.1
    ·exact .inr (fun h' => hk ⟨h, h'⟩)
    ·exact .inl h
   have hf : (l :: t).filter (fun x => !keyB e x) = l :: t.filter (fun x => !keyB e x) := List.filter_cons_of_pos (by simp [hkb])
   rw [if_neg hk, if_neg hk, hf]
   constructor
   ·split
    ·rw [h2]
    ·exact (h1.cons l).trans (List.Perm.swap _ _ _)
   ·rw [if_neg (by simp), h2]
end Go.Proofs.Ytelijknekfipfaa
