import Derived.Test.YtljfcdkhicffcaaGreatG16
import Derived.MapKept
import Derived.Maps.RangeRun
import Derived.Carry
namespace Go.Proofs.YtljfcdkhicffcaaGreat
set_option linter.unusedVariables false
set_option linter.unusedSimpArgs false
set_option maxRecDepth 100000
set_option maxHeartbeats 4000000
open Go.RowKit Go Go.MapKept
theorem WZ (e : T3) : ∀ (ls : List T3) (d : Bool), (Vk e d ls).length ≤ ls.length + (if d then 0 else 1)
 | [], true => by simp [Vk]
 | [], false => by simp [Vk]
 | l :: t, d => by
  have h1 := WZ e t d;have h2 := WZ e t true
  have e0 : Vk e d (l :: t) = if l.1 = e.1 ∧ l.2.1 = e.2.1 then Vk e d t else if !d ∧ (e.1 < l.1 ∨ l.1 = e.1 ∧ e.2.1 < l.2.1) then e :: l :: Vk e true t else l :: Vk e d t := by cases d <;> rfl
  rw [e0]
  by_cases c1 : l.1 = e.1 ∧ l.2.1 = e.2.1
  ·rw [if_pos c1, List.length_cons]; omega
  ·rw [if_neg c1]
   by_cases c2 : !d ∧ (e.1 < l.1 ∨ l.1 = e.1 ∧ e.2.1 < l.2.1)
   ·rw [if_pos c2]
    cases d with
    | true => exact absurd c2.1 (by simp)
    | false => simp at h2 ⊢; omega
   ·rw [if_neg c2, List.length_cons, List.length_cons]; omega
def ltK (a b : T3) : Prop := a.1 < b.1 ∨ (a.1 = b.1 ∧ a.2.1 < b.2.1)
def WG (a b : T3) : Prop := a.1 = b.1 → a.2.2 ≠ 2 ∧ b.2.2 ≠ 2
structure GoodL (ls : List T3) : Prop where
 len : ls.length ≤ 4096
 fine : ∀ l ∈ ls, (0 ≤ l.1 ∧ l.1 ≤ 511) ∧ (1 ≤ l.2.1 ∧ l.2.1 ≤ 2147483647) ∧ (1 ≤ l.2.2 ∧ l.2.2 ≤ 2)
 rise : ls.Pairwise ltK
 apart : ls.Pairwise WG
theorem jaz (l : T3) : VW l = false ↔ (0 ≤ l.1 ∧ l.1 ≤ 511) ∧ (1 ≤ l.2.1 ∧ l.2.1 ≤ 2147483647) ∧ (1 ≤ l.2.2 ∧ l.2.2 ≤ 2) := by
 simp only [VW, inB, Bool.or_eq_false_iff, Bool.not_eq_false', Bool.and_eq_true, decide_eq_true_eq];constructor
 ·rintro ⟨⟨h1, h2⟩, h3⟩; exact ⟨h1, h2, h3⟩
 ·rintro ⟨h1, h2, h3⟩; exact ⟨⟨h1, h2⟩, h3⟩
theorem YO (a b : T3) : Wo a b = false ↔ ltK a b := by
 simp only [Wo, ltK, Bool.or_eq_false_iff, decide_eq_false_iff_not, Bool.and_eq_false_iff];omega
theorem YP (a b : T3) : Wp a b = false ↔ WG a b := by
 simp only [Wp, WG, Bool.and_eq_false_iff, decide_eq_false_iff_not, Bool.or_eq_false_iff];constructor
 ·rintro (h | h) e
  ·exact absurd e h
  ·exact h
 ·intro h
  by_cases e : a.1 = b.1
  ·exact .inr (h e)
  ·exact .inl e
theorem ltK.trans {a b c : T3} (h : ltK a b) (k : ltK b c) : ltK a c := by unfold ltK at *; omega
theorem jgL {ls : List T3} (h : nbr Wo ls = false) : ls.Pairwise ltK := by
 rw [List.pairwise_iff_getElem];intro i j hi hj Gk;obtain ⟨d, rfl⟩ : ∃ d, j = i + 1 + d := ⟨j - (i + 1), by omega⟩
 induction d with
 | zero => exact (YO _ _).1 (jbQ h i hj)
 | succ d ih => exact (ih (by omega) (by omega)).trans ((YO _ _).1 (jbQ h (i + 1 + d) (by omega)))
theorem jf8 {ls : List T3} (hr : ls.Pairwise ltK) (h : nbr Wp ls = false) : ls.Pairwise WG := by
 rw [List.pairwise_iff_getElem] at hr ⊢;intro i j hi hj Gk e;have n1 := (YP _ _).1 (jbQ h i (by omega));have n2 := (YP _ _).1 (jbQ h (j - 1) (by omega))
 have ej : j - 1 + 1 = j := by omega
 have a1 : ls[i].1 = ls[i + 1].1 := by
  by_cases h1 : i + 1 = j
  ·subst h1; exact e
  ·have x1 := hr i (i + 1) hi (by omega) (by omega)
   have x2 := hr (i + 1) j (by omega) hj (by omega);unfold ltK at x1 x2; omega
 have a2 : ls[j - 1].1 = ls[j].1 := by
  by_cases h1 : i + 1 = j
  ·subst h1; simpa using e
  ·have x1 := hr i (j - 1) hi (by omega) (by omega)
   have x2 := hr (j - 1) j (by omega) hj (by omega);unfold ltK at x1 x2; omega
 simp only [ej] at n2;exact ⟨(n1 a1).1, (n2 a2).2⟩
theorem Wz (ls : List T3) : Ve ls = 0 ↔ GoodL ls := by
 unfold Ve;constructor
 ·intro h
  split at h
  ·cases h
  ·split at h
   ·cases h
   ·split at h
    ·cases h
    ·split at h
     ·cases h
     ·rename_i h1 h2 h3 h4
      have hr := jgL (by simpa using h3);exact ⟨by omega, fun l hl => (jaz l).1 (by simpa using fun e => h2 (List.any_eq_true.2 ⟨l, hl, e⟩)), hr, jf8 hr (by simpa using h4)⟩
 ·intro h
  have hr := h.rise;have ha := h.apart;rw [List.pairwise_iff_getElem] at hr ha;rw [if_neg (by have := h.len; omega), if_neg ?_, if_neg ?_, if_neg ?_]
  ·rw [jbP (fun k hk => (YP _ _).2 (ha k (k + 1) (by omega) hk (by omega)))]; exact Bool.false_ne_true
  ·rw [jbP (fun k hk => (YO _ _).2 (hr k (k + 1) (by omega) hk (by omega)))]; exact Bool.false_ne_true
  ·rw [jeC (fun k hk => (jaz _).2 (h.fine _ (List.getElem_mem hk)))]; exact Bool.false_ne_true
theorem GoodL.filter {ls : List T3} (h : GoodL ls) (f : T3 → Bool) : GoodL (ls.filter f) :=
 ⟨Nat.le_trans (List.length_filter_le _ _) h.len, fun l hl => h.fine l (List.mem_filter.1 hl).1, h.rise.filter f, h.apart.filter f⟩
theorem jbp : GoodL [] := ⟨by simp, fun _ h => by simp at h, .nil, .nil⟩
theorem Xo (e l : T3) (d : Bool) (t : List T3) : Vk e d (l :: t) = if l.1 = e.1 ∧ l.2.1 = e.2.1 then Vk e d t else if !d ∧ (e.1 < l.1 ∨ l.1 = e.1 ∧ e.2.1 < l.2.1) then e :: l :: Vk e true t else l :: Vk e d t := by
 cases d <;> rfl
theorem jbX {R : T3 → T3 → Prop} {ls : List T3} (h : ls.Pairwise R) {x y : T3} (hx : x ∈ ls) (hy : y ∈ ls) (bl : x ≠ y) : R x y ∨ R y x := by
 rw [List.pairwise_iff_getElem] at h;obtain ⟨i, hi, rfl⟩ := List.getElem_of_mem hx;obtain ⟨j, hj, rfl⟩ := List.getElem_of_mem hy
 rcases Nat.lt_trichotomy i j with k | rfl | k
 ·exact .inl (h i j hi hj k)
 ·exact absurd rfl bl
 ·exact .inr (h j i hj hi k)
theorem jcF {txn id : Int} {ls : List T3} (h : Uf txn id ls ≠ 0) : ∃ l ∈ ls, l.1 = id ∧ l.2.1 = txn ∧ l.2.2 = Uf txn id ls := by
 induction ls with
 | nil => exact absurd rfl h
 | cons l t ih =>
  unfold Uf at h ⊢
  by_cases hk : l.1 = id ∧ l.2.1 = txn
  ·rw [if_pos hk]
   exact ⟨l, List.mem_cons_self, hk.1, hk.2, rfl⟩
  ·rw [if_neg hk] at h ⊢
   obtain ⟨x, hx, h1, h2, h3⟩ := ih h;exact ⟨x, List.mem_cons_of_mem _ hx, h1, h2, h3⟩
theorem jbY {ls : List T3} (hr : ls.Pairwise ltK) {l : T3} (hl : l ∈ ls) : Uf l.2.1 l.1 ls = l.2.2 := by
 induction ls with
 | nil => simp at hl
 | cons x t ih =>
  obtain ⟨h1, h2⟩ := List.pairwise_cons.1 hr;unfold Uf
  rcases List.mem_cons.1 hl with rfl | hl
  ·rw [if_pos ⟨rfl, rfl⟩]
  ·have hk := h1 l hl
   rw [if_neg (by unfold ltK at hk; omega)];exact ih h2 hl
theorem WH (e : T3) : ∀ (ls : List T3) (d : Bool) (x : T3), x ∈ Vk e d ls → (x = e ∧ d = false) ∨ (x ∈ ls ∧ ¬ (x.1 = e.1 ∧ x.2.1 = e.2.1))
 | [], true, x, h => by simp [Vk] at h
 | [], false, x, h => by simp [Vk] at h; exact .inl ⟨h, rfl⟩
 | l :: r, d, x, h => by
  have ih := fun d => WH e r d x;rw [Xo] at h
  by_cases h1 : l.1 = e.1 ∧ l.2.1 = e.2.1
  ·rw [if_pos h1] at h
   rcases ih d h with h | ⟨h, k⟩
   ·exact .inl h
   ·exact .inr ⟨List.mem_cons_of_mem _ h, k⟩
  ·rw [if_neg h1] at h
   split at h
   ·rename_i h2
    have hd : d = false := by simpa using h2.1
    rcases List.mem_cons.1 h with h | h
    ·exact .inl ⟨h, hd⟩
    ·rcases List.mem_cons.1 h with rfl | h
     ·exact .inr ⟨List.mem_cons_self, h1⟩
     ·rcases ih true h with h | ⟨h, k⟩
      ·exact absurd h.2 (by simp)
      ·exact .inr ⟨List.mem_cons_of_mem _ h, k⟩
   ·rcases List.mem_cons.1 h with rfl | h
    ·exact .inr ⟨List.mem_cons_self, h1⟩
    ·rcases ih d h with h | ⟨h, k⟩
     ·exact .inl h
     ·exact .inr ⟨List.mem_cons_of_mem _ h, k⟩
theorem jbq (e : T3) : ∀ (ls : List T3) (d : Bool), ls.Pairwise ltK → (Vk e d ls).Pairwise ltK
 | [], true, _ => by simp [Vk]
 | [], false, _ => by simp [Vk]
 | l :: r, d, hr => by
  obtain ⟨h1, h2⟩ := List.pairwise_cons.1 hr;have ih := fun d => jbq e r d h2;rw [Xo]
  by_cases hk : l.1 = e.1 ∧ l.2.1 = e.2.1
  ·rw [if_pos hk]; exact ih d
  ·rw [if_neg hk]
   split
   ·rename_i h3
    have LV : ltK e l := by have := h3.2; unfold ltK; omega
    have Ga : ∀ x ∈ Vk e true r, ltK l x := fun x hx => by
     rcases WH e r true x hx with h | ⟨h, _⟩
     ·exact absurd h.2 (by simp)
     ·exact h1 x h
    refine List.pairwise_cons.2 ⟨fun x hx => ?_, List.pairwise_cons.2 ⟨Ga, ih true⟩⟩
    rcases List.mem_cons.1 hx with rfl | hx
    ·exact LV
    ·exact LV.trans (Ga x hx)
   ·rename_i h3
    refine List.pairwise_cons.2 ⟨fun x hx => ?_, ih d⟩
    rcases WH e r d x hx with ⟨rfl, rfl⟩ | ⟨h, _⟩
    ·simp only [Bool.not_false, true_and] at h3
     unfold ltK; omega
    ·exact h1 x h
theorem jaA (e : T3) : ∀ (ls : List T3) (d : Bool), ls.Pairwise WG → (∀ l ∈ ls, ¬ (l.1 = e.1 ∧ l.2.1 = e.2.1) → WG l e ∧ WG e l) → (Vk e d ls).Pairwise WG
 | [], true, _, _ => by simp [Vk]
 | [], false, _, _ => by simp [Vk]
 | l :: r, d, hr, he => by
  obtain ⟨h1, h2⟩ := List.pairwise_cons.1 hr;have ih := fun d => jaA e r d h2 (fun x hx => he x (List.mem_cons_of_mem _ hx));rw [Xo]
  by_cases hk : l.1 = e.1 ∧ l.2.1 = e.2.1
  ·rw [if_pos hk]; exact ih d
  ·rw [if_neg hk]
   have dW := he l List.mem_cons_self hk
   split
   ·have Ga : ∀ x ∈ Vk e true r, WG l x := fun x hx => by
     rcases WH e r true x hx with h | ⟨h, _⟩
     ·exact absurd h.2 (by simp)
     ·exact h1 x h
    refine List.pairwise_cons.2 ⟨fun x hx => ?_, List.pairwise_cons.2 ⟨Ga, ih true⟩⟩
    rcases List.mem_cons.1 hx with rfl | hx
    ·exact dW.2
    ·rcases WH e r true x hx with h | ⟨h, k⟩
     ·exact absurd h.2 (by simp)
     ·exact (he x (List.mem_cons_of_mem _ h) k).2
   ·refine List.pairwise_cons.2 ⟨fun x hx => ?_, ih d⟩
    rcases WH e r d x hx with ⟨rfl, rfl⟩ | ⟨h, _⟩
    ·exact dW.1
    ·exact h1 x h
theorem U1 (txn id : Int) : ∀ (ls : List T3) (m : Int), m ≤ T9 txn id m ls ∧ (∀ l ∈ ls, l.1 = id → l.2.1 ≠ txn → l.2.2 ≤ T9 txn id m ls) ∧ (T9 txn id m ls = m ∨ ∃ l ∈ ls, l.1 = id ∧ l.2.1 ≠ txn ∧ l.2.2 = T9 txn id m ls)
 | [], m => ⟨Int.le_refl _, fun _ h => by simp at h, .inl rfl⟩
 | l :: r, m => by
  unfold T9
  by_cases h : l.1 = id ∧ l.2.1 ≠ txn ∧ m < l.2.2
  ·rw [if_pos h]
   obtain ⟨i1, i2, i3⟩ := U1 txn id r l.2.2;refine ⟨by omega, fun x hx h1 h2 => ?_, ?_⟩
   ·rcases List.mem_cons.1 hx with rfl | hx
    ·exact i1
    ·exact i2 x hx h1 h2
   ·rcases i3 with i3 | ⟨x, hx, h1, h2, h3⟩
    ·exact .inr ⟨l, List.mem_cons_self, h.1, h.2.1, i3.symm⟩
    ·exact .inr ⟨x, List.mem_cons_of_mem _ hx, h1, h2, h3⟩
  ·rw [if_neg h]
   obtain ⟨i1, i2, i3⟩ := U1 txn id r m;refine ⟨i1, fun x hx h1 h2 => ?_, ?_⟩
   ·rcases List.mem_cons.1 hx with rfl | hx
    ·by_cases h3 : m < x.2.2
     ·exact absurd ⟨h1, h2, h3⟩ h
     ·omega
    ·exact i2 x hx h1 h2
   ·rcases i3 with i3 | ⟨x, hx, h1, h2, h3⟩
    ·exact .inl i3
    ·exact .inr ⟨x, List.mem_cons_of_mem _ hx, h1, h2, h3⟩
theorem GoodL.ask {ls : List T3} (h : GoodL ls) {txn id aw : Int} (hid : 0 ≤ id ∧ id ≤ 511) (eI : 1 ≤ txn ∧ txn ≤ 2147483647) (iZ : 1 ≤ aw ∧ aw ≤ 2) (az : ls.length < 4096)
  (hc : ¬ (T9 txn id 0 ls = 2 ∨ ¬ T9 txn id 0 ls = 0 ∧ aw = 2)) : GoodL (Vk (id, txn, if aw < Uf txn id ls then Uf txn id ls else aw) false ls) := by
 obtain ⟨o1, o2, o3⟩ := U1 txn id ls 0
 have kt : Uf txn id ls = 0 ∨ ∃ l ∈ ls, l.1 = id ∧ l.2.1 = txn ∧ l.2.2 = Uf txn id ls := by
  by_cases h0 : Uf txn id ls = 0
  ·exact .inl h0
  ·exact .inr (jcF h0)
 have GA : 0 ≤ Uf txn id ls ∧ Uf txn id ls ≤ 2 := by
  rcases kt with h0 | ⟨l, hl, _, _, e⟩
  ·omega
  ·have := (h.fine l hl).2.2; omega
 have hL := WZ (id, txn, if aw < Uf txn id ls then Uf txn id ls else aw) ls false;refine ⟨by simp at hL; omega, fun l hl => ?_, jbq _ _ _ h.rise, jaA _ _ _ h.apart (fun l hl hk => ?_)⟩
 ·rcases WH _ _ _ l hl with ⟨rfl, _⟩ | ⟨hl, _⟩
  ·refine ⟨hid, eI, ?_⟩
   dsimp only
   split <;> omega
  ·exact h.fine l hl
 ·dsimp only at hk
  have key : l.1 = id → l.2.2 ≠ 2 ∧ (if aw < Uf txn id ls then Uf txn id ls else aw) ≠ 2 := fun e => by
   have ht : l.2.1 ≠ txn := fun e2 => hk ⟨e, e2⟩;have h1 := o2 l hl e ht;have h2 := (h.fine l hl).2.2
   have ho : T9 txn id 0 ls ≤ 2 := by
    rcases o3 with o3 | ⟨x, hx, _, _, e3⟩
    ·omega
    ·have := (h.fine x hx).2.2; omega
   have j7 : T9 txn id 0 ls ≠ 2 := fun e3 => hc (.inl e3);refine ⟨by clear kt o3 o2; omega, ?_⟩
   have d9 : aw ≠ 2 := fun e3 => hc (.inr ⟨by clear kt o3 o2; omega, e3⟩)
   have jB : Uf txn id ls ≠ 2 := fun e3 => by
    rcases kt with h0 | ⟨y, hy, y1, y2, y3⟩
    ·omega
    ·have hp : WG y l ∨ WG l y := by
      have bl : y ≠ l := fun e4 => ht (by rw [← e4]; exact y2)
      exact jbX h.apart hy hl bl
     rcases hp with hp | hp
     ·exact (hp (by rw [y1, e])).1 (by rw [y3, e3])
     ·exact (hp (by rw [y1, e])).2 (by rw [y3, e3])
   split <;> assumption
  exact ⟨fun e => key e, fun e => ⟨(key e.symm).2, (key e.symm).1⟩⟩
structure WsOk (aA : Int) (n : Nat) (ws : List WrD) : Prop where
 ok : OkW ws
 len : ws.length ≤ n
 ids : ∀ x ∈ ws, 0 ≤ x.1 ∧ x.1 < aA * 32
theorem WsOk.nil (aA : Int) (n : Nat) : WsOk aA n [] := ⟨fun _ h => by simp at h, Nat.zero_le _, fun _ h => by simp at h⟩
theorem WsOk.more {aA : Int} {n m : Nat} {ws : List WrD} (h : WsOk aA n ws) (hm : n ≤ m) : WsOk aA m ws := ⟨h.ok, Nat.le_trans h.len hm, h.ids⟩
theorem WsOk.snoc {aA : Int} {n : Nat} {ws : List WrD} (h : WsOk aA n ws) {x : WrD} (hx : OkB x.2.2) (hi : 0 ≤ x.1 ∧ x.1 < aA * 32) : WsOk aA (n + 1) (ws ++ [x]) := by
 refine ⟨fun y hy => ?_, by rw [List.length_append]; have := h.len; simp; omega, fun y hy => ?_⟩
 ·rcases List.mem_append.1 hy with hy | hy
  ·exact h.ok y hy
  ·rw [List.mem_singleton.1 hy]; exact hx
 ·rcases List.mem_append.1 hy with hy | hy
  ·exact h.ids y hy
  ·rw [List.mem_singleton.1 hy]; exact hi
structure OkS (aA : Int) (n : Nat) (st : PlS) : Prop where
 lk : GoodL st.locks
 ln : st.locks.length ≤ n
 rt : (st.txns.map (·.1)).Pairwise (· < ·)
 told : ∀ t ∈ st.txns, 1 ≤ t.1 ∧ t.1 ≤ st.told
 mx : 0 ≤ st.told ∧ st.told ≤ 2147483647
 n8 : st.txns.length ≤ 8
 rise : (st.recs.map (·.1)).Pairwise (· < ·)
 ids : ∀ r ∈ st.recs, 0 ≤ r.1 ∧ r.1 < aA * 32
 okr : OkR st.recs
 okw : ∀ t ∈ st.txns, WsOk aA n t.2
 okc : WsOk aA n st.cut
 down : st.up = false → st.txns = [] ∧ st.locks = [] ∧ st.told = 0
 ucut : st.up = true → st.cut = []
theorem V3 : ∀ (l : List Int) (a b : Int), l.Pairwise (· < ·) → (∀ x ∈ l, a ≤ x ∧ x < b) → (l.length : Int) ≤ max 0 (b - a)
 | [], a, b, _, _ => by simp; omega
 | x :: l, a, b, h, hb => by
  have h1 := List.pairwise_cons.1 h;have hx := hb x List.mem_cons_self;have ih := V3 l (x + 1) b h1.2 (fun y hy => ⟨by have := h1.1 y hy; omega, (hb y (List.mem_cons_of_mem _ hy)).2⟩);rw [List.length_cons]
  push_cast
  omega
theorem OkS.few {aA : Int} {n : Nat} {st : PlS} (h : OkS aA n st) (hp : 0 ≤ aA ∧ aA ≤ 16) : st.recs.length ≤ 512 := by
 have h1 := V3 (st.recs.map (·.1)) 0 (aA * 32) h.rise (fun x hx => by
  obtain ⟨r, hr, rfl⟩ := List.mem_map.1 hx
  exact h.ids r hr)
 rw [List.length_map] at h1;omega
theorem OkS.once {aA : Int} {n : Nat} {st : PlS} (h : OkS aA n st) : jhb st.txns := fun i j hi hj e => by
 have hp := List.pairwise_iff_getElem.1 h.rt
 rcases Nat.lt_trichotomy i j with h1 | h1 | h1
 ·have := hp i j (by simpa using hi) (by simpa using hj) h1
  simp only [List.getElem_map] at this;omega
 ·exact h1
 ·have := hp j i (by simpa using hj) (by simpa using hi) h1
  simp only [List.getElem_map] at this;omega
theorem OkS.more {aA : Int} {n m : Nat} {st : PlS} (h : OkS aA n st) (hm : n ≤ m) : OkS aA m st :=
 ⟨h.lk, Nat.le_trans h.ln hm, h.rt, h.told, h.mx, h.n8, h.rise, h.ids, h.okr, fun t ht => (h.okw t ht).more hm, h.okc.more hm, h.down, h.ucut⟩
theorem OkS.start {aA : Int} {recs : List RcD} (h1 : (recs.map (·.1)).Pairwise (· < ·)) (h2 : ∀ r ∈ recs, 0 ≤ r.1 ∧ r.1 < aA * 32) (h3 : OkR recs) : OkS aA 0 (U0 recs) :=
 ⟨jbp, Nat.le_refl _, by simp [U0], fun t ht => by simp [U0] at ht, ⟨Int.le_refl _, by simp [U0]⟩, by simp [U0], h1, h2, h3, fun t ht => by simp [U0] at ht, WsOk.nil _ _, fun _ => ⟨rfl, rfl, rfl⟩, fun h => by simp [U0] at h⟩
theorem Xp {txns : List (Int × List WrD)} {t : Int} {ws : List WrD} (h : Uw txns t = some ws) : ∃ x ∈ txns, x.1 = t ∧ x.2 = ws := by
 unfold Uw at h
 cases hf : txns.find? (fun x => decide (x.1 = t)) with
 | none => rw [hf] at h; cases h
 | some x =>
  rw [hf] at h;have h1 := List.find?_some hf;exact ⟨x, List.mem_of_find?_eq_some hf, by simpa using h1, by simpa using h⟩
theorem jdM (txns : List (Int × List WrD)) (t : Int) (w : WrD) : (jap txns t w).map (·.1) = txns.map (·.1) := by
 unfold jap;rw [List.map_map];apply List.map_congr_left;intro x _;dsimp only [Function.comp]
 split <;> rfl
theorem jbr {txns : List (Int × List WrD)} {t : Int} {w : WrD} {x : Int × List WrD} (h : x ∈ jap txns t w) : ∃ y ∈ txns, y.1 = x.1 ∧ (x.2 = y.2 ∨ x.2 = y.2 ++ [w]) := by
 unfold jap at h;obtain ⟨y, hy, rfl⟩ := List.mem_map.1 h;refine ⟨y, hy, ?_⟩
 split
 ·exact ⟨rfl, .inr rfl⟩
 ·exact ⟨rfl, .inl rfl⟩
theorem Xq {id : Int} {d : List Int} : ∀ {rs : List RcD} {done : Bool} {r : RcD}, r ∈ Vj id d done rs → (r = (id, d) ∧ done = false) ∨ (r ∈ rs ∧ r.1 ≠ id)
 | [], done, r, h => by
  cases done
  ·exact .inl ⟨by simpa [Vj] using h, rfl⟩
  ·simp [Vj] at h
 | x :: xs, done, r, h => by
  rw [VZ] at h
  rcases List.mem_append.1 h with h | h
  ·rcases List.mem_append.1 h with h | h
   ·split at h
    ·next hc =>
     simp only [Bool.and_eq_true, Bool.not_eq_true'] at hc;exact .inl ⟨List.mem_singleton.1 h, hc.1⟩
    ·simp at h
   ·split at h
    ·next hc =>
     rw [List.mem_singleton.1 h];exact .inr ⟨List.mem_cons_self, by simpa using hc⟩
    ·simp at h
  ·rcases Xq h with ⟨h1, h2⟩ | ⟨h1, h2⟩
   ·simp only [Bool.or_eq_false_iff] at h2
    exact .inl ⟨h1, h2.1⟩
   ·exact .inr ⟨List.mem_cons_of_mem _ h1, h2⟩
theorem jbs {id : Int} {d : List Int} : ∀ {rs : List RcD} {done : Bool}, (rs.map (·.1)).Pairwise (· < ·) → ((Vj id d done rs).map (·.1)).Pairwise (· < ·)
 | [], done, _ => by cases done <;> simp [Vj]
 | x :: xs, done, h => by
  rw [List.map_cons] at h;have h1 := List.pairwise_cons.1 h;have ih := fun dn => jbs (id := id) (d := d) (rs := xs) (done := dn) h1.2;have hx : ∀ y ∈ xs, x.1 < y.1 := fun y hy => h1.1 y.1 (List.mem_map_of_mem hy);rw [VZ]
  by_cases hl : id < x.1
  ·cases done
   ·have e : (if !false && decide (id < x.1) then [(id, d)] else []) ++ (if decide (x.1 ≠ id) then [x] else []) ++ Vj id d (false || decide (id < x.1)) xs = (id, d) :: x :: Vj id d true xs := by
     have : x.1 ≠ id := by omega
     simp [hl, this]
    rw [e, List.map_cons, List.map_cons];refine List.pairwise_cons.2 ⟨fun z hz => ?_, List.pairwise_cons.2 ⟨fun z hz => ?_, ih true⟩⟩
    ·rcases List.mem_cons.1 hz with rfl | hz
     ·exact hl
     ·obtain ⟨y, hy, rfl⟩ := List.mem_map.1 hz
      rcases Xq hy with ⟨_, h2⟩ | ⟨h2, _⟩
      ·cases h2
      ·have := hx y h2; dsimp only; omega
    ·obtain ⟨y, hy, rfl⟩ := List.mem_map.1 hz
     rcases Xq hy with ⟨_, h2⟩ | ⟨h2, _⟩
     ·cases h2
     ·exact hx y h2
   ·have e : (if !true && decide (id < x.1) then [(id, d)] else []) ++ (if decide (x.1 ≠ id) then [x] else []) ++ Vj id d (true || decide (id < x.1)) xs = x :: Vj id d true xs := by
     have : x.1 ≠ id := by omega
     simp [this]
    rw [e, List.map_cons];refine List.pairwise_cons.2 ⟨fun z hz => ?_, ih true⟩;obtain ⟨y, hy, rfl⟩ := List.mem_map.1 hz
    rcases Xq hy with ⟨_, h2⟩ | ⟨h2, _⟩
    ·cases h2
    ·exact hx y h2
  ·have e : (if !done && decide (id < x.1) then [(id, d)] else []) ++ (if decide (x.1 ≠ id) then [x] else []) ++ Vj id d (done || decide (id < x.1)) xs = (if decide (x.1 ≠ id) then [x] else []) ++ Vj id d done xs := by
    simp [hl]
   rw [e]
   by_cases he : x.1 = id
   ·simp [he]
    exact ih done
   ·have : (if decide (x.1 ≠ id) then [x] else []) = [x] := by simp [he]
    rw [this, List.singleton_append, List.map_cons];refine List.pairwise_cons.2 ⟨fun z hz => ?_, ih done⟩;obtain ⟨y, hy, rfl⟩ := List.mem_map.1 hz
    rcases Xq hy with ⟨h1, _⟩ | ⟨h2, _⟩
    ·rw [h1]; dsimp only; omega
    ·exact hx y h2
theorem XG : ∀ (ws : List WrD) {rs : List RcD}, (rs.map (·.1)).Pairwise (· < ·) → ((Uq rs ws).map (·.1)).Pairwise (· < ·)
 | [], rs, h => h
 | w :: ws, rs, h => XG ws (rs := ja2 rs w) (jbs h)
theorem Yj {lo hi : Int} : ∀ (ws : List WrD) {rs : List RcD}, (∀ r ∈ rs, lo ≤ r.1 ∧ r.1 < hi) → (∀ x ∈ ws, lo ≤ x.1 ∧ x.1 < hi) → ∀ r ∈ Uq rs ws, lo ≤ r.1 ∧ r.1 < hi
 | [], rs, h, _ => h
 | w :: ws, rs, h, hw => Yj ws (rs := ja2 rs w) (fun r hr => by
   rcases Xq hr with ⟨h1, _⟩ | ⟨h1, _⟩
   ·rw [h1]; exact hw w List.mem_cons_self
   ·exact h r h1) (fun x hx => hw x (List.mem_cons_of_mem _ hx))
theorem jf9 {ls : List T3} (h : GoodL ls) (hl : ls.length < 4096) {txn id aw : Int} (h0 : (VI ls txn id aw).1 = 0) : GoodL (Vb ls txn id aw) ∧ (Vb ls txn id aw).length ≤ ls.length + 1 := by
 have hF : Ve ls = 0 := (Wz _).2 h;unfold Vb;unfold VI at h0 ⊢
 split at h0
 ·next hc =>
  rw [if_pos hc]
  have hm : XP ls txn id = Uf txn id ls := by unfold XP; rw [if_pos hF]
  have ho : U5 ls txn id = T9 txn id 0 ls := by unfold U5; rw [if_pos hF]
  have hn : ¬ (XP ls txn id = 0 ∧ ls.length = 4096) := fun h => by omega
  rw [if_neg hn] at h0 ⊢
  split at h0
  ·cases h0
  ·next cR =>
   rw [if_neg cR, Xk];obtain ⟨_, i1, i2, i3⟩ := hc;rw [hm];rw [ho] at cR
   have b1 : 0 ≤ id ∧ id ≤ 511 := by simpa [inB] using i1
   have b2 : 1 ≤ txn ∧ txn ≤ 2147483647 := by simpa [inB] using i2
   have b3 : 1 ≤ aw ∧ aw ≤ 2 := by simpa [inB] using i3
   refine ⟨h.ask b1 b2 b3 hl cR, ?_⟩;have := WZ (id, txn, if aw < Uf txn id ls then Uf txn id ls else aw) ls false
   simpa using this
 ·cases h0
theorem jcG {ls : List T3} (h : GoodL ls) (hl : ls.length < 4096) {txn id aw : Int} (hi : 0 ≤ id ∧ id ≤ 511) (ht : 1 ≤ txn ∧ txn ≤ 2147483647) (hm : 1 ≤ aw ∧ aw ≤ 2) (h0 : U5 ls txn id = 0) : (VI ls txn id aw).1 = 0 := by
 have hF : Ve ls = 0 := (Wz _).2 h;unfold VI;rw [if_pos ⟨hF, by simp [inB]; omega, by simp [inB]; omega, by simp [inB]; omega⟩, if_neg (fun h => by omega), if_neg (by rw [h0]; rintro (h | ⟨h, _⟩) <;> omega)]
theorem OkS.note {aA : Int} {n : Nat} {st : PlS} (h : OkS aA n st) (hn : n < 4096) {ws : List WrD} {txn id : Int} (hw : Uw st.txns txn = some ws) (h0 : (VI st.locks txn id 2).1 = 0) (hid : 0 ≤ id ∧ id < aA * 32) {r : Bool × List Int} (hr : OkB r.2) : OkS aA (n + 1) (UL st txn id r) := by
 have hk := jf9 h.lk (by have := h.ln; omega) h0;have e : (UL st txn id r).txns.map (·.1) = st.txns.map (·.1) := jdM _ _ _;refine ⟨hk.1, by have := h.ln; have := hk.2; show (Vb st.locks txn id 2).length ≤ n + 1; omega, by rw [e]; exact h.rt, fun t ht => ?_, h.mx, ?_, h.rise, h.ids, h.okr, fun t ht => ?_, h.okc.more (by omega), fun hu => ?_, h.ucut⟩
 ·obtain ⟨y, hy, e1, _⟩ := jbr ht
  rw [← e1];exact h.told y hy
 ·have h1 := congrArg List.length e
  rw [List.length_map, List.length_map] at h1;rw [h1];exact h.n8
 ·obtain ⟨y, hy, _, e2 | e2⟩ := jbr ht
  ·rw [e2]; exact (h.okw y hy).more (by omega)
  ·rw [e2]; exact (h.okw y hy).snoc hr hid
 ·obtain ⟨x, hx, _⟩ := Xp hw
  have := (h.down hu).1;rw [this] at hx;simp at hx
theorem OkS.lock {aA : Int} {n : Nat} {st : PlS} (h : OkS aA n st) (hn : n < 4096) (hu : st.up = true) {txn id aw : Int} (h0 : (VI st.locks txn id aw).1 = 0) : OkS aA (n + 1) { st with locks := Vb st.locks txn id aw } := by
 have hk := jf9 h.lk (by have := h.ln; omega) h0;exact ⟨hk.1, by have := h.ln; have := hk.2; show (Vb st.locks txn id aw).length ≤ n + 1; omega, h.rt, h.told, h.mx, h.n8, h.rise, h.ids, h.okr, fun t ht => (h.okw t ht).more (by omega), h.okc.more (by omega), fun hd => (by rw [hu] at hd; cases hd), h.ucut⟩
theorem OkS.off {aA : Int} {n : Nat} {st : PlS} (h : OkS aA n st) {c : List WrD} (hc : WsOk aA n c) : OkS aA n (Vo { st with cut := c }) :=
 ⟨jbp, Nat.zero_le _, by simp [Vo], fun t ht => by simp [Vo] at ht, ⟨Int.le_refl _, by simp [Vo]⟩, by simp [Vo], h.rise, h.ids, h.okr, fun t ht => by simp [Vo] at ht, hc, fun _ => ⟨rfl, rfl, rfl⟩, fun hu => by cases hu⟩
theorem OkS.ended {aA : Int} {n : Nat} {st : PlS} (h : OkS aA n st) (hu : st.up = true) {s : StD} {ws : List WrD} (hw : WsOk aA n ws) : OkS aA n (Zr st s ws) := by
 have hF : Ve st.locks = 0 := (Wz _).2 h.lk;have si : (jfP st.txns s.2.1).Sublist st.txns := List.filter_sublist
 have e : tri (Xl st.locks s.2.1).2 = st.locks.filter (fun l => decide (l.2.1 ≠ s.2.1)) := by unfold Xl; rw [if_pos hF, Xk]
 refine ⟨?_, ?_, List.Pairwise.sublist (si.map _) h.rt, fun t ht => h.told t (si.subset ht), h.mx, Nat.le_trans si.length_le h.n8, ?_, ?_, ?_, fun t ht => h.okw t (si.subset ht), h.okc, fun hd => ?_, h.ucut⟩
 ·show GoodL (tri (Xl st.locks s.2.1).2)
  rw [e];exact h.lk.filter _
 ·show (tri (Xl st.locks s.2.1).2).length ≤ n
  rw [e];exact Nat.le_trans (List.length_filter_le _ _) h.ln
 ·show ((if s.1 = 6 then Uq st.recs ws else st.recs).map (·.1)).Pairwise (· < ·)
  split
  ·exact XG _ h.rise
  ·exact h.rise
 ·show ∀ r ∈ (if s.1 = 6 then Uq st.recs ws else st.recs), 0 ≤ r.1 ∧ r.1 < aA * 32
  split
  ·exact Yj _ h.ids hw.ids
  ·exact h.ids
 ·show OkR (if s.1 = 6 then Uq st.recs ws else st.recs)
  split
  ·exact X9 _ _ hw.ok h.okr
  ·exact h.okr
 ·have h1 : st.up = false := hd
  rw [hu] at h1
  cases h1
theorem OkS.step {aA : Int} {n : Nat} {st cJ : PlS} {s : StD} {a : AnD} (h : OkS aA n st) (hp : 0 ≤ aA ∧ aA ≤ 16) (hn : n < 4096) (hs : OkB s.2.2.2.2.1) (ha : OkR a.2.2.2.2.1) (he : VD aA st s a = some cJ) : OkS aA (n + 1) cJ := by
 have hm : OkS aA (n + 1) st := h.more (by omega);unfold VD at he
 split at he
 ·rw [← (Ui he).2]; exact hm.off hm.okc
 split at he
 ·rw [← (Ui he).2]; exact hm
 split at he
 ·-- a restart
  unfold UH at he
  split at he
  ·rw [← (Ui he).2]; exact hm
  split at he
  ·rw [← (Ui he).2]; exact hm
  ·next hu _ =>
   have h1 := Ui he;rw [← h1.2];have h2 := h1.1;simp only [Bool.and_eq_true, Bool.or_eq_true, decide_eq_true_eq] at h2;have hd := h.down (by simpa using hu)
   have hr : (a.2.2.2.2.1.map (·.1)).Pairwise (· < ·) ∧ ∀ r ∈ a.2.2.2.2.1, 0 ≤ r.1 ∧ r.1 < aA * 32 := by
    rcases h2.2 with e | e
    ·rw [e]; exact ⟨h.rise, h.ids⟩
    ·rw [e]; exact ⟨XG _ h.rise, Yj _ h.ids h.okc.ids⟩
   exact ⟨hm.lk, hm.ln, hm.rt, hm.told, hm.mx, hm.n8, hr.1, hr.2, ha, hm.okw, WsOk.nil _ _, fun hu => (by cases hu), fun _ => rfl⟩
 split at he
 ·rw [← (Ui he).2]; exact hm
 next cL =>
 have cL : st.up = true := by simpa using cL
 split at he
 ·cases he
  refine hm.off ?_
  split
  ·cases hl : Uw st.txns s.2.1 with
   | none => exact hm.okc
   | some ws =>
    obtain ⟨x, hx, _, e⟩ := Xp hl
    show WsOk aA (n + 1) ws
    rw [← e];exact hm.okw x hx
  ·exact hm.okc
 unfold X5 at he
 split at he
 ·-- a begin
  unfold VX at he
  split at he
  ·rw [← (Ui he).2]; exact hm
  ·next h8 =>
   have h1 := Ui he;rw [← h1.2];have h2 := h1.1;simp only [Bool.and_eq_true, decide_eq_true_eq] at h2;obtain ⟨⟨_, h3⟩, h4⟩ := h2
   have Gg : ∀ t ∈ st.txns, t.1 < a.2.1 := fun t ht => by have := (h.told t ht).2; omega
   refine ⟨hm.lk, hm.ln, ?_, fun t ht => ?_, ⟨by show 0 ≤ a.2.1; omega, h4.2⟩, ?_, hm.rise, hm.ids, hm.okr, fun t ht => ?_, hm.okc, fun hd => ?_, hm.ucut⟩
   ·show ((st.txns ++ [(a.2.1, ([] : List WrD))]).map (fun x => x.1)).Pairwise (· < ·)
    rw [List.map_append, List.map_cons, List.map_nil];refine List.pairwise_append.2 ⟨h.rt, List.pairwise_singleton _ _, fun x hx y hy => ?_⟩;rw [List.mem_singleton.1 hy];obtain ⟨t, ht, rfl⟩ := List.mem_map.1 hx;exact Gg t ht
   ·rcases List.mem_append.1 ht with ht | ht
    ·have := h.told t ht
     show 1 ≤ t.1 ∧ t.1 ≤ a.2.1
     omega
    ·rw [List.mem_singleton.1 ht]
     exact ⟨h4.1, Int.le_refl _⟩
   ·show (st.txns ++ [(a.2.1, [])]).length ≤ 8
    rw [List.length_append, List.length_singleton];have := h.n8;omega
   ·rcases List.mem_append.1 ht with ht | ht
    ·exact hm.okw t ht
    ·rw [List.mem_singleton.1 ht]
     exact WsOk.nil _ _
   ·have h1 : st.up = false := hd
    rw [cL] at h1
    cases h1
 split at he
 ·rw [← (Ui he).2]; exact hm
 split at he
 ·rw [← (Ui he).2]; exact hm
 next ws hl =>
 obtain ⟨x, hx, mX, eK⟩ := Xp hl
 have eI : 1 ≤ s.2.1 ∧ s.2.1 ≤ 2147483647 := by have := h.told x hx; have := h.mx; omega
 split at he
 ·rw [← (Ui he).2]; exact hm
 split at he
 ·split at he
  ·cases he; exact hm
  ·have h1 := Ui he
   rw [← h1.2];have h2 := h1.1;simp only [Bool.and_eq_true, Bool.not_eq_true', Vm, Bool.or_eq_false_iff, decide_eq_false_iff_not] at h2;obtain ⟨_, ⟨⟨⟨h3, h4⟩, h5⟩, _⟩, _⟩ := h2
   have Em : U5 st.locks s.2.1 a.2.2.1 = 0 := by omega
   exact h.note hn hl (jcG h.lk (by have := h.ln; omega) (by omega) eI (by decide) Em) (by omega) hs
 split at he
 ·-- a record
  unfold Vw at he;have rB : ∃ m : Int, (if s.1 = 5 then (1 : Int) else 2) = m ∧ (s.1 = 5 → m = 1) ∧ (¬ s.1 = 5 → m = 2) := ⟨_, rfl, fun h => if_pos h, fun h => if_neg h⟩;obtain ⟨m, rB, d9, jB⟩ := rB;rw [rB] at he
  split at he
  ·rw [← (Ui he).2]; exact hm
  next hid =>
  split at he
  ·rw [← (Ui he).2]; exact hm
  next ez =>
  have ez : (VI st.locks s.2.1 s.2.2.1 m).1 = 0 := by omega
  split at he
  ·rw [← (Ui he).2]; exact h.lock hn cL ez
  split at he
  ·next h5 =>
   rw [d9 h5] at ez;rw [← (Ui he).2]; exact h.lock hn cL ez
  next h5 =>
  rw [jB h5] at ez
  split at he
  ·cases he; exact hm
  ·rw [← (Ui he).2]; exact h.note hn hl ez (by omega) hs
 ·rw [← (Ui he).2]; exact hm.ended cL (by rw [← eK]; exact hm.okw x hx)
abbrev KV := Int × Value × Nat
def Wu (e : KV) : MapEntry := ⟨V e.1, e.2.1, e.2.2⟩
def UA (kv : List KV) : List MapEntry := kv.map Wu
def MapB (w : World) (B : Nat) (kv : List KV) (ck : Nat) : Prop := w.heap[B]? = some (.map (UA kv).toArray ck)
def setM (w : World) (B : Nat) (kv : List KV) (ck : Nat) : World := { w with heap := w.heap.setIfInBounds B (.map (UA kv).toArray ck) }
theorem MapB.lt {w : World} {B : Nat} {kv : List KV} {ck : Nat} (h : MapB w B kv ck) : B < w.heap.size := (Array.getElem?_eq_some_iff.1 h).1
theorem MapB.kept {R : Nat → Prop} {w w' : World} {B : Nat} {kv : List KV} {ck : Nat} (h : MapB w B kv ck) (hk : Kept R w w') (hr : ¬ R B) : MapB w' B kv ck := hk.heap h hr
theorem MapB.same {w w' : World} {B : Nat} {kv : List KV} {ck : Nat} (h : MapB w B kv ck) (hk : Same w w') : MapB w' B kv ck := h.kept hk id
theorem MapB.new (w : World) : MapB (w.alloc (.map #[] 0)) w.heap.size [] 0 := by
 unfold MapB UA World.alloc;simp
theorem MapB.set {w : World} {B : Nat} {kv NQ : List KV} {ck ck' : Nat} (h : MapB w B kv ck) : MapB (setM w B NQ ck') B NQ ck' := (heap_set h).1
theorem Kept.setM {w : World} {B : Nat} (kv : List KV) (ck : Nat) : Kept (fun b => b = B) w (setM w B kv ck) :=
 ⟨rfl, rfl, rfl, by simp [Go.Proofs.YtljfcdkhicffcaaGreat.setM], fun k hk hr => by
  show (w.heap.setIfInBounds B _)[k]? = _
  rw [Array.getElem?_setIfInBounds_ne (fun e => hr e.symm)]⟩
theorem Xr (x : Int) : ∀ (kv : List KV) (i : Nat), (∀ e ∈ kv, e.1 ≠ x) → Instr.findNow (.int .i64) (V x) (UA kv) i = some none
 | [], i, _ => rfl
 | e :: r, i, h => by
  have h1 : (x == e.1) = false := by simp; exact fun e' => h e List.mem_cons_self e'.symm
  show Instr.findNow (.int .i64) (V x) (Wu e :: UA r) i = _
  unfold Instr.findNow;simp only [Wu, Instr.sameNow, if_true, h1];exact Xr x r (i + 1) (fun e he => h e (List.mem_cons_of_mem _ he))
theorem Ze (x : Int) (v : Value) (b : Nat) (post : List KV) : ∀ (pre : List KV) (i : Nat), (∀ e ∈ pre, e.1 ≠ x) → Instr.findNow (.int .i64) (V x) (UA (pre ++ (x, v, b) :: post)) i = some (some (i + pre.length, v))
 | [], i, _ => by
  show Instr.findNow (.int .i64) (V x) (Wu (x, v, b) :: UA post) i = _
  unfold Instr.findNow;simp [Wu, Instr.sameNow]
 | e :: r, i, h => by
  have h1 : (x == e.1) = false := by simp; exact fun e' => h e List.mem_cons_self e'.symm
  show Instr.findNow (.int .i64) (V x) (Wu e :: UA (r ++ (x, v, b) :: post)) i = _
  unfold Instr.findNow;simp only [Wu, Instr.sameNow, if_true, h1];rw [Ze x v b post r (i + 1) (fun e he => h e (List.mem_cons_of_mem _ he))];simp only [List.length_cons]
  congr 3
  omega
theorem jdN {α : Type} (pre post : List α) (a : α) (f : α → α) : (pre ++ a :: post).modify pre.length f = pre ++ f a :: post := by
 induction pre with
 | nil => rfl
 | cons p r ih => simp [ih]
theorem je6 {α : Type} (pre post : List α) (a : α) : (pre ++ a :: post).eraseIdx pre.length = pre ++ post := by
 induction pre with
 | nil => rfl
 | cons p r ih => simp [ih]
section
variable {P : Program} {w : World} {B ck : Nat} {T K E : TypeId} {kv pre post : List KV} {x : Int} {v : Value} {b : Nat}
theorem run_get (hb : MapB w B kv ck) : (getObj B).run P w = .ok (.map (UA kv).toArray ck) w := by
 have h : w.heap[B]? = some (.map (UA kv).toArray ck) := hb;simp [getObj, Sem.run, h]
theorem run_set (o : Obj) (hb : MapB w B kv ck) : (setObj B o).run P w = .ok () { w with heap := w.heap.setIfInBounds B o } := by
 have h : w.heap[B]? = some (.map (UA kv).toArray ck) := hb;simp [setObj, Sem.run, h]
theorem WI {a : Option (Nat × Value)} (hk : P.underlying K = some (.int .i64)) (h : Instr.findNow (.int .i64) (V x) (UA kv) 0 = some a) : (Instr.findKey K (V x) (UA kv)).run P w = .ok a w := run_findKey hk h
theorem YQ (hk : P.underlying K = some (.int .i64)) (em : Bool) : (Instr.checkKey em 10000 K (V x)).run P w = .ok () w := run_checkKey hk (show IsKey (.int .i64) (V x) from rfl) em 9999
theorem UI (ht : P.underlying T = some (.map K E)) (hk : P.underlying K = some (.int .i64)) (hb : MapB w B (pre ++ (x, v, b) :: post) ck) (hp : ∀ e ∈ pre, e.1 ≠ x) (ok : Bool) :
  (Instr.lookup T (.map (some B)) (V x) ok).run P w = .ok (if ok = true then .tuple #[v, .bool true] else v) w := by
 unfold Instr.lookup;simp only [Sem.run_bind, run_underlying ht, Result.andThen, run_get hb, Sem.run_pure, YQ hk, WI hk (Ze x v b post pre 0 hp)]
theorem U2 {z : Value} (ht : P.underlying T = some (.map K E)) (hk : P.underlying K = some (.int .i64)) (hb : MapB w B kv ck) (hp : ∀ e ∈ kv, e.1 ≠ x) (hz : (zeroValue E).run P w = .ok z w) (ok : Bool) :
  (Instr.lookup T (.map (some B)) (V x) ok).run P w = .ok (if ok = true then .tuple #[z, .bool false] else z) w := by
 unfold Instr.lookup;simp only [Sem.run_bind, run_underlying ht, Result.andThen, run_get hb, Sem.run_pure, YQ hk, WI hk (Xr x kv 0 hp), hz]
theorem Vf (ht : P.underlying T = some (.map K E)) (hk : P.underlying K = some (.int .i64)) (hb : MapB w B kv ck) (hp : ∀ e ∈ kv, e.1 ≠ x) :
  (Instr.mapUpdate T (.map (some B)) (V x) v).run P w = .ok () (setM w B (kv ++ [(x, v, ck)]) (ck + 1)) := by
 unfold Instr.mapUpdate;simp only [Sem.run_bind, run_underlying ht, Result.andThen, run_get hb, Sem.run_pure, YQ hk, WI hk (Xr x kv 0 hp), run_set _ hb];unfold setM UA;simp [Wu]
theorem WJ {u : Value} (ht : P.underlying T = some (.map K E)) (hk : P.underlying K = some (.int .i64)) (hb : MapB w B (pre ++ (x, v, b) :: post) ck) (hp : ∀ e ∈ pre, e.1 ≠ x) :
  (Instr.mapUpdate T (.map (some B)) (V x) u).run P w = .ok () (setM w B (pre ++ (x, u, b) :: post) ck) := by
 have az : (UA pre).length = pre.length := by simp [UA]
 have Ho : (UA (pre ++ (x, v, b) :: post))[pre.length]? = some (Wu (x, v, b)) := by simp [UA]
 unfold Instr.mapUpdate;simp only [Sem.run_bind, run_underlying ht, Result.andThen, run_get hb, Sem.run_pure, YQ hk, WI hk (Ze x v b post pre 0 hp), Nat.zero_add, List.getElem?_toArray, Ho, Option.map_some, Option.getD_some, Wu, run_keyThatStays (d := .int .i64) (show IsKey (.int .i64) (V x) from rfl), run_set _ hb];unfold setM
 have e : ((UA (pre ++ (x, v, b) :: post)).toArray.modify pre.length fun e => { key := V x, val := u, born := e.born }) = (UA (pre ++ (x, u, b) :: post)).toArray := by
  apply Array.ext';rw [Array.toList_modify];simp only [UA, List.map_append, List.map_cons];have h := jdN (List.map Wu pre) (List.map Wu post) (Wu (x, v, b)) (fun e => { key := V x, val := u, born := e.born });rw [List.length_map] at h;exact h
 rw [e]
theorem XR {ty : TypeId} (ht : P.underlying T = some (.map K E)) (hk : P.underlying K = some (.int .i64)) (hb : MapB w B kv ck) (hp : ∀ e ∈ kv, e.1 ≠ x) :
  (Builtin.delete_ #[T, K] ty #[.map (some B), V x]).run P w = .ok (.tuple #[]) (setM w B kv ck) := by
 simp [Builtin.delete_, run_underlying ht, Result.andThen, run_get hb, YQ hk, WI hk (Xr x kv 0 hp), run_set _ hb, setM]
theorem VS {ty : TypeId} (ht : P.underlying T = some (.map K E)) (hk : P.underlying K = some (.int .i64)) (hb : MapB w B (pre ++ (x, v, b) :: post) ck) (hp : ∀ e ∈ pre, e.1 ≠ x) :
  (Builtin.delete_ #[T, K] ty #[.map (some B), V x]).run P w = .ok (.tuple #[]) (setM w B (pre ++ post) ck) := by
 have e : (UA (pre ++ (x, v, b) :: post)).eraseIdx pre.length = UA (pre ++ post) := by
  simp only [UA, List.map_append, List.map_cons];have h := je6 (List.map Wu pre) (List.map Wu post) (Wu (x, v, b));rw [List.length_map] at h;exact h
 have h1 := run_get (P := P) hb;have h2 := WI (P := P) (w := w) hk (Ze x v b post pre 0 hp);have h3 := fun o => run_set (P := P) o hb;rw [Nat.zero_add] at h2;generalize (UA (pre ++ (x, v, b) :: post)) = L at h1 h2 e;simp [Builtin.delete_, run_underlying ht, Result.andThen, h1, YQ hk, h2, h3, setM, e]
theorem run_len_map {ty : TypeId} (hb : MapB w B kv ck) (hu : P.underlying T = some (.map K E)) : (Builtin.len_ #[T] ty #[.map (some B)]).run P w = .ok (goInt kv.length) w := by
 have h1 := run_get (P := P) hb
 have hl : (UA kv).length = kv.length := by simp [UA]
 generalize UA kv = L at h1 hl;simp [Builtin.len_, run_underlying hu, Result.andThen, h1, hl]
def Ut (kv : List KV) (seen : Array Nat) : List KV := kv.filter (fun e => !seen.contains e.2.2)
def IterB (w : World) (r B since : Nat) (seen : Array Nat) (c0 : Nat) : Prop := w.heap[r]? = some (.mapIter (some B) since seen c0)
def setIt (w : World) (r B since : Nat) (seen : Array Nat) (c0 : Nat) : World := { w with heap := w.heap.setIfInBounds r (.mapIter (some B) since seen c0) }
theorem run_range_map (ht : P.underlying T = some (.map K E)) (hb : MapB w B kv ck) : (Instr.range T (.map (some B))).run P w = .ok (.pointer (some ⟨w.heap.size, 0, none⟩)) (w.alloc (.mapIter (some B) ck #[] ck)) := by
 have h1 := run_get (P := P) hb;generalize UA kv = L at h1;simp [Instr.range, run_underlying ht, Result.andThen, h1, newObj, Sem.run]
theorem Zx (seen : Array Nat) : (leftOf (UA kv).toArray seen).toList = UA (Ut kv seen) := by
 unfold leftOf Ut UA;simp [List.filter_map, Function.comp_def, Wu];rfl
theorem Xa {ty : TypeId} {r since c0 : Nat} {seen : Array Nat} (hr : IterB w r B since seen c0) (hb : MapB w B kv ck) (hold : ∀ e ∈ kv, e.2.2 < since) (Qk : since ≤ c0) :
  (Ut kv seen = [] ∧ (Instr.next (Q3 r 0) false ty).run P w = .ok (.tuple #[.bool false]) w) ∨
  ∃ e ∈ Ut kv seen, ∃ w1 : World, (w1 = w ∨ w1 = w.drew) ∧ (Instr.next (Q3 r 0) false ty).run P w = .ok (.tuple #[.bool true, V e.1, e.2.1]) (setIt w1 r B since (seen.push e.2.2) ck) := by
 rcases run_next_at (P := P) w ty r B since c0 seen (UA kv).toArray ck hr hb (fun x hx => by
  simp only [UA, List.mem_map] at hx;obtain ⟨e, he, rfl⟩ := hx
  exact hold e he) Qk with ⟨h1, h2⟩ | ⟨x, hx, w1, hw, h2⟩
 ·refine .inl ⟨?_, h2⟩
  have h3 : (leftOf (UA kv).toArray seen).toList.length = 0 := by simpa using h1
  rw [Zx] at h3
  simpa [UA] using h3
 ·rw [Zx] at hx
  simp only [UA, List.mem_map] at hx;obtain ⟨e, he, rfl⟩ := hx;exact .inr ⟨e, he, w1, hw, h2⟩
structure KVok (kv : List KV) (ck : Nat) : Prop where
 lt : ∀ e ∈ kv, e.2.2 < ck
 stamps : (kv.map (·.2.2)).Nodup
 keys : (kv.map (·.1)).Nodup
theorem KVok.nil (ck : Nat) : KVok [] ck := ⟨fun _ h => by simp at h, by simp, by simp⟩
theorem KVok.snoc (h : KVok kv ck) (hp : ∀ e ∈ kv, e.1 ≠ x) : KVok (kv ++ [(x, v, ck)]) (ck + 1) := by
 refine ⟨fun e he => ?_, ?_, ?_⟩
 ·rcases List.mem_append.1 he with he | he
  ·exact Nat.lt_succ_of_lt (h.lt e he)
  ·rw [List.mem_singleton.1 he]; exact Nat.lt_succ_self _
 ·rw [List.map_append]
  refine List.nodup_append.2 ⟨h.stamps, by simp, fun a ha b hb => ?_⟩;obtain ⟨e, he, rfl⟩ := List.mem_map.1 ha
  have hb : b = ck := by simpa using hb
  rw [hb];exact Nat.ne_of_lt (h.lt e he)
 ·rw [List.map_append]
  refine List.nodup_append.2 ⟨h.keys, by simp, fun a ha b hb => ?_⟩;obtain ⟨e, he, rfl⟩ := List.mem_map.1 ha
  have hb : b = x := by simpa using hb
  rw [hb];exact hp e he
theorem KVok.store {u : Value} (h : KVok (pre ++ (x, v, b) :: post) ck) : KVok (pre ++ (x, u, b) :: post) ck := by
 refine ⟨fun e he => ?_, by simpa using h.stamps, by simpa using h.keys⟩
 rcases List.mem_append.1 he with he | he
 ·exact h.lt e (List.mem_append_left _ he)
 ·rcases List.mem_cons.1 he with rfl | he
  ·exact h.lt (x, v, b) (List.mem_append_right _ List.mem_cons_self)
  ·exact h.lt e (List.mem_append_right _ (List.mem_cons_of_mem _ he))
theorem KVok.drop (h : KVok (pre ++ (x, v, b) :: post) ck) : KVok (pre ++ post) ck := by
 have hs : (pre ++ post).Sublist (pre ++ (x, v, b) :: post) := List.Sublist.append_left (List.sublist_cons_self _ _) _;exact ⟨fun e he => h.lt e (hs.subset he), (hs.map _).nodup h.stamps, (hs.map _).nodup h.keys⟩
theorem KVok.others (h : KVok (pre ++ (x, v, b) :: post) ck) : ∀ e ∈ pre ++ post, e.1 ≠ x := by
 have hn := h.keys;rw [List.map_append, List.map_cons] at hn;obtain ⟨h1, h2, h3⟩ := List.nodup_append.1 hn;intro e he
 rcases List.mem_append.1 he with he | he
 ·exact h3 e.1 (List.mem_map_of_mem he) x List.mem_cons_self
 ·intro e'
  have h4 : e.1 ∈ post.map (·.1) := List.mem_map_of_mem he;rw [e'] at h4;exact (List.nodup_cons.1 h2).1 h4
theorem Wv {r since : Nat} {seen : Array Nat} {e : KV} (hr : IterB w r B since (seen.push e.2.2) ck) (hb : MapB w B kv ck) (he : e ∈ kv) (hn : KVok kv ck) :
  (Instr.entry (Q3 r 0)).run P w = .ok (.tuple #[V e.1, e.2.1]) w := by
 have h := run_entry_at (P := P) w r B since seen (UA kv).toArray ck (Wu e) hr hb (by simpa [UA] using List.mem_map_of_mem (f := Wu) he) (by
  have : (UA kv).toArray.toList.map (·.born) = kv.map (·.2.2) := by simp [UA, Function.comp_def, Wu]
  rw [this]
  exact hn.stamps)
 exact h
theorem jaB : Ut kv #[] = kv := by unfold Ut; simp
theorem Xb {e : KV} {seen : Array Nat} (hn : (kv.map (·.2.2)).Nodup) (he : e ∈ Ut kv seen) : (Ut kv (seen.push e.2.2)).length + 1 = (Ut kv seen).length := by
 have h1 : Ut kv (seen.push e.2.2) = (Ut kv seen).filter (fun y => !(y.2.2 == e.2.2)) := by
  unfold Ut;rw [List.filter_filter];apply List.filter_congr;intro y _;rw [Array.contains_push]
  cases h1 : seen.contains y.2.2 <;> cases h2 : (y.2.2 == e.2.2) <;> simp_all
 have ng : ((Ut kv seen).map (·.2.2)).Nodup := ((List.filter_sublist (l := kv)).map _).nodup hn;rw [h1]
 revert ng he
 generalize Ut kv seen = L;intro he ng
 induction L with
 | nil => simp at he
 | cons y r ih =>
  rw [List.map_cons, List.nodup_cons] at ng
  by_cases hy : y.2.2 = e.2.2
  ·have hr : r.filter (fun z => !(z.2.2 == e.2.2)) = r := by
    rw [List.filter_eq_self];intro z hz
    have : z.2.2 ≠ e.2.2 := fun h => ng.1 (by rw [hy, ← h]; exact List.mem_map_of_mem hz)
    simpa using this
   rw [List.filter_cons_of_neg (by simpa using hy), hr, List.length_cons]
  ·have Eh : e ∈ r := by
    rcases List.mem_cons.1 he with rfl | h
    ·exact absurd rfl hy
    ·exact h
   rw [List.filter_cons_of_pos (by simpa using hy), List.length_cons, List.length_cons, ih Eh ng.2]
theorem ZU {e : KV} {seen : Array Nat} (hn : (kv.map (·.2.2)).Nodup) (he : e ∈ Ut kv seen) : (Ut kv seen).Perm (e :: Ut kv (seen.push e.2.2)) := by
 have h1 : Ut kv (seen.push e.2.2) = (Ut kv seen).filter (fun y => !(y.2.2 == e.2.2)) := by
  unfold Ut;rw [List.filter_filter];apply List.filter_congr;intro y _;rw [Array.contains_push]
  cases h1 : seen.contains y.2.2 <;> cases h2 : (y.2.2 == e.2.2) <;> simp_all
 have ng : ((Ut kv seen).map (·.2.2)).Nodup := ((List.filter_sublist (l := kv)).map _).nodup hn;rw [h1]
 revert ng he
 generalize Ut kv seen = L;intro he ng
 induction L with
 | nil => simp at he
 | cons y r ih =>
  rw [List.map_cons, List.nodup_cons] at ng
  by_cases hy : y.2.2 = e.2.2
  ·have hr : r.filter (fun z => !(z.2.2 == e.2.2)) = r := by
    rw [List.filter_eq_self];intro z hz
    have : z.2.2 ≠ e.2.2 := fun h => ng.1 (by rw [hy, ← h]; exact List.mem_map_of_mem hz)
    simpa using this
   have ms : y = e := by
    rcases List.mem_cons.1 he with h | h
    ·exact h.symm
    ·exact absurd (List.mem_map_of_mem (f := fun z : KV => z.2.2) h) (by rw [← hy]; exact ng.1)
   rw [List.filter_cons_of_neg (by simpa using hy), hr, ms]
  ·have Eh : e ∈ r := by
    rcases List.mem_cons.1 he with rfl | h
    ·exact absurd rfl hy
    ·exact h
   rw [List.filter_cons_of_pos (by simpa using hy)];exact ((ih Eh ng.2).cons y).trans (List.Perm.swap _ _ _)
end
section
variable {P : Program} {ops : Array Oper} {rest : List Oper} {o : Oper} {a : Act} {w : World} {Q : Exit → Act → World → Prop} {B ck : Nat} {T K E : TypeId} {kv pre post : List KV} {x : Int} {v u z : Value} {b : Nat}
end
theorem Kept.setIt {w : World} {r B since c0 : Nat} {seen : Array Nat} : Kept (fun b => b = r) w (setIt w r B since seen c0) :=
 ⟨rfl, rfl, rfl, by simp [Go.Proofs.YtljfcdkhicffcaaGreat.setIt], fun k hk hr => by
  show (w.heap.setIfInBounds r _)[k]? = _
  rw [Array.getElem?_setIfInBounds_ne (fun e => hr e.symm)]⟩
theorem IterB.set {w : World} {r B since pQ c0 c1 B' : Nat} {seen uu : Array Nat} (h : IterB w r B since seen c0) : IterB (setIt w r B' pQ uu c1) r B' pQ uu c1 := (heap_set h).1
theorem IterB.new (w : World) (B ck : Nat) : IterB (w.alloc (.mapIter (some B) ck #[] ck)) w.heap.size B ck #[] ck := by
 unfold IterB World.alloc;simp
theorem IterB.ne {w : World} {r B B' since c0 ck : Nat} {seen : Array Nat} {kv : List KV} (h : IterB w r B since seen c0) (hb : MapB w B' kv ck) : B' ≠ r := by
 intro e;unfold IterB at h;unfold MapB at hb;rw [e, h] at hb;simp at hb
def jbt (w : World) (r B : Nat) : Nat :=
 match w.heap[r]?, w.heap[B]? with
 | some (.mapIter _ _ seen _), some (.map es _) => (leftOf es seen).toList.length
 | _, _ => 0
theorem VF {w : World} {r B since c0 ck : Nat} {seen : Array Nat} {kv : List KV} (hr : IterB w r B since seen c0) (hb : MapB w B kv ck) : jbt w r B = (Ut kv seen).length := by
 unfold IterB at hr;unfold MapB at hb;unfold jbt;simp only [hr, hb];rw [Zx];simp [UA]
theorem mem_left {kv : List KV} {seen : Array Nat} {e : KV} (h : e ∈ Ut kv seen) : e ∈ kv := (List.mem_filter.1 h).1
theorem XH {w w1 : World} {r B since c0 ck : Nat} {seen : Array Nat} {kv : List KV} {e : KV} (hr : IterB w r B since seen c0) (hb : MapB w B kv ck) (hw : w1 = w ∨ w1 = w.drew) :
  IterB (setIt w1 r B since (seen.push e.2.2) ck) r B since (seen.push e.2.2) ck ∧ MapB (setIt w1 r B since (seen.push e.2.2) ck) B kv ck ∧ Kept (fun b => b = r) w (setIt w1 r B since (seen.push e.2.2) ck) := by
 have bl := hr.ne hb
 have lG : IterB w1 r B since seen c0 := by rcases hw with rfl | rfl <;> exact hr
 have cW : MapB w1 B kv ck := by rcases hw with rfl | rfl <;> exact hb
 have hs : Same w w1 := by rcases hw with rfl | rfl; exact kZ0; exact kZ0.drew
 have hk := Kept.setIt (w := w1) (r := r) (B := B) (since := since) (c0 := ck) (seen := seen.push e.2.2);exact ⟨lG.set, cW.kept hk bl, (Kept.mono hs (fun _ _ h => h.elim)).trans hk⟩
end Go.Proofs.YtljfcdkhicffcaaGreat
