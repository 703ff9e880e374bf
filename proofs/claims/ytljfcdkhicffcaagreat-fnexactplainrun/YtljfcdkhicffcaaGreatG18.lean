import Derived.Test.YtljfcdkhicffcaaGreatG17
import Derived.Laws.IdiomRangeMap
namespace Go.Proofs.YtljfcdkhicffcaaGreat
set_option maxRecDepth 100000
set_option maxHeartbeats 4000000
set_option linter.unusedVariables false
set_option linter.unusedSimpArgs false
open Go Go.RowKit Go.MapKept
abbrev IE := Int × Int × Nat
structure TE where
 id : Int
 blk : Nat
 st : Nat
 inn : List IE
 ck : Nat
def TE.kv (e : TE) : KV := (e.id, .map (some e.blk), e.st)
def ikv (x : IE) : KV := (x.1, V x.2.1, x.2.2)
def TE.ls (e : TE) : List T3 := e.inn.map fun x => (e.id, x.1, x.2.1)
def Uh : List TE → List T3
 | [] => []
 | e :: r => e.ls ++ Uh r
theorem Xc : ∀ a b : List TE, Uh (a ++ b) = Uh a ++ Uh b
 | [], b => rfl
 | e :: r, b => by simp [Uh, Xc r b]
theorem Vr {l : T3} : ∀ {tt : List TE}, l ∈ Uh tt ↔ ∃ e ∈ tt, e.id = l.1 ∧ ∃ x ∈ e.inn, x.1 = l.2.1 ∧ x.2.1 = l.2.2
 | [] => by simp [Uh]
 | e :: r => by
  rw [Uh, List.mem_append, Vr (tt := r)];constructor
  ·rintro (h | ⟨e', he, h⟩)
   ·obtain ⟨x, hx, rfl⟩ := List.mem_map.1 h
    exact ⟨e, List.mem_cons_self, rfl, x, hx, rfl, rfl⟩
   ·exact ⟨e', List.mem_cons_of_mem _ he, h⟩
  ·rintro ⟨e', he, h1, x, hx, h2, h3⟩
   rcases List.mem_cons.1 he with rfl | he
   ·refine .inl (List.mem_map.2 ⟨x, hx, ?_⟩)
    rw [h1, h2, h3]
   ·exact .inr ⟨e', he, h1, x, hx, h2, h3⟩
def Full (tt : List TE) : Prop := ∀ e ∈ tt, e.inn ≠ []
theorem Full.mid {pre post : List TE} {e e' : TE} (h : Full (pre ++ e :: post)) (he : e'.inn ≠ []) : Full (pre ++ e' :: post) := fun y hy => by
 rcases List.mem_append.1 hy with hy | hy
 ·exact h y (List.mem_append_left _ hy)
 ·rcases List.mem_cons.1 hy with rfl | hy
  ·exact he
  ·exact h y (List.mem_append_right _ (List.mem_cons_of_mem _ hy))
theorem Full.snoc {tt : List TE} {e : TE} (h : Full tt) (he : e.inn ≠ []) : Full (tt ++ [e]) := fun y hy => by
 rcases List.mem_append.1 hy with hy | hy
 ·exact h y hy
 ·rw [List.mem_singleton.1 hy]; exact he
structure Tab (w : World) (b0 B : Nat) (tt : List TE) (ck : Nat) : Prop where
 out : MapB w B (tt.map TE.kv) ck
 ok : KVok (tt.map TE.kv) ck
 inn : ∀ e ∈ tt, MapB w e.blk (e.inn.map ikv) e.ck
 iok : ∀ e ∈ tt, KVok (e.inn.map ikv) e.ck
 low : b0 ≤ B
 lows : ∀ e ∈ tt, b0 ≤ e.blk
 blks : (tt.map TE.blk).Nodup
 ne : ∀ e ∈ tt, e.blk ≠ B
theorem Tab.kept {R : Nat → Prop} {w w' : World} {b0 B ck : Nat} {tt : List TE} (h : Tab w b0 B tt ck) (hk : Kept R w w') (hB : ¬ R B) (hi : ∀ e ∈ tt, ¬ R e.blk) : Tab w' b0 B tt ck :=
 ⟨h.out.kept hk hB, h.ok, fun e he => (h.inn e he).kept hk (hi e he), h.iok, h.low, h.lows, h.blks, h.ne⟩
theorem Tab.same {w w' : World} {b0 B ck : Nat} {tt : List TE} (h : Tab w b0 B tt ck) (hk : Same w w') : Tab w' b0 B tt ck := h.kept hk id (fun _ _ => id)
theorem Tab.new (w : World) : Tab (w.alloc (.map #[] 0)) w.heap.size w.heap.size [] 0 :=
 ⟨MapB.new w, KVok.nil 0, fun _ h => by simp at h, fun _ h => by simp at h, Nat.le_refl _, fun _ h => by simp at h, by simp, fun _ h => by simp at h⟩
theorem jaC (id : Int) (tt : List TE) : (∀ e ∈ tt, e.id ≠ id) ∨ ∃ pre e post, tt = pre ++ e :: post ∧ e.id = id ∧ ∀ y ∈ pre, y.id ≠ id := by
 induction tt with
 | nil => exact .inl (fun _ h => by simp at h)
 | cons e r ih =>
  by_cases h : e.id = id
  ·exact .inr ⟨[], e, r, rfl, h, fun _ h => by simp at h⟩
  ·rcases ih with ih | ⟨pre, e', post, rfl, he, hp⟩
   ·exact .inl (fun y hy => by rcases List.mem_cons.1 hy with rfl | hy; exact h; exact ih y hy)
   ·exact .inr ⟨e :: pre, e', post, rfl, he, fun y hy => by rcases List.mem_cons.1 hy with rfl | hy; exact h; exact hp y hy⟩
theorem jaD (txn : Int) (l : List IE) : (∀ e ∈ l, e.1 ≠ txn) ∨ ∃ pre m s post, l = pre ++ (txn, m, s) :: post ∧ ∀ y ∈ pre, y.1 ≠ txn := by
 induction l with
 | nil => exact .inl (fun _ h => by simp at h)
 | cons e r ih =>
  by_cases h : e.1 = txn
  ·obtain ⟨t, m, s⟩ := e
   dsimp only at h;subst h;exact .inr ⟨[], m, s, r, rfl, fun _ h => by simp at h⟩
  ·rcases ih with ih | ⟨pre, m, s, post, rfl, hp⟩
   ·exact .inl (fun y hy => by rcases List.mem_cons.1 hy with rfl | hy; exact h; exact ih y hy)
   ·exact .inr ⟨e :: pre, m, s, post, rfl, fun y hy => by rcases List.mem_cons.1 hy with rfl | hy; exact h; exact hp y hy⟩
theorem Tab.once {w : World} {b0 B ck : Nat} {pre post : List TE} {e : TE} (h : Tab w b0 B (pre ++ e :: post) ck) : ∀ y ∈ pre ++ post, y.id ≠ e.id := by
 have hk := h.ok;rw [List.map_append, List.map_cons, show e.kv = (e.id, .map (some e.blk), e.st) from rfl] at hk;intro y hy;refine hk.others y.kv ?_;rw [← List.map_append];exact List.mem_map_of_mem hy
theorem Tab.twice {w : World} {b0 B ck : Nat} {pre post : List TE} {e : TE} (h : Tab w b0 B (pre ++ e :: post) ck) : ∀ y ∈ pre ++ post, y.blk ≠ e.blk := by
 have hn := h.blks;rw [List.map_append, List.map_cons] at hn;obtain ⟨h1, h2, h3⟩ := List.nodup_append.1 hn;intro y hy
 rcases List.mem_append.1 hy with hy | hy
 ·exact h3 y.blk (List.mem_map_of_mem hy) e.blk List.mem_cons_self
 ·intro e'
  have h4 : y.blk ∈ post.map TE.blk := List.mem_map_of_mem hy;rw [e'] at h4;exact (List.nodup_cons.1 h2).1 h4
theorem Tab.inner {w w' : World} {b0 B ck : Nat} {pre post : List TE} {e e' : TE} (h : Tab w b0 B (pre ++ e :: post) ck) (hid : e'.id = e.id) (hb : e'.blk = e.blk) (hs : e'.st = e.st)
  (hm : MapB w' e.blk (e'.inn.map ikv) e'.ck) (hk : KVok (e'.inn.map ikv) e'.ck) (hw : Kept (fun b => b = e.blk) w w') : Tab w' b0 B (pre ++ e' :: post) ck := by
 have NJ : (pre ++ e' :: post).map TE.kv = (pre ++ e :: post).map TE.kv := by
  rw [List.map_append, List.map_append, List.map_cons, List.map_cons, show e'.kv = e.kv by unfold TE.kv; rw [hid, hb, hs]]
 have dK : ∀ y ∈ pre ++ e' :: post, y = e' ∨ y ∈ pre ++ post := fun y hy => by
  rcases List.mem_append.1 hy with hy | hy
  ·exact .inr (List.mem_append_left _ hy)
  ·rcases List.mem_cons.1 hy with hy | hy
   ·exact .inl hy
   ·exact .inr (List.mem_append_right _ hy)
 have hold : ∀ y ∈ pre ++ post, y ∈ pre ++ e :: post := fun y hy => by
  rcases List.mem_append.1 hy with hy | hy
  ·exact List.mem_append_left _ hy
  ·exact List.mem_append_right _ (List.mem_cons_of_mem _ hy)
 have he : e ∈ pre ++ e :: post := List.mem_append_right _ List.mem_cons_self;refine ⟨?_, ?_, ?_, ?_, h.low, ?_, ?_, ?_⟩
 ·rw [NJ]; exact h.out.kept hw (fun e1 => h.ne e he e1.symm)
 ·rw [NJ]; exact h.ok
 ·intro y hy
  rcases dK y hy with rfl | hy
  ·rw [hb]; exact hm
  ·exact (h.inn y (hold y hy)).kept hw (h.twice y hy)
 ·intro y hy
  rcases dK y hy with rfl | hy
  ·exact hk
  ·exact h.iok y (hold y hy)
 ·intro y hy
  rcases dK y hy with rfl | hy
  ·rw [hb]; exact h.lows e he
  ·exact h.lows y (hold y hy)
 ·have : (pre ++ e' :: post).map TE.blk = (pre ++ e :: post).map TE.blk := by
   rw [List.map_append, List.map_append, List.map_cons, List.map_cons, hb]
  rw [this]; exact h.blks
 ·intro y hy
  rcases dK y hy with rfl | hy
  ·rw [hb]; exact h.ne e he
  ·exact h.ne y (hold y hy)
theorem Tab.snoc {w w' : World} {b0 B ck nb : Nat} {tt : List TE} {id : Int} (h : Tab w b0 B tt ck) (hp : ∀ e ∈ tt, e.id ≠ id) (yM : MapB w nb [] 0) (bl : nb ≠ B) (JC : ∀ e ∈ tt, e.blk ≠ nb) (nM : b0 ≤ nb)
  (hm : MapB w' B ((tt ++ [(⟨id, nb, ck, [], 0⟩ : TE)]).map TE.kv) (ck + 1)) (hw : Kept (fun b => b = B) w w') : Tab w' b0 B (tt ++ [⟨id, nb, ck, [], 0⟩]) (ck + 1) := by
 refine ⟨hm, ?_, ?_, ?_, h.low, ?_, ?_, ?_⟩
 ·rw [List.map_append]
  exact h.ok.snoc (fun y hy => by
   obtain ⟨e, he, rfl⟩ := List.mem_map.1 hy
   exact hp e he)
 ·intro y hy
  rcases List.mem_append.1 hy with hy | hy
  ·exact (h.inn y hy).kept hw (h.ne y hy)
  ·rw [List.mem_singleton.1 hy]
   exact yM.kept hw bl
 ·intro y hy
  rcases List.mem_append.1 hy with hy | hy
  ·exact h.iok y hy
  ·rw [List.mem_singleton.1 hy]
   exact KVok.nil 0
 ·intro y hy
  rcases List.mem_append.1 hy with hy | hy
  ·exact h.lows y hy
  ·rw [List.mem_singleton.1 hy]; exact nM
 ·rw [List.map_append]
  refine List.nodup_append.2 ⟨h.blks, by simp, fun a ha b hb => ?_⟩;obtain ⟨e, he, rfl⟩ := List.mem_map.1 ha
  have : b = nb := by simpa using hb
  rw [this];exact JC e he
 ·intro y hy
  rcases List.mem_append.1 hy with hy | hy
  ·exact h.ne y hy
  ·rw [List.mem_singleton.1 hy]; exact bl
theorem Tab.drop {w w' : World} {b0 B ck : Nat} {pre post : List TE} {e : TE} (h : Tab w b0 B (pre ++ e :: post) ck) (hm : MapB w' B ((pre ++ post).map TE.kv) ck) (hw : Kept (fun b => b = B) w w') : Tab w' b0 B (pre ++ post) ck := by
 have hold : ∀ y ∈ pre ++ post, y ∈ pre ++ e :: post := fun y hy => by
  rcases List.mem_append.1 hy with hy | hy
  ·exact List.mem_append_left _ hy
  ·exact List.mem_append_right _ (List.mem_cons_of_mem _ hy)
 have hk := h.ok;rw [List.map_append, List.map_cons, show e.kv = (e.id, .map (some e.blk), e.st) from rfl] at hk;refine ⟨hm, ?_, fun y hy => (h.inn y (hold y hy)).kept hw (h.ne y (hold y hy)), fun y hy => h.iok y (hold y hy), h.low, fun y hy => h.lows y (hold y hy), ?_, fun y hy => h.ne y (hold y hy)⟩
 ·rw [List.map_append]; exact hk.drop
 ·have hs : (pre ++ post).Sublist (pre ++ e :: post) := List.Sublist.append_left (List.sublist_cons_self _ _) _
  exact (hs.map _).nodup h.blks
def VT (l : T3) (x : T3) : Bool := decide (x.1 = l.1) && decide (x.2.1 = l.2.1)
theorem jdO {α : Type} {f : α → Bool} {pre post : List α} {a : α} (hp : ∀ x ∈ pre, f x = true) (hq : ∀ x ∈ post, f x = true) (ha : f a = false) : (pre ++ a :: post).filter f = pre ++ post := by
 rw [List.filter_append, List.filter_cons_of_neg (by rw [ha]; simp), List.filter_eq_self.2 hp, List.filter_eq_self.2 hq]
theorem IE.once {ck : Nat} {pre post : List IE} {t m : Int} {s : Nat} (h : KVok ((pre ++ (t, m, s) :: post).map ikv) ck) : ∀ y ∈ pre ++ post, y.1 ≠ t := by
 rw [List.map_append, List.map_cons, show ikv (t, m, s) = (t, V m, s) from rfl] at h;intro y hy;refine h.others (ikv y) ?_;rw [← List.map_append];exact List.mem_map_of_mem hy
theorem VG (pre post : List TE) (e : TE) : (Uh (pre ++ e :: post)).Perm (e.ls ++ Uh (pre ++ post)) := by
 rw [Xc, Xc, Uh];exact (List.perm_append_comm_assoc _ _ _)
theorem jdP {w : World} {b0 B ck : Nat} {pre post : List TE} {e : TE} (h : Tab w b0 B (pre ++ e :: post) ck) (l : T3) (hl : l.1 = e.id) : (Uh (pre ++ post)).filter (fun x => !VT l x) = Uh (pre ++ post) := by
 rw [List.filter_eq_self];intro x hx;obtain ⟨y, hy, h1, _⟩ := Vr.1 hx;have := h.once y hy;simp only [VT, Bool.not_eq_true', Bool.and_eq_false_iff, decide_eq_false_iff_not];exact .inl (by rw [← h1, hl]; exact this)
theorem jeF {w : World} {b0 B ck : Nat} {pre post : List TE} {e : TE} (h : Tab w b0 B (pre ++ e :: post) ck) {l : T3} (hl : e.id = l.1) {cZ : List IE} {ck' : Nat} (dK : (cZ.map fun x => (e.id, x.1, x.2.1)).Perm (l :: e.ls.filter (fun x => !VT l x))) :
  (Uh (pre ++ { e with inn := cZ, ck := ck' } :: post)).Perm (l :: (Uh (pre ++ e :: post)).filter (fun x => !VT l x)) := by
 refine (VG pre post _).trans ?_;refine .trans ?_ (((VG pre post e).filter _).symm.cons l);rw [List.filter_append, jdP h l hl.symm, ← List.cons_append];exact List.Perm.append_right _ dK
theorem jga {e : TE} {l : T3} (hl : e.id = l.1) (hp : ∀ x ∈ e.inn, x.1 ≠ l.2.1) (s : Nat) : ((e.inn ++ [(l.2.1, l.2.2, s)]).map fun x => (e.id, x.1, x.2.1)).Perm (l :: e.ls.filter (fun x => !VT l x)) := by
 have h1 : e.ls.filter (fun x => !VT l x) = e.ls := by
  rw [List.filter_eq_self];intro x hx;obtain ⟨y, hy, rfl⟩ := List.mem_map.1 hx;have := hp y hy;simp only [VT, Bool.not_eq_true', Bool.and_eq_false_iff, decide_eq_false_iff_not];exact .inr this
 rw [h1, List.map_append];refine (List.perm_append_comm).trans ?_;unfold TE.ls;rw [hl];exact List.Perm.refl _
theorem jgM {e : TE} {l : T3} {ck : Nat} {pre post : List IE} {m : Int} {s : Nat} (hl : e.id = l.1) (he : e.inn = pre ++ (l.2.1, m, s) :: post) (hk : KVok (e.inn.map ikv) ck) : ((pre ++ (l.2.1, l.2.2, s) :: post).map fun x => (e.id, x.1, x.2.1)).Perm (l :: e.ls.filter (fun x => !VT l x)) := by
 rw [he] at hk;have ho := IE.once hk
 have h1 : e.ls.filter (fun x => !VT l x) = (pre ++ post).map fun x => (e.id, x.1, x.2.1) := by
  unfold TE.ls;rw [he, List.map_append, List.map_cons, List.map_append];refine jdO ?_ ?_ ?_
  ·intro x hx
   obtain ⟨y, hy, rfl⟩ := List.mem_map.1 hx;simp only [VT, Bool.not_eq_true', Bool.and_eq_false_iff, decide_eq_false_iff_not];exact .inr (ho y (List.mem_append_left _ hy))
  ·intro x hx
   obtain ⟨y, hy, rfl⟩ := List.mem_map.1 hx;simp only [VT, Bool.not_eq_true', Bool.and_eq_false_iff, decide_eq_false_iff_not];exact .inr (ho y (List.mem_append_right _ hy))
  ·simp [VT, hl]
 rw [h1, List.map_append, List.map_cons, List.map_append, hl];exact List.perm_middle
theorem jgN {tt : List TE} {l : T3} (hp : ∀ e ∈ tt, e.id ≠ l.1) (nb s c : Nat) (i : Nat) : (Uh (tt ++ [⟨l.1, nb, s, [(l.2.1, l.2.2, i)], c⟩])).Perm (l :: (Uh tt).filter (fun x => !VT l x)) := by
 have h1 : (Uh tt).filter (fun x => !VT l x) = Uh tt := by
  rw [List.filter_eq_self];intro x hx;obtain ⟨y, hy, h1, _⟩ := Vr.1 hx;simp only [VT, Bool.not_eq_true', Bool.and_eq_false_iff, decide_eq_false_iff_not];exact .inl (by rw [← h1]; exact hp y hy)
 rw [h1, Xc];refine (List.perm_append_comm).trans ?_;exact List.Perm.refl _
theorem YA {txn id : Int} {ls : List T3} (h : ∀ l ∈ ls, ¬ (l.1 = id ∧ l.2.1 = txn)) : Uf txn id ls = 0 := by
 induction ls with
 | nil => rfl
 | cons l r ih =>
  rw [Uf, if_neg (h l List.mem_cons_self)];exact ih (fun x hx => h x (List.mem_cons_of_mem _ hx))
theorem jgb {w : World} {b0 B ck : Nat} {tt : List TE} {ls : List T3} (h : Tab w b0 B tt ck) (hp : (Uh tt).Perm ls) (hr : ls.Pairwise ltK) {e : TE} (he : e ∈ tt) {x : IE} (hx : x ∈ e.inn) : Uf x.1 e.id ls = x.2.1 := by
 have : ((e.id, x.1, x.2.1) : T3) ∈ ls := hp.mem_iff.1 (Vr.2 ⟨e, he, rfl, x, hx, rfl, rfl⟩);exact jbY hr this
theorem jbZ {tt : List TE} {ls : List T3} (hp : (Uh tt).Perm ls) {txn id : Int} (hm : ∀ e ∈ tt, e.id ≠ id) : Uf txn id ls = 0 := by
 refine YA (fun l hl ⟨h1, h2⟩ => ?_);obtain ⟨e, he, h3, _⟩ := Vr.1 (hp.mem_iff.2 hl);exact hm e he (h3.trans h1)
theorem ja6 {w : World} {b0 B ck : Nat} {pre post : List TE} {e : TE} {ls : List T3} (h : Tab w b0 B (pre ++ e :: post) ck) (hp : (Uh (pre ++ e :: post)).Perm ls) {txn : Int} (hm : ∀ x ∈ e.inn, x.1 ≠ txn) : Uf txn e.id ls = 0 := by
 refine YA (fun l hl ⟨h1, h2⟩ => ?_);obtain ⟨y, hy, h3, x, hx, h4, _⟩ := Vr.1 (hp.mem_iff.2 hl)
 have : y = e := by
  rcases List.mem_append.1 hy with h5 | h5
  ·exact absurd (h3.trans h1) (h.once y (List.mem_append_left _ h5))
  ·rcases List.mem_cons.1 h5 with h5 | h5
   ·exact h5
   ·exact absurd (h3.trans h1) (h.once y (List.mem_append_right _ h5))
 subst this;exact hm x hx (h4.trans h2)
theorem jbu (e : T3) : ∀ ls : List T3, (Vk e false ls).Perm (e :: ls.filter (fun x => !VT e x)) ∧ Vk e true ls = ls.filter (fun x => !VT e x)
 | [] => ⟨List.Perm.refl _, rfl⟩
 | l :: t => by
  obtain ⟨h1, h2⟩ := jbu e t;rw [Xo, Xo]
  by_cases hk : l.1 = e.1 ∧ l.2.1 = e.2.1
  ·have hf : (l :: t).filter (fun x => !VT e x) = t.filter (fun x => !VT e x) := List.filter_cons_of_neg (by simp [VT, hk])
   rw [if_pos hk, if_pos hk, hf];exact ⟨h1, h2⟩
  ·have dD : VT e l = false := by
    simp only [VT, Bool.and_eq_false_iff, decide_eq_false_iff_not]
    by_cases h : l.1 = e.1
    ·exact .inr (fun h' => hk ⟨h, h'⟩)
    ·exact .inl h
   have hf : (l :: t).filter (fun x => !VT e x) = l :: t.filter (fun x => !VT e x) := List.filter_cons_of_pos (by simp [dD]);rw [if_neg hk, if_neg hk, hf];constructor
   ·split
    ·rw [h2]
    ·exact (h1.cons l).trans (List.Perm.swap _ _ _)
   ·rw [if_neg (by simp), h2]
theorem jdQ (x : Int) (w : World) : Calls Tryz.prog 135 #[V x] w fun e w' => e = .returned (.bool (inB x 1 2147483647)) ∧ w' = w := by
 unfold inB
 by_cases h : 1 ≤ x
 ·by_cases h2 : x ≤ 2147483647
  ·go_enter Tryz.func135, Tryz.ntmps135
   go_wp2;go_ret;exact ⟨by simp [h, h2], rfl⟩
  ·go_enter Tryz.func135, Tryz.ntmps135
   go_wp2;go_ret;exact ⟨by simp [h]; try omega, rfl⟩
 ·go_enter Tryz.func135, Tryz.ntmps135
  go_wp2;go_ret;exact ⟨by rw [show decide (1 ≤ x) = false from by simp; omega]; rfl, rfl⟩
theorem je7 (x : Int) (w : World) : Calls Tryz.prog 187 #[V x] w fun e w' => e = .returned (.bool (inB x 0 511)) ∧ w' = w := by
 unfold inB
 by_cases h : 0 ≤ x
 ·by_cases h2 : x ≤ 511
  ·go_enter Tryz.func187, Tryz.ntmps187
   go_wp2;go_ret;exact ⟨by simp [h]; try omega, rfl⟩
  ·go_enter Tryz.func187, Tryz.ntmps187
   go_wp2;go_ret;exact ⟨by simp [h]; try omega, rfl⟩
 ·go_enter Tryz.func187, Tryz.ntmps187
  go_wp2;go_ret;exact ⟨by rw [show decide (0 ≤ x) = false from by simp; omega]; rfl, rfl⟩
theorem ja7 (p : T3) (w : World) :
  Calls Tryz.prog 175 #[.agg #[V p.1, V p.2.1, V p.2.2]] w fun e w' => e = .returned (.bool (VW p)) ∧ Same w w' := by
 obtain ⟨B, hB⟩ : ∃ B, VW p = B := ⟨_, rfl⟩;rw [hB];unfold VW at hB;obtain ⟨x, y, z⟩ := p;dsimp only at hB ⊢;have fm := (show Hid (Blk (w.alloc (.cells #[V x, V y, V z] 160)) w.heap.size 160 [V x, V y, V z]) from Blk.newL w _ _);have ay := hid (Uj w [V x, V y, V z] 160);obtain ⟨c0, c1, c2⟩ := fm.out.all3;have k0 := jdQ y;have ki := je7 x
 cases e0 : inB x 0 511 with
 | false =>
  rw [e0] at ki hB;subst hB
  go_enter Tryz.func175, Tryz.ntmps175
  go_wp2_with fail
  refine (ki _).mono ?_;rintro e w1 ⟨rfl, rfl⟩;go_wp2;go_ret;exact ⟨by simp, ay.out⟩
 | true =>
 rw [e0] at ki hB
 cases f : inB y 1 2147483647 with
 | false =>
  rw [f] at k0 hB;subst hB
  go_enter Tryz.func175, Tryz.ntmps175
  go_wp2_with fail
  refine (ki _).mono ?_;rintro e w1 ⟨rfl, rfl⟩
  go_wp2_with fail
  refine (k0 _).mono ?_;rintro e w1 ⟨rfl, rfl⟩;go_wp2;go_ret;exact ⟨by simp, ay.out⟩
 | true =>
  rw [f] at k0 hB
  by_cases h2 : z = 1
  ·subst h2
   subst hB
   go_enter Tryz.func175, Tryz.ntmps175
   go_wp2_with fail
   refine (ki _).mono ?_;rintro e w1 ⟨rfl, rfl⟩
   go_wp2_with fail
   refine (k0 _).mono ?_;rintro e w1 ⟨rfl, rfl⟩;go_wp2;go_ret;exact ⟨by simp [inB], ay.out⟩
  ·have q2 : (z != 1) = true := by simp [h2]
   by_cases h3 : z = 2
   ·subst h3
    subst hB
    go_enter Tryz.func175, Tryz.ntmps175
    go_wp2_with fail
    refine (ki _).mono ?_;rintro e w1 ⟨rfl, rfl⟩
    go_wp2_with fail
    refine (k0 _).mono ?_;rintro e w1 ⟨rfl, rfl⟩;go_wp2;go_ret;exact ⟨by simp [inB], ay.out⟩
   ·have q3 : (z != 2) = true := by simp [h3]
    subst hB
    go_enter Tryz.func175, Tryz.ntmps175
    go_wp2_with fail
    refine (ki _).mono ?_;rintro e w1 ⟨rfl, rfl⟩
    go_wp2_with fail
    refine (k0 _).mono ?_;rintro e w1 ⟨rfl, rfl⟩;go_wp2;go_ret;exact ⟨by simp [inB]; omega, ay.out⟩
def WT (a b : Int) : Bool := decide (a = 0) || decide (b = 0) || decide (a = 1) && decide (b = 1)
theorem Zf (a b : Int) (w : World) : Calls Tryz.prog 142 #[V a, V b] w fun e w' => e = .returned (.bool (WT a b)) ∧ w' = w := by
 unfold WT
 by_cases h0 : a = 0
 ·subst h0
  go_enter Tryz.func142, Tryz.ntmps142
  go_wp2;go_ret;exact ⟨by simp, rfl⟩
 by_cases h1 : b = 0
 ·subst h1
  go_enter Tryz.func142, Tryz.ntmps142
  go_wp2;go_ret;exact ⟨by simp, rfl⟩
 by_cases h2 : a = 1
 ·subst h2
  by_cases h3 : b = 1
  ·subst h3
   go_enter Tryz.func142, Tryz.ntmps142
   go_wp2;go_ret;exact ⟨by simp, rfl⟩
  ·go_enter Tryz.func142, Tryz.ntmps142
   go_wp2;go_ret;exact ⟨by simp [h1, h3], rfl⟩
 ·go_enter Tryz.func142, Tryz.ntmps142
  go_wp2;go_ret;exact ⟨by simp [h0, h1, h2], rfl⟩
def Ur (fid : FuncId) : Prop := ∀ (args : Array Value) (wx : World), (callFunc fid args).run Tryz.prog wx = .ok (.enter fid args) wx
theorem Zg (pre post : List TE) (e : TE) : (pre ++ e :: post).map TE.kv = pre.map TE.kv ++ (e.id, .map (some e.blk), e.st) :: post.map TE.kv := by
 rw [List.map_append, List.map_cons]; rfl
theorem WK (pre post : List IE) (t m : Int) (s : Nat) : (pre ++ (t, m, s) :: post).map ikv = pre.map ikv ++ (t, V m, s) :: post.map ikv := by
 rw [List.map_append, List.map_cons]; rfl
theorem Ww {tt : List TE} {id : Int} (h : ∀ e ∈ tt, e.id ≠ id) : ∀ e ∈ tt.map TE.kv, e.1 ≠ id := fun e he => by
 obtain ⟨y, hy, rfl⟩ := List.mem_map.1 he;exact h y hy
theorem XI {l : List IE} {t : Int} (h : ∀ e ∈ l, e.1 ≠ t) : ∀ e ∈ l.map ikv, e.1 ≠ t := fun e he => by
 obtain ⟨y, hy, rfl⟩ := List.mem_map.1 he;exact h y hy
theorem jaE {P : Program} {w : World} {T K E : TypeId} {x : Int} {z : Value} (ht : P.underlying T = some (.map K E)) (hk : P.underlying K = some (.int .i64)) (hz : (zeroValue E).run P w = .ok z w) :
  (Instr.lookup T (.map none) (V x) false).run P w = .ok z w := by
 have hf : (Instr.findKey K (V x) []).run P w = .ok none w := WI (P := P) (w := w) (kv := []) (x := x) hk (Xr x [] 0 (by simp));unfold Instr.lookup;simp [Sem.run_bind, run_underlying ht, Result.andThen, Sem.run_pure, YQ hk, hz, hf]
theorem je8 (w : World) (b0 B ck : Nat) (tt : List TE) (ls : List T3) (txn id : Int) (h : Tab w b0 B tt ck) (hp : (Uh tt).Perm ls) (hr : ls.Pairwise ltK) :
  Calls Tryz.prog 176 #[.map (some B), V txn, V id] w fun e w' => e = .returned (V (Uf txn id ls)) ∧ w' = w := by
 rcases jaC id tt with hm | ⟨pre, e, post, rfl, pJ, cG⟩
 ·have r1 : (Instr.lookup 90 (.map (some B)) (V id) false).run Tryz.prog w = .ok (.map none) w := U2 Tryz.underlying90 Tryz.underlying2 h.out (Ww hm) (Tryz.zeroValue204 _) false
  rw [jbZ hp hm];have r2 : (Instr.lookup 204 (.map none) (V txn) false).run Tryz.prog w = .ok (V 0) w := jaE Tryz.underlying204 Tryz.underlying2 (Tryz.zeroValue2 _);clear h hp hr hm
  go_enter Tryz.func176, Tryz.ntmps176
  go_wp2;go_ret;exact ⟨rfl, rfl⟩
 ·subst pJ
  have r1 : (Instr.lookup 90 (.map (some B)) (V e.id) false).run Tryz.prog w = .ok (.map (some e.blk)) w := UI (pre := pre.map TE.kv) (post := post.map TE.kv) (b := e.st) Tryz.underlying90 Tryz.underlying2 (by have h := h.out; rw [Zg] at h; exact h) (Ww cG) false;have he : e ∈ pre ++ e :: post := List.mem_append_right _ List.mem_cons_self;have hi := h.inn e he
  rcases jaD txn e.inn with hm | ⟨pr, m, s, po, dK, yI⟩
  ·have r2 : (Instr.lookup 204 (.map (some e.blk)) (V txn) false).run Tryz.prog w = .ok (V 0) w := U2 Tryz.underlying204 Tryz.underlying2 hi (XI hm) (Tryz.zeroValue2 _) false
   rw [ja6 h hp hm];clear h hp hr hm hi he
   go_enter Tryz.func176, Tryz.ntmps176
   go_wp2;go_ret;exact ⟨rfl, rfl⟩
  ·have r2 : (Instr.lookup 204 (.map (some e.blk)) (V txn) false).run Tryz.prog w = .ok (V m) w := UI (pre := pr.map ikv) (post := po.map ikv) (b := s) Tryz.underlying204 Tryz.underlying2 (by rw [dK, WK] at hi; exact hi) (XI yI) false
   have iZ := jgb h hp hr he (x := (txn, m, s)) (by rw [dK]; exact List.mem_append_right _ List.mem_cons_self);dsimp only at iZ;rw [iZ];clear h hp hr yI hi he dK iZ
   go_enter Tryz.func176, Tryz.ntmps176
   go_wp2;go_ret;exact ⟨rfl, rfl⟩
def UF (txn : Int) : List KV → Int
 | [] => 0
 | e :: r => if e.1 = txn then UF txn r else max (intOf e.2.1) (UF txn r)
theorem jcH (txn : Int) {l l' : List KV} (h : l.Perm l') : UF txn l = UF txn l' := by
 induction h with
 | nil => rfl
 | cons x _ ih => simp only [UF, ih]
 | swap x y l =>
  simp only [UF]
  split <;> split <;> first | rfl | omega
 | trans _ _ h1 h2 => exact h1.trans h2
theorem Yc (txn : Int) : ∀ l : List IE, (∀ x ∈ l, 0 ≤ x.2.1) → 0 ≤ UF txn (l.map ikv) ∧ (∀ x ∈ l, x.1 ≠ txn → x.2.1 ≤ UF txn (l.map ikv)) ∧ (UF txn (l.map ikv) = 0 ∨ ∃ x ∈ l, x.1 ≠ txn ∧ x.2.1 = UF txn (l.map ikv))
 | [], _ => ⟨by simp [UF], fun _ h => by simp at h, .inl rfl⟩
 | e :: r, h => by
  obtain ⟨h1, h2, h3⟩ := Yc txn r (fun x hx => h x (List.mem_cons_of_mem _ hx));have h0 := h e List.mem_cons_self
  have hd : UF txn ((e :: r).map ikv) = if e.1 = txn then UF txn (r.map ikv) else max e.2.1 (UF txn (r.map ikv)) := rfl
  rw [hd]
  by_cases he : e.1 = txn
  ·rw [if_pos he]
   refine ⟨h1, fun x hx hn => ?_, ?_⟩
   ·rcases List.mem_cons.1 hx with rfl | hx
    ·exact absurd he hn
    ·exact h2 x hx hn
   ·rcases h3 with h3 | ⟨x, hx, h4, h5⟩
    ·exact .inl h3
    ·exact .inr ⟨x, List.mem_cons_of_mem _ hx, h4, h5⟩
  ·rw [if_neg he]
   refine ⟨by omega, fun x hx hn => ?_, ?_⟩
   ·rcases List.mem_cons.1 hx with rfl | hx
    ·omega
    ·have := h2 x hx hn; omega
   ·by_cases hg : UF txn (r.map ikv) ≤ e.2.1
    ·exact .inr ⟨e, List.mem_cons_self, he, by omega⟩
    ·rcases h3 with h3 | ⟨x, hx, h4, h5⟩
     ·omega
     ·exact .inr ⟨x, List.mem_cons_of_mem _ hx, h4, by omega⟩
theorem je9 {w : World} {b0 B ck : Nat} {pre post : List TE} {e : TE} {ls : List T3} (h : Tab w b0 B (pre ++ e :: post) ck) (hp : (Uh (pre ++ e :: post)).Perm ls) (hg : ∀ l ∈ ls, 1 ≤ l.2.2) (txn : Int) :
  UF txn (e.inn.map ikv) = T9 txn e.id 0 ls := by
 have dK : ∀ x ∈ e.inn, ((e.id, x.1, x.2.1) : T3) ∈ ls := fun x hx => hp.mem_iff.1 (Vr.2 ⟨e, List.mem_append_right _ List.mem_cons_self, rfl, x, hx, rfl, rfl⟩);obtain ⟨h1, h2, h3⟩ := Yc txn e.inn (fun x hx => by have := hg _ (dK x hx); dsimp only at this; omega);obtain ⟨g1, g2, g3⟩ := U1 txn e.id ls 0
 have a1 : UF txn (e.inn.map ikv) ≤ T9 txn e.id 0 ls := by
  rcases h3 with h3 | ⟨x, hx, h4, h5⟩
  ·omega
  ·have := g2 _ (dK x hx) rfl h4
   dsimp only at this;omega
 have a2 : T9 txn e.id 0 ls ≤ UF txn (e.inn.map ikv) := by
  rcases g3 with g3 | ⟨l, hl, h4, h5, h6⟩
  ·omega
  ·obtain ⟨y, hy, h7, x, hx, h8, h9⟩ := Vr.1 (hp.mem_iff.2 hl)
   have : y = e := by
    rcases List.mem_append.1 hy with q | q
    ·exact absurd (h7.trans h4) (h.once y (List.mem_append_left _ q))
    ·rcases List.mem_cons.1 q with q | q
     ·exact q
     ·exact absurd (h7.trans h4) (h.once y (List.mem_append_right _ q))
   subst this;have := h2 x hx (by rw [h8]; exact h5);omega
 omega
theorem jcI {tt : List TE} {ls : List T3} (hp : (Uh tt).Perm ls) {txn id : Int} (hm : ∀ e ∈ tt, e.id ≠ id) : T9 txn id 0 ls = 0 := by
 obtain ⟨g1, g2, g3⟩ := U1 txn id ls 0
 rcases g3 with g3 | ⟨l, hl, h4, _⟩
 ·exact g3
 ·obtain ⟨y, hy, h7, _⟩ := Vr.1 (hp.mem_iff.2 hl)
  exact absurd (h7.trans h4) (hm y hy)
theorem Yd (w : World) (b0 B ck : Nat) (tt : List TE) (ls : List T3) (txn id : Int) (h : Tab w b0 B tt ck) (hp : (Uh tt).Perm ls) (hg : ∀ l ∈ ls, 1 ≤ l.2.2) :
  Calls Tryz.prog 143 #[.map (some B), V txn, V id] w fun e w' => e = .returned (V (T9 txn id 0 ls)) ∧ Same w w' := by
 rcases jaC id tt with hm | ⟨pre, e, post, rfl, pJ, cG⟩
 ·have r1 : (Instr.lookup 90 (.map (some B)) (V id) false).run Tryz.prog w = .ok (.map none) w := U2 Tryz.underlying90 Tryz.underlying2 h.out (Ww hm) (Tryz.zeroValue204 _) false
  rw [jcI hp hm];have r2 := run_range_nilMap (P := Tryz.prog) w 204 _ _ Tryz.underlying204;have r3 : (Instr.next (.pointer (some ⟨w.heap.size, 0, none⟩)) false 0).run Tryz.prog (w.alloc (.mapIter none 0 #[] 0)) = .ok (.tuple #[.bool false]) (w.alloc (.mapIter none 0 #[] 0)) := run_next_nilMap _ 0 0 0 #[];clear h hp hg hm
  go_enter Tryz.func143, Tryz.ntmps143
  go_wp2;refine wp_loop_rounds 1 ?_;rw [rounds_succ];go_wp2;go_ret;exact ⟨rfl, kZ0.alloc _⟩
 ·subst pJ
  have r1 : (Instr.lookup 90 (.map (some B)) (V e.id) false).run Tryz.prog w = .ok (.map (some e.blk)) w := UI (pre := pre.map TE.kv) (post := post.map TE.kv) (b := e.st) Tryz.underlying90 Tryz.underlying2 (by have h := h.out; rw [Zg] at h; exact h) (Ww cG) false;have he : e ∈ pre ++ e :: post := List.mem_append_right _ List.mem_cons_self;have bw := h.inn e he;have hk := h.iok e he
  have mE : Hid (∀ x ∈ e.inn, 0 ≤ x.2.1) := fun x hx => by
   have := hg (e.id, x.1, x.2.1) (hp.mem_iff.1 (Vr.2 ⟨e, he, rfl, x, hx, rfl, rfl⟩));dsimp only at this;omega
  rw [← je9 h hp hg txn];have r2 := run_range_map (P := Tryz.prog) (T := 204) Tryz.underlying204 bw;have H2 := hid bw;have HN := hid hk;clear h hp hg cG he bw hk;generalize e.inn = inn at H2 HN mE ⊢;generalize e.ck = ck at *;generalize e.blk = B' at *;generalize e.id = id at *;clear pre post e
  go_enter Tryz.func143, Tryz.ntmps143
  go_wp2_with fail
  obtain ⟨r, hr⟩ : ∃ r, w.heap.size = r := ⟨_, rfl⟩;have hit : IterB (w.alloc (.mapIter (some B') ck #[] ck)) r B' ck #[] ck := hr ▸ IterB.new w B' ck;have GA : MapB (w.alloc (.mapIter (some B') ck #[] ck)) B' (inn.map ikv) ck := H2.out.same (kZ0.alloc _);have HS := (show Hid (Same w (w.alloc (.mapIter (some B') ck #[] ck))) from kZ0.alloc _)
  have Ay : w.heap.size ≤ r := by omega
  clear r1 r2 H2;rw [hr];generalize (w.alloc (.mapIter (some B') ck #[] ck)) = w3 at hit GA HS ⊢
  go_loopw [7] (fun m wr => ∃ (mo : Int) (seen : Array Nat), m = V mo ∧ Hid (IterB wr r B' ck seen ck) ∧ Hid (MapB wr B' (inn.map ikv) ck) ∧ 0 ≤ mo ∧ Hid (max mo (UF txn (Ut (inn.map ikv) seen)) = UF txn (inn.map ikv)) ∧ Hid (Same w wr)) (fun _ wr => jbt wr r B')
  case atStart => exact ⟨0, #[], rfl, hid hit, hid GA, Int.le_refl _, hid (by rw [jaB]; have := (Yc txn inn mE.out).1; omega), HS⟩
  case round =>
   obtain ⟨mo, seen, rfl, HI, HM, PT, HX, cu⟩ := hrel;clear hit GA HS;have az := VF HI.out HM.out
   rcases Xa (P := Tryz.prog) (ty := 0) HI.out HM.out HN.out.lt (Nat.le_refl _) with ⟨h0, dh⟩ | ⟨e, he, w1, hw, dh⟩
   ·have hx := HX.out
    rw [h0] at hx;simp only [UF] at hx;have HE := (show Hid (mo = UF txn (inn.map ikv)) from by unfold Hid; rw [← hx]; omega);clear hx HX;go_wp2;go_ret;exact ⟨by rw [← HE.out]; rfl, cu.out⟩
   ·obtain ⟨g1, g2, g3⟩ := XH (e := e) HI.out HM.out hw
    have xE := Wv (P := Tryz.prog) g1 g2 (mem_left he) HN.out;obtain ⟨⟨t, mm, s⟩, Mk, I5⟩ := List.mem_map.1 (mem_left he);have aG := Xb HN.out.stamps he;have jt := VF g1 g2;have hp := jcH txn (ZU HN.out.stamps he);rw [UF] at hp;subst I5;dsimp only [ikv, intOf] at hp dh xE aG jt g1 g2 g3;have JI := mE.out _ Mk;dsimp only at JI;have G1 := hid g1;have G2 := hid g2;have G3 := hid (cu.out.next g3 (fun i hi e' => by omega));clear g1 g2 g3 hw he Mk;generalize setIt w1 r B' ck (seen.push s) ck = w4 at *
    by_cases hq : t = txn
    ·subst hq
     replace hp : UF t (Ut (inn.map ikv) seen) = UF t (Ut (inn.map ikv) (seen.push s)) := hp.trans (if_pos rfl)
     go_wp2_with fail
     refine ⟨⟨_, seen.push s, rfl, G1, G2, PT, hid ?_, G3⟩, by omega⟩;have := HX.out;omega
    ·replace hp : UF txn (Ut (inn.map ikv) seen) = max mm (UF txn (Ut (inn.map ikv) (seen.push s))) := hp.trans (if_neg hq)
     go_wp2_with fail
     refine ⟨⟨_, seen.push s, rfl, G1, G2, (by first | omega | (split <;> omega)), hid ?_, G3⟩, by omega⟩;have := HX.out
     split <;> omega
def jfa (tt : List TE) (v : Value) : Nat :=
 match v with
 | .map (some b) => match tt.find? (fun e => e.blk == b) with | some e => e.inn.length | none => 0
 | _ => 0
def YB (g : Value → Nat) : List KV → Nat
 | [] => 0
 | e :: r => g e.2.1 + YB g r
theorem jdR (g : Value → Nat) {l l' : List KV} (h : l.Perm l') : YB g l = YB g l' := by
 induction h with
 | nil => rfl
 | cons x _ ih => simp only [YB, ih]
 | swap x y l => simp only [YB]; omega
 | trans _ _ h1 h2 => exact h1.trans h2
theorem jeG {tt : List TE} (hn : (tt.map TE.blk).Nodup) {e : TE} (he : e ∈ tt) : jfa tt (.map (some e.blk)) = e.inn.length := by
 have : tt.find? (fun y => y.blk == e.blk) = some e := by
  induction tt with
  | nil => simp at he
  | cons y r ih =>
   rw [List.map_cons, List.nodup_cons] at hn
   by_cases hy : y.blk = e.blk
   ·have : y = e := by
     rcases List.mem_cons.1 he with h | h
     ·exact h.symm
     ·exact absurd (List.mem_map_of_mem (f := TE.blk) h) (by rw [← hy]; exact hn.1)
    rw [List.find?_cons_of_pos (by simp [hy]), this]
   ·have Eh : e ∈ r := by
     rcases List.mem_cons.1 he with h | h
     ·exact absurd (congrArg TE.blk h.symm) hy
     ·exact h
    rw [List.find?_cons_of_neg (by simpa using hy)];exact ih hn.2 Eh
 simp only [jfa, this]
theorem jaF (T : List TE) (hn : (T.map TE.blk).Nodup) : ∀ tt : List TE, (∀ e ∈ tt, e ∈ T) → YB (jfa T) (tt.map TE.kv) = (Uh tt).length
 | [], _ => rfl
 | e :: r, h => by
  rw [List.map_cons, YB, Uh, List.length_append, jaF T hn r (fun x hx => h x (List.mem_cons_of_mem _ hx))]
  show jfa T (.map (some e.blk)) + _ = _
  rw [jeG hn (h e List.mem_cons_self)];simp [TE.ls]
theorem jdS (w : World) (b0 B ck : Nat) (tt : List TE) (h : Tab w b0 B tt ck) (hl : (Uh tt).length ≤ 1000000) :
  Calls Tryz.prog 177 #[.map (some B)] w fun e w' => e = .returned (V ((Uh tt).length : Nat)) ∧ Same w w' := by
 have HT := hid h;have hN := hid (jaF tt h.blks tt (fun e h => h));have r2 := run_range_map (P := Tryz.prog) (T := 90) Tryz.underlying90 h.out;clear h;generalize (Uh tt).length = N at hN hl ⊢
 go_enter Tryz.func177, Tryz.ntmps177
 go_wp2_with fail
 obtain ⟨r, hr⟩ : ∃ r, w.heap.size = r := ⟨_, rfl⟩;have hit : IterB (w.alloc (.mapIter (some B) ck #[] ck)) r B ck #[] ck := hr ▸ IterB.new w B ck;have HS := (show Hid (Same w (w.alloc (.mapIter (some B) ck #[] ck))) from kZ0.alloc _)
 have Ay : w.heap.size ≤ r := by omega
 clear r2;rw [hr];generalize (w.alloc (.mapIter (some B) ck #[] ck)) = w3 at hit HS ⊢
 go_loopw [3] (fun m wr => ∃ (mo : Nat) (seen : Array Nat), m = V (mo : Int) ∧ Hid (IterB wr r B ck seen ck) ∧ mo + YB (jfa tt) (Ut (tt.map TE.kv) seen) = N ∧ Hid (Same w wr)) (fun _ wr => jbt wr r B)
 case atStart => exact ⟨0, #[], rfl, hid hit, (by rw [jaB, hN.out]; omega), HS⟩
 case round =>
  obtain ⟨mo, seen, rfl, HI, hX, cu⟩ := hrel;clear hit HS;have iQ := hid (HT.out.same cu.out);have az := VF HI.out iQ.out.out
  rcases Xa (P := Tryz.prog) (ty := 0) HI.out iQ.out.out iQ.out.ok.lt (Nat.le_refl _) with ⟨h0, dh⟩ | ⟨e, he, w1, hw, dh⟩
  ·rw [h0] at hX
   have iZ : mo = N := by simpa [YB] using hX
   subst iZ;go_wp2;go_ret;exact ⟨rfl, cu.out⟩
  ·obtain ⟨g1, g2, g3⟩ := XH (e := e) HI.out iQ.out.out hw
   have xE := Wv (P := Tryz.prog) g1 g2 (mem_left he) iQ.out.ok;obtain ⟨te, qF, rfl⟩ := List.mem_map.1 (mem_left he);have aG := Xb iQ.out.ok.stamps he;have jt := VF g1 g2;have hp := jdR (jfa tt) (ZU iQ.out.ok.stamps he);rw [YB] at hp;have dK := jeG HT.out.blks qF;have my := (iQ.out.inn te qF).kept g3 (fun e' => HI.out.ne (iQ.out.inn te qF) e');have dW := run_len_map (P := Tryz.prog) (T := 204) (ty := 3) my Tryz.underlying204;dsimp only [TE.kv] at hp dh xE aG jt g1 g2 g3 dW my;rw [dK] at hp;rw [List.length_map] at dW;have G1 := hid g1;have G3 := hid (cu.out.next g3 (fun i hi e' => by omega));clear g1 g2 g3 hw he my;generalize setIt w1 r B ck (seen.push te.st) ck = w4 at *;generalize te.inn.length = k at *
   have x8 : mo + k ≤ N := by omega
   go_wp2_with fail
   refine ⟨⟨mo + k, seen.push te.st, by go_num, G1, by omega, G3⟩, by omega⟩
def Yr (txn : Int) (l : T3) : Bool := decide (l.2.1 ≠ txn)
theorem jcJ (pre post : List KV) (e : KV) (seen : Array Nat) : Ut (pre ++ e :: post) (seen.push e.2.2) = Ut (pre ++ post) (seen.push e.2.2) := by
 unfold Ut;rw [List.filter_append, List.filter_append, List.filter_cons_of_neg (by simp)]
structure FInv (txn : Int) (qZ tt : List TE) (seen : Array Nat) : Prop where
 rest : ((Uh tt).filter (Yr txn)).Perm ((Uh qZ).filter (Yr txn))
 clean : ∀ e ∈ tt, seen.contains e.st = true → ∀ x ∈ e.inn, x.1 ≠ txn
theorem FInv.start (txn : Int) (tt : List TE) : FInv txn tt tt #[] := ⟨List.Perm.refl _, fun e _ h => by simp at h⟩
theorem FInv.done {txn : Int} {qZ tt : List TE} {seen : Array Nat} (h : FInv txn qZ tt seen) (hl : Ut (tt.map TE.kv) seen = []) : (Uh tt).Perm ((Uh qZ).filter (Yr txn)) := by
 have : (Uh tt).filter (Yr txn) = Uh tt := by
  rw [List.filter_eq_self];intro l M8;obtain ⟨e, he, _, x, hx, h2, _⟩ := Vr.1 M8
  have hs : seen.contains e.st = true := by
   unfold Ut at hl;rw [List.filter_eq_nil_iff] at hl;have := hl e.kv (List.mem_map_of_mem he)
   simpa [TE.kv] using this
  have := h.clean e he hs x hx;unfold Yr;rw [← h2]
  simpa using this
 rw [← this];exact h.rest
theorem jfb {txn : Int} {e : TE} {cZ : List IE} {ck' : Nat} (h : cZ.filter (fun x => decide (x.1 ≠ txn)) = e.inn.filter (fun x => decide (x.1 ≠ txn))) : ((TE.ls { e with inn := cZ, ck := ck' }).filter (Yr txn)) = e.ls.filter (Yr txn) := by
 unfold TE.ls Yr;rw [List.filter_map, List.filter_map];dsimp only [Function.comp_def];have := congrArg (List.map fun x : IE => ((e.id, x.1, x.2.1) : T3)) h;exact this
theorem FInv.turn {w : World} {b0 B ck : Nat} {txn : Int} {qZ pre post : List TE} {e : TE} {seen : Array Nat} (h : FInv txn qZ (pre ++ e :: post) seen) (ht : Tab w b0 B (pre ++ e :: post) ck) {cZ : List IE} {ck' : Nat}
  (hf : cZ.filter (fun x => decide (x.1 ≠ txn)) = e.inn.filter (fun x => decide (x.1 ≠ txn))) (hc : ∀ x ∈ cZ, x.1 ≠ txn) : FInv txn qZ (pre ++ { e with inn := cZ, ck := ck' } :: post) (seen.push e.st) := by
 have dm : ∀ y ∈ pre ++ post, y.st ≠ e.st := by
  have hn := ht.ok.stamps;rw [List.map_map, List.map_append, List.map_cons] at hn;obtain ⟨h1, h2, h3⟩ := List.nodup_append.1 hn;intro y hy
  rcases List.mem_append.1 hy with hy | hy
  ·exact h3 _ (List.mem_map_of_mem hy) _ List.mem_cons_self
  ·intro e'
   have h4 := List.mem_map_of_mem (f := (fun x : KV => x.2.2) ∘ TE.kv) hy;rw [show ((fun x : KV => x.2.2) ∘ TE.kv) y = y.st from rfl, e'] at h4;exact (List.nodup_cons.1 h2).1 h4
 constructor
 ·refine .trans ?_ h.rest
  refine ((VG pre post _).filter _).trans (.trans ?_ ((VG pre post e).filter _).symm);rw [List.filter_append, List.filter_append, jfb hf]
 ·intro y hy hs
  rcases List.mem_append.1 hy with rA | rA
  ·have bl := dm y (List.mem_append_left _ rA)
   refine h.clean y (List.mem_append_left _ rA) ?_;simp only [Array.contains_push, Bool.or_eq_true, beq_iff_eq] at hs;exact hs.resolve_right bl
  ·rcases List.mem_cons.1 rA with rfl | rA
   ·exact hc
   ·have bl := dm y (List.mem_append_right _ rA)
    refine h.clean y (List.mem_append_right _ (List.mem_cons_of_mem _ rA)) ?_;simp only [Array.contains_push, Bool.or_eq_true, beq_iff_eq] at hs;exact hs.resolve_right bl
theorem FInv.drop {txn : Int} {qZ pre post : List TE} {e : TE} {seen : Array Nat} (h : FInv txn qZ (pre ++ e :: post) seen) (he : e.inn = []) : FInv txn qZ (pre ++ post) seen := by
 constructor
 ·refine .trans ?_ h.rest
  refine .trans ?_ ((VG pre post e).filter _).symm;rw [show e.ls = [] by unfold TE.ls; rw [he]; rfl, List.nil_append]
 ·intro y hy hs
  refine h.clean y ?_ hs
  rcases List.mem_append.1 hy with hy | hy
  ·exact List.mem_append_left _ hy
  ·exact List.mem_append_right _ (List.mem_cons_of_mem _ hy)
theorem IterB.kept {R : Nat → Prop} {w w' : World} {r B since c0 : Nat} {seen : Array Nat} (h : IterB w r B since seen c0) (hk : Kept R w w') (hr : ¬ R r) : IterB w' r B since seen c0 := hk.heap h hr
end Go.Proofs.YtljfcdkhicffcaaGreat
