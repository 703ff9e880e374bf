/-
  The program's table of locks: a map of maps, and what it holds.
-/
import Derived.Test.YtagcefbnhpkdiabMapW
import Derived.Test.YtagcefbnhpkdiabLocksMath
namespace Go.Proofs.Ytagcefbnhpkdiab
set_option maxRecDepth 100000
set_option maxHeartbeats 4000000
open Go Go.RowKit Go.MapKept
set_option linter.unusedVariables false
set_option linter.unusedSimpArgs false

/-- transaction, mode, stamp -/
abbrev IE := Int × Int × Nat
structure TE where
  id : Int
  blk : Nat
  st : Nat
  inn : List IE
  ck : Nat
def TE.kv (e : TE) : KV := (e.id, .map (some e.blk), e.st)
def ikv (x : IE) : KV := (x.1, .int .i64 x.2.1, x.2.2)
def TE.ls (e : TE) : List T3 := e.inn.map fun x => (e.id, x.1, x.2.1)
/-- what the table holds -/
def cont : List TE → List T3
  | [] => []
  | e :: r => e.ls ++ cont r
theorem cont_append : ∀ a b : List TE, cont (a ++ b) = cont a ++ cont b
  | [], b => rfl
  | e :: r, b => by simp [cont, cont_append r b]
theorem mem_cont {l : T3} : ∀ {tt : List TE}, l ∈ cont tt ↔ ∃ e ∈ tt, e.id = l.1 ∧ ∃ x ∈ e.inn, x.1 = l.2.1 ∧ x.2.1 = l.2.2
  | [] => by simp [cont]
  | e :: r => by
    rw [cont, List.mem_append, mem_cont (tt := r)]
    constructor
    · rintro (h | ⟨e', he, h⟩)
      · obtain ⟨x, hx, rfl⟩ := List.mem_map.1 h
        exact ⟨e, List.mem_cons_self, rfl, x, hx, rfl, rfl⟩
      · exact ⟨e', List.mem_cons_of_mem _ he, h⟩
    · rintro ⟨e', he, h1, x, hx, h2, h3⟩
      rcases List.mem_cons.1 he with rfl | he
      · refine .inl (List.mem_map.2 ⟨x, hx, ?_⟩)
        rw [h1, h2, h3]
      · exact .inr ⟨e', he, h1, x, hx, h2, h3⟩
/-- no id without holders -/
def Full (tt : List TE) : Prop := ∀ e ∈ tt, e.inn ≠ []
theorem Full.mid {pre post : List TE} {e e' : TE} (h : Full (pre ++ e :: post)) (he : e'.inn ≠ []) : Full (pre ++ e' :: post) := fun y hy => by
  rcases List.mem_append.1 hy with hy | hy
  · exact h y (List.mem_append_left _ hy)
  · rcases List.mem_cons.1 hy with rfl | hy
    · exact he
    · exact h y (List.mem_append_right _ (List.mem_cons_of_mem _ hy))
theorem Full.snoc {tt : List TE} {e : TE} (h : Full tt) (he : e.inn ≠ []) : Full (tt ++ [e]) := fun y hy => by
  rcases List.mem_append.1 hy with hy | hy
  · exact h y hy
  · rw [List.mem_singleton.1 hy]; exact he
/-- the table in memory: all its blocks at b0 or behind it -/
structure Tab (w : World) (b0 B : Nat) (tt : List TE) (ck : Nat) : Prop where
  out : MapB w B (tt.map TE.kv) ck
  ok : KVok (tt.map TE.kv) ck
  inn : ∀ e ∈ tt, MapB w e.blk (e.inn.map ikv) e.ck
  iok : ∀ e ∈ tt, KVok (e.inn.map ikv) e.ck
  low : b0 ≤ B
  lows : ∀ e ∈ tt, b0 ≤ e.blk
  blks : (tt.map TE.blk).Nodup
  ne : ∀ e ∈ tt, e.blk ≠ B
theorem Tab.kept {R : Nat → Prop} {w w' : World} {b0 B ck : Nat} {tt : List TE} (h : Tab w b0 B tt ck) (hk : Kept R w w') (hB : ¬ R B) (hi : ∀ e ∈ tt, ¬ R e.blk) : Tab w' b0 B tt ck :=
  ⟨h.out.kept hk hB, h.ok, fun e he => (h.inn e he).kept hk (hi e he), h.iok, h.low, h.lows, h.blks, h.ne⟩
theorem Tab.same {w w' : World} {b0 B ck : Nat} {tt : List TE} (h : Tab w b0 B tt ck) (hk : Same w w') : Tab w' b0 B tt ck := h.kept hk id (fun _ _ => id)
theorem Tab.new (w : World) : Tab (w.alloc (.map #[] 0)) w.heap.size w.heap.size [] 0 :=
  ⟨MapB.new w, KVok.nil 0, fun _ h => by simp at h, fun _ h => by simp at h, Nat.le_refl _, fun _ h => by simp at h, by simp, fun _ h => by simp at h⟩
theorem te_cases (id : Int) (tt : List TE) : (∀ e ∈ tt, e.id ≠ id) ∨ ∃ pre e post, tt = pre ++ e :: post ∧ e.id = id ∧ ∀ y ∈ pre, y.id ≠ id := by
  induction tt with
  | nil => exact .inl (fun _ h => by simp at h)
  | cons e r ih =>
    by_cases h : e.id = id
    · exact .inr ⟨[], e, r, rfl, h, fun _ h => by simp at h⟩
    · rcases ih with ih | ⟨pre, e', post, rfl, he, hp⟩
      · exact .inl (fun y hy => by rcases List.mem_cons.1 hy with rfl | hy; exact h; exact ih y hy)
      · exact .inr ⟨e :: pre, e', post, rfl, he, fun y hy => by rcases List.mem_cons.1 hy with rfl | hy; exact h; exact hp y hy⟩
theorem ie_cases (txn : Int) (l : List IE) : (∀ e ∈ l, e.1 ≠ txn) ∨ ∃ pre m s post, l = pre ++ (txn, m, s) :: post ∧ ∀ y ∈ pre, y.1 ≠ txn := by
  induction l with
  | nil => exact .inl (fun _ h => by simp at h)
  | cons e r ih =>
    by_cases h : e.1 = txn
    · obtain ⟨t, m, s⟩ := e
      dsimp only at h
      subst h
      exact .inr ⟨[], m, s, r, rfl, fun _ h => by simp at h⟩
    · rcases ih with ih | ⟨pre, m, s, post, rfl, hp⟩
      · exact .inl (fun y hy => by rcases List.mem_cons.1 hy with rfl | hy; exact h; exact ih y hy)
      · exact .inr ⟨e :: pre, m, s, post, rfl, fun y hy => by rcases List.mem_cons.1 hy with rfl | hy; exact h; exact hp y hy⟩
/-- ids stand once -/
theorem Tab.once {w : World} {b0 B ck : Nat} {pre post : List TE} {e : TE} (h : Tab w b0 B (pre ++ e :: post) ck) : ∀ y ∈ pre ++ post, y.id ≠ e.id := by
  have hk := h.ok
  rw [List.map_append, List.map_cons, show e.kv = (e.id, .map (some e.blk), e.st) from rfl] at hk
  intro y hy
  refine hk.others y.kv ?_
  rw [← List.map_append]
  exact List.mem_map_of_mem hy
theorem Tab.twice {w : World} {b0 B ck : Nat} {pre post : List TE} {e : TE} (h : Tab w b0 B (pre ++ e :: post) ck) : ∀ y ∈ pre ++ post, y.blk ≠ e.blk := by
  have hn := h.blks
  rw [List.map_append, List.map_cons] at hn
  obtain ⟨h1, h2, h3⟩ := List.nodup_append.1 hn
  intro y hy
  rcases List.mem_append.1 hy with hy | hy
  · exact h3 y.blk (List.mem_map_of_mem hy) e.blk List.mem_cons_self
  · intro e'
    have h4 : y.blk ∈ post.map TE.blk := List.mem_map_of_mem hy
    rw [e'] at h4
    exact (List.nodup_cons.1 h2).1 h4
/-- one id's holders are changed in place -/
theorem Tab.inner {w w' : World} {b0 B ck : Nat} {pre post : List TE} {e e' : TE} (h : Tab w b0 B (pre ++ e :: post) ck) (hid : e'.id = e.id) (hb : e'.blk = e.blk) (hs : e'.st = e.st)
    (hm : MapB w' e.blk (e'.inn.map ikv) e'.ck) (hk : KVok (e'.inn.map ikv) e'.ck) (hw : Kept (fun b => b = e.blk) w w') : Tab w' b0 B (pre ++ e' :: post) ck := by
  have hkv : (pre ++ e' :: post).map TE.kv = (pre ++ e :: post).map TE.kv := by
    rw [List.map_append, List.map_append, List.map_cons, List.map_cons, show e'.kv = e.kv by unfold TE.kv; rw [hid, hb, hs]]
  have hin : ∀ y ∈ pre ++ e' :: post, y = e' ∨ y ∈ pre ++ post := fun y hy => by
    rcases List.mem_append.1 hy with hy | hy
    · exact .inr (List.mem_append_left _ hy)
    · rcases List.mem_cons.1 hy with hy | hy
      · exact .inl hy
      · exact .inr (List.mem_append_right _ hy)
  have hold : ∀ y ∈ pre ++ post, y ∈ pre ++ e :: post := fun y hy => by
    rcases List.mem_append.1 hy with hy | hy
    · exact List.mem_append_left _ hy
    · exact List.mem_append_right _ (List.mem_cons_of_mem _ hy)
  have he : e ∈ pre ++ e :: post := List.mem_append_right _ List.mem_cons_self
  refine ⟨?_, ?_, ?_, ?_, h.low, ?_, ?_, ?_⟩
  · rw [hkv]; exact h.out.kept hw (fun e1 => h.ne e he e1.symm)
  · rw [hkv]; exact h.ok
  · intro y hy
    rcases hin y hy with rfl | hy
    · rw [hb]; exact hm
    · exact (h.inn y (hold y hy)).kept hw (h.twice y hy)
  · intro y hy
    rcases hin y hy with rfl | hy
    · exact hk
    · exact h.iok y (hold y hy)
  · intro y hy
    rcases hin y hy with rfl | hy
    · rw [hb]; exact h.lows e he
    · exact h.lows y (hold y hy)
  · have : (pre ++ e' :: post).map TE.blk = (pre ++ e :: post).map TE.blk := by
      rw [List.map_append, List.map_append, List.map_cons, List.map_cons, hb]
    rw [this]; exact h.blks
  · intro y hy
    rcases hin y hy with rfl | hy
    · rw [hb]; exact h.ne e he
    · exact h.ne y (hold y hy)
/-- a new id, its holders in a block of their own -/
theorem Tab.snoc {w w' : World} {b0 B ck nb : Nat} {tt : List TE} {id : Int} (h : Tab w b0 B tt ck) (hp : ∀ e ∈ tt, e.id ≠ id) (hnb : MapB w nb [] 0) (hne : nb ≠ B) (hnew : ∀ e ∈ tt, e.blk ≠ nb) (hlow : b0 ≤ nb)
    (hm : MapB w' B ((tt ++ [(⟨id, nb, ck, [], 0⟩ : TE)]).map TE.kv) (ck + 1)) (hw : Kept (fun b => b = B) w w') : Tab w' b0 B (tt ++ [⟨id, nb, ck, [], 0⟩]) (ck + 1) := by
  refine ⟨hm, ?_, ?_, ?_, h.low, ?_, ?_, ?_⟩
  · rw [List.map_append]
    exact h.ok.snoc (fun y hy => by
      obtain ⟨e, he, rfl⟩ := List.mem_map.1 hy
      exact hp e he)
  · intro y hy
    rcases List.mem_append.1 hy with hy | hy
    · exact (h.inn y hy).kept hw (h.ne y hy)
    · rw [List.mem_singleton.1 hy]
      exact hnb.kept hw hne
  · intro y hy
    rcases List.mem_append.1 hy with hy | hy
    · exact h.iok y hy
    · rw [List.mem_singleton.1 hy]
      exact KVok.nil 0
  · intro y hy
    rcases List.mem_append.1 hy with hy | hy
    · exact h.lows y hy
    · rw [List.mem_singleton.1 hy]; exact hlow
  · rw [List.map_append]
    refine List.nodup_append.2 ⟨h.blks, by simp, fun a ha b hb => ?_⟩
    obtain ⟨e, he, rfl⟩ := List.mem_map.1 ha
    have : b = nb := by simpa using hb
    rw [this]
    exact hnew e he
  · intro y hy
    rcases List.mem_append.1 hy with hy | hy
    · exact h.ne y hy
    · rw [List.mem_singleton.1 hy]; exact hne
/-- an id is taken out -/
theorem Tab.drop {w w' : World} {b0 B ck : Nat} {pre post : List TE} {e : TE} (h : Tab w b0 B (pre ++ e :: post) ck) (hm : MapB w' B ((pre ++ post).map TE.kv) ck) (hw : Kept (fun b => b = B) w w') : Tab w' b0 B (pre ++ post) ck := by
  have hold : ∀ y ∈ pre ++ post, y ∈ pre ++ e :: post := fun y hy => by
    rcases List.mem_append.1 hy with hy | hy
    · exact List.mem_append_left _ hy
    · exact List.mem_append_right _ (List.mem_cons_of_mem _ hy)
  have hk := h.ok
  rw [List.map_append, List.map_cons, show e.kv = (e.id, .map (some e.blk), e.st) from rfl] at hk
  refine ⟨hm, ?_, fun y hy => (h.inn y (hold y hy)).kept hw (h.ne y (hold y hy)), fun y hy => h.iok y (hold y hy), h.low, fun y hy => h.lows y (hold y hy), ?_, fun y hy => h.ne y (hold y hy)⟩
  · rw [List.map_append]; exact hk.drop
  · have hs : (pre ++ post).Sublist (pre ++ e :: post) := List.Sublist.append_left (List.sublist_cons_self _ _) _
    exact (hs.map _).nodup h.blks
/-- no key twice -/
def keyB (l : T3) (x : T3) : Bool := decide (x.1 = l.1) && decide (x.2.1 = l.2.1)
theorem filter_mid {α : Type} {f : α → Bool} {pre post : List α} {a : α} (hp : ∀ x ∈ pre, f x = true) (hq : ∀ x ∈ post, f x = true) (ha : f a = false) : (pre ++ a :: post).filter f = pre ++ post := by
  rw [List.filter_append, List.filter_cons_of_neg (by rw [ha]; simp), List.filter_eq_self.2 hp, List.filter_eq_self.2 hq]
theorem IE.once {ck : Nat} {pre post : List IE} {t m : Int} {s : Nat} (h : KVok ((pre ++ (t, m, s) :: post).map ikv) ck) : ∀ y ∈ pre ++ post, y.1 ≠ t := by
  rw [List.map_append, List.map_cons, show ikv (t, m, s) = (t, .int .i64 m, s) from rfl] at h
  intro y hy
  refine h.others (ikv y) ?_
  rw [← List.map_append]
  exact List.mem_map_of_mem hy
/-- the sum of what the ids have -/
theorem cont_mid_perm (pre post : List TE) (e : TE) : (cont (pre ++ e :: post)).Perm (e.ls ++ cont (pre ++ post)) := by
  rw [cont_append, cont_append, cont]
  exact (List.perm_append_comm_assoc _ _ _)
theorem cont_other {w : World} {b0 B ck : Nat} {pre post : List TE} {e : TE} (h : Tab w b0 B (pre ++ e :: post) ck) (l : T3) (hl : l.1 = e.id) : (cont (pre ++ post)).filter (fun x => !keyB l x) = cont (pre ++ post) := by
  rw [List.filter_eq_self]
  intro x hx
  obtain ⟨y, hy, h1, _⟩ := mem_cont.1 hx
  have := h.once y hy
  simp only [keyB, Bool.not_eq_true', Bool.and_eq_false_iff, decide_eq_false_iff_not]
  exact .inl (by rw [← h1, hl]; exact this)
/-- what a put leaves, the id being held -/
theorem put_old {w : World} {b0 B ck : Nat} {pre post : List TE} {e : TE} (h : Tab w b0 B (pre ++ e :: post) ck) {l : T3} (hl : e.id = l.1) {inn' : List IE} {ck' : Nat} (hin : (inn'.map fun x => (e.id, x.1, x.2.1)).Perm (l :: e.ls.filter (fun x => !keyB l x))) :
    (cont (pre ++ { e with inn := inn', ck := ck' } :: post)).Perm (l :: (cont (pre ++ e :: post)).filter (fun x => !keyB l x)) := by
  refine (cont_mid_perm pre post _).trans ?_
  refine .trans ?_ (((cont_mid_perm pre post e).filter _).symm.cons l)
  rw [List.filter_append, cont_other h l hl.symm, ← List.cons_append]
  exact List.Perm.append_right _ hin
theorem put_miss {e : TE} {l : T3} (hl : e.id = l.1) (hp : ∀ x ∈ e.inn, x.1 ≠ l.2.1) (s : Nat) : ((e.inn ++ [(l.2.1, l.2.2, s)]).map fun x => (e.id, x.1, x.2.1)).Perm (l :: e.ls.filter (fun x => !keyB l x)) := by
  have h1 : e.ls.filter (fun x => !keyB l x) = e.ls := by
    rw [List.filter_eq_self]
    intro x hx
    obtain ⟨y, hy, rfl⟩ := List.mem_map.1 hx
    have := hp y hy
    simp only [keyB, Bool.not_eq_true', Bool.and_eq_false_iff, decide_eq_false_iff_not]
    exact .inr this
  rw [h1, List.map_append]
  refine (List.perm_append_comm).trans ?_
  unfold TE.ls
  rw [hl]
  exact List.Perm.refl _
theorem put_hit {e : TE} {l : T3} {ck : Nat} {pre post : List IE} {m : Int} {s : Nat} (hl : e.id = l.1) (he : e.inn = pre ++ (l.2.1, m, s) :: post) (hk : KVok (e.inn.map ikv) ck) : ((pre ++ (l.2.1, l.2.2, s) :: post).map fun x => (e.id, x.1, x.2.1)).Perm (l :: e.ls.filter (fun x => !keyB l x)) := by
  rw [he] at hk
  have ho := IE.once hk
  have h1 : e.ls.filter (fun x => !keyB l x) = (pre ++ post).map fun x => (e.id, x.1, x.2.1) := by
    unfold TE.ls
    rw [he, List.map_append, List.map_cons, List.map_append]
    refine filter_mid ?_ ?_ ?_
    · intro x hx
      obtain ⟨y, hy, rfl⟩ := List.mem_map.1 hx
      simp only [keyB, Bool.not_eq_true', Bool.and_eq_false_iff, decide_eq_false_iff_not]
      exact .inr (ho y (List.mem_append_left _ hy))
    · intro x hx
      obtain ⟨y, hy, rfl⟩ := List.mem_map.1 hx
      simp only [keyB, Bool.not_eq_true', Bool.and_eq_false_iff, decide_eq_false_iff_not]
      exact .inr (ho y (List.mem_append_right _ hy))
    · simp [keyB, hl]
  rw [h1, List.map_append, List.map_cons, List.map_append, hl]
  exact List.perm_middle
/-- what a put leaves, the id being new -/
theorem put_new {tt : List TE} {l : T3} (hp : ∀ e ∈ tt, e.id ≠ l.1) (nb s c : Nat) (i : Nat) : (cont (tt ++ [⟨l.1, nb, s, [(l.2.1, l.2.2, i)], c⟩])).Perm (l :: (cont tt).filter (fun x => !keyB l x)) := by
  have h1 : (cont tt).filter (fun x => !keyB l x) = cont tt := by
    rw [List.filter_eq_self]
    intro x hx
    obtain ⟨y, hy, h1, _⟩ := mem_cont.1 hx
    simp only [keyB, Bool.not_eq_true', Bool.and_eq_false_iff, decide_eq_false_iff_not]
    exact .inl (by rw [← h1]; exact hp y hy)
  rw [h1, cont_append]
  refine (List.perm_append_comm).trans ?_
  exact List.Perm.refl _
/-- two rising lists of the same locks are one -/
theorem rise_eq {a b : List T3} (ha : a.Pairwise ltK) (hb : b.Pairwise ltK) (hp : a.Perm b) : a = b := by
  refine List.Perm.eq_of_pairwise (le := ltK) (fun x y _ _ h1 h2 => ?_) ha hb hp
  unfold ltK at h1 h2
  omega
theorem modeFrom_none {txn id : Int} {ls : List T3} (h : ∀ l ∈ ls, ¬ (l.1 = id ∧ l.2.1 = txn)) : modeFrom txn id ls = 0 := by
  induction ls with
  | nil => rfl
  | cons l r ih =>
    rw [modeFrom, if_neg (h l List.mem_cons_self)]
    exact ih (fun x hx => h x (List.mem_cons_of_mem _ hx))
/-- the mode, read in the table -/
theorem mode_hit {w : World} {b0 B ck : Nat} {tt : List TE} {ls : List T3} (h : Tab w b0 B tt ck) (hp : (cont tt).Perm ls) (hr : ls.Pairwise ltK) {e : TE} (he : e ∈ tt) {x : IE} (hx : x ∈ e.inn) : modeFrom x.1 e.id ls = x.2.1 := by
  have : ((e.id, x.1, x.2.1) : T3) ∈ ls := hp.mem_iff.1 (mem_cont.2 ⟨e, he, rfl, x, hx, rfl, rfl⟩)
  exact modeFrom_mem hr this
theorem mode_miss_id {tt : List TE} {ls : List T3} (hp : (cont tt).Perm ls) {txn id : Int} (hm : ∀ e ∈ tt, e.id ≠ id) : modeFrom txn id ls = 0 := by
  refine modeFrom_none (fun l hl ⟨h1, h2⟩ => ?_)
  obtain ⟨e, he, h3, _⟩ := mem_cont.1 (hp.mem_iff.2 hl)
  exact hm e he (h3.trans h1)
theorem mode_miss_txn {w : World} {b0 B ck : Nat} {pre post : List TE} {e : TE} {ls : List T3} (h : Tab w b0 B (pre ++ e :: post) ck) (hp : (cont (pre ++ e :: post)).Perm ls) {txn : Int} (hm : ∀ x ∈ e.inn, x.1 ≠ txn) : modeFrom txn e.id ls = 0 := by
  refine modeFrom_none (fun l hl ⟨h1, h2⟩ => ?_)
  obtain ⟨y, hy, h3, x, hx, h4, _⟩ := mem_cont.1 (hp.mem_iff.2 hl)
  have : y = e := by
    rcases List.mem_append.1 hy with h5 | h5
    · exact absurd (h3.trans h1) (h.once y (List.mem_append_left _ h5))
    · rcases List.mem_cons.1 h5 with h5 | h5
      · exact h5
      · exact absurd (h3.trans h1) (h.once y (List.mem_append_right _ h5))
  subst this
  exact hm x hx (h4.trans h2)
theorem insF_perm (e : T3) : ∀ ls : List T3, (insF e false ls).Perm (e :: ls.filter (fun x => !keyB e x)) ∧ insF e true ls = ls.filter (fun x => !keyB e x)
  | [] => ⟨List.Perm.refl _, rfl⟩
  | l :: t => by
    obtain ⟨h1, h2⟩ := insF_perm e t
    rw [insF_cons, insF_cons]
    by_cases hk : l.1 = e.1 ∧ l.2.1 = e.2.1
    · have hf : (l :: t).filter (fun x => !keyB e x) = t.filter (fun x => !keyB e x) := List.filter_cons_of_neg (by simp [keyB, hk])
      rw [if_pos hk, if_pos hk, hf]
      exact ⟨h1, h2⟩
    · have hkb : keyB e l = false := by
        simp only [keyB, Bool.and_eq_false_iff, decide_eq_false_iff_not]
        by_cases h : l.1 = e.1
        · exact .inr (fun h' => hk ⟨h, h'⟩)
        · exact .inl h
      have hf : (l :: t).filter (fun x => !keyB e x) = l :: t.filter (fun x => !keyB e x) := List.filter_cons_of_pos (by simp [hkb])
      rw [if_neg hk, if_neg hk, hf]
      constructor
      · split
        · rw [h2]
        · exact (h1.cons l).trans (List.Perm.swap _ _ _)
      · rw [if_neg (by simp), h2]
end Go.Proofs.Ytagcefbnhpkdiab
