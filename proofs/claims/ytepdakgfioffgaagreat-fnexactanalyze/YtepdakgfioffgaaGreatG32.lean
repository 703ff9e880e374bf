import Derived.Test.YtepdakgfioffgaaGreatG00
import Derived.Test.YtepdakgfioffgaaGreatG13
import Derived.Test.YtepdakgfioffgaaGreatG29
import Derived.Test.YtepdakgfioffgaaGreatG04
import Derived.MapKept
import Derived.Maps.RangeRun
import Derived.Carry
namespace Go.Proofs.YtepdakgfioffgaaGreat
set_option linter.unusedVariables false
set_option linter.unusedSimpArgs false
open Go Go.RowKit Go.MapKept
abbrev KV := Int × Value × Nat
def entI (e : KV) : MapEntry := ⟨.int .i64 e.1, e.2.1, e.2.2⟩
def ents (kv : List KV) : List MapEntry := kv.map entI
def MapB (w : World) (B : Nat) (kv : List KV) (ck : Nat) : Prop := w.heap[B]? = some (.map (ents kv).toArray ck)
def setM (w : World) (B : Nat) (kv : List KV) (ck : Nat) : World := { w with heap := w.heap.setIfInBounds B (.map (ents kv).toArray ck) }
theorem MapB.lt {w : World} {B : Nat} {kv : List KV} {ck : Nat} (h : MapB w B kv ck) : B < w.heap.size := (Array.getElem?_eq_some_iff.1 h).1
theorem MapB.kept {R : Nat → Prop} {w w' : World} {B : Nat} {kv : List KV} {ck : Nat} (h : MapB w B kv ck) (hk : Kept R w w') (hr : ¬ R B) : MapB w' B kv ck := hk.heap h hr
theorem MapB.same {w w' : World} {B : Nat} {kv : List KV} {ck : Nat} (h : MapB w B kv ck) (hk : Same w w') : MapB w' B kv ck := h.kept hk id
theorem MapB.new (w : World) : MapB (w.alloc (.map #[] 0)) w.heap.size [] 0 := by
 unfold MapB ents World.alloc
 simp
theorem MapB.set {w : World} {B : Nat} {kv Q9 : List KV} {ck Nr : Nat} (h : MapB w B kv ck) : MapB (setM w B Q9 Nr) B Q9 Nr := (heap_set h).1
theorem Kept.setM {w : World} {B : Nat} (kv : List KV) (ck : Nat) : Kept (fun b => b = B) w (setM w B kv ck) :=
 ⟨rfl, rfl, rfl, by simp [Go.Proofs.YtepdakgfioffgaaGreat.setM], fun k hk hr => by
  show (w.heap.setIfInBounds B _)[k]? = _
  rw [Array.getElem?_setIfInBounds_ne (fun e => hr e.symm)]⟩
theorem find_miss (x : Int) : ∀ (kv : List KV) (i : Nat), (∀ e ∈ kv, e.1 ≠ x) → Instr.findNow (.int .i64) (.int .i64 x) (ents kv) i = some none
 | [], i, _ => rfl
 | e :: r, i, h => by
  have h1 : (x == e.1) = false := by simp; exact fun e' => h e List.mem_cons_self e'.symm
  show Instr.findNow (.int .i64) (.int .i64 x) (entI e :: ents r) i = _
  unfold Instr.findNow
  simp only [entI, Instr.sameNow, if_true, h1]
  exact find_miss x r (i + 1) (fun e he => h e (List.mem_cons_of_mem _ he))
theorem find_hit (x : Int) (v : Value) (b : Nat) (post : List KV) : ∀ (pre : List KV) (i : Nat), (∀ e ∈ pre, e.1 ≠ x) → Instr.findNow (.int .i64) (.int .i64 x) (ents (pre ++ (x, v, b) :: post)) i = some (some (i + pre.length, v))
 | [], i, _ => by
  show Instr.findNow (.int .i64) (.int .i64 x) (entI (x, v, b) :: ents post) i = _
  unfold Instr.findNow
  simp [entI, Instr.sameNow]
 | e :: r, i, h => by
  have h1 : (x == e.1) = false := by simp; exact fun e' => h e List.mem_cons_self e'.symm
  show Instr.findNow (.int .i64) (.int .i64 x) (entI e :: ents (r ++ (x, v, b) :: post)) i = _
  unfold Instr.findNow
  simp only [entI, Instr.sameNow, if_true, h1]
  rw [find_hit x v b post r (i + 1) (fun e he => h e (List.mem_cons_of_mem _ he))]
  simp only [List.length_cons]
  congr 3
  omega
theorem kv_cases (x : Int) (kv : List KV) : (∀ e ∈ kv, e.1 ≠ x) ∨ ∃ pre v b post, kv = pre ++ (x, v, b) :: post ∧ ∀ e ∈ pre, e.1 ≠ x := by
 induction kv with
 | nil => exact .inl (fun _ h => by simp at h)
 | cons e r ih =>
  by_cases h : e.1 = x
  ·obtain ⟨k, v, b⟩ := e
   dsimp only at h
   subst h
   exact .inr ⟨[], v, b, r, rfl, fun _ h => by simp at h⟩
  ·rcases ih with ih | ⟨pre, v, b, post, rfl, hp⟩
   ·exact .inl (fun y hy => by rcases List.mem_cons.1 hy with rfl | hy; exact h; exact ih y hy)
   ·exact .inr ⟨e :: pre, v, b, post, rfl, fun y hy => by rcases List.mem_cons.1 hy with rfl | hy; exact h; exact hp y hy⟩
theorem modify_mid {α : Type} (pre post : List α) (a : α) (f : α → α) : (pre ++ a :: post).modify pre.length f = pre ++ f a :: post := by
 induction pre with
 | nil => rfl
 | cons p r ih => simp [ih]
theorem erase_mid {α : Type} (pre post : List α) (a : α) : (pre ++ a :: post).eraseIdx pre.length = pre ++ post := by
 induction pre with
 | nil => rfl
 | cons p r ih => simp [ih]
section
variable {P : Program} {w : World} {B ck : Nat} {T K E : TypeId} {kv pre post : List KV} {x : Int} {v : Value} {b : Nat}
theorem run_get (hb : MapB w B kv ck) : (getObj B).run P w = .ok (.map (ents kv).toArray ck) w := by
 have h : w.heap[B]? = some (.map (ents kv).toArray ck) := hb
 simp [getObj, Sem.run, h]
theorem run_set (o : Obj) (hb : MapB w B kv ck) : (setObj B o).run P w = .ok () { w with heap := w.heap.setIfInBounds B o } := by
 have h : w.heap[B]? = some (.map (ents kv).toArray ck) := hb
 simp [setObj, Sem.run, h]
theorem run_find {a : Option (Nat × Value)} (hk : P.underlying K = some (.int .i64)) (h : Instr.findNow (.int .i64) (.int .i64 x) (ents kv) 0 = some a) : (Instr.findKey K (.int .i64 x) (ents kv)).run P w = .ok a w := run_findKey hk h
theorem run_ck (hk : P.underlying K = some (.int .i64)) (em : Bool) : (Instr.checkKey em 10000 K (.int .i64 x)).run P w = .ok () w := run_checkKey hk (show IsKey (.int .i64) (.int .i64 x) from rfl) em 9999
theorem run_lookup_hit (ht : P.underlying T = some (.map K E)) (hk : P.underlying K = some (.int .i64)) (hb : MapB w B (pre ++ (x, v, b) :: post) ck) (hp : ∀ e ∈ pre, e.1 ≠ x) (ok : Bool) :
  (Instr.lookup T (.map (some B)) (.int .i64 x) ok).run P w = .ok (if ok = true then .tuple #[v, .bool true] else v) w := by
 unfold Instr.lookup
 simp only [Sem.run_bind, run_underlying ht, Result.andThen, run_get hb, Sem.run_pure, run_ck hk, run_find hk (find_hit x v b post pre 0 hp)]
theorem run_lookup_miss {z : Value} (ht : P.underlying T = some (.map K E)) (hk : P.underlying K = some (.int .i64)) (hb : MapB w B kv ck) (hp : ∀ e ∈ kv, e.1 ≠ x) (hz : (zeroValue E).run P w = .ok z w) (ok : Bool) :
  (Instr.lookup T (.map (some B)) (.int .i64 x) ok).run P w = .ok (if ok = true then .tuple #[z, .bool false] else z) w := by
 unfold Instr.lookup
 simp only [Sem.run_bind, run_underlying ht, Result.andThen, run_get hb, Sem.run_pure, run_ck hk, run_find hk (find_miss x kv 0 hp), hz]
theorem run_update_new (ht : P.underlying T = some (.map K E)) (hk : P.underlying K = some (.int .i64)) (hb : MapB w B kv ck) (hp : ∀ e ∈ kv, e.1 ≠ x) :
  (Instr.mapUpdate T (.map (some B)) (.int .i64 x) v).run P w = .ok () (setM w B (kv ++ [(x, v, ck)]) (ck + 1)) := by
 unfold Instr.mapUpdate
 simp only [Sem.run_bind, run_underlying ht, Result.andThen, run_get hb, Sem.run_pure, run_ck hk, run_find hk (find_miss x kv 0 hp), run_set _ hb]
 unfold setM ents
 simp [entI]
theorem run_update_hit {u : Value} (ht : P.underlying T = some (.map K E)) (hk : P.underlying K = some (.int .i64)) (hb : MapB w B (pre ++ (x, v, b) :: post) ck) (hp : ∀ e ∈ pre, e.1 ≠ x) :
  (Instr.mapUpdate T (.map (some B)) (.int .i64 x) u).run P w = .ok () (setM w B (pre ++ (x, u, b) :: post) ck) := by
 have gN : (ents pre).length = pre.length := by simp [ents]
 have Jf : (ents (pre ++ (x, v, b) :: post))[pre.length]? = some (entI (x, v, b)) := by simp [ents]
 unfold Instr.mapUpdate
 simp only [Sem.run_bind, run_underlying ht, Result.andThen, run_get hb, Sem.run_pure, run_ck hk, run_find hk (find_hit x v b post pre 0 hp), Nat.zero_add, List.getElem?_toArray, Jf, Option.map_some, Option.getD_some, entI, run_keyThatStays (d := .int .i64) (show IsKey (.int .i64) (.int .i64 x) from rfl), run_set _ hb]
 unfold setM
 have e : ((ents (pre ++ (x, v, b) :: post)).toArray.modify pre.length fun e => { key := .int .i64 x, val := u, born := e.born }) = (ents (pre ++ (x, u, b) :: post)).toArray := by
  apply Array.ext'
  rw [Array.toList_modify]
  simp only [ents, List.map_append, List.map_cons]
  have h := modify_mid (List.map entI pre) (List.map entI post) (entI (x, v, b)) (fun e => { key := .int .i64 x, val := u, born := e.born })
  rw [List.length_map] at h
  exact h
 rw [e]
theorem run_delete_hit {ty : TypeId} (ht : P.underlying T = some (.map K E)) (hk : P.underlying K = some (.int .i64)) (hb : MapB w B (pre ++ (x, v, b) :: post) ck) (hp : ∀ e ∈ pre, e.1 ≠ x) :
  (Builtin.delete_ #[T, K] ty #[.map (some B), .int .i64 x]).run P w = .ok (.tuple #[]) (setM w B (pre ++ post) ck) := by
 have e : (ents (pre ++ (x, v, b) :: post)).eraseIdx pre.length = ents (pre ++ post) := by
  simp only [ents, List.map_append, List.map_cons]
  have h := erase_mid (List.map entI pre) (List.map entI post) (entI (x, v, b))
  rw [List.length_map] at h
  exact h
 have h1 := run_get (P := P) hb
 have h2 := run_find (P := P) (w := w) hk (find_hit x v b post pre 0 hp)
 have h3 := fun o => run_set (P := P) o hb
 rw [Nat.zero_add] at h2
 generalize (ents (pre ++ (x, v, b) :: post)) = L at h1 h2 e
 simp [Builtin.delete_, run_underlying ht, Result.andThen, h1, run_ck hk, h2, h3, setM, e]
theorem run_len_map {ty : TypeId} (hb : MapB w B kv ck) (hu : P.underlying T = some (.map K E)) : (Builtin.len_ #[T] ty #[.map (some B)]).run P w = .ok (goInt kv.length) w := by
 have h1 := run_get (P := P) hb
 have hl : (ents kv).length = kv.length := by simp [ents]
 generalize ents kv = L at h1 hl
 simp [Builtin.len_, run_underlying hu, Result.andThen, h1, hl]
def IterB (w : World) (r B since : Nat) (seen : Array Nat) (c0 : Nat) : Prop := w.heap[r]? = some (.mapIter (some B) since seen c0)
def setIt (w : World) (r B since : Nat) (seen : Array Nat) (c0 : Nat) : World := { w with heap := w.heap.setIfInBounds r (.mapIter (some B) since seen c0) }
structure KVok (kv : List KV) (ck : Nat) : Prop where
 lt : ∀ e ∈ kv, e.2.2 < ck
 stamps : (kv.map (·.2.2)).Nodup
 keys : (kv.map (·.1)).Nodup
theorem KVok.nil (ck : Nat) : KVok [] ck := ⟨fun _ h => by simp at h, by simp, by simp⟩
theorem KVok.snoc (h : KVok kv ck) (hp : ∀ e ∈ kv, e.1 ≠ x) : KVok (kv ++ [(x, v, ck)]) (ck + 1) := by
 refine ⟨fun e he => ?_, ?_, ?_⟩
 ·rcases List.mem_append.1 he with he | he
  ·exact Nat.lt_succ_of_lt (h.lt e he)
  ·rw [List.mem_singleton.1 he]; exact Nat.lt_succ_self _
 ·rw [List.map_append]
  refine List.nodup_append.2 ⟨h.stamps, by simp, fun a ha b hb => ?_⟩
  obtain ⟨e, he, rfl⟩ := List.mem_map.1 ha
  have hb : b = ck := by simpa using hb
  rw [hb]
  exact Nat.ne_of_lt (h.lt e he)
 ·rw [List.map_append]
  refine List.nodup_append.2 ⟨h.keys, by simp, fun a ha b hb => ?_⟩
  obtain ⟨e, he, rfl⟩ := List.mem_map.1 ha
  have hb : b = x := by simpa using hb
  rw [hb]
  exact hp e he
theorem KVok.store {u : Value} (h : KVok (pre ++ (x, v, b) :: post) ck) : KVok (pre ++ (x, u, b) :: post) ck := by
 refine ⟨fun e he => ?_, by simpa using h.stamps, by simpa using h.keys⟩
 rcases List.mem_append.1 he with he | he
 ·exact h.lt e (List.mem_append_left _ he)
 ·rcases List.mem_cons.1 he with rfl | he
  ·exact h.lt (x, v, b) (List.mem_append_right _ List.mem_cons_self)
  ·exact h.lt e (List.mem_append_right _ (List.mem_cons_of_mem _ he))
theorem KVok.drop (h : KVok (pre ++ (x, v, b) :: post) ck) : KVok (pre ++ post) ck := by
 have hs : (pre ++ post).Sublist (pre ++ (x, v, b) :: post) := List.Sublist.append_left (List.sublist_cons_self _ _) _
 exact ⟨fun e he => h.lt e (hs.subset he), (hs.map _).nodup h.stamps, (hs.map _).nodup h.keys⟩
theorem KVok.others (h : KVok (pre ++ (x, v, b) :: post) ck) : ∀ e ∈ pre ++ post, e.1 ≠ x := by
 have hn := h.keys
 rw [List.map_append, List.map_cons] at hn
 obtain ⟨h1, h2, h3⟩ := List.nodup_append.1 hn
 intro e he
 rcases List.mem_append.1 he with he | he
 ·exact h3 e.1 (List.mem_map_of_mem he) x List.mem_cons_self
 ·intro e'
  have h4 : e.1 ∈ post.map (·.1) := List.mem_map_of_mem he
  rw [e'] at h4
  exact (List.nodup_cons.1 h2).1 h4
end
abbrev entC (q : Q4) : List Value := [.int .i64 q.1, .int .i64 q.2.1, .int .i64 q.2.2.1, .int .i64 q.2.2.2]
structure EntM (w : World) (kv : List KV) (tx : List Q4) : Prop where
 keys : (kv.map (·.1)).Perm (tx.map kQ)
 cell : ∀ e ∈ kv, ∃ g q, e.2.1 = .pointer (some ⟨g, 0, none⟩) ∧ q ∈ tx ∧ kQ q = e.1 ∧ Blk w g 57 (entC q)
 apart : kv.Pairwise (fun a b => a.2.1 ≠ b.2.1)
theorem Up.one {α : Type} {key : α → Int} {l : List α} (h : Up key l) {a b : α} (ha : a ∈ l) (hb : b ∈ l) (e : key a = key b) : a = b := by
 obtain ⟨i, hi, rfl⟩ := List.getElem_of_mem ha
 obtain ⟨j, hj, rfl⟩ := List.getElem_of_mem hb
 have hp := List.pairwise_iff_getElem.1 h
 rcases Nat.lt_trichotomy i j with h1 | h1 | h1
 ·have := hp i j hi hj h1; omega
 ·subst h1; rfl
 ·have := hp j i hj hi h1; omega
theorem EntM.miss {w : World} {kv : List KV} {tx : List Q4} (h : EntM w kv tx) {t : Int} (hg : getK kQ t tx = none) : ∀ e ∈ kv, e.1 ≠ t := fun e he => by
 obtain ⟨g, q, _, hq, hk, _⟩ := h.cell e he
 have := getK_none.1 hg q hq
 omega
theorem EntM.hit {w : World} {kv : List KV} {tx : List Q4} (h : EntM w kv tx) (hu : Up kQ tx) {t : Int} {q : Q4} (hg : getK kQ t tx = some q) :
  ∃ pre b post g, kv = pre ++ (t, .pointer (some ⟨g, 0, none⟩), b) :: post ∧ (∀ e ∈ pre, e.1 ≠ t) ∧ Blk w g 57 (entC q) := by
 obtain ⟨hq, hk⟩ := getK_some hg
 rcases kv_cases t kv with hn | ⟨pre, v, b, post, rfl, hp⟩
 ·have h1 : t ∈ tx.map kQ := List.mem_map.2 ⟨q, hq, hk⟩
  obtain ⟨e, he, e1⟩ := List.mem_map.1 (h.keys.mem_iff.2 h1)
  exact absurd e1 (hn e he)
 ·obtain ⟨g, q', hv, Dn, qZ, hb⟩ := h.cell (t, v, b) (by simp)
  dsimp only at hv qZ
  subst hv
  obtain rfl : q' = q := hu.one Dn hq (by rw [qZ, hk])
  exact ⟨pre, b, post, g, rfl, hp, hb⟩
theorem EntM.length {w : World} {kv : List KV} {tx : List Q4} (h : EntM w kv tx) : kv.length = tx.length := by
 have := h.keys.length_eq
 simpa using this
theorem EntM.kept {R : Nat → Prop} {w w' : World} {kv : List KV} {tx : List Q4} (h : EntM w kv tx) (hk : Kept R w w') (hr : ∀ e ∈ kv, ∀ g, e.2.1 = .pointer (some ⟨g, 0, none⟩) → ¬ R g) : EntM w' kv tx :=
 ⟨h.keys, fun e he => by
  obtain ⟨g, q, h1, h2, h3, h4⟩ := h.cell e he
  exact ⟨g, q, h1, h2, h3, h4.kept hk (hr e he g h1)⟩, h.apart⟩
theorem EntM.nodup {w : World} {kv : List KV} {tx : List Q4} (h : EntM w kv tx) (hu : Up kQ tx) : (kv.map (·.1)).Nodup := by
 rw [h.keys.nodup_iff]
 exact (up_keys.1 hu).imp (fun h => by omega)
theorem EntM.rest {w : World} {t : Int} {v : Value} {b : Nat} {pre post : List KV} {tx : List Q4} (h : EntM w (pre ++ (t, v, b) :: post) tx) (hu : Up kQ tx) : ∀ e ∈ post, e.1 ≠ t := fun e he hh => by
 have hn := h.nodup hu
 rw [List.map_append, List.map_cons] at hn
 have h1 := (List.nodup_append.1 hn).2.1
 exact (List.nodup_cons.1 h1).1 (List.mem_map.2 ⟨e, he, hh⟩)
theorem EntM.put {w w' : World} {t : Int} {g b : Nat} {pre post : List KV} {tx : List Q4} {q : Q4} {f : Q4 → Q4} (h : EntM w (pre ++ (t, .pointer (some ⟨g, 0, none⟩), b) :: post) tx) (hu : Up kQ tx) (hp : ∀ e ∈ pre, e.1 ≠ t) (hg : getK kQ t tx = some q)
  (hk : Kept (fun b => b = g) w w') (hb : Blk w' g 57 (entC (f q))) (hf : ∀ x, kQ (f x) = kQ x) : EntM w' (pre ++ (t, .pointer (some ⟨g, 0, none⟩), b) :: post) (setK kQ t f tx) := by
 obtain ⟨hq, fL⟩ := getK_some hg
 have ha := List.pairwise_append.1 h.apart
 refine ⟨by rw [setK_keys hf]; exact h.keys, fun e he => ?_, h.apart⟩
 have other : e.1 ≠ t → (∀ g', e.2.1 = .pointer (some ⟨g', 0, none⟩) → g' ≠ g) → ∃ g q, e.2.1 = .pointer (some ⟨g, 0, none⟩) ∧ q ∈ setK kQ t f tx ∧ kQ q = e.1 ∧ Blk w' g 57 (entC q) := fun h1 h2 => by
  obtain ⟨g', q', e1, e2, e3, e4⟩ := h.cell e he
  refine ⟨g', q', e1, List.mem_map.2 ⟨q', e2, by rw [if_neg (by omega)]⟩, e3, e4.kept hk (h2 g' e1)⟩
 rcases List.mem_append.1 he with h1 | h1
 ·exact other (hp e h1) (fun g' e1 e2 => by subst e2; exact ha.2.2 e h1 _ List.mem_cons_self e1)
 ·rcases List.mem_cons.1 h1 with rfl | h5
  ·exact ⟨g, f q, rfl, List.mem_map.2 ⟨q, hq, by rw [if_pos fL]⟩, by rw [hf]; exact fL, hb⟩
  ·exact other (h.rest hu e h5) (fun g' e1 e2 => by subst e2; exact (List.pairwise_cons.1 ha.2.1).1 e h5 e1.symm)
theorem EntM.del {w : World} {t : Int} {v : Value} {b : Nat} {pre post : List KV} {tx : List Q4} (h : EntM w (pre ++ (t, v, b) :: post) tx) (hu : Up kQ tx) (hp : ∀ e ∈ pre, e.1 ≠ t) : EntM w (pre ++ post) (delK kQ t tx) := by
 have hr := h.rest hu
 have yE : ∀ e ∈ pre ++ post, e.1 ≠ t := fun e he => by
  rcases List.mem_append.1 he with h1 | h1
  ·exact hp e h1
  ·exact hr e h1
 refine ⟨?_, fun e he => ?_, ?_⟩
 ·have h1 : ((pre ++ (t, v, b) :: post).map (·.1)).filter (fun x => decide (x ≠ t)) = (pre ++ post).map (·.1) := by
   rw [List.map_append, List.map_cons, List.filter_append, List.filter_cons, List.map_append]
   rw [List.filter_eq_self.2 (by intro x hx; obtain ⟨e, he, rfl⟩ := List.mem_map.1 hx; simpa using hp e he), List.filter_eq_self.2 (by intro x hx; obtain ⟨e, he, rfl⟩ := List.mem_map.1 hx; simpa using hr e he)]
   simp
  have h2 : (tx.map kQ).filter (fun x => decide (x ≠ t)) = (delK kQ t tx).map kQ := by
   unfold delK
   rw [List.filter_map]
   rfl
  rw [← h1, ← h2]
  exact h.keys.filter _
 ·obtain ⟨g, q, h1, h2, h3, h4⟩ := h.cell e (by rcases List.mem_append.1 he with h | h; (exact List.mem_append_left _ h); exact List.mem_append_right _ (List.mem_cons_of_mem _ h))
  exact ⟨g, q, h1, List.mem_filter.2 ⟨h2, by have := yE e he; simp; omega⟩, h3, h4⟩
 ·have ha := List.pairwise_append.1 h.apart
  exact List.pairwise_append.2 ⟨ha.1, (List.pairwise_cons.1 ha.2.1).2, fun a h1 b h2 => ha.2.2 a h1 b (List.mem_cons_of_mem _ h2)⟩
theorem EntM.new {w : World} {g b : Nat} {kv : List KV} {tx : List Q4} {u : Q4} (h : EntM w kv tx) (hb : Blk w g 57 (entC u)) (hn : ∀ e ∈ kv, e.2.1 ≠ .pointer (some ⟨g, 0, none⟩)) : EntM w (kv ++ [(u.1, .pointer (some ⟨g, 0, none⟩), b)]) (insK kQ u tx) := by
 refine ⟨?_, fun e he => ?_, ?_⟩
 ·have h1 : ((insK kQ u tx).map kQ).Perm ((u :: tx).map kQ) := (insK_perm u tx).map kQ
  refine List.Perm.trans ?_ h1.symm
  rw [List.map_append]
  exact (List.perm_append_comm).trans (h.keys.cons _)
 ·rcases List.mem_append.1 he with h1 | h1
  ·obtain ⟨g', q, e1, e2, e3, e4⟩ := h.cell e h1
   exact ⟨g', q, e1, insK_mem.2 (.inr e2), e3, e4⟩
  ·rw [List.mem_singleton.1 h1]
   exact ⟨g, u, rfl, insK_mem.2 (.inl rfl), rfl, hb⟩
 ·exact List.pairwise_append.2 ⟨h.apart, List.pairwise_singleton _ _, fun a h1 b h2 => by rw [List.mem_singleton.1 h2]; exact hn a h1⟩
theorem EntM.nil (w : World) : EntM w [] [] := ⟨List.Perm.refl _, fun e h => by simp at h, List.Pairwise.nil⟩
def DirM (kv : List KV) (dy : List (Int × Int)) : Prop := (kv.map fun e => (e.1, e.2.1)).Perm (dy.map fun d => (d.1, Value.int .i64 d.2))
theorem DirM.keys {kv : List KV} {dy : List (Int × Int)} (h : DirM kv dy) : (kv.map (·.1)).Perm (dy.map kD) := by
 have := List.Perm.map (f := Prod.fst) h
 rw [List.map_map, List.map_map] at this
 exact this
theorem DirM.miss {kv : List KV} {dy : List (Int × Int)} (h : DirM kv dy) {p : Int} (hg : getK kD p dy = none) : ∀ e ∈ kv, e.1 ≠ p := fun e he hh => by
 have h1 : e.1 ∈ dy.map kD := h.keys.mem_iff.1 (List.mem_map.2 ⟨e, he, rfl⟩)
 obtain ⟨d, hd, e1⟩ := List.mem_map.1 h1
 have := getK_none.1 hg d hd
 omega
theorem DirM.hit {kv : List KV} {dy : List (Int × Int)} (h : DirM kv dy) {p : Int} (hg : (getK kD p dy).isSome = true) : ∃ pre v b post, kv = pre ++ (p, v, b) :: post ∧ ∀ e ∈ pre, e.1 ≠ p := by
 rcases kv_cases p kv with hn | h1
 ·obtain ⟨d, hd⟩ := Option.isSome_iff_exists.1 hg
  obtain ⟨h2, h3⟩ := getK_some hd
  obtain ⟨e, he, e1⟩ := List.mem_map.1 (h.keys.mem_iff.2 (List.mem_map.2 ⟨d, h2, h3⟩))
  exact absurd e1 (hn e he)
 ·exact h1
theorem DirM.new {kv : List KV} {dy : List (Int × Int)} (h : DirM kv dy) (p l : Int) (b : Nat) : DirM (kv ++ [(p, .int .i64 l, b)]) (insK kD (p, l) dy) := by
 unfold DirM at *
 refine List.Perm.trans ?_ ((insK_perm (p, l) dy).map _).symm
 rw [List.map_append]
 exact List.perm_append_comm.trans (h.cons _)
theorem DirM.nil : DirM [] [] := List.Perm.refl _
def ImgM (kv : List KV) (im : List Int) : Prop := (kv.map (·.1)).Perm im
theorem ImgM.miss {kv : List KV} {im : List Int} (h : ImgM kv im) {p : Int} (hg : getK kI p im = none) : ∀ e ∈ kv, e.1 ≠ p := fun e he hh =>
 getK_none.1 hg e.1 (h.mem_iff.1 (List.mem_map.2 ⟨e, he, rfl⟩)) hh
theorem ImgM.hit {kv : List KV} {im : List Int} (h : ImgM kv im) {p : Int} (hg : (getK kI p im).isSome = true) : ∃ pre v b post, kv = pre ++ (p, v, b) :: post ∧ ∀ e ∈ pre, e.1 ≠ p := by
 rcases kv_cases p kv with hn | h1
 ·obtain ⟨d, hd⟩ := Option.isSome_iff_exists.1 hg
  obtain ⟨h2, h3⟩ := getK_some hd
  obtain ⟨e, he, e1⟩ := List.mem_map.1 (h.mem_iff.2 h2)
  exact absurd (e1.trans h3) (hn e he)
 ·exact h1
theorem ImgM.again {pre post : List KV} {p : Int} {v u : Value} {b : Nat} {im : List Int} (h : ImgM (pre ++ (p, v, b) :: post) im) : ImgM (pre ++ (p, u, b) :: post) im := by
 unfold ImgM at *
 simpa using h
theorem ImgM.new {kv : List KV} {im : List Int} (h : ImgM kv im) (p : Int) (v : Value) (b : Nat) : ImgM (kv ++ [(p, v, b)]) (insK kI p im) := by
 unfold ImgM at *
 refine List.Perm.trans ?_ (insK_perm (key := kI) p im).symm
 rw [List.map_append]
 exact List.perm_append_comm.trans (h.cons _)
theorem ImgM.nil : ImgM [] [] := List.Perm.refl _
section
variable {P : Program} {fi : Array Oper} {rest : List Oper} {o : Oper} {a : Act} {w : World} {Q : Exit → Act → World → Prop} {B ck : Nat} {T K E : TypeId} {kv pre post : List KV} {x : Int} {v u z : Value} {b : Nat}
end
theorem Kept.setIt {w : World} {r B since c0 : Nat} {seen : Array Nat} : Kept (fun b => b = r) w (setIt w r B since seen c0) :=
 ⟨rfl, rfl, rfl, by simp [Go.Proofs.YtepdakgfioffgaaGreat.setIt], fun k hk hr => by
  show (w.heap.setIfInBounds r _)[k]? = _
  rw [Array.getElem?_setIfInBounds_ne (fun e => hr e.symm)]⟩
theorem IterB.set {w : World} {r B since su c0 c1 B' : Nat} {seen vF : Array Nat} (h : IterB w r B since seen c0) : IterB (setIt w r B' su vF c1) r B' su vF c1 := (heap_set h).1
theorem IterB.new (w : World) (B ck : Nat) : IterB (w.alloc (.mapIter (some B) ck #[] ck)) w.heap.size B ck #[] ck := by
 unfold IterB World.alloc
 simp
structure TabI (w : World) (b0 T : Nat) (s : AzS) (Bt ct Bd cd Bi ci : Nat) (kt kd ki : List KV) : Prop where
 box : Blk w T 94 [.int .i64 s.nx, .map (some Bt), .map (some Bd), .map (some Bi)]
 mt : MapB w Bt kt ct
 md : MapB w Bd kd cd
 mi : MapB w Bi ki ci
 okt : KVok kt ct
 okd : KVok kd cd
 oki : KVok ki ci
 et : EntM w kt s.tx
 ed : DirM kd s.dy
 ei : ImgM ki s.im
 lT : b0 ≤ T
 lt : b0 ≤ Bt
 ld : b0 ≤ Bd
 li : b0 ≤ Bi
 ent : ∀ e ∈ kt, ∀ g, e.2.1 = .pointer (some ⟨g, 0, none⟩) → b0 ≤ g
 td : Bt ≠ Bd
 ti : Bt ≠ Bi
 di : Bd ≠ Bi
def TabM (w : World) (b0 T : Nat) (s : AzS) : Prop := ∃ (Bt ct Bd cd Bi ci : Nat) (kt kd ki : List KV), TabI w b0 T s Bt ct Bd cd Bi ci kt kd ki
theorem blk_map {w : World} {B C ck : Nat} {e : TypeId} {xs : List Value} {kv : List KV} (h : Blk w B e xs) (hm : MapB w C kv ck) : B ≠ C := fun e' => by
 subst e'
 unfold Blk at h
 unfold MapB at hm
 rw [h] at hm
 cases hm
theorem blk_ty {w : World} {B C : Nat} {e e' : TypeId} {xs ys : List Value} (h : Blk w B e xs) (hm : Blk w C e' ys) (yE : e ≠ e') : B ≠ C := fun h' => by
 subst h'
 unfold Blk at h hm
 rw [h] at hm
 injection hm with hm
 injection hm with _ hm
 exact yE hm
section
variable {w w' : World} {b0 T : Nat} {s : AzS} {Bt ct Bd cd Bi ci : Nat} {kt kd ki : List KV}
theorem TabI.kept {R : Nat → Prop} (h : TabI w b0 T s Bt ct Bd cd Bi ci kt kd ki) (hk : Kept R w w') (hT : ¬ R T) (ht : ¬ R Bt) (hd : ¬ R Bd) (hi : ¬ R Bi) (hg : ∀ e ∈ kt, ∀ g, e.2.1 = .pointer (some ⟨g, 0, none⟩) → ¬ R g) : TabI w' b0 T s Bt ct Bd cd Bi ci kt kd ki :=
 ⟨h.box.kept hk hT, h.mt.kept hk ht, h.md.kept hk hd, h.mi.kept hk hi, h.okt, h.okd, h.oki, h.et.kept hk hg, h.ed, h.ei, h.lT, h.lt, h.ld, h.li, h.ent, h.td, h.ti, h.di⟩
theorem TabI.same (h : TabI w b0 T s Bt ct Bd cd Bi ci kt kd ki) (hk : Same w w') : TabI w' b0 T s Bt ct Bd cd Bi ci kt kd ki := h.kept hk id id id id (fun _ _ _ _ => id)
theorem TabM.same (h : TabM w b0 T s) (hk : Same w w') : TabM w' b0 T s := by
 obtain ⟨Bt, ct, Bd, cd, Bi, ci, kt, kd, ki, h⟩ := h
 exact ⟨_, _, _, _, _, _, _, _, _, h.same hk⟩
theorem TabI.out (h : TabI w b0 T s Bt ct Bd cd Bi ci kt kd ki) : TabM w b0 T s := ⟨_, _, _, _, _, _, _, _, _, h⟩
theorem TabI.Tt (h : TabI w b0 T s Bt ct Bd cd Bi ci kt kd ki) : T ≠ Bt := blk_map h.box h.mt
theorem TabI.Td (h : TabI w b0 T s Bt ct Bd cd Bi ci kt kd ki) : T ≠ Bd := blk_map h.box h.md
theorem TabI.Ti (h : TabI w b0 T s Bt ct Bd cd Bi ci kt kd ki) : T ≠ Bi := blk_map h.box h.mi
theorem TabI.entT (h : TabI w b0 T s Bt ct Bd cd Bi ci kt kd ki) {e : KV} (he : e ∈ kt) {g : Nat} (hg : e.2.1 = .pointer (some ⟨g, 0, none⟩)) : g ≠ T ∧ g ≠ Bt ∧ g ≠ Bd ∧ g ≠ Bi ∧ g < w.heap.size := by
 obtain ⟨g', q, h1, _, _, hb⟩ := h.et.cell e he
 rw [h1] at hg
 injection hg with hg
 injection hg with hg
 injection hg with hg
 subst hg
 exact ⟨blk_ty hb h.box (by decide), blk_map hb h.mt, blk_map hb h.md, blk_map hb h.mi, hb.lt⟩
theorem TabI.setNx (h : TabI w b0 T s Bt ct Bd cd Bi ci kt kd ki) (x : Int) : TabI (w.setCell ⟨T, 0, none⟩ (.int .i64 x)) b0 T { s with nx := x } Bt ct Bd cd Bi ci kt kd ki := by
 have hk : Kept (fun b => b = T) w (w.setCell ⟨T, 0, none⟩ (.int .i64 x)) := Kept.setCell (R := fun b => b = T) (Kept.refl _ _) (p := ⟨T, 0, none⟩) (.inr rfl) _
 exact ⟨h.box.stored 0 _, h.mt.kept hk (fun e => h.Tt e.symm), h.md.kept hk (fun e => h.Td e.symm), h.mi.kept hk (fun e => h.Ti e.symm), h.okt, h.okd, h.oki, h.et.kept hk (fun e he g hg e' => (h.entT he hg).1 e'), h.ed, h.ei, h.lT, h.lt, h.ld, h.li, h.ent, h.td, h.ti, h.di⟩
theorem TabI.put {t : Int} {g b : Nat} {pre post : List KV} {q : Q4} {f : Q4 → Q4} (h : TabI w b0 T s Bt ct Bd cd Bi ci (pre ++ (t, .pointer (some ⟨g, 0, none⟩), b) :: post) kd ki) (hu : Up kQ s.tx) (hp : ∀ e ∈ pre, e.1 ≠ t) (hg : getK kQ t s.tx = some q)
  (hk : Kept (fun b => b = g) w w') (hb : Blk w' g 57 (entC (f q))) (hf : ∀ x, kQ (f x) = kQ x) : TabI w' b0 T { s with tx := setK kQ t f s.tx } Bt ct Bd cd Bi ci (pre ++ (t, .pointer (some ⟨g, 0, none⟩), b) :: post) kd ki := by
 obtain ⟨h1, h2, h3, h4, _⟩ := h.entT (e := (t, .pointer (some ⟨g, 0, none⟩), b)) (by simp) rfl
 exact ⟨h.box.kept hk (fun e => h1 e.symm), h.mt.kept hk (fun e => h2 e.symm), h.md.kept hk (fun e => h3 e.symm), h.mi.kept hk (fun e => h4 e.symm), h.okt, h.okd, h.oki, h.et.put hu hp hg hk hb hf, h.ed, h.ei, h.lT, h.lt, h.ld, h.li, h.ent, h.td, h.ti, h.di⟩
theorem TabI.hit (h : TabI w b0 T s Bt ct Bd cd Bi ci kt kd ki) (hu : Up kQ s.tx) {t : Int} {q : Q4} (hg : getK kQ t s.tx = some q) :
  ∃ pre b post g, kt = pre ++ (t, .pointer (some ⟨g, 0, none⟩), b) :: post ∧ (∀ e ∈ pre, e.1 ≠ t) ∧ Blk w g 57 (entC q) := h.et.hit hu hg
theorem TabI.del {t : Int} {v : Value} {b : Nat} {pre post : List KV} (h : TabI w b0 T s Bt ct Bd cd Bi ci (pre ++ (t, v, b) :: post) kd ki) (hu : Up kQ s.tx) (hp : ∀ e ∈ pre, e.1 ≠ t) : TabI (setM w Bt (pre ++ post) ct) b0 T { s with tx := delK kQ t s.tx } Bt ct Bd cd Bi ci (pre ++ post) kd ki := by
 have hk := Kept.setM (w := w) (B := Bt) (pre ++ post) ct
 have qn : ∀ e ∈ pre ++ post, e ∈ pre ++ (t, v, b) :: post := fun e he => by
  rcases List.mem_append.1 he with h | h
  ·exact List.mem_append_left _ h
  ·exact List.mem_append_right _ (List.mem_cons_of_mem _ h)
 exact ⟨h.box.kept hk h.Tt, h.mt.set, h.md.kept hk (fun e => h.td e.symm), h.mi.kept hk (fun e => h.ti e.symm), h.okt.drop, h.okd, h.oki, (h.et.del hu hp).kept hk (fun e he g hg e' => (h.entT (qn e he) hg).2.1 e'), h.ed, h.ei, h.lT, h.lt, h.ld, h.li, fun e he => h.ent e (qn e he), h.td, h.ti, h.di⟩
theorem TabI.new {u : Q4} {g : Nat} (h : TabI w b0 T s Bt ct Bd cd Bi ci kt kd ki) (hn : getK kQ u.1 s.tx = none) (hb : Blk w g 57 (entC u)) (hg : ∀ e ∈ kt, e.2.1 ≠ .pointer (some ⟨g, 0, none⟩)) (hl : b0 ≤ g) :
  TabI (setM w Bt (kt ++ [(u.1, .pointer (some ⟨g, 0, none⟩), ct)]) (ct + 1)) b0 T { s with tx := insK kQ u s.tx } Bt (ct + 1) Bd cd Bi ci (kt ++ [(u.1, .pointer (some ⟨g, 0, none⟩), ct)]) kd ki := by
 have hk := Kept.setM (w := w) (B := Bt) (kt ++ [(u.1, .pointer (some ⟨g, 0, none⟩), ct)]) (ct + 1)
 refine ⟨h.box.kept hk h.Tt, h.mt.set, h.md.kept hk (fun e => h.td e.symm), h.mi.kept hk (fun e => h.ti e.symm), h.okt.snoc (h.et.miss hn), h.okd, h.oki, (h.et.new hb hg).kept hk (fun e he g' k5 e' => ?_), h.ed, h.ei, h.lT, h.lt, h.ld, h.li, fun e he g' k5 => ?_, h.td, h.ti, h.di⟩
 ·rcases List.mem_append.1 he with h1 | h1
  ·exact (h.entT h1 k5).2.1 e'
  ·rw [List.mem_singleton.1 h1] at k5
   injection k5 with k5
   injection k5 with k5
   injection k5 with k5
   subst k5
   exact blk_map hb h.mt e'
 ·rcases List.mem_append.1 he with h1 | h1
  ·exact h.ent e h1 g' k5
  ·rw [List.mem_singleton.1 h1] at k5
   injection k5 with k5
   injection k5 with k5
   injection k5 with k5
   omega
theorem TabI.newD (h : TabI w b0 T s Bt ct Bd cd Bi ci kt kd ki) (p l : Int) (hn : getK kD p s.dy = none) :
  TabI (setM w Bd (kd ++ [(p, .int .i64 l, cd)]) (cd + 1)) b0 T { s with dy := insK kD (p, l) s.dy } Bt ct Bd (cd + 1) Bi ci kt (kd ++ [(p, .int .i64 l, cd)]) ki := by
 have hk := Kept.setM (w := w) (B := Bd) (kd ++ [(p, .int .i64 l, cd)]) (cd + 1)
 exact ⟨h.box.kept hk h.Td, h.mt.kept hk h.td, h.md.set, h.mi.kept hk (fun e => h.di e.symm), h.okt, h.okd.snoc (h.ed.miss hn), h.oki, h.et.kept hk (fun e he g' k5 e' => (h.entT he k5).2.2.1 e'), h.ed.new p l cd, h.ei, h.lT, h.lt, h.ld, h.li, h.ent, h.td, h.ti, h.di⟩
theorem TabI.newI (h : TabI w b0 T s Bt ct Bd cd Bi ci kt kd ki) (p : Int) (v : Value) (hn : getK kI p s.im = none) :
  TabI (setM w Bi (ki ++ [(p, v, ci)]) (ci + 1)) b0 T { s with im := insK kI p s.im } Bt ct Bd cd Bi (ci + 1) kt kd (ki ++ [(p, v, ci)]) := by
 have hk := Kept.setM (w := w) (B := Bi) (ki ++ [(p, v, ci)]) (ci + 1)
 exact ⟨h.box.kept hk h.Ti, h.mt.kept hk h.ti, h.md.kept hk h.di, h.mi.set, h.okt, h.okd, h.oki.snoc (h.ei.miss hn), h.et.kept hk (fun e he g' k5 e' => (h.entT he k5).2.2.2.1 e'), h.ed, h.ei.new p v ci, h.lT, h.lt, h.ld, h.li, h.ent, h.td, h.ti, h.di⟩
theorem TabI.againI {p : Int} {v u : Value} {b : Nat} {pre post : List KV} (h : TabI w b0 T s Bt ct Bd cd Bi ci kt kd (pre ++ (p, v, b) :: post)) :
  TabI (setM w Bi (pre ++ (p, u, b) :: post) ci) b0 T s Bt ct Bd cd Bi ci kt kd (pre ++ (p, u, b) :: post) := by
 have hk := Kept.setM (w := w) (B := Bi) (pre ++ (p, u, b) :: post) ci
 exact ⟨h.box.kept hk h.Ti, h.mt.kept hk h.ti, h.md.kept hk h.di, h.mi.set, h.okt, h.okd, h.oki.store, h.et.kept hk (fun e he g' k5 e' => (h.entT he k5).2.2.2.1 e'), h.ed, h.ei.again, h.lT, h.lt, h.ld, h.li, h.ent, h.td, h.ti, h.di⟩
end
theorem setK_setK {α : Type} {key : α → Int} {k : Int} {f g : α → α} (hf : ∀ x, key (f x) = key x) (l : List α) : setK key k g (setK key k f l) = setK key k (fun x => g (f x)) l := by
 unfold setK
 rw [List.map_map]
 apply List.map_congr_left
 intro x hx
 simp only [Function.comp]
 by_cases h : key x = k
 ·rw [if_pos h, if_pos (by rw [hf]; exact h), if_pos h]
 ·rw [if_neg h, if_neg h, if_neg h]
theorem delK_setK {α : Type} {key : α → Int} {k : Int} {f : α → α} (hf : ∀ x, key (f x) = key x) (l : List α) : delK key k (setK key k f l) = delK key k l := by
 induction l with
 | nil => rfl
 | cons x l ih =>
  unfold delK setK at *
  rw [List.map_cons, List.filter_cons, List.filter_cons]
  by_cases h : key x = k
  ·rw [if_pos h]
   simp only [hf, h, ne_eq, not_true_eq_false, decide_false, Bool.false_eq_true, if_false]
   exact ih
  ·rw [if_neg h]
   simp only [ne_eq, h, not_false_eq_true, decide_true, if_true]
   rw [ih]
theorem getK_setK {α : Type} {key : α → Int} {k : Int} {f : α → α} (hf : ∀ x, key (f x) = key x) {l : List α} {q : α} (h : getK key k l = some q) : getK key k (setK key k f l) = some (f q) := by
 induction l with
 | nil => simp [getK] at h
 | cons x l ih =>
  unfold getK setK at *
  rw [List.map_cons, List.find?_cons]
  rw [List.find?_cons] at h
  by_cases hx : key x = k
  ·simp only [hx, decide_true, Option.some.injEq] at h
   subst h
   rw [if_pos hx]
   simp [hf, hx]
  ·simp only [hx, decide_false] at h
   rw [if_neg hx]
   simp only [hx, decide_false]
   exact ih h
theorem getK_insK {α : Type} {key : α → Int} {u : α} {l : List α} (hn : getK key (key u) l = none) : getK key (key u) (insK key u l) = some u := by
 have h0 := getK_none.1 hn
 induction l with
 | nil => simp [insK, getK]
 | cons x l ih =>
  unfold insK
  split
  ·simp [getK]
  ·have hx := h0 x List.mem_cons_self
   have h1 := ih (getK_none.2 fun y hy => h0 y (List.mem_cons_of_mem _ hy)) fun y hy => h0 y (List.mem_cons_of_mem _ hy)
   unfold getK at *
   rw [List.find?_cons]
   simp only [hx, decide_false]
   exact h1
theorem setK_insK {α : Type} {key : α → Int} {u : α} {f : α → α} (hf : ∀ x, key (f x) = key x) {l : List α} (hn : getK key (key u) l = none) : setK key (key u) f (insK key u l) = insK key (f u) l := by
 have h0 := getK_none.1 hn
 induction l with
 | nil => simp [insK, setK]
 | cons x l ih =>
  have hx := h0 x List.mem_cons_self
  have h1 := ih (getK_none.2 fun y hy => h0 y (List.mem_cons_of_mem _ hy)) fun y hy => h0 y (List.mem_cons_of_mem _ hy)
  unfold insK
  rw [hf]
  split
  ·have h2 := setK_miss (g := f) h0
   unfold setK at *
   rw [List.map_cons, if_pos rfl, h2]
  ·unfold setK at *
   rw [List.map_cons, if_neg hx, h1]
theorem exec_load_mid {P : Program} {o : Oper} {ev : Operand → Value} {ty : TypeId} {x : Operand} {b off : Nat} {cs : List Value} {d : TypeDesc} {w : World} (ho : o.op = .load ty x) (hx : ev x = .pointer (some ⟨b, off, none⟩)) (hc : w.rangeAt b off cs)
  (hu : P.underlying ty = some d) (hd : d.isRow = true) (hi : (P.info? ty).map (·.size) = some cs.length) : (execOp ev o).run P w = .ok (.value (.agg cs.toArray)) w := by
 unfold execOp
 simp only [ho, hx, Instr.loadAt, Instr.sureAddr, Sem.run_bind, Sem.run_pure, Result.andThen_ok, run_loadVar_mid w b off ty cs d hc hu hd hi]
theorem exec_lookup {P : Program} {o : Oper} {ev : Operand → Value} {T : TypeId} {m k : Operand} {ok : Bool} {vm vk v : Value} {w : World} (ho : o.op = .lookup T m k ok) (hm : ev m = vm) (hk : ev k = vk) (hr : (Instr.lookup T vm vk ok).run P w = .ok v w) : (execOp ev o).run P w = .ok (.value v) w := by
 simp only [execOp, ho, hm, hk, Sem.run_bind, hr, Result.andThen, Sem.run_pure]
theorem exec_update {P : Program} {o : Oper} {ev : Operand → Value} {T : TypeId} {m k y : Operand} {vm vk u : Value} {w w' : World} (ho : o.op = .mapUpdate T m k y) (hm : ev m = vm) (hk : ev k = vk) (hy : ev y = u) (hr : (Instr.mapUpdate T vm vk u).run P w = .ok () w') : (execOp ev o).run P w = .ok .skip w' := by
 simp only [execOp, ho, hm, hk, hy, Sem.run_bind, hr, Result.andThen, Sem.run_pure]
theorem exec_delete {P : Program} {o : Oper} {ev : Operand → Value} {T K : TypeId} {m k : Operand} {vm vk : Value} {w w' : World} (ho : o.op = Op.call { callee := Callee.builtin Builtin.delete, args := #[m, k], argTypes := #[T, K] }) (hm : ev m = vm) (hk : ev k = vk) (hr : (Builtin.delete_ #[T, K] o.type #[vm, vk]).run P w = .ok (.tuple #[]) w') : (execOp ev o).run P w = .ok (.value (.tuple #[])) w' := by
 simp [execOp, ho, resolve, invoke, builtin, hm, hk, hr, Result.andThen]
theorem step_exec {P : Program} {fi : Array Oper} {o : Oper} {a : Act} {w : World} {K : Act → World → Prop} {Q : Exit → Act → World → Prop} {E : Prop} {v : Value} {w' : World} (rf : o.guard = none) (hr : (execOp a.eval o).run P w = .ok (.value v) w') (h : K (a.put o.dst v) w') : if Region.wanted o (yielded fi a.tmps) = true then Oper.wp P o a w K Q else E := by
 have hw : Region.wanted o (yielded fi a.tmps) = true := by simp [Region.wanted, rf]
 rw [if_pos hw]
 unfold Oper.wp
 rw [hr]
 exact h
theorem step_skip {P : Program} {fi : Array Oper} {o : Oper} {a : Act} {w : World} {K : Act → World → Prop} {Q : Exit → Act → World → Prop} {E : Prop} {w' : World} (rf : o.guard = none) (hr : (execOp a.eval o).run P w = .ok .skip w') (h : K (a.put o.dst undef) w') : if Region.wanted o (yielded fi a.tmps) = true then Oper.wp P o a w K Q else E := by
 have hw : Region.wanted o (yielded fi a.tmps) = true := by simp [Region.wanted, rf]
 rw [if_pos hw]
 unfold Oper.wp
 rw [hr]
 exact h
def Tb (w : World) (b : Nat) : Prop := (∃ es ck, w.heap[b]? = some (.map es ck)) ∨ (∃ xs, Blk w b 57 xs) ∨ ∃ xs, Blk w b 94 xs
def KT (b0 : Nat) (w w' : World) : Prop := Kept (fun b => b0 ≤ b ∧ Tb w b) w w'
theorem KT.same {b0 : Nat} {w w' : World} (h : Same w w') : KT b0 w w' := h.mono (fun _ _ e => e.elim)
theorem KT.trans {b0 : Nat} {a b c : World} (h : KT b0 a b) (k : KT b0 b c) : KT b0 a c := by
 refine ⟨k.os.trans h.os, k.tape.trans h.tape, k.output.trans h.output, Nat.le_trans h.size k.size, fun i hi hr => ?_⟩
 have h1 := h.block i hi hr
 rw [← h1]
 refine k.block i (Nat.lt_of_lt_of_le hi h.size) (fun hb => hr ⟨hb.1, ?_⟩)
 have h2 := hb.2
 unfold Tb Blk at h2 ⊢
 rw [h1] at h2
 exact h2
theorem KT.then {b0 : Nat} {a b c : World} (h : KT b0 a b) (k : Same b c) : KT b0 a c := h.trans (KT.same k)
theorem KT.of {b0 B : Nat} {w w' : World} (h : Kept (fun b => b = B) w w') (hb : b0 ≤ B) (ht : Tb w B) : KT b0 w w' := h.mono (fun b _ e => by subst e; exact ⟨hb, ht⟩)
theorem KT.blk {b0 B : Nat} {w w' : World} {e : TypeId} {xs : List Value} (h : KT b0 w w') (hb : Blk w B e xs) (h1 : e ≠ 57) (h2 : e ≠ 94) : Blk w' B e xs := hb.kept h (fun hr => by
 rcases hr.2 with ⟨es, ck, h3⟩ | ⟨ys, h3⟩ | ⟨ys, h3⟩
 ·unfold Blk at hb; rw [hb] at h3; cases h3
 ·exact blk_ty hb h3 h1 rfl
 ·exact blk_ty hb h3 h2 rfl)
theorem KT.low {b0 : Nat} {w w' : World} (h : KT b0 w w') : Kept (fun b => b0 ≤ b) w w' := h.mono (fun _ _ e => e.1)
theorem tb_map {w : World} {B ck : Nat} {kv : List KV} (h : MapB w B kv ck) : Tb w B := .inl ⟨_, _, h⟩
theorem tb_ent {w : World} {B : Nat} {xs : List Value} (h : Blk w B 57 xs) : Tb w B := .inr (.inl ⟨xs, h⟩)
theorem tb_box {w : World} {B : Nat} {xs : List Value} (h : Blk w B 94 xs) : Tb w B := .inr (.inr ⟨xs, h⟩)
end Go.Proofs.YtepdakgfioffgaaGreat
