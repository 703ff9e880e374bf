/-
  MAPS KEYED BY int64, their elements whatever values: what make, a look-up, a store, a delete and len do to the block.
-/
import Derived.MapKept
import Derived.Maps.RangeRun
import Derived.Carry
import Derived.Test.YtagcefbnhpkdiabMem
namespace Go.Proofs.Ytagcefbnhpkdiab
open Go Go.RowKit Go.MapKept
set_option linter.unusedVariables false
set_option linter.unusedSimpArgs false

/-- key, element, stamp -/
abbrev KV := Int × Value × Nat
def entI (e : KV) : MapEntry := ⟨.int .i64 e.1, e.2.1, e.2.2⟩
def ents (kv : List KV) : List MapEntry := kv.map entI
def MapB (w : World) (B : Nat) (kv : List KV) (ck : Nat) : Prop := w.heap[B]? = some (.map (ents kv).toArray ck)
def setM (w : World) (B : Nat) (kv : List KV) (ck : Nat) : World := { w with heap := w.heap.setIfInBounds B (.map (ents kv).toArray ck) }
theorem MapB.lt {w : World} {B : Nat} {kv : List KV} {ck : Nat} (h : MapB w B kv ck) : B < w.heap.size := (Array.getElem?_eq_some_iff.1 h).1
theorem MapB.kept {R : Nat → Prop} {w w' : World} {B : Nat} {kv : List KV} {ck : Nat} (h : MapB w B kv ck) (hk : Kept R w w') (hr : ¬ R B) : MapB w' B kv ck := hk.heap h hr
theorem MapB.same {w w' : World} {B : Nat} {kv : List KV} {ck : Nat} (h : MapB w B kv ck) (hk : Same w w') : MapB w' B kv ck := h.kept hk id
theorem MapB.new (w : World) : MapB (w.alloc (.map #[] 0)) w.heap.size [] 0 := by
  unfold MapB ents World.alloc
  simp
theorem MapB.set {w : World} {B : Nat} {kv kv' : List KV} {ck ck' : Nat} (h : MapB w B kv ck) : MapB (setM w B kv' ck') B kv' ck' := (heap_set h).1
theorem Kept.setM {w : World} {B : Nat} (kv : List KV) (ck : Nat) : Kept (fun b => b = B) w (setM w B kv ck) :=
  ⟨rfl, rfl, rfl, by simp [Go.Proofs.Ytagcefbnhpkdiab.setM], fun k hk hr => by
    show (w.heap.setIfInBounds B _)[k]? = _
    rw [Array.getElem?_setIfInBounds_ne (fun e => hr e.symm)]⟩
theorem size_setM (w : World) (B : Nat) (kv : List KV) (ck : Nat) : (setM w B kv ck).heap.size = w.heap.size := by simp [setM]
theorem find_miss (x : Int) : ∀ (kv : List KV) (i : Nat), (∀ e ∈ kv, e.1 ≠ x) → Instr.findNow (.int .i64) (.int .i64 x) (ents kv) i = some none
  | [], i, _ => rfl
  | e :: r, i, h => by
    have h1 : (x == e.1) = false := by simp; exact fun e' => h e List.mem_cons_self e'.symm
    show Instr.findNow (.int .i64) (.int .i64 x) (entI e :: ents r) i = _
    unfold Instr.findNow
    simp only [entI, Instr.sameNow, if_true, h1]
    exact find_miss x r (i + 1) (fun e he => h e (List.mem_cons_of_mem _ he))
theorem find_hit (x : Int) (v : Value) (b : Nat) (post : List KV) : ∀ (pre : List KV) (i : Nat), (∀ e ∈ pre, e.1 ≠ x) → Instr.findNow (.int .i64) (.int .i64 x) (ents (pre ++ (x, v, b) :: post)) i = some (some (i + pre.length, v))
  | [], i, _ => by
    show Instr.findNow (.int .i64) (.int .i64 x) (entI (x, v, b) :: ents post) i = _
    unfold Instr.findNow
    simp [entI, Instr.sameNow]
  | e :: r, i, h => by
    have h1 : (x == e.1) = false := by simp; exact fun e' => h e List.mem_cons_self e'.symm
    show Instr.findNow (.int .i64) (.int .i64 x) (entI e :: ents (r ++ (x, v, b) :: post)) i = _
    unfold Instr.findNow
    simp only [entI, Instr.sameNow, if_true, h1]
    rw [find_hit x v b post r (i + 1) (fun e he => h e (List.mem_cons_of_mem _ he))]
    simp only [List.length_cons]
    congr 3
    omega
/-- an entry is there, or none is -/
theorem kv_cases (x : Int) (kv : List KV) : (∀ e ∈ kv, e.1 ≠ x) ∨ ∃ pre v b post, kv = pre ++ (x, v, b) :: post ∧ ∀ e ∈ pre, e.1 ≠ x := by
  induction kv with
  | nil => exact .inl (fun _ h => by simp at h)
  | cons e r ih =>
    by_cases h : e.1 = x
    · obtain ⟨k, v, b⟩ := e
      dsimp only at h
      subst h
      exact .inr ⟨[], v, b, r, rfl, fun _ h => by simp at h⟩
    · rcases ih with ih | ⟨pre, v, b, post, rfl, hp⟩
      · exact .inl (fun y hy => by rcases List.mem_cons.1 hy with rfl | hy; exact h; exact ih y hy)
      · exact .inr ⟨e :: pre, v, b, post, rfl, fun y hy => by rcases List.mem_cons.1 hy with rfl | hy; exact h; exact hp y hy⟩
theorem modify_mid {α : Type} (pre post : List α) (a : α) (f : α → α) : (pre ++ a :: post).modify pre.length f = pre ++ f a :: post := by
  induction pre with
  | nil => rfl
  | cons p r ih => simp [ih]
theorem erase_mid {α : Type} (pre post : List α) (a : α) : (pre ++ a :: post).eraseIdx pre.length = pre ++ post := by
  induction pre with
  | nil => rfl
  | cons p r ih => simp [ih]
section
variable {P : Program} {w : World} {B ck : Nat} {T K E : TypeId} {kv pre post : List KV} {x : Int} {v : Value} {b : Nat}
theorem run_get (hb : MapB w B kv ck) : (getObj B).run P w = .ok (.map (ents kv).toArray ck) w := by
  have h : w.heap[B]? = some (.map (ents kv).toArray ck) := hb
  simp [getObj, Sem.run, h]
theorem run_set (o : Obj) (hb : MapB w B kv ck) : (setObj B o).run P w = .ok () { w with heap := w.heap.setIfInBounds B o } := by
  have h : w.heap[B]? = some (.map (ents kv).toArray ck) := hb
  simp [setObj, Sem.run, h]
theorem run_find {a : Option (Nat × Value)} (hk : P.underlying K = some (.int .i64)) (h : Instr.findNow (.int .i64) (.int .i64 x) (ents kv) 0 = some a) : (Instr.findKey K (.int .i64 x) (ents kv)).run P w = .ok a w := run_findKey hk h
theorem run_ck (hk : P.underlying K = some (.int .i64)) (em : Bool) : (Instr.checkKey em 10000 K (.int .i64 x)).run P w = .ok () w := run_checkKey hk (show IsKey (.int .i64) (.int .i64 x) from rfl) em 9999
theorem run_lookup_hit (ht : P.underlying T = some (.map K E)) (hk : P.underlying K = some (.int .i64)) (hb : MapB w B (pre ++ (x, v, b) :: post) ck) (hp : ∀ e ∈ pre, e.1 ≠ x) (ok : Bool) :
    (Instr.lookup T (.map (some B)) (.int .i64 x) ok).run P w = .ok (if ok = true then .tuple #[v, .bool true] else v) w := by
  unfold Instr.lookup
  simp only [Sem.run_bind, run_underlying ht, Result.andThen, run_get hb, Sem.run_pure, run_ck hk, run_find hk (find_hit x v b post pre 0 hp)]
theorem run_lookup_miss {z : Value} (ht : P.underlying T = some (.map K E)) (hk : P.underlying K = some (.int .i64)) (hb : MapB w B kv ck) (hp : ∀ e ∈ kv, e.1 ≠ x) (hz : (zeroValue E).run P w = .ok z w) (ok : Bool) :
    (Instr.lookup T (.map (some B)) (.int .i64 x) ok).run P w = .ok (if ok = true then .tuple #[z, .bool false] else z) w := by
  unfold Instr.lookup
  simp only [Sem.run_bind, run_underlying ht, Result.andThen, run_get hb, Sem.run_pure, run_ck hk, run_find hk (find_miss x kv 0 hp), hz]
theorem run_update_new (ht : P.underlying T = some (.map K E)) (hk : P.underlying K = some (.int .i64)) (hb : MapB w B kv ck) (hp : ∀ e ∈ kv, e.1 ≠ x) :
    (Instr.mapUpdate T (.map (some B)) (.int .i64 x) v).run P w = .ok () (setM w B (kv ++ [(x, v, ck)]) (ck + 1)) := by
  unfold Instr.mapUpdate
  simp only [Sem.run_bind, run_underlying ht, Result.andThen, run_get hb, Sem.run_pure, run_ck hk, run_find hk (find_miss x kv 0 hp), run_set _ hb]
  unfold setM ents
  simp [entI]
theorem run_update_hit {u : Value} (ht : P.underlying T = some (.map K E)) (hk : P.underlying K = some (.int .i64)) (hb : MapB w B (pre ++ (x, v, b) :: post) ck) (hp : ∀ e ∈ pre, e.1 ≠ x) :
    (Instr.mapUpdate T (.map (some B)) (.int .i64 x) u).run P w = .ok () (setM w B (pre ++ (x, u, b) :: post) ck) := by
  have hlen : (ents pre).length = pre.length := by simp [ents]
  have hget : (ents (pre ++ (x, v, b) :: post))[pre.length]? = some (entI (x, v, b)) := by simp [ents]
  unfold Instr.mapUpdate
  simp only [Sem.run_bind, run_underlying ht, Result.andThen, run_get hb, Sem.run_pure, run_ck hk, run_find hk (find_hit x v b post pre 0 hp), Nat.zero_add, List.getElem?_toArray, hget, Option.map_some, Option.getD_some, entI, run_keyThatStays (d := .int .i64) (show IsKey (.int .i64) (.int .i64 x) from rfl), run_set _ hb]
  unfold setM
  have e : ((ents (pre ++ (x, v, b) :: post)).toArray.modify pre.length fun e => { key := .int .i64 x, val := u, born := e.born }) = (ents (pre ++ (x, u, b) :: post)).toArray := by
    apply Array.ext'
    rw [Array.toList_modify]
    simp only [ents, List.map_append, List.map_cons]
    have h := modify_mid (List.map entI pre) (List.map entI post) (entI (x, v, b)) (fun e => { key := .int .i64 x, val := u, born := e.born })
    rw [List.length_map] at h
    exact h
  rw [e]
theorem run_delete_miss {ty : TypeId} (ht : P.underlying T = some (.map K E)) (hk : P.underlying K = some (.int .i64)) (hb : MapB w B kv ck) (hp : ∀ e ∈ kv, e.1 ≠ x) :
    (Builtin.delete_ #[T, K] ty #[.map (some B), .int .i64 x]).run P w = .ok (.tuple #[]) (setM w B kv ck) := by
  simp [Builtin.delete_, run_underlying ht, Result.andThen, run_get hb, run_ck hk, run_find hk (find_miss x kv 0 hp), run_set _ hb, setM]
theorem run_delete_hit {ty : TypeId} (ht : P.underlying T = some (.map K E)) (hk : P.underlying K = some (.int .i64)) (hb : MapB w B (pre ++ (x, v, b) :: post) ck) (hp : ∀ e ∈ pre, e.1 ≠ x) :
    (Builtin.delete_ #[T, K] ty #[.map (some B), .int .i64 x]).run P w = .ok (.tuple #[]) (setM w B (pre ++ post) ck) := by
  have e : (ents (pre ++ (x, v, b) :: post)).eraseIdx pre.length = ents (pre ++ post) := by
    simp only [ents, List.map_append, List.map_cons]
    have h := erase_mid (List.map entI pre) (List.map entI post) (entI (x, v, b))
    rw [List.length_map] at h
    exact h
  have h1 := run_get (P := P) hb
  have h2 := run_find (P := P) (w := w) hk (find_hit x v b post pre 0 hp)
  have h3 := fun o => run_set (P := P) o hb
  rw [Nat.zero_add] at h2
  generalize (ents (pre ++ (x, v, b) :: post)) = L at h1 h2 e
  simp [Builtin.delete_, run_underlying ht, Result.andThen, h1, run_ck hk, h2, h3, setM, e]
/-- how many there are -/
theorem run_len_map {ty : TypeId} (hb : MapB w B kv ck) (hu : P.underlying T = some (.map K E)) : (Builtin.len_ #[T] ty #[.map (some B)]).run P w = .ok (goInt kv.length) w := by
  have h1 := run_get (P := P) hb
  have hl : (ents kv).length = kv.length := by simp [ents]
  generalize ents kv = L at h1 hl
  simp [Builtin.len_, run_underlying hu, Result.andThen, h1, hl]
/-- what the iterator has not handed out yet -/
def leftKV (kv : List KV) (seen : Array Nat) : List KV := kv.filter (fun e => !seen.contains e.2.2)
def IterB (w : World) (r B since : Nat) (seen : Array Nat) (c0 : Nat) : Prop := w.heap[r]? = some (.mapIter (some B) since seen c0)
def setIt (w : World) (r B since : Nat) (seen : Array Nat) (c0 : Nat) : World := { w with heap := w.heap.setIfInBounds r (.mapIter (some B) since seen c0) }
theorem run_range_map (ht : P.underlying T = some (.map K E)) (hb : MapB w B kv ck) : (Instr.range T (.map (some B))).run P w = .ok (.pointer (some ⟨w.heap.size, 0, none⟩)) (w.alloc (.mapIter (some B) ck #[] ck)) := by
  have h1 := run_get (P := P) hb
  generalize ents kv = L at h1
  simp [Instr.range, run_underlying ht, Result.andThen, h1, newObj, Sem.run]
theorem leftOf_kv (seen : Array Nat) : (leftOf (ents kv).toArray seen).toList = ents (leftKV kv seen) := by
  unfold leftOf leftKV ents
  simp [List.filter_map, Function.comp_def, entI]
  rfl
theorem run_next_kv {ty : TypeId} {r since c0 : Nat} {seen : Array Nat} (hr : IterB w r B since seen c0) (hb : MapB w B kv ck) (hold : ∀ e ∈ kv, e.2.2 < since) (hsc : since ≤ c0) :
    (leftKV kv seen = [] ∧ (Instr.next (.pointer (some ⟨r, 0, none⟩)) false ty).run P w = .ok (.tuple #[.bool false]) w) ∨
    ∃ e ∈ leftKV kv seen, ∃ w1 : World, (w1 = w ∨ w1 = w.drew) ∧ (Instr.next (.pointer (some ⟨r, 0, none⟩)) false ty).run P w = .ok (.tuple #[.bool true, .int .i64 e.1, e.2.1]) (setIt w1 r B since (seen.push e.2.2) ck) := by
  rcases run_next_at (P := P) w ty r B since c0 seen (ents kv).toArray ck hr hb (fun x hx => by
    simp only [ents, List.mem_map] at hx
    obtain ⟨e, he, rfl⟩ := hx
    exact hold e he) hsc with ⟨h1, h2⟩ | ⟨x, hx, w1, hw, h2⟩
  · refine .inl ⟨?_, h2⟩
    have h3 : (leftOf (ents kv).toArray seen).toList.length = 0 := by simpa using h1
    rw [leftOf_kv] at h3
    simpa [ents] using h3
  · rw [leftOf_kv] at hx
    simp only [ents, List.mem_map] at hx
    obtain ⟨e, he, rfl⟩ := hx
    exact .inr ⟨e, he, w1, hw, h2⟩
/-- stamps: each one once, all below the clock; keys: each one once -/
structure KVok (kv : List KV) (ck : Nat) : Prop where
  lt : ∀ e ∈ kv, e.2.2 < ck
  stamps : (kv.map (·.2.2)).Nodup
  keys : (kv.map (·.1)).Nodup
theorem KVok.nil (ck : Nat) : KVok [] ck := ⟨fun _ h => by simp at h, by simp, by simp⟩
theorem KVok.snoc (h : KVok kv ck) (hp : ∀ e ∈ kv, e.1 ≠ x) : KVok (kv ++ [(x, v, ck)]) (ck + 1) := by
  refine ⟨fun e he => ?_, ?_, ?_⟩
  · rcases List.mem_append.1 he with he | he
    · exact Nat.lt_succ_of_lt (h.lt e he)
    · rw [List.mem_singleton.1 he]; exact Nat.lt_succ_self _
  · rw [List.map_append]
    refine List.nodup_append.2 ⟨h.stamps, by simp, fun a ha b hb => ?_⟩
    obtain ⟨e, he, rfl⟩ := List.mem_map.1 ha
    have hb : b = ck := by simpa using hb
    rw [hb]
    exact Nat.ne_of_lt (h.lt e he)
  · rw [List.map_append]
    refine List.nodup_append.2 ⟨h.keys, by simp, fun a ha b hb => ?_⟩
    obtain ⟨e, he, rfl⟩ := List.mem_map.1 ha
    have hb : b = x := by simpa using hb
    rw [hb]
    exact hp e he
theorem KVok.store {u : Value} (h : KVok (pre ++ (x, v, b) :: post) ck) : KVok (pre ++ (x, u, b) :: post) ck := by
  refine ⟨fun e he => ?_, by simpa using h.stamps, by simpa using h.keys⟩
  rcases List.mem_append.1 he with he | he
  · exact h.lt e (List.mem_append_left _ he)
  · rcases List.mem_cons.1 he with rfl | he
    · exact h.lt (x, v, b) (List.mem_append_right _ List.mem_cons_self)
    · exact h.lt e (List.mem_append_right _ (List.mem_cons_of_mem _ he))
theorem KVok.drop (h : KVok (pre ++ (x, v, b) :: post) ck) : KVok (pre ++ post) ck := by
  have hs : (pre ++ post).Sublist (pre ++ (x, v, b) :: post) := List.Sublist.append_left (List.sublist_cons_self _ _) _
  exact ⟨fun e he => h.lt e (hs.subset he), (hs.map _).nodup h.stamps, (hs.map _).nodup h.keys⟩
theorem KVok.others (h : KVok (pre ++ (x, v, b) :: post) ck) : ∀ e ∈ pre ++ post, e.1 ≠ x := by
  have hn := h.keys
  rw [List.map_append, List.map_cons] at hn
  obtain ⟨h1, h2, h3⟩ := List.nodup_append.1 hn
  intro e he
  rcases List.mem_append.1 he with he | he
  · exact h3 e.1 (List.mem_map_of_mem he) x List.mem_cons_self
  · intro e'
    have h4 : e.1 ∈ post.map (·.1) := List.mem_map_of_mem he
    rw [e'] at h4
    exact (List.nodup_cons.1 h2).1 h4
/-- the round's key and element, read behind the step -/
theorem run_entry_kv {r since : Nat} {seen : Array Nat} {e : KV} (hr : IterB w r B since (seen.push e.2.2) ck) (hb : MapB w B kv ck) (he : e ∈ kv) (hn : KVok kv ck) :
    (Instr.entry (.pointer (some ⟨r, 0, none⟩))).run P w = .ok (.tuple #[.int .i64 e.1, e.2.1]) w := by
  have h := run_entry_at (P := P) w r B since seen (ents kv).toArray ck (entI e) hr hb (by simpa [ents] using List.mem_map_of_mem (f := entI) he) (by
    have : (ents kv).toArray.toList.map (·.born) = kv.map (·.2.2) := by simp [ents, Function.comp_def, entI]
    rw [this]
    exact hn.stamps)
  exact h
theorem leftKV_nil : leftKV kv #[] = kv := by unfold leftKV; simp
/-- a step takes one away -/
theorem leftKV_push {e : KV} {seen : Array Nat} (hn : (kv.map (·.2.2)).Nodup) (he : e ∈ leftKV kv seen) : (leftKV kv (seen.push e.2.2)).length + 1 = (leftKV kv seen).length := by
  have h1 : leftKV kv (seen.push e.2.2) = (leftKV kv seen).filter (fun y => !(y.2.2 == e.2.2)) := by
    unfold leftKV
    rw [List.filter_filter]
    apply List.filter_congr
    intro y _
    rw [Array.contains_push]
    cases h1 : seen.contains y.2.2 <;> cases h2 : (y.2.2 == e.2.2) <;> simp_all
  have hn' : ((leftKV kv seen).map (·.2.2)).Nodup := ((List.filter_sublist (l := kv)).map _).nodup hn
  rw [h1]
  revert hn' he
  generalize leftKV kv seen = L
  intro he hn'
  induction L with
  | nil => simp at he
  | cons y r ih =>
    rw [List.map_cons, List.nodup_cons] at hn'
    by_cases hy : y.2.2 = e.2.2
    · have hr : r.filter (fun z => !(z.2.2 == e.2.2)) = r := by
        rw [List.filter_eq_self]
        intro z hz
        have : z.2.2 ≠ e.2.2 := fun h => hn'.1 (by rw [hy, ← h]; exact List.mem_map_of_mem hz)
        simpa using this
      rw [List.filter_cons_of_neg (by simpa using hy), hr, List.length_cons]
    · have he' : e ∈ r := by
        rcases List.mem_cons.1 he with rfl | h
        · exact absurd rfl hy
        · exact h
      rw [List.filter_cons_of_pos (by simpa using hy), List.length_cons, List.length_cons, ih he' hn'.2]
/-- what is left is what a step takes, and what is left behind it, in some order -/
theorem leftKV_perm {e : KV} {seen : Array Nat} (hn : (kv.map (·.2.2)).Nodup) (he : e ∈ leftKV kv seen) : (leftKV kv seen).Perm (e :: leftKV kv (seen.push e.2.2)) := by
  have h1 : leftKV kv (seen.push e.2.2) = (leftKV kv seen).filter (fun y => !(y.2.2 == e.2.2)) := by
    unfold leftKV
    rw [List.filter_filter]
    apply List.filter_congr
    intro y _
    rw [Array.contains_push]
    cases h1 : seen.contains y.2.2 <;> cases h2 : (y.2.2 == e.2.2) <;> simp_all
  have hn' : ((leftKV kv seen).map (·.2.2)).Nodup := ((List.filter_sublist (l := kv)).map _).nodup hn
  rw [h1]
  revert hn' he
  generalize leftKV kv seen = L
  intro he hn'
  induction L with
  | nil => simp at he
  | cons y r ih =>
    rw [List.map_cons, List.nodup_cons] at hn'
    by_cases hy : y.2.2 = e.2.2
    · have hr : r.filter (fun z => !(z.2.2 == e.2.2)) = r := by
        rw [List.filter_eq_self]
        intro z hz
        have : z.2.2 ≠ e.2.2 := fun h => hn'.1 (by rw [hy, ← h]; exact List.mem_map_of_mem hz)
        simpa using this
      have hye : y = e := by
        rcases List.mem_cons.1 he with h | h
        · exact h.symm
        · exact absurd (List.mem_map_of_mem (f := fun z : KV => z.2.2) h) (by rw [← hy]; exact hn'.1)
      rw [List.filter_cons_of_neg (by simpa using hy), hr, hye]
    · have he' : e ∈ r := by
        rcases List.mem_cons.1 he with rfl | h
        · exact absurd rfl hy
        · exact h
      rw [List.filter_cons_of_pos (by simpa using hy)]
      exact ((ih he' hn'.2).cons y).trans (List.Perm.swap _ _ _)
end
end Go.Proofs.Ytagcefbnhpkdiab
