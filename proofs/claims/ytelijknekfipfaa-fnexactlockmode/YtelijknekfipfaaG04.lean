import Derived.Test.YtelijknekfipfaaG00
import Derived.Test.YtelijknekfipfaaG01
import Derived.MapKept
import Derived.Maps.RangeRun
import Derived.Carry
import Derived.Deep.AppendLies
import Derived.Deep.DeepCutAuto
namespace Go.Proofs.Ytelijknekfipfaa
set_option linter.unusedVariables false
set_option linter.unusedSimpArgs false
set_option maxRecDepth 100000
set_option maxHeartbeats 4000000
open Go Go.RowKit Go.MapKept
abbrev KV := Int × Value × Nat
def entI (e : KV) : MapEntry := ⟨.int .i64 e.1, e.2.1, e.2.2⟩
def ents (kv : List KV) : List MapEntry := kv.map entI
def MapB (w : World) (B : Nat) (kv : List KV) (ck : Nat) : Prop := w.heap[B]? = some (.map (ents kv).toArray ck)
def setM (w : World) (B : Nat) (kv : List KV) (ck : Nat) : World := { w with heap := w.heap.setIfInBounds B (.map (ents kv).toArray ck) }
theorem MapB.lt {w : World} {B : Nat} {kv : List KV} {ck : Nat} (h : MapB w B kv ck) : B < w.heap.size := (Array.getElem?_eq_some_iff.1 h).1
theorem MapB.kept {R : Nat → Prop} {w w' : World} {B : Nat} {kv : List KV} {ck : Nat} (h : MapB w B kv ck) (hk : Kept R w w') (hr : ¬ R B) : MapB w' B kv ck := hk.heap h hr
theorem MapB.same {w w' : World} {B : Nat} {kv : List KV} {ck : Nat} (h : MapB w B kv ck) (hk : Same w w') : MapB w' B kv ck := h.kept hk id
theorem MapB.new (w : World) : MapB (w.alloc (.map #[] 0)) w.heap.size [] 0 := by
  unfold MapB ents World.alloc
  simp
theorem MapB.set {w : World} {B : Nat} {kv kv' : List KV} {ck ck' : Nat} (h : MapB w B kv ck) : MapB (setM w B kv' ck') B kv' ck' := (heap_set h).1
theorem Kept.setM {w : World} {B : Nat} (kv : List KV) (ck : Nat) : Kept (fun b => b = B) w (setM w B kv ck) :=
  ⟨rfl, rfl, rfl, by simp [Go.Proofs.Ytelijknekfipfaa.setM], fun k hk hr => by
    show (w.heap.setIfInBounds B _)[k]? = _
    rw [Array.getElem?_setIfInBounds_ne (fun e => hr e.symm)]⟩
theorem find_miss (x : Int) : ∀ (kv : List KV) (i : Nat), (∀ e ∈ kv, e.1 ≠ x) → Instr.findNow (.int .i64) (.int .i64 x) (ents kv) i = some none
  | [], i, _ => rfl
  | e :: r, i, h => by
    have h1 : (x == e.1) = false := by simp; exact fun e' => h e List.mem_cons_self e'.symm
    show Instr.findNow (.int .i64) (.int .i64 x) (entI e :: ents r) i = _
    unfold Instr.findNow
    simp only [entI, Instr.sameNow, if_true, h1]
    exact find_miss x r (i + 1) (fun e he => h e (List.mem_cons_of_mem _ he))
theorem find_hit (x : Int) (v : Value) (b : Nat) (post : List KV) : ∀ (pre : List KV) (i : Nat), (∀ e ∈ pre, e.1 ≠ x) → Instr.findNow (.int .i64) (.int .i64 x) (ents (pre ++ (x, v, b) :: post)) i = some (some (i + pre.length, v))
  | [], i, _ => by
    show Instr.findNow (.int .i64) (.int .i64 x) (entI (x, v, b) :: ents post) i = _
    unfold Instr.findNow
    simp [entI, Instr.sameNow]
  | e :: r, i, h => by
    have h1 : (x == e.1) = false := by simp; exact fun e' => h e List.mem_cons_self e'.symm
    show Instr.findNow (.int .i64) (.int .i64 x) (entI e :: ents (r ++ (x, v, b) :: post)) i = _
    unfold Instr.findNow
    simp only [entI, Instr.sameNow, if_true, h1]
    rw [find_hit x v b post r (i + 1) (fun e he => h e (List.mem_cons_of_mem _ he))]
    simp only [List.length_cons]
    congr 3
    omega
theorem modify_mid {α : Type} (pre post : List α) (a : α) (f : α → α) : (pre ++ a :: post).modify pre.length f = pre ++ f a :: post := by
  induction pre with
  | nil => rfl
  | cons p r ih => simp [ih]
theorem erase_mid {α : Type} (pre post : List α) (a : α) : (pre ++ a :: post).eraseIdx pre.length = pre ++ post := by
  induction pre with
  | nil => rfl
  | cons p r ih => simp [ih]
section
variable {P : Program} {w : World} {B ck : Nat} {T K E : TypeId} {kv pre post : List KV} {x : Int} {v : Value} {b : Nat}
theorem run_get (hb : MapB w B kv ck) : (getObj B).run P w = .ok (.map (ents kv).toArray ck) w := by
  have h : w.heap[B]? = some (.map (ents kv).toArray ck) := hb
  simp [getObj, Sem.run, h]
theorem run_set (o : Obj) (hb : MapB w B kv ck) : (setObj B o).run P w = .ok () { w with heap := w.heap.setIfInBounds B o } := by
  have h : w.heap[B]? = some (.map (ents kv).toArray ck) := hb
  simp [setObj, Sem.run, h]
theorem run_find {a : Option (Nat × Value)} (hk : P.underlying K = some (.int .i64)) (h : Instr.findNow (.int .i64) (.int .i64 x) (ents kv) 0 = some a) : (Instr.findKey K (.int .i64 x) (ents kv)).run P w = .ok a w := run_findKey hk h
theorem run_ck (hk : P.underlying K = some (.int .i64)) (em : Bool) : (Instr.checkKey em 10000 K (.int .i64 x)).run P w = .ok () w := run_checkKey hk (show IsKey (.int .i64) (.int .i64 x) from rfl) em 9999
theorem run_lookup_hit (ht : P.underlying T = some (.map K E)) (hk : P.underlying K = some (.int .i64)) (hb : MapB w B (pre ++ (x, v, b) :: post) ck) (hp : ∀ e ∈ pre, e.1 ≠ x) (ok : Bool) :
    (Instr.lookup T (.map (some B)) (.int .i64 x) ok).run P w = .ok (if ok = true then .tuple #[v, .bool true] else v) w := by
  unfold Instr.lookup
  simp only [Sem.run_bind, run_underlying ht, Result.andThen, run_get hb, Sem.run_pure, run_ck hk, run_find hk (find_hit x v b post pre 0 hp)]
theorem run_lookup_miss {z : Value} (ht : P.underlying T = some (.map K E)) (hk : P.underlying K = some (.int .i64)) (hb : MapB w B kv ck) (hp : ∀ e ∈ kv, e.1 ≠ x) (hz : (zeroValue E).run P w = .ok z w) (ok : Bool) :
    (Instr.lookup T (.map (some B)) (.int .i64 x) ok).run P w = .ok (if ok = true then .tuple #[z, .bool false] else z) w := by
  unfold Instr.lookup
  simp only [Sem.run_bind, run_underlying ht, Result.andThen, run_get hb, Sem.run_pure, run_ck hk, run_find hk (find_miss x kv 0 hp), hz]
theorem run_update_new (ht : P.underlying T = some (.map K E)) (hk : P.underlying K = some (.int .i64)) (hb : MapB w B kv ck) (hp : ∀ e ∈ kv, e.1 ≠ x) :
    (Instr.mapUpdate T (.map (some B)) (.int .i64 x) v).run P w = .ok () (setM w B (kv ++ [(x, v, ck)]) (ck + 1)) := by
  unfold Instr.mapUpdate
  simp only [Sem.run_bind, run_underlying ht, Result.andThen, run_get hb, Sem.run_pure, run_ck hk, run_find hk (find_miss x kv 0 hp), run_set _ hb]
  unfold setM ents
  simp [entI]
theorem run_update_hit {u : Value} (ht : P.underlying T = some (.map K E)) (hk : P.underlying K = some (.int .i64)) (hb : MapB w B (pre ++ (x, v, b) :: post) ck) (hp : ∀ e ∈ pre, e.1 ≠ x) :
    (Instr.mapUpdate T (.map (some B)) (.int .i64 x) u).run P w = .ok () (setM w B (pre ++ (x, u, b) :: post) ck) := by
  have hlen : (ents pre).length = pre.length := by simp [ents]
  have hget : (ents (pre ++ (x, v, b) :: post))[pre.length]? = some (entI (x, v, b)) := by simp [ents]
  unfold Instr.mapUpdate
  simp only [Sem.run_bind, run_underlying ht, Result.andThen, run_get hb, Sem.run_pure, run_ck hk, run_find hk (find_hit x v b post pre 0 hp), Nat.zero_add, List.getElem?_toArray, hget, Option.map_some, Option.getD_some, entI, run_keyThatStays (d := .int .i64) (show IsKey (.int .i64) (.int .i64 x) from rfl), run_set _ hb]
  unfold setM
  have e : ((ents (pre ++ (x, v, b) :: post)).toArray.modify pre.length fun e => { key := .int .i64 x, val := u, born := e.born }) = (ents (pre ++ (x, u, b) :: post)).toArray := by
    apply Array.ext'
    rw [Array.toList_modify]
    simp only [ents, List.map_append, List.map_cons]
    have h := modify_mid (List.map entI pre) (List.map entI post) (entI (x, v, b)) (fun e => { key := .int .i64 x, val := u, born := e.born })
    rw [List.length_map] at h
    exact h
  rw [e]
theorem run_delete_miss {ty : TypeId} (ht : P.underlying T = some (.map K E)) (hk : P.underlying K = some (.int .i64)) (hb : MapB w B kv ck) (hp : ∀ e ∈ kv, e.1 ≠ x) :
    (Builtin.delete_ #[T, K] ty #[.map (some B), .int .i64 x]).run P w = .ok (.tuple #[]) (setM w B kv ck) := by
  simp [Builtin.delete_, run_underlying ht, Result.andThen, run_get hb, run_ck hk, run_find hk (find_miss x kv 0 hp), run_set _ hb, setM]
theorem run_delete_hit {ty : TypeId} (ht : P.underlying T = some (.map K E)) (hk : P.underlying K = some (.int .i64)) (hb : MapB w B (pre ++ (x, v, b) :: post) ck) (hp : ∀ e ∈ pre, e.1 ≠ x) :
    (Builtin.delete_ #[T, K] ty #[.map (some B), .int .i64 x]).run P w = .ok (.tuple #[]) (setM w B (pre ++ post) ck) := by
  have e : (ents (pre ++ (x, v, b) :: post)).eraseIdx pre.length = ents (pre ++ post) := by
    simp only [ents, List.map_append, List.map_cons]
    have h := erase_mid (List.map entI pre) (List.map entI post) (entI (x, v, b))
    rw [List.length_map] at h
    exact h
  have h1 := run_get (P := P) hb
  have h2 := run_find (P := P) (w := w) hk (find_hit x v b post pre 0 hp)
  have h3 := fun o => run_set (P := P) o hb
  rw [Nat.zero_add] at h2
  generalize (ents (pre ++ (x, v, b) :: post)) = L at h1 h2 e
  simp [Builtin.delete_, run_underlying ht, Result.andThen, h1, run_ck hk, h2, h3, setM, e]
theorem run_len_map {ty : TypeId} (hb : MapB w B kv ck) (hu : P.underlying T = some (.map K E)) : (Builtin.len_ #[T] ty #[.map (some B)]).run P w = .ok (goInt kv.length) w := by
  have h1 := run_get (P := P) hb
  have hl : (ents kv).length = kv.length := by simp [ents]
  generalize ents kv = L at h1 hl
  simp [Builtin.len_, run_underlying hu, Result.andThen, h1, hl]
def leftKV (kv : List KV) (seen : Array Nat) : List KV := kv.filter (fun e => !seen.contains e.2.2)
def IterB (w : World) (r B since : Nat) (seen : Array Nat) (c0 : Nat) : Prop := w.heap[r]? = some (.mapIter (some B) since seen c0)
def setIt (w : World) (r B since : Nat) (seen : Array Nat) (c0 : Nat) : World := { w with heap := w.heap.setIfInBounds r (.mapIter (some B) since seen c0) }
theorem run_range_map (ht : P.underlying T = some (.map K E)) (hb : MapB w B kv ck) : (Instr.range T (.map (some B))).run P w = .ok (.pointer (some ⟨w.heap.size, 0, none⟩)) (w.alloc (.mapIter (some B) ck #[] ck)) := by
  have h1 := run_get (P := P) hb
  generalize ents kv = L at h1
  simp [Instr.range, run_underlying ht, Result.andThen, h1, newObj, Sem.run]
theorem leftOf_kv (seen : Array Nat) : (leftOf (ents kv).toArray seen).toList = ents (leftKV kv seen) := by
  unfold leftOf leftKV ents
  simp [List.filter_map, Function.comp_def, entI]
  rfl
theorem run_next_kv {ty : TypeId} {r since c0 : Nat} {seen : Array Nat} (hr : IterB w r B since seen c0) (hb : MapB w B kv ck) (hold : ∀ e ∈ kv, e.2.2 < since) (hsc : since ≤ c0) :
    (leftKV kv seen = [] ∧ (Instr.next (.pointer (some ⟨r, 0, none⟩)) false ty).run P w = .ok (.tuple #[.bool false]) w) ∨
    ∃ e ∈ leftKV kv seen, ∃ w1 : World, (w1 = w ∨ w1 = w.drew) ∧ (Instr.next (.pointer (some ⟨r, 0, none⟩)) false ty).run P w = .ok (.tuple #[.bool true, .int .i64 e.1, e.2.1]) (setIt w1 r B since (seen.push e.2.2) ck) := by
  rcases run_next_at (P := P) w ty r B since c0 seen (ents kv).toArray ck hr hb (fun x hx => by
    simp only [ents, List.mem_map] at hx
    obtain ⟨e, he, rfl⟩ := hx
    exact hold e he) hsc with ⟨h1, h2⟩ | ⟨x, hx, w1, hw, h2⟩
  · refine .inl ⟨?_, h2⟩
    have h3 : (leftOf (ents kv).toArray seen).toList.length = 0 := by simpa using h1
    rw [leftOf_kv] at h3
    simpa [ents] using h3
  · rw [leftOf_kv] at hx
    simp only [ents, List.mem_map] at hx
    obtain ⟨e, he, rfl⟩ := hx
    exact .inr ⟨e, he, w1, hw, h2⟩
structure KVok (kv : List KV) (ck : Nat) : Prop where
  lt : ∀ e ∈ kv, e.2.2 < ck
  stamps : (kv.map (·.2.2)).Nodup
  keys : (kv.map (·.1)).Nodup
theorem KVok.nil (ck : Nat) : KVok [] ck := ⟨fun _ h => by simp at h, by simp, by simp⟩
theorem KVok.snoc (h : KVok kv ck) (hp : ∀ e ∈ kv, e.1 ≠ x) : KVok (kv ++ [(x, v, ck)]) (ck + 1) := by
  refine ⟨fun e he => ?_, ?_, ?_⟩
  · rcases List.mem_append.1 he with he | he
    · exact Nat.lt_succ_of_lt (h.lt e he)
    · rw [List.mem_singleton.1 he]; exact Nat.lt_succ_self _
  · rw [List.map_append]
    refine List.nodup_append.2 ⟨h.stamps, by simp, fun a ha b hb => ?_⟩
    obtain ⟨e, he, rfl⟩ := List.mem_map.1 ha
    have hb : b = ck := by simpa using hb
    rw [hb]
    exact Nat.ne_of_lt (h.lt e he)
  · rw [List.map_append]
    refine List.nodup_append.2 ⟨h.keys, by simp, fun a ha b hb => ?_⟩
    obtain ⟨e, he, rfl⟩ := List.mem_map.1 ha
    have hb : b = x := by simpa using hb
    rw [hb]
    exact hp e he
theorem KVok.store {u : Value} (h : KVok (pre ++ (x, v, b) :: post) ck) : KVok (pre ++ (x, u, b) :: post) ck := by
  refine ⟨fun e he => ?_, by simpa using h.stamps, by simpa using h.keys⟩
  rcases List.mem_append.1 he with he | he
  · exact h.lt e (List.mem_append_left _ he)
  · rcases List.mem_cons.1 he with rfl | he
    · exact h.lt (x, v, b) (List.mem_append_right _ List.mem_cons_self)
    · exact h.lt e (List.mem_append_right _ (List.mem_cons_of_mem _ he))
theorem KVok.drop (h : KVok (pre ++ (x, v, b) :: post) ck) : KVok (pre ++ post) ck := by
  have hs : (pre ++ post).Sublist (pre ++ (x, v, b) :: post) := List.Sublist.append_left (List.sublist_cons_self _ _) _
  exact ⟨fun e he => h.lt e (hs.subset he), (hs.map _).nodup h.stamps, (hs.map _).nodup h.keys⟩
theorem KVok.others (h : KVok (pre ++ (x, v, b) :: post) ck) : ∀ e ∈ pre ++ post, e.1 ≠ x := by
  have hn := h.keys
  rw [List.map_append, List.map_cons] at hn
  obtain ⟨h1, h2, h3⟩ := List.nodup_append.1 hn
  intro e he
  rcases List.mem_append.1 he with he | he
  · exact h3 e.1 (List.mem_map_of_mem he) x List.mem_cons_self
  · intro e'
    have h4 : e.1 ∈ post.map (·.1) := List.mem_map_of_mem he
    rw [e'] at h4
    exact (List.nodup_cons.1 h2).1 h4
theorem run_entry_kv {r since : Nat} {seen : Array Nat} {e : KV} (hr : IterB w r B since (seen.push e.2.2) ck) (hb : MapB w B kv ck) (he : e ∈ kv) (hn : KVok kv ck) :
    (Instr.entry (.pointer (some ⟨r, 0, none⟩))).run P w = .ok (.tuple #[.int .i64 e.1, e.2.1]) w := by
  have h := run_entry_at (P := P) w r B since seen (ents kv).toArray ck (entI e) hr hb (by simpa [ents] using List.mem_map_of_mem (f := entI) he) (by
    have : (ents kv).toArray.toList.map (·.born) = kv.map (·.2.2) := by simp [ents, Function.comp_def, entI]
    rw [this]
    exact hn.stamps)
  exact h
theorem leftKV_nil : leftKV kv #[] = kv := by unfold leftKV; simp
theorem leftKV_push {e : KV} {seen : Array Nat} (hn : (kv.map (·.2.2)).Nodup) (he : e ∈ leftKV kv seen) : (leftKV kv (seen.push e.2.2)).length + 1 = (leftKV kv seen).length := by
  have h1 : leftKV kv (seen.push e.2.2) = (leftKV kv seen).filter (fun y => !(y.2.2 == e.2.2)) := by
    unfold leftKV
    rw [List.filter_filter]
    apply List.filter_congr
    intro y _
    rw [Array.contains_push]
    cases h1 : seen.contains y.2.2 <;> cases h2 : (y.2.2 == e.2.2) <;> simp_all
  have hn' : ((leftKV kv seen).map (·.2.2)).Nodup := ((List.filter_sublist (l := kv)).map _).nodup hn
  rw [h1]
  revert hn' he
  generalize leftKV kv seen = L
  intro he hn'
  induction L with
  | nil => simp at he
  | cons y r ih =>
    rw [List.map_cons, List.nodup_cons] at hn'
    by_cases hy : y.2.2 = e.2.2
    · have hr : r.filter (fun z => !(z.2.2 == e.2.2)) = r := by
        rw [List.filter_eq_self]
        intro z hz
        have : z.2.2 ≠ e.2.2 := fun h => hn'.1 (by rw [hy, ← h]; exact List.mem_map_of_mem hz)
        simpa using this
      rw [List.filter_cons_of_neg (by simpa using hy), hr, List.length_cons]
    · have he' : e ∈ r := by
        rcases List.mem_cons.1 he with rfl | h
        · exact absurd rfl hy
        · exact h
      rw [List.filter_cons_of_pos (by simpa using hy), List.length_cons, List.length_cons, ih he' hn'.2]
theorem leftKV_perm {e : KV} {seen : Array Nat} (hn : (kv.map (·.2.2)).Nodup) (he : e ∈ leftKV kv seen) : (leftKV kv seen).Perm (e :: leftKV kv (seen.push e.2.2)) := by
  have h1 : leftKV kv (seen.push e.2.2) = (leftKV kv seen).filter (fun y => !(y.2.2 == e.2.2)) := by
    unfold leftKV
    rw [List.filter_filter]
    apply List.filter_congr
    intro y _
    rw [Array.contains_push]
    cases h1 : seen.contains y.2.2 <;> cases h2 : (y.2.2 == e.2.2) <;> simp_all
  have hn' : ((leftKV kv seen).map (·.2.2)).Nodup := ((List.filter_sublist (l := kv)).map _).nodup hn
  rw [h1]
  revert hn' he
  generalize leftKV kv seen = L
  intro he hn'
  induction L with
  | nil => simp at he
  | cons y r ih =>
    rw [List.map_cons, List.nodup_cons] at hn'
    by_cases hy : y.2.2 = e.2.2
    · have hr : r.filter (fun z => !(z.2.2 == e.2.2)) = r := by
        rw [List.filter_eq_self]
        intro z hz
        have : z.2.2 ≠ e.2.2 := fun h => hn'.1 (by rw [hy, ← h]; exact List.mem_map_of_mem hz)
        simpa using this
      have hye : y = e := by
        rcases List.mem_cons.1 he with h | h
        · exact h.symm
        · exact absurd (List.mem_map_of_mem (f := fun z : KV => z.2.2) h) (by rw [← hy]; exact hn'.1)
      rw [List.filter_cons_of_neg (by simpa using hy), hr, hye]
    · have he' : e ∈ r := by
        rcases List.mem_cons.1 he with rfl | h
        · exact absurd rfl hy
        · exact h
      rw [List.filter_cons_of_pos (by simpa using hy)]
      exact ((ih he' hn'.2).cons y).trans (List.Perm.swap _ _ _)
end
section
variable {P : Program} {ops : Array Oper} {rest : List Oper} {o : Oper} {a : Act} {w : World} {Q : Exit → Act → World → Prop} {B ck : Nat} {T K E : TypeId} {kv pre post : List KV} {x : Int} {v u z : Value} {b : Nat}
end
theorem Kept.setIt {w : World} {r B since c0 : Nat} {seen : Array Nat} : Kept (fun b => b = r) w (setIt w r B since seen c0) :=
  ⟨rfl, rfl, rfl, by simp [Go.Proofs.Ytelijknekfipfaa.setIt], fun k hk hr => by
    show (w.heap.setIfInBounds r _)[k]? = _
    rw [Array.getElem?_setIfInBounds_ne (fun e => hr e.symm)]⟩
theorem IterB.set {w : World} {r B since since' c0 c1 B' : Nat} {seen seen' : Array Nat} (h : IterB w r B since seen c0) : IterB (setIt w r B' since' seen' c1) r B' since' seen' c1 := (heap_set h).1
theorem IterB.new (w : World) (B ck : Nat) : IterB (w.alloc (.mapIter (some B) ck #[] ck)) w.heap.size B ck #[] ck := by
  unfold IterB World.alloc
  simp
theorem IterB.ne {w : World} {r B B' since c0 ck : Nat} {seen : Array Nat} {kv : List KV} (h : IterB w r B since seen c0) (hb : MapB w B' kv ck) : B' ≠ r := by
  intro e
  unfold IterB at h
  unfold MapB at hb
  rw [e, h] at hb
  simp at hb
def leftN (w : World) (r B : Nat) : Nat :=
  match w.heap[r]?, w.heap[B]? with
  | some (.mapIter _ _ seen _), some (.map es _) => (leftOf es seen).toList.length
  | _, _ => 0
theorem leftN_eq {w : World} {r B since c0 ck : Nat} {seen : Array Nat} {kv : List KV} (hr : IterB w r B since seen c0) (hb : MapB w B kv ck) : leftN w r B = (leftKV kv seen).length := by
  unfold IterB at hr
  unfold MapB at hb
  unfold leftN
  simp only [hr, hb]
  rw [leftOf_kv]
  simp [ents]
theorem mem_left {kv : List KV} {seen : Array Nat} {e : KV} (h : e ∈ leftKV kv seen) : e ∈ kv := (List.mem_filter.1 h).1
theorem next_facts {w w1 : World} {r B since c0 ck : Nat} {seen : Array Nat} {kv : List KV} {e : KV} (hr : IterB w r B since seen c0) (hb : MapB w B kv ck) (hw : w1 = w ∨ w1 = w.drew) :
    IterB (setIt w1 r B since (seen.push e.2.2) ck) r B since (seen.push e.2.2) ck ∧ MapB (setIt w1 r B since (seen.push e.2.2) ck) B kv ck ∧ Kept (fun b => b = r) w (setIt w1 r B since (seen.push e.2.2) ck) := by
  have hne := hr.ne hb
  have hr1 : IterB w1 r B since seen c0 := by rcases hw with rfl | rfl <;> exact hr
  have hb1 : MapB w1 B kv ck := by rcases hw with rfl | rfl <;> exact hb
  have hs : Same w w1 := by rcases hw with rfl | rfl; exact Kept.refl _ _; exact (Kept.refl _ _).drew
  have hk := Kept.setIt (w := w1) (r := r) (B := B) (since := since) (c0 := ck) (seen := seen.push e.2.2)
  exact ⟨hr1.set, hb1.kept hk hne, (Kept.mono hs (fun _ _ h => h.elim)).trans hk⟩
def modeFrom (txn id : Int) : List T3 → Int
  | [] => 0
  | l :: t => if l.1 = id ∧ l.2.1 = txn then l.2.2 else modeFrom txn id t
def modeP (ls : List T3) (txn id : Int) : Int := if locksF ls = 0 then modeFrom txn id ls else 0
def othersFrom (txn id : Int) : Int → List T3 → Int
  | m, [] => m
  | m, l :: t => othersFrom txn id (if l.1 = id ∧ l.2.1 ≠ txn ∧ m < l.2.2 then l.2.2 else m) t
def othersP (ls : List T3) (txn id : Int) : Int := if locksF ls = 0 then othersFrom txn id 0 ls else 0
theorem locksF_len {ls : List T3} (h : locksF ls = 0) : ls.length ≤ 4096 := by
  unfold locksF at h
  split at h
  · cases h
  · omega
theorem specLockMode_any (x : FR) (txn id : Int) (w : World) (hv : RdF 3 w x) :
    Calls Try.prog 19 #[x.v, .int .i64 txn, .int .i64 id] w fun e w' => e = .returned (.int .i64 (modeP (tri x.bs) txn id)) ∧ Same w w' := by
  have k0 := specLocksFault_any x w hv
  obtain ⟨xe, xa, n, xc, bs⟩ := x
  have hm : n ≤ maxLen := hv.1
  unfold maxLen at hm
  have hl := tri_length n bs hv.2.1
  dsimp only [FR.v] at k0 ⊢
  have HV := hid hv
  clear hv
  obtain ⟨R, hR⟩ : ∃ R, modeP (tri bs) txn id = R := ⟨_, rfl⟩
  rw [hR]
  unfold modeP at hR
  obtain ⟨q, hq⟩ : ∃ q, locksF (tri bs) = q := ⟨_, rfl⟩
  rw [hq] at hR k0
  by_cases h0 : q = 0
  · subst h0
    have hn := locksF_len hq
    rw [if_pos rfl, show tri bs = (tri bs).drop 0 from rfl] at hR
    have HR := hid hR
    have HL := hid hl
    rw [hl] at hn
    clear hR hl hq
    go_enter Try.func19, Try.ntmps19
    go_wp2_with fail
    refine k0.mono ?_
    rintro e w1 ⟨rfl, hk1⟩
    have HK1 := hid hk1
    clear hk1
    go_wp2_with fail
    go_loopw [7] (fun i wr => ∃ k : Nat, k ≤ n ∧ i = .int .i64 k ∧ Hid (modeFrom txn id ((tri bs).drop k) = R) ∧ Hid (Same w wr)) (fun i _ => n - (intOf i).toNat)
    case atStart => exact ⟨0, Nat.zero_le _, rfl, HR, HK1⟩
    case round =>
      obtain ⟨k, hk, rfl, HA, HK⟩ := hrel
      by_cases hlt : k < n
      · obtain ⟨b, off, ha, hc⟩ := HV.out.some (show 0 < n by omega)
        dsimp only at ha hc
        subst ha
        have hla : k < (tri bs).length := by rw [HL.out]; omega
        obtain ⟨⟨x, y, z⟩, hxa⟩ : ∃ q, (tri bs)[k] = q := ⟨_, rfl⟩
        obtain ⟨da0, da1, da2⟩ := (HV.out.same HK.out).tri k hla _ _ _ hxa
        have h := HA.out
        rw [List.drop_eq_getElem_cons hla, hxa] at h
        simp only [modeFrom] at h
        clear hxa HA
        by_cases h1 : x = id
        · subst h1
          by_cases h2 : y = txn
          · subst h2
            rw [if_pos ⟨rfl, rfl⟩] at h
            subst h
            go_wp2
            go_ret
            exact ⟨rfl, HK.out⟩
          · rw [if_neg (fun h => h2 h.2)] at h
            have HN := hid h
            clear h
            go_wp2
            go_roundw
            case rel => exact ⟨k + 1, by omega, by go_num, HN, HK⟩
            case measure => simp [intOf]; omega
        · rw [if_neg (fun h => h1 h.1)] at h
          have HN := hid h
          clear h
          go_wp2
          go_roundw
          case rel => exact ⟨k + 1, by omega, by go_num, HN, HK⟩
          case measure => simp [intOf]; omega
      · obtain rfl : k = n := by omega
        have h := HA.out
        rw [show (tri bs).drop k = [] from List.drop_eq_nil_of_le (by rw [HL.out]; exact Nat.le_refl _)] at h
        simp only [modeFrom] at h
        subst h
        go_wp2
        go_ret
        exact ⟨rfl, HK.out⟩
  · rw [if_neg h0] at hR
    subst hR
    clear hl hq
    go_enter Try.func19, Try.ntmps19
    go_wp2_with fail
    refine k0.mono ?_
    rintro e w1 ⟨rfl, hk1⟩
    have HK1 := hid hk1
    clear hk1
    go_wp2
    go_ret
    exact ⟨rfl, HK1.out⟩
theorem specLockOthers_any (x : FR) (txn id : Int) (w : World) (hv : RdF 3 w x) :
    Calls Try.prog 20 #[x.v, .int .i64 txn, .int .i64 id] w fun e w' => e = .returned (.int .i64 (othersP (tri x.bs) txn id)) ∧ Same w w' := by
  have k0 := specLocksFault_any x w hv
  obtain ⟨xe, xa, n, xc, bs⟩ := x
  have hm : n ≤ maxLen := hv.1
  unfold maxLen at hm
  have hl := tri_length n bs hv.2.1
  dsimp only [FR.v] at k0 ⊢
  have HV := hid hv
  clear hv
  obtain ⟨R, hR⟩ : ∃ R, othersP (tri bs) txn id = R := ⟨_, rfl⟩
  rw [hR]
  unfold othersP at hR
  obtain ⟨q, hq⟩ : ∃ q, locksF (tri bs) = q := ⟨_, rfl⟩
  rw [hq] at hR k0
  by_cases h0 : q = 0
  · subst h0
    have hn := locksF_len hq
    rw [if_pos rfl, show tri bs = (tri bs).drop 0 from rfl] at hR
    have HR := hid hR
    have HL := hid hl
    rw [hl] at hn
    clear hR hl hq
    go_enter Try.func20, Try.ntmps20
    go_wp2_with fail
    refine k0.mono ?_
    rintro e w1 ⟨rfl, hk1⟩
    have HK1 := hid hk1
    clear hk1
    go_wp2_with fail
    go_loopw [7, 8] (fun m i wr => ∃ (k : Nat) (mo : Int), k ≤ n ∧ m = .int .i64 mo ∧ i = .int .i64 k ∧ Hid (othersFrom txn id mo ((tri bs).drop k) = R) ∧ Hid (Same w wr)) (fun _ i _ => n - (intOf i).toNat)
    case atStart => exact ⟨0, 0, Nat.zero_le _, rfl, rfl, HR, HK1⟩
    case round =>
      obtain ⟨k, mo, hk, rfl, rfl, HA, HK⟩ := hrel
      by_cases hlt : k < n
      · obtain ⟨b, off, ha, hc⟩ := HV.out.some (show 0 < n by omega)
        dsimp only at ha hc
        subst ha
        have hla : k < (tri bs).length := by rw [HL.out]; omega
        obtain ⟨⟨x, y, z⟩, hxa⟩ : ∃ q, (tri bs)[k] = q := ⟨_, rfl⟩
        obtain ⟨da0, da1, da2⟩ := (HV.out.same HK.out).tri k hla _ _ _ hxa
        have h := HA.out
        rw [List.drop_eq_getElem_cons hla, hxa] at h
        simp only [othersFrom] at h
        clear hxa HA
        by_cases h1 : x = id
        · subst h1
          by_cases h2 : y = txn
          · subst h2
            rw [if_neg (fun h => h.2.1 rfl)] at h
            have HN := hid h
            clear h
            go_wp2
            go_roundw
            case rel => exact ⟨k + 1, mo, by omega, rfl, by go_num, HN, HK⟩
            case measure => simp [intOf]; omega
          · have e2 : (y != txn) = true := by simp [h2]
            by_cases h3 : mo < z
            · rw [if_pos ⟨rfl, h2, h3⟩] at h
              have HN := hid h
              clear h
              go_wp2
              go_roundw
              case rel => exact ⟨k + 1, z, by omega, rfl, by go_num, HN, HK⟩
              case measure => simp [intOf]; omega
            · rw [if_neg (fun h => h3 h.2.2)] at h
              have HN := hid h
              clear h
              go_wp2
              go_roundw
              case rel => exact ⟨k + 1, mo, by omega, rfl, by go_num, HN, HK⟩
              case measure => simp [intOf]; omega
        · rw [if_neg (fun h => h1 h.1)] at h
          have HN := hid h
          clear h
          go_wp2
          go_roundw
          case rel => exact ⟨k + 1, mo, by omega, rfl, by go_num, HN, HK⟩
          case measure => simp [intOf]; omega
      · obtain rfl : k = n := by omega
        have h := HA.out
        rw [show (tri bs).drop k = [] from List.drop_eq_nil_of_le (by rw [HL.out]; exact Nat.le_refl _)] at h
        simp only [othersFrom] at h
        subst h
        go_wp2
        go_ret
        exact ⟨rfl, HK.out⟩
  · rw [if_neg h0] at hR
    subst hR
    clear hl hq
    go_enter Try.func20, Try.ntmps20
    go_wp2_with fail
    refine k0.mono ?_
    rintro e w1 ⟨rfl, hk1⟩
    have HK1 := hid hk1
    clear hk1
    go_wp2
    go_ret
    exact ⟨rfl, HK1.out⟩
theorem ownF_none (e : TypeId) (w : World) : OwnF 3 e (w.alloc (.cells #[] e)) w.heap.size 0 0 [] :=
  ⟨rfl, .inr ⟨w.heap.size, 0, #[], rfl, Nat.zero_le _, Blk.new w #[] e, Nat.le_refl _, Nat.zero_le _, rfl, rfl⟩⟩
theorem OwnF.of_app3 {e : TypeId} {w : World} {g n c : Nat} {bs : List Int} {x y z : Int} (h : w.ownsRow 0 e 3 (.slice (some ⟨g, 0, none⟩) n c) n (vals .i64 bs ++ [.int .i64 x, .int .i64 y, .int .i64 z])) : OwnF 3 e w g n c (bs ++ [x, y, z]) := by
  unfold OwnF
  have e : vals .i64 (bs ++ [x, y, z]) = vals .i64 bs ++ [.int .i64 x, .int .i64 y, .int .i64 z] := by simp [vals]
  rw [e]
  exact h
theorem OwnF.kept {R : Nat → Prop} {m : Nat} {e : TypeId} {w w' : World} {g n c : Nat} {bs : List Int} (h : OwnF m e w g n c bs) (hk : Kept R w w') (hr : ¬ R g) : OwnF m e w' g n c bs :=
  hk.owns h (fun b hb => by have hb' : g = b := by simpa [Value.ownBlock] using hb
                            rw [← hb']; exact hr)
theorem OwnF.lt {m : Nat} {e : TypeId} {w : World} {g n c : Nat} {bs : List Int} (h : OwnF m e w g n c bs) : g < w.heap.size := h.out.lt g ((FootL_one _ _).2 rfl)
theorem FootL_fr {e : TypeId} {g n c m : Nat} {bs : List Int} {b : Nat} (h : FootL (FR.rows m ⟨e, some ⟨g, 0, none⟩, n, c, bs⟩) b) : g = b := by
  have h := (FootL_one _ _).1 h
  simpa [FR.v, Value.ownBlock] using h
theorem OwnF.len {m : Nat} {e : TypeId} {w : World} {g n c : Nat} {bs : List Int} (h : OwnF m e w g n c bs) : bs.length = n * m := by
  have := h.1
  rwa [vals_length] at this
theorem Same.app {w wr w3 : World} {g n c : Nat} {o : Obj} (hk : Same w wr) (hg : (wr.alloc o).grownBy w3 (Value.slice (some ⟨g, 0, none⟩) n c).ownBlock) (hw : w.heap.size ≤ g) : Same w w3 :=
  (hk.alloc o).grown hg (fun i e => .inl (by have : g = i := by simpa [Value.ownBlock] using e
                                             omega))
theorem not_at {g b n c : Nat} (h : g ≠ b) : ¬ (Value.slice (some ⟨g, 0, none⟩) n c).ownBlock = some b := fun e => h (by simpa [Value.ownBlock] using e)
theorem FR.own_nil {m : Nat} {e : TypeId} (w : World) : OwnL w (FR.rows m ⟨e, none, 0, 0, []⟩) :=
  ⟨fun r hr => by rw [List.mem_singleton.1 hr]; exact ⟨by simp [vals], .inl ⟨rfl, rfl⟩⟩, List.pairwise_singleton _ _⟩
theorem flat3_snoc (ls : List T3) (x y z : Int) : flat3 (ls ++ [(x, y, z)]) = flat3 ls ++ [x, y, z] := by rw [flat3_append]; rfl
structure StLockResult where
  code : Int
  locks : FR
def StLockResult.val (x : StLockResult) : Value := .agg #[.int .i64 x.code, x.locks.v]
def StLockResult.rows (x : StLockResult) : List Row := (x.locks).rows 3
def StLockResult.dat (x : StLockResult) : Int × List Int := (x.code, x.locks.bs)
def StLockResult.size (x : StLockResult) : Int := (x.locks.bs.length : Int)
theorem StLockResult.size_le (x : StLockResult) : 0 ≤ x.size := by
  unfold StLockResult.size
  omega
def StLockResult.marked (x : StLockResult) (k : Int) : StLockResult := ⟨x.code, x.locks.marked (k)⟩
theorem StLockResult.foot_marked (x : StLockResult) (k : Int) (b : Nat) : FootL (x.marked k).rows b ↔ FootL x.rows b := by
  exact FR.foot_marked 3 _ _ b
def StLockResult.rd (w : World) (x : StLockResult) : Prop := RdF 3 w x.locks
theorem StLockResult.rd.kept {R : Nat → Prop} {w w' : World} {x : StLockResult} (h : StLockResult.rd w x) (hk : Kept R w w') (hr : ∀ b, FootL x.rows b → ¬ R b) : StLockResult.rd w' x :=
  RdF.kept (h) hk (fun b hb => hr b (((FootL_one _ _).2 hb)))
theorem StLockResult.rd.same {w w' : World} {x : StLockResult} (h : StLockResult.rd w x) (hk : Same w w') : StLockResult.rd w' x := h.kept hk (fun _ _ => id)
theorem StLockResult.own_rd {w : World} {x : StLockResult} (h : OwnL w x.rows) : StLockResult.rd w x :=
  (FR.own_rd h)
theorem eqLockResult_own (x y : StLockResult) (w : World) (hn : x.size ≤ 1125899906842624) (hd : x.dat = y.dat) (ha : OwnL w x.rows) (hb : OwnL w y.rows) :
    Calls Try.prog 22 #[x.val, y.val] w fun e w' => e = .returned (.bool true) ∧ Same w w' := by
  obtain ⟨xcode, ⟨xlocks_e, xlocks_a, xlocks_n, xlocks_c, xlocks_b⟩⟩ := x
  obtain ⟨ycode, ⟨ylocks_e, ylocks_a, ylocks_n, ylocks_c, ylocks_b⟩⟩ := y
  simp only [StLockResult.dat, Prod.mk.injEq] at hd
  obtain ⟨rfl, rfl⟩ := hd
  simp only [StLockResult.size] at hn
  have Hx0 := (show Hid (OwnL w [⟨xlocks_e, 3, .slice xlocks_a xlocks_n xlocks_c, xlocks_n, vals .i64 xlocks_b⟩]) from ha)
  have Hy0 := (show Hid (OwnL w [⟨ylocks_e, 3, .slice ylocks_a ylocks_n ylocks_c, ylocks_n, vals .i64 xlocks_b⟩]) from hb)
  clear ha hb
  dsimp only [StLockResult.val, BS.v, FR.v]
  go_enter Try.func22, Try.ntmps22
  have hk0 : Same w ((w.alloc (.cells #[.int .i64 xcode, .slice xlocks_a xlocks_n xlocks_c] 27)).alloc (.cells #[.int .i64 xcode, .slice ylocks_a ylocks_n ylocks_c] 27)) := ((Kept.refl _ _).alloc _).alloc _
  have HK0 := (show Hid (Same w _) from hk0)
  obtain ⟨_, HBx0, HBy0⟩ := new2 w [.int .i64 xcode, .slice xlocks_a xlocks_n xlocks_c] 27 [.int .i64 xcode, .slice ylocks_a ylocks_n ylocks_c] 27
  clear hk0
  go_wp2_with fail
  refine (eqLockS_own ⟨xlocks_e, xlocks_a, xlocks_n, xlocks_c, xlocks_b⟩ ⟨ylocks_e, ylocks_a, ylocks_n, ylocks_c, xlocks_b⟩ _ (by dsimp only; omega) rfl (Hx0.out.same HK0.out) (Hy0.out.same HK0.out)).mono ?_
  rintro e w1 ⟨rfl, hk⟩
  have HK1 := hid (HK0.out.trans hk)
  have HBx1 := hid (HBx0.out.same hk)
  have HBy1 := hid (HBy0.out.same hk)
  clear hk HK0 HBx0 HBy0
  go_wp2
  go_ret
  exact ⟨rfl, HK1.out⟩
def freeP (ls : List T3) (txn : Int) : Int × List Int := if locksF ls = 0 then (0, flat3 (ls.filter (fun l => decide (l.2.1 ≠ txn)))) else (2, [])
theorem specLockFreeT_any (x : FR) (txn : Int) (w : World) (hv : RdF 3 w x) :
    Calls Try.prog 26 #[x.v, .int .i64 txn] w fun e w' => ∃ y : StLockResult, e = .returned y.val ∧ y.dat = freeP (tri x.bs) txn ∧ y.locks.e = 51 ∧ (∀ b, FootL y.rows b → w.heap.size ≤ b) ∧ OwnL w' y.rows ∧ Same w w' := by
  obtain ⟨i0, hi, hz0, hz1, hz2⟩ := info_parts Try.infoLock
  have HK0 := hid (sameA w [.int .i64 0, .slice none 0 0] 27)
  have b0 := Blk.newL w [.int .i64 0, .slice none 0 0] 27
  have k0 := specLocksFault_any x _ (hv.same HK0.out)
  obtain ⟨xe, xa, n, xc, bs⟩ := x
  have hm : n ≤ maxLen := hv.1
  unfold maxLen at hm
  have hl := tri_length n bs hv.2.1
  dsimp only [FR.v] at k0 ⊢
  have HV := hid hv
  clear hv
  obtain ⟨R, hR⟩ : ∃ R, freeP (tri bs) txn = R := ⟨_, rfl⟩
  rw [hR]
  unfold freeP at hR
  obtain ⟨q, hq⟩ : ∃ q, locksF (tri bs) = q := ⟨_, rfl⟩
  rw [hq] at hR k0
  by_cases h0 : q = 0
  · subst h0
    have hn := locksF_len hq
    rw [if_pos rfl] at hR
    have HR := hid hR
    have HL := hid hl
    rw [hl] at hn
    clear hR hl hq
    go_enter Try.func26, Try.ntmps26
    go_wp2_with fail
    refine k0.mono ?_
    rintro e w1 ⟨rfl, hk1⟩
    have HK1 := hid (HK0.out.trans hk1)
    have HB1 := hid (b0.same hk1)
    have hs1 : w.heap.size + 1 ≤ w1.heap.size := by have h := hk1.size; rw [World.size_alloc] at h; omega
    clear hk1 b0
    have HKe := (show Hid (Same w (w1.alloc (.cells #[] 51))) from HK1.out.alloc _)
    have HBe := (show Hid (Blk (w1.alloc (.cells #[] 51)) w.heap.size 27 [.int .i64 0, .slice none 0 0]) from HB1.out.same ((Kept.refl _ _).alloc _))
    have HOe := hid (ownF_none 51 w1)
    go_wp2_with fail
    go_loopw [5, 6] (fun o i wr => ∃ (k g m c : Nat) (ys : List Int), k ≤ n ∧ m ≤ k ∧ o = .slice (some ⟨g, 0, none⟩) m c ∧ i = .int .i64 k ∧ w.heap.size < g ∧ Hid (OwnF 3 51 wr g m c ys) ∧ Hid (ys = flat3 (((tri bs).take k).filter (fun l => decide (l.2.1 ≠ txn)))) ∧ Hid (Blk wr w.heap.size 27 [.int .i64 0, .slice none 0 0]) ∧ Hid (Same w wr)) (fun _ i _ => n - (intOf i).toNat)
    case atStart => exact ⟨0, w1.heap.size, 0, 0, [], Nat.zero_le _, Nat.zero_le _, rfl, rfl, by omega, HOe, by simp [Hid, flat3], HBe, HKe⟩
    case round =>
      obtain ⟨k, g, m, c, ys, hk, hmk, rfl, rfl, hg, HO, HY, HB, HK⟩ := hrel
      by_cases hlt : k < n
      · obtain ⟨b, off, ha, hc⟩ := HV.out.some (show 0 < n by omega)
        dsimp only at ha hc
        subst ha
        have hla : k < (tri bs).length := by rw [HL.out]; omega
        obtain ⟨⟨x, y, z⟩, hxa⟩ : ∃ q, (tri bs)[k] = q := ⟨_, rfl⟩
        have HXa := hid hxa
        obtain ⟨da0, da1, da2⟩ := (HV.out.same HK.out).tri k hla _ _ _ hxa
        clear hxa
        by_cases h2 : y = txn
        · subst h2
          go_wp2
          go_roundw
          case rel => exact ⟨k + 1, g, m, c, ys, by omega, by omega, rfl, by go_num, hg, HO, by unfold Hid; rw [List.take_succ_eq_append_getElem hla, List.filter_append, HXa.out, HY.out]; simp, HB, HK⟩
          case measure => simp [intOf]; omega
        · have e2 : (y != txn) = true := by simp [h2]
          have HKO5 := (show Hid ((wr.alloc (.cells #[.int .i64 x, .int .i64 y, .int .i64 z] 51)).ownsRow 0 51 3 (.slice (some ⟨g, 0, none⟩) m c) m (vals .i64 ys)) from HO.out.same ((Kept.refl _ _).alloc _))
          have HN5 := (show Hid (Blk (wr.alloc (.cells #[.int .i64 x, .int .i64 y, .int .i64 z] 51)) wr.heap.size 51 [.int .i64 x, .int .i64 y, .int .i64 z]) from Blk.newL wr [.int .i64 x, .int .i64 y, .int .i64 z] 51)
          have hgl := HO.out.lt
          go_wp2_with (at_builtin; go_loud (refine wpList_append_lies _ rfl (.tmp 25) (.tmp 30) 23 rfl 0 51 i0 _ 3 24 Try.underlying23 hi hz0 hz1 hz2 rfl (by omega) (.slice (some ⟨g, 0, none⟩) m c) m (vals .i64 ys) rfl (by exact HKO5.out) ⟨wr.heap.size, 0, none⟩ 1 1 [.int .i64 x, .int .i64 y, .int .i64 z] rfl rfl (World.news_of_block (cs := #[.int .i64 x, .int .i64 y, .int .i64 z]) (t := 51) (fr := (0, 0)) (by exact HN5.out)) (by simp [Value.oneCell']) (by omega) (by unfold maxLen; omega) (by omega) (Nat.zero_le _) (wr.heap.size + 1) (by simp) ?_); intro g5 cap5 w5 hown5 hgrow5 hat5 hlt5; have HO5 := (show Hid (OwnF 3 51 w5 g5 (m + 1) cap5 (ys ++ [x, y, z])) from OwnF.of_app3 hown5); have HG5 := (show Hid ((wr.alloc (.cells #[.int .i64 x, .int .i64 y, .int .i64 z] 51)).grownBy w5 (Value.slice (some ⟨g, 0, none⟩) m c).ownBlock) from hgrow5); have HAT5 : Hid ((Value.slice (some ⟨g, 0, none⟩) m c).ownBlock = some g5 ∨ g5 = wr.heap.size + 1) := hat5; clear hown5 hgrow5 hat5)
          have hg5 : w.heap.size < g5 := by
            rcases HAT5.out with h | h
            · have : g = g5 := by simpa [Value.ownBlock] using h
              omega
            · have := HK.out.size; omega
          have HK5 := hid (Same.app HK.out HG5.out (by omega))
          have HB5 := (show Hid (Blk w5 w.heap.size 27 [.int .i64 0, .slice none 0 0]) from (HB.out.same ((Kept.refl _ _).alloc _)).kept (Kept.of_grown HG5.out (fun k e => e)) (not_at (by omega)))
          go_roundw
          case rel => exact ⟨k + 1, g5, m + 1, cap5, ys ++ [x, y, z], by omega, by omega, rfl, by go_num, hg5, HO5, by unfold Hid; rw [List.take_succ_eq_append_getElem hla, List.filter_append, HXa.out, HY.out, show List.filter (fun l : T3 => decide (l.2.1 ≠ txn)) [(x, y, z)] = [(x, y, z)] from by simp [h2], flat3_snoc], HB5, HK5⟩
          case measure => simp [intOf]; omega
      · obtain rfl : k = n := by omega
        have h := HY.out
        rw [← HL.out, List.take_length] at h
        obtain ⟨r0, r1⟩ := HB.out.all2
        have fr := HB.out.frozen
        have lr := HB.out.lt
        go_wp2
        refine bodyPost_ret (v := .agg #[.int .i64 0, .slice (some ⟨g, 0, none⟩) m c]) (by simp [results, Try.results26, go_sem, r0, r1]) rfl ⟨⟨0, ⟨51, some ⟨g, 0, none⟩, m, c, ys⟩⟩, rfl, ?_, rfl, ?_, ?_, ?_⟩
        · rw [← HR.out, ← h]; rfl
        · intro b hb
          have := FootL_fr hb
          omega
        · refine (HO.out.kept (R := fun b => b = w.heap.size) ?_ (by omega)).out
          (iterate 2 refine Kept.setCell (R := fun b => b = w.heap.size) ?_ (.inr rfl) _)
          exact Kept.refl _ _
        · (iterate 2 refine Kept.setCell ?_ (.inl (Nat.le_refl _)) _)
          exact HK.out
  · rw [if_neg h0] at hR
    subst hR
    clear hl hq
    go_enter Try.func26, Try.ntmps26
    go_wp2_with fail
    refine k0.mono ?_
    rintro e w1 ⟨rfl, hk1⟩
    have HK1 := hid (HK0.out.trans hk1)
    have HB1 := hid (b0.same hk1)
    clear hk1 b0
    obtain ⟨r0, r1⟩ := HB1.out.all2
    have fr := HB1.out.frozen
    have lr := HB1.out.lt
    go_wp2
    refine bodyPost_ret (v := .agg #[.int .i64 2, .slice none 0 0]) (by simp [results, Try.results26, go_sem, r0, r1]) rfl ⟨⟨2, ⟨51, none, 0, 0, []⟩⟩, rfl, rfl, rfl, ?_, ?_, ?_⟩
    · intro b hb
      have h := (FootL_one _ _).1 hb
      simp [FR.v, Value.ownBlock] at h
    · exact FR.own_nil _
    · (iterate 2 refine Kept.setCell ?_ (.inl (Nat.le_refl _)) _)
      exact HK1.out
theorem specLockFree_any (x : FR) (txn : Int) (w : World) (hv : RdF 3 w x) :
    Calls Try.prog 26 #[x.v, .int .i64 txn] w fun e w' => ∃ y : StLockResult, e = .returned y.val ∧ y.dat = freeP (tri x.bs) txn ∧ (∀ b, FootL y.rows b → w.heap.size ≤ b) ∧ OwnL w' y.rows ∧ Same w w' :=
  (specLockFreeT_any x txn w hv).mono fun e w' ⟨y, h1, h2, _, h3⟩ => ⟨y, h1, h2, h3⟩
end Go.Proofs.Ytelijknekfipfaa
