import Derived.Test.YtmpfpgelaipmnabG00
import Derived.Test.YtmpfpgelaipmnabG03
import Derived.Test.YtmpfpgelaipmnabG06
import Derived.MapKept
import Derived.Maps.RangeRun
import Derived.Carry
import Derived.Deep.DeepCutAuto
namespace Go.Proofs.Ytmpfpgelaipmnab
set_option linter.unusedVariables false
set_option linter.unusedSimpArgs false
set_option maxRecDepth 100000
set_option maxHeartbeats 4000000
open Go Go.RowKit Go.MapKept
abbrev KV := Int × Value × Nat
def entI (e : KV) : MapEntry := ⟨.int .i64 e.1, e.2.1, e.2.2⟩
def ents (kv : List KV) : List MapEntry := kv.map entI
def MapB (w : World) (B : Nat) (kv : List KV) (ck : Nat) : Prop := w.heap[B]? = some (.map (ents kv).toArray ck)
def setM (w : World) (B : Nat) (kv : List KV) (ck : Nat) : World := { w with heap := w.heap.setIfInBounds B (.map (ents kv).toArray ck) }
theorem MapB.lt {w : World} {B : Nat} {kv : List KV} {ck : Nat} (h : MapB w B kv ck) : B < w.heap.size := (Array.getElem?_eq_some_iff.1 h).1
theorem MapB.kept {R : Nat → Prop} {w w' : World} {B : Nat} {kv : List KV} {ck : Nat} (h : MapB w B kv ck) (hk : Kept R w w') (hr : ¬ R B) : MapB w' B kv ck := hk.heap h hr
theorem MapB.same {w w' : World} {B : Nat} {kv : List KV} {ck : Nat} (h : MapB w B kv ck) (hk : Same w w') : MapB w' B kv ck := h.kept hk id
theorem MapB.new (w : World) : MapB (w.alloc (.map #[] 0)) w.heap.size [] 0 := by
 unfold MapB ents World.alloc
 simp
theorem MapB.set {w : World} {B : Nat} {kv kv' : List KV} {ck ck' : Nat} (h : MapB w B kv ck) : MapB (setM w B kv' ck') B kv' ck' := (heap_set h).1
theorem Kept.setM {w : World} {B : Nat} (kv : List KV) (ck : Nat) : Kept (fun b => b = B) w (setM w B kv ck) :=
 ⟨rfl, rfl, rfl, by simp [Go.Proofs.Ytmpfpgelaipmnab.setM], fun k hk hr => by
  show (w.heap.setIfInBounds B _)[k]? = _
  rw [Array.getElem?_setIfInBounds_ne (fun e => hr e.symm)]⟩
theorem find_miss (x : Int) : ∀ (kv : List KV) (i : Nat), (∀ e ∈ kv, e.1 ≠ x) → Instr.findNow (.int .i64) (.int .i64 x) (ents kv) i = some none
 | [], i, _ => rfl
 | e :: r, i, h => by
  have h1 : (x == e.1) = false := by simp; exact fun e' => h e List.mem_cons_self e'.symm
  show Instr.findNow (.int .i64) (.int .i64 x) (entI e :: ents r) i = _
  unfold Instr.findNow
  simp only [entI, Instr.sameNow, if_true, h1]
  exact find_miss x r (i + 1) (fun e he => h e (List.mem_cons_of_mem _ he))
theorem find_hit (x : Int) (v : Value) (b : Nat) (post : List KV) : ∀ (pre : List KV) (i : Nat), (∀ e ∈ pre, e.1 ≠ x) → Instr.findNow (.int .i64) (.int .i64 x) (ents (pre ++ (x, v, b) :: post)) i = some (some (i + pre.length, v))
 | [], i, _ => by
  show Instr.findNow (.int .i64) (.int .i64 x) (entI (x, v, b) :: ents post) i = _
  unfold Instr.findNow
  simp [entI, Instr.sameNow]
 | e :: r, i, h => by
  have h1 : (x == e.1) = false := by simp; exact fun e' => h e List.mem_cons_self e'.symm
  show Instr.findNow (.int .i64) (.int .i64 x) (entI e :: ents (r ++ (x, v, b) :: post)) i = _
  unfold Instr.findNow
  simp only [entI, Instr.sameNow, if_true, h1]
  rw [find_hit x v b post r (i + 1) (fun e he => h e (List.mem_cons_of_mem _ he))]
  simp only [List.length_cons]
  congr 3
  omega
theorem modify_mid {α : Type} (pre post : List α) (a : α) (f : α → α) : (pre ++ a :: post).modify pre.length f = pre ++ f a :: post := by
 induction pre with
 | nil => rfl
 | cons p r ih => simp [ih]
section
variable {P : Program} {w : World} {B ck : Nat} {T K E : TypeId} {kv pre post : List KV} {x : Int} {v : Value} {b : Nat}
theorem run_get (hb : MapB w B kv ck) : (getObj B).run P w = .ok (.map (ents kv).toArray ck) w := by
 have h : w.heap[B]? = some (.map (ents kv).toArray ck) := hb
 simp [getObj, Sem.run, h]
theorem run_set (o : Obj) (hb : MapB w B kv ck) : (setObj B o).run P w = .ok () { w with heap := w.heap.setIfInBounds B o } := by
 have h : w.heap[B]? = some (.map (ents kv).toArray ck) := hb
 simp [setObj, Sem.run, h]
theorem run_find {a : Option (Nat × Value)} (hk : P.underlying K = some (.int .i64)) (h : Instr.findNow (.int .i64) (.int .i64 x) (ents kv) 0 = some a) : (Instr.findKey K (.int .i64 x) (ents kv)).run P w = .ok a w := run_findKey hk h
theorem run_ck (hk : P.underlying K = some (.int .i64)) (em : Bool) : (Instr.checkKey em 10000 K (.int .i64 x)).run P w = .ok () w := run_checkKey hk (show IsKey (.int .i64) (.int .i64 x) from rfl) em 9999
theorem run_lookup_hit (ht : P.underlying T = some (.map K E)) (hk : P.underlying K = some (.int .i64)) (hb : MapB w B (pre ++ (x, v, b) :: post) ck) (hp : ∀ e ∈ pre, e.1 ≠ x) (ok : Bool) :
  (Instr.lookup T (.map (some B)) (.int .i64 x) ok).run P w = .ok (if ok = true then .tuple #[v, .bool true] else v) w := by
 unfold Instr.lookup
 simp only [Sem.run_bind, run_underlying ht, Result.andThen, run_get hb, Sem.run_pure, run_ck hk, run_find hk (find_hit x v b post pre 0 hp)]
theorem run_lookup_miss {z : Value} (ht : P.underlying T = some (.map K E)) (hk : P.underlying K = some (.int .i64)) (hb : MapB w B kv ck) (hp : ∀ e ∈ kv, e.1 ≠ x) (hz : (zeroValue E).run P w = .ok z w) (ok : Bool) :
  (Instr.lookup T (.map (some B)) (.int .i64 x) ok).run P w = .ok (if ok = true then .tuple #[z, .bool false] else z) w := by
 unfold Instr.lookup
 simp only [Sem.run_bind, run_underlying ht, Result.andThen, run_get hb, Sem.run_pure, run_ck hk, run_find hk (find_miss x kv 0 hp), hz]
theorem run_update_new (ht : P.underlying T = some (.map K E)) (hk : P.underlying K = some (.int .i64)) (hb : MapB w B kv ck) (hp : ∀ e ∈ kv, e.1 ≠ x) :
  (Instr.mapUpdate T (.map (some B)) (.int .i64 x) v).run P w = .ok () (setM w B (kv ++ [(x, v, ck)]) (ck + 1)) := by
 unfold Instr.mapUpdate
 simp only [Sem.run_bind, run_underlying ht, Result.andThen, run_get hb, Sem.run_pure, run_ck hk, run_find hk (find_miss x kv 0 hp), run_set _ hb]
 unfold setM ents
 simp [entI]
theorem run_update_hit {u : Value} (ht : P.underlying T = some (.map K E)) (hk : P.underlying K = some (.int .i64)) (hb : MapB w B (pre ++ (x, v, b) :: post) ck) (hp : ∀ e ∈ pre, e.1 ≠ x) :
  (Instr.mapUpdate T (.map (some B)) (.int .i64 x) u).run P w = .ok () (setM w B (pre ++ (x, u, b) :: post) ck) := by
 have hlen : (ents pre).length = pre.length := by simp [ents]
 have hget : (ents (pre ++ (x, v, b) :: post))[pre.length]? = some (entI (x, v, b)) := by simp [ents]
 unfold Instr.mapUpdate
 simp only [Sem.run_bind, run_underlying ht, Result.andThen, run_get hb, Sem.run_pure, run_ck hk, run_find hk (find_hit x v b post pre 0 hp), Nat.zero_add, List.getElem?_toArray, hget, Option.map_some, Option.getD_some, entI, run_keyThatStays (d := .int .i64) (show IsKey (.int .i64) (.int .i64 x) from rfl), run_set _ hb]
 unfold setM
 have e : ((ents (pre ++ (x, v, b) :: post)).toArray.modify pre.length fun e => { key := .int .i64 x, val := u, born := e.born }) = (ents (pre ++ (x, u, b) :: post)).toArray := by
  apply Array.ext'
  rw [Array.toList_modify]
  simp only [ents, List.map_append, List.map_cons]
  have h := modify_mid (List.map entI pre) (List.map entI post) (entI (x, v, b)) (fun e => { key := .int .i64 x, val := u, born := e.born })
  rw [List.length_map] at h
  exact h
 rw [e]
def leftKV (kv : List KV) (seen : Array Nat) : List KV := kv.filter (fun e => !seen.contains e.2.2)
def IterB (w : World) (r B since : Nat) (seen : Array Nat) (c0 : Nat) : Prop := w.heap[r]? = some (.mapIter (some B) since seen c0)
def setIt (w : World) (r B since : Nat) (seen : Array Nat) (c0 : Nat) : World := { w with heap := w.heap.setIfInBounds r (.mapIter (some B) since seen c0) }
theorem run_range_map (ht : P.underlying T = some (.map K E)) (hb : MapB w B kv ck) : (Instr.range T (.map (some B))).run P w = .ok (.pointer (some ⟨w.heap.size, 0, none⟩)) (w.alloc (.mapIter (some B) ck #[] ck)) := by
 have h1 := run_get (P := P) hb
 generalize ents kv = L at h1
 simp [Instr.range, run_underlying ht, Result.andThen, h1, newObj, Sem.run]
theorem leftOf_kv (seen : Array Nat) : (leftOf (ents kv).toArray seen).toList = ents (leftKV kv seen) := by
 unfold leftOf leftKV ents
 simp [List.filter_map, Function.comp_def, entI]
 rfl
theorem run_next_kv {ty : TypeId} {r since c0 : Nat} {seen : Array Nat} (hr : IterB w r B since seen c0) (hb : MapB w B kv ck) (hold : ∀ e ∈ kv, e.2.2 < since) (hsc : since ≤ c0) :
  (leftKV kv seen = [] ∧ (Instr.next (.pointer (some ⟨r, 0, none⟩)) false ty).run P w = .ok (.tuple #[.bool false]) w) ∨
  ∃ e ∈ leftKV kv seen, ∃ w1 : World, (w1 = w ∨ w1 = w.drew) ∧ (Instr.next (.pointer (some ⟨r, 0, none⟩)) false ty).run P w = .ok (.tuple #[.bool true, .int .i64 e.1, e.2.1]) (setIt w1 r B since (seen.push e.2.2) ck) := by
 rcases run_next_at (P := P) w ty r B since c0 seen (ents kv).toArray ck hr hb (fun x hx => by
  simp only [ents, List.mem_map] at hx
  obtain ⟨e, he, rfl⟩ := hx
  exact hold e he) hsc with ⟨h1, h2⟩ | ⟨x, hx, w1, hw, h2⟩
 ·refine .inl ⟨?_, h2⟩
  have h3 : (leftOf (ents kv).toArray seen).toList.length = 0 := by simpa using h1
  rw [leftOf_kv] at h3
  simpa [ents] using h3
 ·rw [leftOf_kv] at hx
  simp only [ents, List.mem_map] at hx
  obtain ⟨e, he, rfl⟩ := hx
  exact .inr ⟨e, he, w1, hw, h2⟩
structure KVok (kv : List KV) (ck : Nat) : Prop where
 lt : ∀ e ∈ kv, e.2.2 < ck
 stamps : (kv.map (·.2.2)).Nodup
 keys : (kv.map (·.1)).Nodup
theorem KVok.nil (ck : Nat) : KVok [] ck := ⟨fun _ h => by simp at h, by simp, by simp⟩
theorem KVok.snoc (h : KVok kv ck) (hp : ∀ e ∈ kv, e.1 ≠ x) : KVok (kv ++ [(x, v, ck)]) (ck + 1) := by
 refine ⟨fun e he => ?_, ?_, ?_⟩
 ·rcases List.mem_append.1 he with he | he
  ·exact Nat.lt_succ_of_lt (h.lt e he)
  ·rw [List.mem_singleton.1 he]; exact Nat.lt_succ_self _
 ·rw [List.map_append]
  refine List.nodup_append.2 ⟨h.stamps, by simp, fun a ha b hb => ?_⟩
  obtain ⟨e, he, rfl⟩ := List.mem_map.1 ha
  have hb : b = ck := by simpa using hb
  rw [hb]
  exact Nat.ne_of_lt (h.lt e he)
 ·rw [List.map_append]
  refine List.nodup_append.2 ⟨h.keys, by simp, fun a ha b hb => ?_⟩
  obtain ⟨e, he, rfl⟩ := List.mem_map.1 ha
  have hb : b = x := by simpa using hb
  rw [hb]
  exact hp e he
theorem KVok.store {u : Value} (h : KVok (pre ++ (x, v, b) :: post) ck) : KVok (pre ++ (x, u, b) :: post) ck := by
 refine ⟨fun e he => ?_, by simpa using h.stamps, by simpa using h.keys⟩
 rcases List.mem_append.1 he with he | he
 ·exact h.lt e (List.mem_append_left _ he)
 ·rcases List.mem_cons.1 he with rfl | he
  ·exact h.lt (x, v, b) (List.mem_append_right _ List.mem_cons_self)
  ·exact h.lt e (List.mem_append_right _ (List.mem_cons_of_mem _ he))
theorem KVok.drop (h : KVok (pre ++ (x, v, b) :: post) ck) : KVok (pre ++ post) ck := by
 have hs : (pre ++ post).Sublist (pre ++ (x, v, b) :: post) := List.Sublist.append_left (List.sublist_cons_self _ _) _
 exact ⟨fun e he => h.lt e (hs.subset he), (hs.map _).nodup h.stamps, (hs.map _).nodup h.keys⟩
theorem KVok.others (h : KVok (pre ++ (x, v, b) :: post) ck) : ∀ e ∈ pre ++ post, e.1 ≠ x := by
 have hn := h.keys
 rw [List.map_append, List.map_cons] at hn
 obtain ⟨h1, h2, h3⟩ := List.nodup_append.1 hn
 intro e he
 rcases List.mem_append.1 he with he | he
 ·exact h3 e.1 (List.mem_map_of_mem he) x List.mem_cons_self
 ·intro e'
  have h4 : e.1 ∈ post.map (·.1) := List.mem_map_of_mem he
  rw [e'] at h4
  exact (List.nodup_cons.1 h2).1 h4
theorem run_entry_kv {r since : Nat} {seen : Array Nat} {e : KV} (hr : IterB w r B since (seen.push e.2.2) ck) (hb : MapB w B kv ck) (he : e ∈ kv) (hn : KVok kv ck) :
  (Instr.entry (.pointer (some ⟨r, 0, none⟩))).run P w = .ok (.tuple #[.int .i64 e.1, e.2.1]) w := by
 have h := run_entry_at (P := P) w r B since seen (ents kv).toArray ck (entI e) hr hb (by simpa [ents] using List.mem_map_of_mem (f := entI) he) (by
  have : (ents kv).toArray.toList.map (·.born) = kv.map (·.2.2) := by simp [ents, Function.comp_def, entI]
  rw [this]
  exact hn.stamps)
 exact h
theorem leftKV_nil : leftKV kv #[] = kv := by unfold leftKV; simp
theorem leftKV_push {e : KV} {seen : Array Nat} (hn : (kv.map (·.2.2)).Nodup) (he : e ∈ leftKV kv seen) : (leftKV kv (seen.push e.2.2)).length + 1 = (leftKV kv seen).length := by
 have h1 : leftKV kv (seen.push e.2.2) = (leftKV kv seen).filter (fun y => !(y.2.2 == e.2.2)) := by
  unfold leftKV
  rw [List.filter_filter]
  apply List.filter_congr
  intro y _
  rw [Array.contains_push]
  cases h1 : seen.contains y.2.2 <;> cases h2 : (y.2.2 == e.2.2) <;> simp_all
 have hn' : ((leftKV kv seen).map (·.2.2)).Nodup := ((List.filter_sublist (l := kv)).map _).nodup hn
 rw [h1]
 revert hn' he
 generalize leftKV kv seen = L
 intro he hn'
 induction L with
 | nil => simp at he
 | cons y r ih =>
  rw [List.map_cons, List.nodup_cons] at hn'
  by_cases hy : y.2.2 = e.2.2
  ·have hr : r.filter (fun z => !(z.2.2 == e.2.2)) = r := by
    rw [List.filter_eq_self]
    intro z hz
    have : z.2.2 ≠ e.2.2 := fun h => hn'.1 (by rw [hy, ← h]; exact List.mem_map_of_mem hz)
    simpa using this
   rw [List.filter_cons_of_neg (by simpa using hy), hr, List.length_cons]
  ·have he' : e ∈ r := by
    rcases List.mem_cons.1 he with rfl | h
    ·exact absurd rfl hy
    ·exact h
   rw [List.filter_cons_of_pos (by simpa using hy), List.length_cons, List.length_cons, ih he' hn'.2]
theorem leftKV_perm {e : KV} {seen : Array Nat} (hn : (kv.map (·.2.2)).Nodup) (he : e ∈ leftKV kv seen) : (leftKV kv seen).Perm (e :: leftKV kv (seen.push e.2.2)) := by
 have h1 : leftKV kv (seen.push e.2.2) = (leftKV kv seen).filter (fun y => !(y.2.2 == e.2.2)) := by
  unfold leftKV
  rw [List.filter_filter]
  apply List.filter_congr
  intro y _
  rw [Array.contains_push]
  cases h1 : seen.contains y.2.2 <;> cases h2 : (y.2.2 == e.2.2) <;> simp_all
 have hn' : ((leftKV kv seen).map (·.2.2)).Nodup := ((List.filter_sublist (l := kv)).map _).nodup hn
 rw [h1]
 revert hn' he
 generalize leftKV kv seen = L
 intro he hn'
 induction L with
 | nil => simp at he
 | cons y r ih =>
  rw [List.map_cons, List.nodup_cons] at hn'
  by_cases hy : y.2.2 = e.2.2
  ·have hr : r.filter (fun z => !(z.2.2 == e.2.2)) = r := by
    rw [List.filter_eq_self]
    intro z hz
    have : z.2.2 ≠ e.2.2 := fun h => hn'.1 (by rw [hy, ← h]; exact List.mem_map_of_mem hz)
    simpa using this
   have hye : y = e := by
    rcases List.mem_cons.1 he with h | h
    ·exact h.symm
    ·exact absurd (List.mem_map_of_mem (f := fun z : KV => z.2.2) h) (by rw [← hy]; exact hn'.1)
   rw [List.filter_cons_of_neg (by simpa using hy), hr, hye]
  ·have he' : e ∈ r := by
    rcases List.mem_cons.1 he with rfl | h
    ·exact absurd rfl hy
    ·exact h
   rw [List.filter_cons_of_pos (by simpa using hy)]
   exact ((ih he' hn'.2).cons y).trans (List.Perm.swap _ _ _)
end
section
variable {P : Program} {ops : Array Oper} {rest : List Oper} {o : Oper} {a : Act} {w : World} {Q : Exit → Act → World → Prop} {B ck : Nat} {T K E : TypeId} {kv pre post : List KV} {x : Int} {v u z : Value} {b : Nat}
end
theorem Kept.setIt {w : World} {r B since c0 : Nat} {seen : Array Nat} : Kept (fun b => b = r) w (setIt w r B since seen c0) :=
 ⟨rfl, rfl, rfl, by simp [Go.Proofs.Ytmpfpgelaipmnab.setIt], fun k hk hr => by
  show (w.heap.setIfInBounds r _)[k]? = _
  rw [Array.getElem?_setIfInBounds_ne (fun e => hr e.symm)]⟩
theorem IterB.set {w : World} {r B since since' c0 c1 B' : Nat} {seen seen' : Array Nat} (h : IterB w r B since seen c0) : IterB (setIt w r B' since' seen' c1) r B' since' seen' c1 := (heap_set h).1
theorem IterB.new (w : World) (B ck : Nat) : IterB (w.alloc (.mapIter (some B) ck #[] ck)) w.heap.size B ck #[] ck := by
 unfold IterB World.alloc
 simp
theorem IterB.ne {w : World} {r B B' since c0 ck : Nat} {seen : Array Nat} {kv : List KV} (h : IterB w r B since seen c0) (hb : MapB w B' kv ck) : B' ≠ r := by
 intro e
 unfold IterB at h
 unfold MapB at hb
 rw [e, h] at hb
 simp at hb
def leftN (w : World) (r B : Nat) : Nat :=
 match w.heap[r]?, w.heap[B]? with
 | some (.mapIter _ _ seen _), some (.map es _) => (leftOf es seen).toList.length
 | _, _ => 0
theorem leftN_eq {w : World} {r B since c0 ck : Nat} {seen : Array Nat} {kv : List KV} (hr : IterB w r B since seen c0) (hb : MapB w B kv ck) : leftN w r B = (leftKV kv seen).length := by
 unfold IterB at hr
 unfold MapB at hb
 unfold leftN
 simp only [hr, hb]
 rw [leftOf_kv]
 simp [ents]
theorem mem_left {kv : List KV} {seen : Array Nat} {e : KV} (h : e ∈ leftKV kv seen) : e ∈ kv := (List.mem_filter.1 h).1
theorem next_facts {w w1 : World} {r B since c0 ck : Nat} {seen : Array Nat} {kv : List KV} {e : KV} (hr : IterB w r B since seen c0) (hb : MapB w B kv ck) (hw : w1 = w ∨ w1 = w.drew) :
  IterB (setIt w1 r B since (seen.push e.2.2) ck) r B since (seen.push e.2.2) ck ∧ MapB (setIt w1 r B since (seen.push e.2.2) ck) B kv ck ∧ Kept (fun b => b = r) w (setIt w1 r B since (seen.push e.2.2) ck) := by
 have hne := hr.ne hb
 have hr1 : IterB w1 r B since seen c0 := by rcases hw with rfl | rfl <;> exact hr
 have hb1 : MapB w1 B kv ck := by rcases hw with rfl | rfl <;> exact hb
 have hs : Same w w1 := by rcases hw with rfl | rfl; exact Kept.refl _ _; exact (Kept.refl _ _).drew
 have hk := Kept.setIt (w := w1) (r := r) (B := B) (since := since) (c0 := ck) (seen := seen.push e.2.2)
 exact ⟨hr1.set, hb1.kept hk hne, (Kept.mono hs (fun _ _ h => h.elim)).trans hk⟩
structure StLockResult where
 code : Int
 locks : FR
def StLockResult.val (x : StLockResult) : Value := .agg #[.int .i64 x.code, x.locks.v]
def StLockResult.rows (x : StLockResult) : List Row := (x.locks).rows 3
def StLockResult.size (x : StLockResult) : Int := (x.locks.bs.length : Int)
def StLockResult.marked (x : StLockResult) (k : Int) : StLockResult := ⟨x.code, x.locks.marked (k)⟩
theorem StLockResult.foot_marked (x : StLockResult) (k : Int) (b : Nat) : FootL (x.marked k).rows b ↔ FootL x.rows b := by
 exact FR.foot_marked 3 _ _ b
def StLockResult.rd (w : World) (x : StLockResult) : Prop := RdF 3 w x.locks
theorem StLockResult.rd.kept {R : Nat → Prop} {w w' : World} {x : StLockResult} (h : StLockResult.rd w x) (hk : Kept R w w') (hr : ∀ b, FootL x.rows b → ¬ R b) : StLockResult.rd w' x :=
 RdF.kept (h) hk (fun b hb => hr b (((FootL_one _ _).2 hb)))
theorem StLockResult.rd.same {w w' : World} {x : StLockResult} (h : StLockResult.rd w x) (hk : Same w w') : StLockResult.rd w' x := h.kept hk (fun _ _ => id)
theorem StLockResult.own_rd {w : World} {x : StLockResult} (h : OwnL w x.rows) : StLockResult.rd w x :=
 (FR.own_rd h)
def ltK (a b : T3) : Prop := a.1 < b.1 ∨ (a.1 = b.1 ∧ a.2.1 < b.2.1)
def apartK (a b : T3) : Prop := a.1 = b.1 → a.2.2 ≠ 2 ∧ b.2.2 ≠ 2
structure GoodL (ls : List T3) : Prop where
 len : ls.length ≤ 4096
 fine : ∀ l ∈ ls, (0 ≤ l.1 ∧ l.1 ≤ 511) ∧ (1 ≤ l.2.1 ∧ l.2.1 ≤ 2147483647) ∧ (1 ≤ l.2.2 ∧ l.2.2 ≤ 2)
 rise : ls.Pairwise ltK
 apart : ls.Pairwise apartK
theorem lkBad_no (l : T3) : lkBad l = false ↔ (0 ≤ l.1 ∧ l.1 ≤ 511) ∧ (1 ≤ l.2.1 ∧ l.2.1 ≤ 2147483647) ∧ (1 ≤ l.2.2 ∧ l.2.2 ≤ 2) := by
 simp only [lkBad, inB, Bool.or_eq_false_iff, Bool.not_eq_false', Bool.and_eq_true, decide_eq_true_eq]
 constructor
 ·rintro ⟨⟨h1, h2⟩, h3⟩; exact ⟨h1, h2, h3⟩
 ·rintro ⟨h1, h2, h3⟩; exact ⟨⟨h1, h2⟩, h3⟩
theorem lkAfter_no (a b : T3) : lkAfter a b = false ↔ ltK a b := by
 simp only [lkAfter, ltK, Bool.or_eq_false_iff, decide_eq_false_iff_not, Bool.and_eq_false_iff]
 omega
theorem lkClash_no (a b : T3) : lkClash a b = false ↔ apartK a b := by
 simp only [lkClash, apartK, Bool.and_eq_false_iff, decide_eq_false_iff_not, Bool.or_eq_false_iff]
 constructor
 ·rintro (h | h) e
  ·exact absurd e h
  ·exact h
 ·intro h
  by_cases e : a.1 = b.1
  ·exact .inr (h e)
  ·exact .inl e
theorem ltK.trans {a b c : T3} (h : ltK a b) (k : ltK b c) : ltK a c := by unfold ltK at *; omega
theorem rise_of {ls : List T3} (h : nbr lkAfter ls = false) : ls.Pairwise ltK := by
 rw [List.pairwise_iff_getElem]
 intro i j hi hj hij
 obtain ⟨d, rfl⟩ : ∃ d, j = i + 1 + d := ⟨j - (i + 1), by omega⟩
 induction d with
 | zero => exact (lkAfter_no _ _).1 (nbr_at h i hj)
 | succ d ih => exact (ih (by omega) (by omega)).trans ((lkAfter_no _ _).1 (nbr_at h (i + 1 + d) (by omega)))
theorem apart_of {ls : List T3} (hr : ls.Pairwise ltK) (h : nbr lkClash ls = false) : ls.Pairwise apartK := by
 rw [List.pairwise_iff_getElem] at hr ⊢
 intro i j hi hj hij e
 have n1 := (lkClash_no _ _).1 (nbr_at h i (by omega))
 have n2 := (lkClash_no _ _).1 (nbr_at h (j - 1) (by omega))
 have ej : j - 1 + 1 = j := by omega
 have a1 : ls[i].1 = ls[i + 1].1 := by
  by_cases h1 : i + 1 = j
  ·subst h1; exact e
  ·have x1 := hr i (i + 1) hi (by omega) (by omega)
   have x2 := hr (i + 1) j (by omega) hj (by omega)
   unfold ltK at x1 x2; omega
 have a2 : ls[j - 1].1 = ls[j].1 := by
  by_cases h1 : i + 1 = j
  ·subst h1; simpa using e
  ·have x1 := hr i (j - 1) hi (by omega) (by omega)
   have x2 := hr (j - 1) j (by omega) hj (by omega)
   unfold ltK at x1 x2; omega
 simp only [ej] at n2
 exact ⟨(n1 a1).1, (n2 a2).2⟩
theorem goodL_iff (ls : List T3) : locksF ls = 0 ↔ GoodL ls := by
 unfold locksF
 constructor
 ·intro h
  split at h
  ·cases h
  ·split at h
   ·cases h
   ·split at h
    ·cases h
    ·split at h
     ·cases h
     ·rename_i h1 h2 h3 h4
      have hr := rise_of (by simpa using h3)
      exact ⟨by omega, fun l hl => (lkBad_no l).1 (by simpa using fun e => h2 (List.any_eq_true.2 ⟨l, hl, e⟩)), hr, apart_of hr (by simpa using h4)⟩
 ·intro h
  have hr := h.rise
  have ha := h.apart
  rw [List.pairwise_iff_getElem] at hr ha
  rw [if_neg (by have := h.len; omega), if_neg ?_, if_neg ?_, if_neg ?_]
  ·rw [nbr_no (fun k hk => (lkClash_no _ _).2 (ha k (k + 1) (by omega) hk (by omega)))]; exact Bool.false_ne_true
  ·rw [nbr_no (fun k hk => (lkAfter_no _ _).2 (hr k (k + 1) (by omega) hk (by omega)))]; exact Bool.false_ne_true
  ·rw [any3_no (fun k hk => (lkBad_no _).2 (h.fine _ (List.getElem_mem hk)))]; exact Bool.false_ne_true
theorem GoodL.filter {ls : List T3} (h : GoodL ls) (f : T3 → Bool) : GoodL (ls.filter f) :=
 ⟨Nat.le_trans (List.length_filter_le _ _) h.len, fun l hl => h.fine l (List.mem_filter.1 hl).1, h.rise.filter f, h.apart.filter f⟩
theorem othersFrom_spec (txn id : Int) : ∀ (ls : List T3) (m : Int), m ≤ othersFrom txn id m ls ∧ (∀ l ∈ ls, l.1 = id → l.2.1 ≠ txn → l.2.2 ≤ othersFrom txn id m ls) ∧ (othersFrom txn id m ls = m ∨ ∃ l ∈ ls, l.1 = id ∧ l.2.1 ≠ txn ∧ l.2.2 = othersFrom txn id m ls)
 | [], m => ⟨Int.le_refl _, fun _ h => by simp at h, .inl rfl⟩
 | l :: r, m => by
  unfold othersFrom
  by_cases h : l.1 = id ∧ l.2.1 ≠ txn ∧ m < l.2.2
  ·rw [if_pos h]
   obtain ⟨i1, i2, i3⟩ := othersFrom_spec txn id r l.2.2
   refine ⟨by omega, fun x hx h1 h2 => ?_, ?_⟩
   ·rcases List.mem_cons.1 hx with rfl | hx
    ·exact i1
    ·exact i2 x hx h1 h2
   ·rcases i3 with i3 | ⟨x, hx, h1, h2, h3⟩
    ·exact .inr ⟨l, List.mem_cons_self, h.1, h.2.1, i3.symm⟩
    ·exact .inr ⟨x, List.mem_cons_of_mem _ hx, h1, h2, h3⟩
  ·rw [if_neg h]
   obtain ⟨i1, i2, i3⟩ := othersFrom_spec txn id r m
   refine ⟨i1, fun x hx h1 h2 => ?_, ?_⟩
   ·rcases List.mem_cons.1 hx with rfl | hx
    ·by_cases h3 : m < x.2.2
     ·exact absurd ⟨h1, h2, h3⟩ h
     ·omega
    ·exact i2 x hx h1 h2
   ·rcases i3 with i3 | ⟨x, hx, h1, h2, h3⟩
    ·exact .inl i3
    ·exact .inr ⟨x, List.mem_cons_of_mem _ hx, h1, h2, h3⟩
abbrev IE := Int × Int × Nat
structure TE where
 id : Int
 blk : Nat
 st : Nat
 inn : List IE
 ck : Nat
def TE.kv (e : TE) : KV := (e.id, .map (some e.blk), e.st)
def ikv (x : IE) : KV := (x.1, .int .i64 x.2.1, x.2.2)
def TE.ls (e : TE) : List T3 := e.inn.map fun x => (e.id, x.1, x.2.1)
def cont : List TE → List T3
 | [] => []
 | e :: r => e.ls ++ cont r
theorem cont_append : ∀ a b : List TE, cont (a ++ b) = cont a ++ cont b
 | [], b => rfl
 | e :: r, b => by simp [cont, cont_append r b]
theorem mem_cont {l : T3} : ∀ {tt : List TE}, l ∈ cont tt ↔ ∃ e ∈ tt, e.id = l.1 ∧ ∃ x ∈ e.inn, x.1 = l.2.1 ∧ x.2.1 = l.2.2
 | [] => by simp [cont]
 | e :: r => by
  rw [cont, List.mem_append, mem_cont (tt := r)]
  constructor
  ·rintro (h | ⟨e', he, h⟩)
   ·obtain ⟨x, hx, rfl⟩ := List.mem_map.1 h
    exact ⟨e, List.mem_cons_self, rfl, x, hx, rfl, rfl⟩
   ·exact ⟨e', List.mem_cons_of_mem _ he, h⟩
  ·rintro ⟨e', he, h1, x, hx, h2, h3⟩
   rcases List.mem_cons.1 he with rfl | he
   ·refine .inl (List.mem_map.2 ⟨x, hx, ?_⟩)
    rw [h1, h2, h3]
   ·exact .inr ⟨e', he, h1, x, hx, h2, h3⟩
def Full (tt : List TE) : Prop := ∀ e ∈ tt, e.inn ≠ []
theorem Full.mid {pre post : List TE} {e e' : TE} (h : Full (pre ++ e :: post)) (he : e'.inn ≠ []) : Full (pre ++ e' :: post) := fun y hy => by
 rcases List.mem_append.1 hy with hy | hy
 ·exact h y (List.mem_append_left _ hy)
 ·rcases List.mem_cons.1 hy with rfl | hy
  ·exact he
  ·exact h y (List.mem_append_right _ (List.mem_cons_of_mem _ hy))
theorem Full.snoc {tt : List TE} {e : TE} (h : Full tt) (he : e.inn ≠ []) : Full (tt ++ [e]) := fun y hy => by
 rcases List.mem_append.1 hy with hy | hy
 ·exact h y hy
 ·rw [List.mem_singleton.1 hy]; exact he
structure Tab (w : World) (b0 B : Nat) (tt : List TE) (ck : Nat) : Prop where
 out : MapB w B (tt.map TE.kv) ck
 ok : KVok (tt.map TE.kv) ck
 inn : ∀ e ∈ tt, MapB w e.blk (e.inn.map ikv) e.ck
 iok : ∀ e ∈ tt, KVok (e.inn.map ikv) e.ck
 low : b0 ≤ B
 lows : ∀ e ∈ tt, b0 ≤ e.blk
 blks : (tt.map TE.blk).Nodup
 ne : ∀ e ∈ tt, e.blk ≠ B
theorem Tab.kept {R : Nat → Prop} {w w' : World} {b0 B ck : Nat} {tt : List TE} (h : Tab w b0 B tt ck) (hk : Kept R w w') (hB : ¬ R B) (hi : ∀ e ∈ tt, ¬ R e.blk) : Tab w' b0 B tt ck :=
 ⟨h.out.kept hk hB, h.ok, fun e he => (h.inn e he).kept hk (hi e he), h.iok, h.low, h.lows, h.blks, h.ne⟩
theorem Tab.same {w w' : World} {b0 B ck : Nat} {tt : List TE} (h : Tab w b0 B tt ck) (hk : Same w w') : Tab w' b0 B tt ck := h.kept hk id (fun _ _ => id)
theorem Tab.new (w : World) : Tab (w.alloc (.map #[] 0)) w.heap.size w.heap.size [] 0 :=
 ⟨MapB.new w, KVok.nil 0, fun _ h => by simp at h, fun _ h => by simp at h, Nat.le_refl _, fun _ h => by simp at h, by simp, fun _ h => by simp at h⟩
theorem te_cases (id : Int) (tt : List TE) : (∀ e ∈ tt, e.id ≠ id) ∨ ∃ pre e post, tt = pre ++ e :: post ∧ e.id = id ∧ ∀ y ∈ pre, y.id ≠ id := by
 induction tt with
 | nil => exact .inl (fun _ h => by simp at h)
 | cons e r ih =>
  by_cases h : e.id = id
  ·exact .inr ⟨[], e, r, rfl, h, fun _ h => by simp at h⟩
  ·rcases ih with ih | ⟨pre, e', post, rfl, he, hp⟩
   ·exact .inl (fun y hy => by rcases List.mem_cons.1 hy with rfl | hy; exact h; exact ih y hy)
   ·exact .inr ⟨e :: pre, e', post, rfl, he, fun y hy => by rcases List.mem_cons.1 hy with rfl | hy; exact h; exact hp y hy⟩
theorem ie_cases (txn : Int) (l : List IE) : (∀ e ∈ l, e.1 ≠ txn) ∨ ∃ pre m s post, l = pre ++ (txn, m, s) :: post ∧ ∀ y ∈ pre, y.1 ≠ txn := by
 induction l with
 | nil => exact .inl (fun _ h => by simp at h)
 | cons e r ih =>
  by_cases h : e.1 = txn
  ·obtain ⟨t, m, s⟩ := e
   dsimp only at h
   subst h
   exact .inr ⟨[], m, s, r, rfl, fun _ h => by simp at h⟩
  ·rcases ih with ih | ⟨pre, m, s, post, rfl, hp⟩
   ·exact .inl (fun y hy => by rcases List.mem_cons.1 hy with rfl | hy; exact h; exact ih y hy)
   ·exact .inr ⟨e :: pre, m, s, post, rfl, fun y hy => by rcases List.mem_cons.1 hy with rfl | hy; exact h; exact hp y hy⟩
theorem Tab.once {w : World} {b0 B ck : Nat} {pre post : List TE} {e : TE} (h : Tab w b0 B (pre ++ e :: post) ck) : ∀ y ∈ pre ++ post, y.id ≠ e.id := by
 have hk := h.ok
 rw [List.map_append, List.map_cons, show e.kv = (e.id, .map (some e.blk), e.st) from rfl] at hk
 intro y hy
 refine hk.others y.kv ?_
 rw [← List.map_append]
 exact List.mem_map_of_mem hy
theorem Tab.twice {w : World} {b0 B ck : Nat} {pre post : List TE} {e : TE} (h : Tab w b0 B (pre ++ e :: post) ck) : ∀ y ∈ pre ++ post, y.blk ≠ e.blk := by
 have hn := h.blks
 rw [List.map_append, List.map_cons] at hn
 obtain ⟨h1, h2, h3⟩ := List.nodup_append.1 hn
 intro y hy
 rcases List.mem_append.1 hy with hy | hy
 ·exact h3 y.blk (List.mem_map_of_mem hy) e.blk List.mem_cons_self
 ·intro e'
  have h4 : y.blk ∈ post.map TE.blk := List.mem_map_of_mem hy
  rw [e'] at h4
  exact (List.nodup_cons.1 h2).1 h4
theorem Tab.inner {w w' : World} {b0 B ck : Nat} {pre post : List TE} {e e' : TE} (h : Tab w b0 B (pre ++ e :: post) ck) (hid : e'.id = e.id) (hb : e'.blk = e.blk) (hs : e'.st = e.st)
  (hm : MapB w' e.blk (e'.inn.map ikv) e'.ck) (hk : KVok (e'.inn.map ikv) e'.ck) (hw : Kept (fun b => b = e.blk) w w') : Tab w' b0 B (pre ++ e' :: post) ck := by
 have hkv : (pre ++ e' :: post).map TE.kv = (pre ++ e :: post).map TE.kv := by
  rw [List.map_append, List.map_append, List.map_cons, List.map_cons, show e'.kv = e.kv by unfold TE.kv; rw [hid, hb, hs]]
 have hin : ∀ y ∈ pre ++ e' :: post, y = e' ∨ y ∈ pre ++ post := fun y hy => by
  rcases List.mem_append.1 hy with hy | hy
  ·exact .inr (List.mem_append_left _ hy)
  ·rcases List.mem_cons.1 hy with hy | hy
   ·exact .inl hy
   ·exact .inr (List.mem_append_right _ hy)
 have hold : ∀ y ∈ pre ++ post, y ∈ pre ++ e :: post := fun y hy => by
  rcases List.mem_append.1 hy with hy | hy
  ·exact List.mem_append_left _ hy
  ·exact List.mem_append_right _ (List.mem_cons_of_mem _ hy)
 have he : e ∈ pre ++ e :: post := List.mem_append_right _ List.mem_cons_self
 refine ⟨?_, ?_, ?_, ?_, h.low, ?_, ?_, ?_⟩
 ·rw [hkv]; exact h.out.kept hw (fun e1 => h.ne e he e1.symm)
 ·rw [hkv]; exact h.ok
 ·intro y hy
  rcases hin y hy with rfl | hy
  ·rw [hb]; exact hm
  ·exact (h.inn y (hold y hy)).kept hw (h.twice y hy)
 ·intro y hy
  rcases hin y hy with rfl | hy
  ·exact hk
  ·exact h.iok y (hold y hy)
 ·intro y hy
  rcases hin y hy with rfl | hy
  ·rw [hb]; exact h.lows e he
  ·exact h.lows y (hold y hy)
 ·have : (pre ++ e' :: post).map TE.blk = (pre ++ e :: post).map TE.blk := by
   rw [List.map_append, List.map_append, List.map_cons, List.map_cons, hb]
  rw [this]; exact h.blks
 ·intro y hy
  rcases hin y hy with rfl | hy
  ·rw [hb]; exact h.ne e he
  ·exact h.ne y (hold y hy)
theorem Tab.snoc {w w' : World} {b0 B ck nb : Nat} {tt : List TE} {id : Int} (h : Tab w b0 B tt ck) (hp : ∀ e ∈ tt, e.id ≠ id) (hnb : MapB w nb [] 0) (hne : nb ≠ B) (hnew : ∀ e ∈ tt, e.blk ≠ nb) (hlow : b0 ≤ nb)
  (hm : MapB w' B ((tt ++ [(⟨id, nb, ck, [], 0⟩ : TE)]).map TE.kv) (ck + 1)) (hw : Kept (fun b => b = B) w w') : Tab w' b0 B (tt ++ [⟨id, nb, ck, [], 0⟩]) (ck + 1) := by
 refine ⟨hm, ?_, ?_, ?_, h.low, ?_, ?_, ?_⟩
 ·rw [List.map_append]
  exact h.ok.snoc (fun y hy => by
   obtain ⟨e, he, rfl⟩ := List.mem_map.1 hy
   exact hp e he)
 ·intro y hy
  rcases List.mem_append.1 hy with hy | hy
  ·exact (h.inn y hy).kept hw (h.ne y hy)
  ·rw [List.mem_singleton.1 hy]
   exact hnb.kept hw hne
 ·intro y hy
  rcases List.mem_append.1 hy with hy | hy
  ·exact h.iok y hy
  ·rw [List.mem_singleton.1 hy]
   exact KVok.nil 0
 ·intro y hy
  rcases List.mem_append.1 hy with hy | hy
  ·exact h.lows y hy
  ·rw [List.mem_singleton.1 hy]; exact hlow
 ·rw [List.map_append]
  refine List.nodup_append.2 ⟨h.blks, by simp, fun a ha b hb => ?_⟩
  obtain ⟨e, he, rfl⟩ := List.mem_map.1 ha
  have : b = nb := by simpa using hb
  rw [this]
  exact hnew e he
 ·intro y hy
  rcases List.mem_append.1 hy with hy | hy
  ·exact h.ne y hy
  ·rw [List.mem_singleton.1 hy]; exact hne
theorem Tab.drop {w w' : World} {b0 B ck : Nat} {pre post : List TE} {e : TE} (h : Tab w b0 B (pre ++ e :: post) ck) (hm : MapB w' B ((pre ++ post).map TE.kv) ck) (hw : Kept (fun b => b = B) w w') : Tab w' b0 B (pre ++ post) ck := by
 have hold : ∀ y ∈ pre ++ post, y ∈ pre ++ e :: post := fun y hy => by
  rcases List.mem_append.1 hy with hy | hy
  ·exact List.mem_append_left _ hy
  ·exact List.mem_append_right _ (List.mem_cons_of_mem _ hy)
 have hk := h.ok
 rw [List.map_append, List.map_cons, show e.kv = (e.id, .map (some e.blk), e.st) from rfl] at hk
 refine ⟨hm, ?_, fun y hy => (h.inn y (hold y hy)).kept hw (h.ne y (hold y hy)), fun y hy => h.iok y (hold y hy), h.low, fun y hy => h.lows y (hold y hy), ?_, fun y hy => h.ne y (hold y hy)⟩
 ·rw [List.map_append]; exact hk.drop
 ·have hs : (pre ++ post).Sublist (pre ++ e :: post) := List.Sublist.append_left (List.sublist_cons_self _ _) _
  exact (hs.map _).nodup h.blks
def keyB (l : T3) (x : T3) : Bool := decide (x.1 = l.1) && decide (x.2.1 = l.2.1)
theorem filter_mid {α : Type} {f : α → Bool} {pre post : List α} {a : α} (hp : ∀ x ∈ pre, f x = true) (hq : ∀ x ∈ post, f x = true) (ha : f a = false) : (pre ++ a :: post).filter f = pre ++ post := by
 rw [List.filter_append, List.filter_cons_of_neg (by rw [ha]; simp), List.filter_eq_self.2 hp, List.filter_eq_self.2 hq]
theorem IE.once {ck : Nat} {pre post : List IE} {t m : Int} {s : Nat} (h : KVok ((pre ++ (t, m, s) :: post).map ikv) ck) : ∀ y ∈ pre ++ post, y.1 ≠ t := by
 rw [List.map_append, List.map_cons, show ikv (t, m, s) = (t, .int .i64 m, s) from rfl] at h
 intro y hy
 refine h.others (ikv y) ?_
 rw [← List.map_append]
 exact List.mem_map_of_mem hy
theorem cont_mid_perm (pre post : List TE) (e : TE) : (cont (pre ++ e :: post)).Perm (e.ls ++ cont (pre ++ post)) := by
 rw [cont_append, cont_append, cont]
 exact (List.perm_append_comm_assoc _ _ _)
theorem cont_other {w : World} {b0 B ck : Nat} {pre post : List TE} {e : TE} (h : Tab w b0 B (pre ++ e :: post) ck) (l : T3) (hl : l.1 = e.id) : (cont (pre ++ post)).filter (fun x => !keyB l x) = cont (pre ++ post) := by
 rw [List.filter_eq_self]
 intro x hx
 obtain ⟨y, hy, h1, _⟩ := mem_cont.1 hx
 have := h.once y hy
 simp only [keyB, Bool.not_eq_true', Bool.and_eq_false_iff, decide_eq_false_iff_not]
 exact .inl (by rw [← h1, hl]; exact this)
theorem put_old {w : World} {b0 B ck : Nat} {pre post : List TE} {e : TE} (h : Tab w b0 B (pre ++ e :: post) ck) {l : T3} (hl : e.id = l.1) {inn' : List IE} {ck' : Nat} (hin : (inn'.map fun x => (e.id, x.1, x.2.1)).Perm (l :: e.ls.filter (fun x => !keyB l x))) :
  (cont (pre ++ { e with inn := inn', ck := ck' } :: post)).Perm (l :: (cont (pre ++ e :: post)).filter (fun x => !keyB l x)) := by
 refine (cont_mid_perm pre post _).trans ?_
 refine .trans ?_ (((cont_mid_perm pre post e).filter _).symm.cons l)
 rw [List.filter_append, cont_other h l hl.symm, ← List.cons_append]
 exact List.Perm.append_right _ hin
theorem put_miss {e : TE} {l : T3} (hl : e.id = l.1) (hp : ∀ x ∈ e.inn, x.1 ≠ l.2.1) (s : Nat) : ((e.inn ++ [(l.2.1, l.2.2, s)]).map fun x => (e.id, x.1, x.2.1)).Perm (l :: e.ls.filter (fun x => !keyB l x)) := by
 have h1 : e.ls.filter (fun x => !keyB l x) = e.ls := by
  rw [List.filter_eq_self]
  intro x hx
  obtain ⟨y, hy, rfl⟩ := List.mem_map.1 hx
  have := hp y hy
  simp only [keyB, Bool.not_eq_true', Bool.and_eq_false_iff, decide_eq_false_iff_not]
  exact .inr this
 rw [h1, List.map_append]
 refine (List.perm_append_comm).trans ?_
 unfold TE.ls
 rw [hl]
 exact List.Perm.refl _
theorem put_hit {e : TE} {l : T3} {ck : Nat} {pre post : List IE} {m : Int} {s : Nat} (hl : e.id = l.1) (he : e.inn = pre ++ (l.2.1, m, s) :: post) (hk : KVok (e.inn.map ikv) ck) : ((pre ++ (l.2.1, l.2.2, s) :: post).map fun x => (e.id, x.1, x.2.1)).Perm (l :: e.ls.filter (fun x => !keyB l x)) := by
 rw [he] at hk
 have ho := IE.once hk
 have h1 : e.ls.filter (fun x => !keyB l x) = (pre ++ post).map fun x => (e.id, x.1, x.2.1) := by
  unfold TE.ls
  rw [he, List.map_append, List.map_cons, List.map_append]
  refine filter_mid ?_ ?_ ?_
  ·intro x hx
   obtain ⟨y, hy, rfl⟩ := List.mem_map.1 hx
   simp only [keyB, Bool.not_eq_true', Bool.and_eq_false_iff, decide_eq_false_iff_not]
   exact .inr (ho y (List.mem_append_left _ hy))
  ·intro x hx
   obtain ⟨y, hy, rfl⟩ := List.mem_map.1 hx
   simp only [keyB, Bool.not_eq_true', Bool.and_eq_false_iff, decide_eq_false_iff_not]
   exact .inr (ho y (List.mem_append_right _ hy))
  ·simp [keyB, hl]
 rw [h1, List.map_append, List.map_cons, List.map_append, hl]
 exact List.perm_middle
theorem put_new {tt : List TE} {l : T3} (hp : ∀ e ∈ tt, e.id ≠ l.1) (nb s c : Nat) (i : Nat) : (cont (tt ++ [⟨l.1, nb, s, [(l.2.1, l.2.2, i)], c⟩])).Perm (l :: (cont tt).filter (fun x => !keyB l x)) := by
 have h1 : (cont tt).filter (fun x => !keyB l x) = cont tt := by
  rw [List.filter_eq_self]
  intro x hx
  obtain ⟨y, hy, h1, _⟩ := mem_cont.1 hx
  simp only [keyB, Bool.not_eq_true', Bool.and_eq_false_iff, decide_eq_false_iff_not]
  exact .inl (by rw [← h1]; exact hp y hy)
 rw [h1, cont_append]
 refine (List.perm_append_comm).trans ?_
 exact List.Perm.refl _
end Go.Proofs.Ytmpfpgelaipmnab
