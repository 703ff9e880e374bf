/-
  slices.Sorted(maps.Keys(m)) at both maps of the program.
-/
import Derived.Test.YtcdmlgafalnooaaLaySort
import Derived.Test.YtcdmlgafalnooaaMapW
import Derived.Test.YtcdmlgafalnooaaBytes
namespace Go.Proofs.Ytcdmlgafalnooaa
set_option maxRecDepth 100000
set_option maxHeartbeats 4000000
open Go.RowKit Go.Maps Go.Sort Go.Shelf
set_option linter.unusedVariables false
set_option linter.unusedSimpArgs false

/-- an element reads as nothing: the keys alone are asked for -/
def blind (v : Value) : Option (DataW Unit × List MemPlace) := some (.nil, [])
theorem key_of {P : Program} {K : TypeId} (hk : P.underlying K = some (.int .i64)) {x : Int} (hx : -9223372036854775808 ≤ x ∧ x ≤ 9223372036854775807) : keyOf P K (.int .i64 x) = some (.int .i64 x) := by
  have hw : (Lit.int .i64 x).wf = true := by
    have h1 : IntKind.i64.min = -9223372036854775808 := rfl
    have h2 : IntKind.i64.max = 9223372036854775807 := rfl
    simp only [Lit.wf, h1, h2, Bool.and_eq_true, decide_eq_true_eq]
    exact hx
  simp [keyOf, hk, mapKey, hw]
theorem owns_of {P : Program} {K : TypeId} (hk : P.underlying K = some (.int .i64)) {w : World} {B ck : Nat} {kv : List KV} (hb : MapB w B kv ck) (hn : KVok kv ck) (hl : kv.length ≤ maxLen) (hx : ∀ e ∈ kv, -9223372036854775808 ≤ e.1 ∧ e.1 ≤ 9223372036854775807) :
    ∃ D : DataW Unit, w.ownsMap P K blind B kv.length D ∧ (intKeys D).Perm (kv.map (·.1)) ∧ Maps.size D = kv.length := by
  have hrd : ∀ e ∈ kv, Go.WideElems.rd P K blind (entI e) = some (.int .i64 e.1, .nil) := fun e he => by
    simp [Go.WideElems.rd, entI, key_of hk (hx e he), blind]
  have hmap : (ents kv).map (Go.WideElems.rg P K blind) = kv.map fun e => (Lit.int .i64 e.1, (DataW.nil : DataW Unit)) := by
    unfold ents
    rw [List.map_map]
    apply List.map_congr_left
    intro e he
    simp [Function.comp, Go.WideElems.rg, hrd e he]
  refine ⟨_, ⟨(ents kv).toArray, ck, hb, ⟨by simpa [ents] using hl, ⟨?_, ?_, ?_⟩, ?_⟩, by simp [ents], rfl⟩, ?_, ?_⟩
  · intro x hx'
    simp only [ents, List.mem_map] at hx'
    obtain ⟨e, he, rfl⟩ := hx'
    exact hn.lt e he
  · have : (ents kv).toArray.toList.map (·.born) = kv.map (·.2.2) := by simp [ents, Function.comp_def, entI]
    rw [this]
    exact hn.stamps
  · have : (ents kv).toArray.toList.map (·.key) = (kv.map (·.1)).map (Value.int .i64) := by simp [ents, Function.comp_def, entI]
    rw [this]
    exact List.Pairwise.map _ (fun a b h e => h (by simpa using e)) hn.keys
  · intro x hx'
    simp only [ents, List.mem_map] at hx'
    obtain ⟨e, he, rfl⟩ := hx'
    exact ⟨_, hrd e he⟩
  · show (List.map _ (List.foldr _ [] (List.map _ (ents kv).toArray.toList))).Perm _
    rw [show (ents kv).toArray.toList = ents kv from rfl, hmap]
    refine ((Go.WideShapes.sorted_perm _).map _).trans ?_
    rw [List.map_map]
    exact List.Perm.refl _
  · show (List.foldr _ [] (List.map _ (ents kv).toArray.toList)).length = _
    rw [(Go.WideShapes.sorted_perm _).length_eq]
    simp [ents]
theorem same_below {w w' : World} (h : Below w.heap.size w w') : Same w w' := ⟨h.os, h.tape, h.output, h.size, fun k hk _ => h.block k hk⟩
def sortI (l : List Int) : List Int := l.mergeSort (fun x y => decide (x ≤ y))
theorem sorts8 (m : Nat) : AnyZI.SortsIn Try.prog Try.sortedA_ren Fence.wide m :=
  ⟨fun blk off cap ss W hH hblk hsz => callsIn_wide.2 (AnyM.slices_Sort_int Try.sortA blk off cap ss W hH hblk hsz),
   fun p cap W => callsIn_wide.2 (AnyM.slices_Sort_int_none Try.sortA p cap W)⟩
theorem keysA_any (B : Option Nat) (w : World) : Calls Try.prog 45 #[.map B] w fun e w' => e = .returned (.func (.func 54) #[] #[.pointer (some ⟨w.heap.size, 0, none⟩)]) ∧ w' = w.alloc (.cells #[.map B] 45) :=
  (callsIn_wide (n := 5)).1 (AnyZI.keys_in Try.keysA Fence.wide 5 trivial rfl B w)
theorem keysB_any (B : Option Nat) (w : World) : Calls Try.prog 46 #[.map B] w fun e w' => e = .returned (.func (.func 55) #[] #[.pointer (some ⟨w.heap.size, 0, none⟩)]) ∧ w' = w.alloc (.cells #[.map B] 62) :=
  (callsIn_wide (n := 5)).1 (AnyZI.keys_in Try.keysB Fence.wide 5 trivial rfl B w)
theorem sortedA_any (w : World) (B ck : Nat) (kv : List KV) (hb : MapB w B kv ck) (hn : KVok kv ck) (hl : kv.length ≤ 1000000) (hx : ∀ e ∈ kv, -9223372036854775808 ≤ e.1 ∧ e.1 ≤ 9223372036854775807) :
    Calls Try.prog 44 #[.func (.func 54) #[] #[.pointer (some ⟨w.heap.size, 0, none⟩)]] (w.alloc (.cells #[.map (some B)] 45)) fun e w' => ∃ v : Value, e = .returned v ∧ w'.ownsRow (w.heap.size + 1) 2 1 v kv.length ((sortI (kv.map (·.1))).map encZ) ∧ Same (w.alloc (.cells #[.map (some B)] 45)) w' := by
  refine (callsIn_wide (n := 5)).1 ?_
  obtain ⟨D, hown, hperm, hsz⟩ := owns_of (P := Try.prog) (K := 2) Try.underlying2 (hb.same ((Kept.refl _ _).alloc (.cells #[.map (some B)] 45))) hn (by unfold maxLen; omega) hx
  have hseq : SeqGives Fence.wide 2 Try.prog 54 #[.pointer (some ⟨w.heap.size, 0, none⟩)] encZ (fun ss => ss.Perm (intKeys D)) (Maps.size D) (w.alloc (.cells #[.map (some B)] 45)) :=
    AnyZI.keys_gives (ρ := Try.keysA_ren) { Try.keysA with } Fence.wide _ trivial rfl (by omega) w.heap.size B kv.length D _ (by simp) (by simp) hown
  have cS := AnyZI.sorted_in Try.sortedA Fence.wide 5 trivial trivial trivial trivial rfl (by omega) (sorts8 _) (enters_of Try.func53 (by kernel_rfl) rfl) 54 #[.pointer (some ⟨w.heap.size, 0, none⟩)] trivial (enters_of Try.func54 (by kernel_rfl) rfl) _ _ (by rw [hsz]; unfold maxLen; omega) (by rw [hsz]; omega) _ hseq
  refine CallsIn.mono cS ?_
  rintro e w' ⟨v, ss, rfl, hS, hrow, _, hbe⟩
  have hp := hS.trans hperm
  refine ⟨v, rfl, ?_, same_below hbe⟩
  have h1 : ss.length = kv.length := by rw [hp.length_eq, List.length_map]
  have h2 : ss.mergeSort (fun x y => decide (x ≤ y)) = sortI (kv.map (·.1)) := mergeSort_of_perm_i hp
  rw [h1, h2, World.size_alloc] at hrow
  exact hrow
theorem sortedB_any (w : World) (B ck : Nat) (kv : List KV) (hb : MapB w B kv ck) (hn : KVok kv ck) (hl : kv.length ≤ 1000000) (hx : ∀ e ∈ kv, -9223372036854775808 ≤ e.1 ∧ e.1 ≤ 9223372036854775807) :
    Calls Try.prog 44 #[.func (.func 55) #[] #[.pointer (some ⟨w.heap.size, 0, none⟩)]] (w.alloc (.cells #[.map (some B)] 62)) fun e w' => ∃ v : Value, e = .returned v ∧ w'.ownsRow (w.heap.size + 1) 2 1 v kv.length ((sortI (kv.map (·.1))).map encZ) ∧ Same (w.alloc (.cells #[.map (some B)] 62)) w' := by
  refine (callsIn_wide (n := 5)).1 ?_
  obtain ⟨D, hown, hperm, hsz⟩ := owns_of (P := Try.prog) (K := 2) Try.underlying2 (hb.same ((Kept.refl _ _).alloc (.cells #[.map (some B)] 62))) hn (by unfold maxLen; omega) hx
  have hseq : SeqGives Fence.wide 2 Try.prog 55 #[.pointer (some ⟨w.heap.size, 0, none⟩)] encZ (fun ss => ss.Perm (intKeys D)) (Maps.size D) (w.alloc (.cells #[.map (some B)] 62)) :=
    AnyZI.keys_gives (ρ := Try.keysB_ren) { Try.keysB with } Fence.wide _ trivial rfl (by omega) w.heap.size B kv.length D _ (by simp) (by simp) hown
  have cS := AnyZI.sorted_in Try.sortedA Fence.wide 5 trivial trivial trivial trivial rfl (by omega) (sorts8 _) (enters_of Try.func53 (by kernel_rfl) rfl) 55 #[.pointer (some ⟨w.heap.size, 0, none⟩)] trivial (enters_of Try.func55 (by kernel_rfl) rfl) _ _ (by rw [hsz]; unfold maxLen; omega) (by rw [hsz]; omega) _ hseq
  refine CallsIn.mono cS ?_
  rintro e w' ⟨v, ss, rfl, hS, hrow, _, hbe⟩
  have hp := hS.trans hperm
  refine ⟨v, rfl, ?_, same_below hbe⟩
  have h1 : ss.length = kv.length := by rw [hp.length_eq, List.length_map]
  have h2 : ss.mergeSort (fun x y => decide (x ≤ y)) = sortI (kv.map (·.1)) := mergeSort_of_perm_i hp
  rw [h1, h2, World.size_alloc] at hrow
  exact hrow
end Go.Proofs.Ytcdmlgafalnooaa
