/-
  impl.greatest, impl.sum at int64: any number of arguments.
-/
import Derived.Test.YtednajibnjofmaaTri
import Derived.Test.YtednajibnjofmaaL4In
import Derived.Test.YtednajibnjofmaaBlk
namespace Go.Proofs.Ytednajibnjofmaa
set_option maxRecDepth 100000
set_option maxHeartbeats 4000000
open Go.RowKit
set_option linter.unusedVariables false
set_option linter.unusedSimpArgs false

def grI (f : Int) : List Int → Int
  | [] => f
  | n :: ns => grI (if f < n then n else f) ns
def suW (f : Int) : List Int → Int
  | [] => f
  | n :: ns => suW (IntKind.i64.wrap (f + n)) ns
theorem grI_at {f : Int} {zs : List Int} {k : Nat} (h : k < zs.length) : grI f (zs.drop k) = grI (if f < zs.getD k 0 then zs.getD k 0 else f) (zs.drop (k + 1)) := by
  rw [List.drop_eq_getElem_cons h, show zs.getD k 0 = zs[k] from by simp [List.getD, h]]
  rfl
theorem suW_at {f : Int} {zs : List Int} {k : Nat} (h : k < zs.length) : suW f (zs.drop k) = suW (IntKind.i64.wrap (f + zs.getD k 0)) (zs.drop (k + 1)) := by
  rw [List.drop_eq_getElem_cons h, show zs.getD k 0 = zs[k] from by simp [List.getD, h]]
  rfl
theorem Rd.at {w : World} {a : Option Addr} {n c : Nat} {zs : List Int} (h : Rd .i64 w (.slice a n c) zs) {k : Nat} (hk : k < zs.length) : ∃ b off, a = some ⟨b, off, none⟩ ∧ w.cell? ⟨b, off + k, none⟩ = some (.int .i64 (zs.getD k 0)) := by
  rcases h.2 with ⟨hnil, _⟩ | ⟨b, off, c', h, _, hc⟩
  · rw [hnil] at hk; simp at hk
  · cases h; exact ⟨b, off, rfl, hc k hk⟩

/-- nothing is lost where the terms are small -/
def suI : List Int → Int
  | [] => 0
  | n :: ns => n + suI ns
theorem suW_eq : ∀ (zs : List Int) (f : Int) (B : Nat), (∀ z ∈ zs, -72057594037927936 ≤ z ∧ z ≤ 72057594037927936) → (-72057594037927936 * B ≤ f ∧ f ≤ 72057594037927936 * B) → zs.length + B ≤ 64 → suW f zs = f + suI zs
  | [], f, B, _, _, _ => by simp [suW, suI]
  | z :: zs, f, B, hz, hf, hl => by
    have h1 := hz z (List.mem_cons_self ..)
    simp only [List.length_cons] at hl
    have hw : IntKind.i64.wrap (f + z) = f + z := by rw [IntKind.wrap_i64]; omega
    unfold suW suI
    rw [hw, suW_eq zs (f + z) (B + 1) (fun y hy => hz y (List.mem_cons_of_mem _ hy)) (by omega) (by omega)]
    omega
theorem suW_small {zs : List Int} (hz : ∀ z ∈ zs, -72057594037927936 ≤ z ∧ z ≤ 72057594037927936) (hl : zs.length ≤ 64) : suW 0 zs = suI zs := by
  rw [suW_eq zs 0 0 hz (by omega) (by omega)]
  omega
/-- a new slice of integers, as 'f(a, b, c)' makes it -/
theorem rd_new (w : World) (t : TypeId) (zs : List Int) (hn : zs.length ≤ maxLen) : Rd .i64 (w.alloc (.cells (zs.map (.int .i64)).toArray t)) (.slice (some ⟨w.heap.size, 0, none⟩) zs.length zs.length) zs := by
  refine ⟨hn, .inr ⟨w.heap.size, 0, zs.length, rfl, Nat.le_refl _, fun i hi => ?_⟩⟩
  rw [Nat.zero_add, World.cell?_alloc_at (w := w) _ _ w.heap.size i rfl]
  simp [hi, List.getD]
end Go.Proofs.Ytednajibnjofmaa
