import Derived.Test.YtmpfpgelaipmnaaG00
namespace Go.Proofs.Ytmpfpgelaipmnaa
set_option maxRecDepth 100000
set_option maxHeartbeats 4000000
set_option linter.unusedVariables false
set_option linter.unusedSimpArgs false
open Go.RowKit
def grI (f : Int) : List Int → Int
 | [] => f
 | n :: ns => grI (if f < n then n else f) ns
def suW (f : Int) : List Int → Int
 | [] => f
 | n :: ns => suW (IntKind.i64.wrap (f + n)) ns
theorem grI_at {f : Int} {zs : List Int} {k : Nat} (h : k < zs.length) : grI f (zs.drop k) = grI (if f < zs.getD k 0 then zs.getD k 0 else f) (zs.drop (k + 1)) := by
 rw [List.drop_eq_getElem_cons h, show zs.getD k 0 = zs[k] from by simp [List.getD, h]]
 rfl
theorem suW_at {f : Int} {zs : List Int} {k : Nat} (h : k < zs.length) : suW f (zs.drop k) = suW (IntKind.i64.wrap (f + zs.getD k 0)) (zs.drop (k + 1)) := by
 rw [List.drop_eq_getElem_cons h, show zs.getD k 0 = zs[k] from by simp [List.getD, h]]
 rfl
theorem Rd.at {w : World} {a : Option Addr} {n c : Nat} {zs : List Int} (h : Rd .i64 w (.slice a n c) zs) {k : Nat} (hk : k < zs.length) : ∃ b off, a = some ⟨b, off, none⟩ ∧ w.cell? ⟨b, off + k, none⟩ = some (.int .i64 (zs.getD k 0)) := by
 rcases h.2 with ⟨hnil, _⟩ | ⟨b, off, c', h, _, hc⟩
 ·rw [hnil] at hk; simp at hk
 ·cases h; exact ⟨b, off, rfl, hc k hk⟩
theorem greatest_any (f : Int) (v : Value) (zs : List Int) (w : World) (hv : Rd .i64 w v zs) :
  Calls Try.prog 42 #[.int .i64 f, v] w fun e w' => e = .returned (.int .i64 (grI f zs)) ∧ Same w w' := by
 obtain ⟨a, c, rfl⟩ := hv.form
 have hmax : zs.length ≤ maxLen := hv.1
 unfold maxLen at hmax
 obtain ⟨R, hR⟩ : ∃ R, grI f zs = R := ⟨_, rfl⟩
 rw [hR]
 obtain ⟨n, hn⟩ : ∃ n, zs.length = n := ⟨_, rfl⟩
 have HN := hid hn
 rw [hn] at hmax ⊢
 have HV := (show Hid (Rd .i64 w (.slice a n c) zs) from by rw [← hn]; exact hv)
 have HR := hid hR
 clear hv hn hR
 go_enter Try.func42, Try.ntmps42
 go_wp2_with fail
 go_loopw [9, 0] (fun i g wr => ∃ (k : Nat) (x : Int), k ≤ n ∧ i = .int .i64 k ∧ g = .int .i64 x ∧ Hid (grI x (zs.drop k) = R) ∧ Hid (Same w wr)) (fun i _ _ => n - (intOf i).toNat)
 case atStart => exact ⟨0, f, Nat.zero_le _, rfl, rfl, HR, Kept.refl _ _⟩
 case round =>
  obtain ⟨k, x, hk, rfl, rfl, HA, HK⟩ := hrel
  by_cases hlt : k < n
  ·have hlz : k < zs.length := by rw [HN.out]; exact hlt
   obtain ⟨b, off, rfl, hc⟩ := (HV.out.same HK.out).at hlz
   have h := HA.out
   rw [grI_at hlz] at h
   generalize zs.getD k 0 = z at h hc
   clear HA
   by_cases h1 : x < z
   ·rw [if_pos h1] at h
    have HA2 := hid h
    clear h
    go_wp2
    go_roundw
    case rel => exact ⟨k + 1, z, by omega, by go_num, rfl, HA2, HK⟩
    case measure => simp [intOf]; omega
   ·rw [if_neg h1] at h
    have HA2 := hid h
    clear h
    go_wp2
    go_roundw
    case rel => exact ⟨k + 1, x, by omega, by go_num, rfl, HA2, HK⟩
    case measure => simp [intOf]; omega
  ·obtain rfl : k = n := by omega
   have h := HA.out
   rw [← HN.out, List.drop_length] at h
   go_wp2
   go_ret
   exact ⟨by rw [← h]; rfl, HK.out⟩
theorem sum_any (v : Value) (zs : List Int) (w : World) (hv : Rd .i64 w v zs) :
  Calls Try.prog 30 #[v] w fun e w' => e = .returned (.int .i64 (suW 0 zs)) ∧ Same w w' := by
 obtain ⟨a, c, rfl⟩ := hv.form
 have hmax : zs.length ≤ maxLen := hv.1
 unfold maxLen at hmax
 obtain ⟨R, hR⟩ : ∃ R, suW 0 zs = R := ⟨_, rfl⟩
 rw [hR]
 obtain ⟨n, hn⟩ : ∃ n, zs.length = n := ⟨_, rfl⟩
 have HN := hid hn
 rw [hn] at hmax ⊢
 have HV := (show Hid (Rd .i64 w (.slice a n c) zs) from by rw [← hn]; exact hv)
 have HR := hid hR
 clear hv hn hR
 go_enter Try.func30, Try.ntmps30
 go_wp2_with fail
 go_loopw [8, 3] (fun i g wr => ∃ (k : Nat) (x : Int), k ≤ n ∧ i = .int .i64 k ∧ g = .int .i64 x ∧ Hid (suW x (zs.drop k) = R) ∧ Hid (Same w wr)) (fun i _ _ => n - (intOf i).toNat)
 case atStart => exact ⟨0, 0, Nat.zero_le _, rfl, rfl, HR, Kept.refl _ _⟩
 case round =>
  obtain ⟨k, x, hk, rfl, rfl, HA, HK⟩ := hrel
  by_cases hlt : k < n
  ·have hlz : k < zs.length := by rw [HN.out]; exact hlt
   obtain ⟨b, off, rfl, hc⟩ := (HV.out.same HK.out).at hlz
   have h := HA.out
   rw [suW_at hlz] at h
   generalize zs.getD k 0 = z at h hc
   clear HA
   have HA2 := hid h
   clear h
   obtain ⟨y, hy⟩ : ∃ y, IntKind.i64.wrap (x + z) = y := ⟨_, rfl⟩
   rw [hy] at HA2
   go_wp2
   go_roundw
   case rel => exact ⟨k + 1, y, by omega, by go_num, rfl, HA2, HK⟩
   case measure => simp [intOf]; omega
  ·obtain rfl : k = n := by omega
   have h := HA.out
   rw [← HN.out, List.drop_length] at h
   go_wp2
   go_ret
   exact ⟨by rw [← h]; rfl, HK.out⟩
def suI : List Int → Int
 | [] => 0
 | n :: ns => n + suI ns
theorem suW_eq : ∀ (zs : List Int) (f : Int) (B : Nat), (∀ z ∈ zs, -72057594037927936 ≤ z ∧ z ≤ 72057594037927936) → (-72057594037927936 * B ≤ f ∧ f ≤ 72057594037927936 * B) → zs.length + B ≤ 64 → suW f zs = f + suI zs
 | [], f, B, _, _, _ => by simp [suW, suI]
 | z :: zs, f, B, hz, hf, hl => by
  have h1 := hz z (List.mem_cons_self ..)
  simp only [List.length_cons] at hl
  have hw : IntKind.i64.wrap (f + z) = f + z := by rw [IntKind.wrap_i64]; omega
  unfold suW suI
  rw [hw, suW_eq zs (f + z) (B + 1) (fun y hy => hz y (List.mem_cons_of_mem _ hy)) (by omega) (by omega)]
  omega
theorem suW_small {zs : List Int} (hz : ∀ z ∈ zs, -72057594037927936 ≤ z ∧ z ≤ 72057594037927936) (hl : zs.length ≤ 64) : suW 0 zs = suI zs := by
 rw [suW_eq zs 0 0 hz (by omega) (by omega)]
 omega
theorem rd_new (w : World) (t : TypeId) (zs : List Int) (hn : zs.length ≤ maxLen) : Rd .i64 (w.alloc (.cells (zs.map (.int .i64)).toArray t)) (.slice (some ⟨w.heap.size, 0, none⟩) zs.length zs.length) zs := by
 refine ⟨hn, .inr ⟨w.heap.size, 0, zs.length, rfl, Nat.le_refl _, fun i hi => ?_⟩⟩
 rw [Nat.zero_add, World.cell?_alloc_at (w := w) _ _ w.heap.size i rfl]
 simp [hi, List.getD]
end Go.Proofs.Ytmpfpgelaipmnaa
