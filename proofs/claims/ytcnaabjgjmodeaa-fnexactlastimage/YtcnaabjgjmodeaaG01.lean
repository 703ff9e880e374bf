import Derived.Test.YtcnaabjgjmodeaaG00
import Derived.Deep.DeepCutAuto
import Derived.Laws.BitsAllLaws
import Derived.Tactics
import Derived.Tactics2
import Derived.Defers
import Derived.Laws.Pointers
import Derived.Laws.LoneSync
import Derived.RegionTactic
import Derived.RegionCalls
import Derived.WalkKit
import Derived.OrdersHeld
import Derived.Deep.RegionHeld3
namespace Go.Proofs.Ytcnaabjgjmodeaa
set_option maxRecDepth 100000
set_option maxHeartbeats 16000000
open Go.RowKit
set_option linter.unusedVariables false
set_option linter.unusedSimpArgs false
structure StPageRecord where
  used : Bool
  data : BS
def StPageRecord.val (x : StPageRecord) : Value := .agg #[.bool x.used, x.data.v]
def StPageRecord.rows (x : StPageRecord) : List Row := x.data.rows
def StPageRecord.dat (x : StPageRecord) : Bool × List Int := (x.used, x.data.bs)
def StPageRecord.size (x : StPageRecord) : Int := (x.data.bs.length : Int)
theorem StPageRecord.size_le (x : StPageRecord) : 0 ≤ x.size := by
  unfold StPageRecord.size
  omega
def StPageRecord.marked (x : StPageRecord) (k : Int) : StPageRecord := ⟨x.used, x.data.marked (k)⟩
theorem StPageRecord.foot_marked (x : StPageRecord) (k : Int) (b : Nat) : FootL (x.marked k).rows b ↔ FootL x.rows b := by
  exact BS.foot_marked _ _ b
def StPageRecord.rd (w : World) (x : StPageRecord) : Prop := Rd .u8 w x.data.v x.data.bs
theorem StPageRecord.rd.kept {R : Nat → Prop} {w w' : World} {x : StPageRecord} (h : StPageRecord.rd w x) (hk : Kept R w w') (hr : ∀ b, FootL x.rows b → ¬ R b) : StPageRecord.rd w' x :=
  Rd.kept (h) hk (fun b hb => hr b (((footL_ints _ _ _ _ _).2 hb)))
theorem StPageRecord.rd.same {w w' : World} {x : StPageRecord} (h : StPageRecord.rd w x) (hk : Same w w') : StPageRecord.rd w' x := h.kept hk (fun _ _ => id)
theorem StPageRecord.own_rd {w : World} {x : StPageRecord} (h : OwnL w x.rows) : StPageRecord.rd w x :=
  (OwnL.of_one h).rd
def StPageRecord.szs (x : StPageRecord) : Int := (x.data.bs.length : Int)
theorem StPageRecord.szs_le (x : StPageRecord) : 0 ≤ x.szs := by
  unfold StPageRecord.szs
  omega
theorem eqPageRecord_own (x y : StPageRecord) (w : World) (hn : x.size ≤ 1125899906842624) (hd : x.dat = y.dat) (ha : OwnL w x.rows) (hb : OwnL w y.rows) :
    Calls Try.prog 25 #[x.val, y.val] w fun e w' => e = .returned (.bool true) ∧ Same w w' := by
  obtain ⟨xused, ⟨xdata_e, xdata_a, xdata_c, xdata_b⟩⟩ := x
  obtain ⟨yused, ⟨ydata_e, ydata_a, ydata_c, ydata_b⟩⟩ := y
  simp only [StPageRecord.dat, Prod.mk.injEq] at hd
  obtain ⟨rfl, rfl⟩ := hd
  simp only [StPageRecord.size] at hn
  have Hx0 := (show Hid (OwnL w [ints xdata_e .u8 (.slice xdata_a xdata_b.length xdata_c) xdata_b]) from ha)
  have Hy0 := (show Hid (OwnL w [ints ydata_e .u8 (.slice ydata_a xdata_b.length ydata_c) xdata_b]) from hb)
  clear ha hb
  dsimp only [StPageRecord.val, BS.v]
  go_enter Try.func25, Try.ntmps25
  have hk0 : Same w ((w.alloc (.cells #[.bool xused, .slice xdata_a xdata_b.length xdata_c] 24)).alloc (.cells #[.bool xused, .slice ydata_a xdata_b.length ydata_c] 24)) := ((Kept.refl _ _).alloc _).alloc _
  have HK0 := (show Hid (Same w _) from hk0)
  obtain ⟨_, HBx0, HBy0⟩ := new2 w [.bool xused, .slice xdata_a xdata_b.length xdata_c] 24 [.bool xused, .slice ydata_a xdata_b.length ydata_c] 24
  clear hk0
  go_wp2_with fail
  refine (eqByteS_own 0 _ _ xdata_b _ (by omega) (Hx0.out.of_one.same HK0.out) (Hy0.out.of_one.same HK0.out)).mono ?_
  rintro e w1 ⟨rfl, nn, hww⟩
  have hk : Same ((w.alloc (.cells #[.bool xused, .slice xdata_a xdata_b.length xdata_c] 24)).alloc (.cells #[.bool xused, .slice ydata_a xdata_b.length ydata_c] 24)) w1 := by rw [hww]; exact (Kept.refl _ _).drewN _
  clear hww
  have HK1 := (show Hid (Same w w1) from HK0.out.trans hk)
  have HBx1 := hid (HBx0.out.same hk)
  have HBy1 := hid (HBy0.out.same hk)
  clear hk HK0 HBx0 HBy0
  go_wp2
  go_ret
  exact ⟨rfl, HK1.out⟩
theorem markPageRecord_own (x : StPageRecord) (k0 : Int) (w : World) (h0 : 0 ≤ k0) (h1 : k0 + x.size ≤ 1125899906842624) (ha : OwnL w x.rows) :
    Calls Try.prog 27 #[x.val, .int .i64 k0] w fun e w' => e = .returned (.int .i64 (k0 + x.size)) ∧ OwnL w' (x.marked k0).rows ∧ Kept (FootL x.rows) w w' := by
  have hlt := ha.lt
  have HLT := (show Hid (∀ b, FootL x.rows b → b < w.heap.size) from hlt)
  have HA := (show Hid (OwnL w x.rows) from ha)
  clear hlt
  obtain ⟨xused, ⟨xdata_e, xdata_a, xdata_c, xdata_b⟩⟩ := x
  have HO0_0 := (show Hid (OwnL w [ints xdata_e .u8 (.slice xdata_a xdata_b.length xdata_c) xdata_b]) from ha)
  clear ha
  simp only [StPageRecord.size] at h1
  dsimp only [StPageRecord.val, BS.v]
  go_enter Try.func27, Try.ntmps27
  have HK_0 := (show Hid (Kept (FootL (StPageRecord.rows ⟨xused, ⟨xdata_e, xdata_a, xdata_c, xdata_b⟩⟩)) w (w.alloc (.cells #[.bool xused, .slice xdata_a xdata_b.length xdata_c] 24))) from (Kept.refl _ _).alloc _)
  have HB_0 := hid (Blk.newL w [.bool xused, .slice xdata_a xdata_b.length xdata_c] 24)
  go_wp2_with fail
  refine (markByteS_own 0 _ xdata_b (k0) _ (by omega) (by omega) (by omega) (OwnL.of_one (HO0_0.out.same ((Kept.refl _ _).alloc _)))).mono ?_
  rintro e w1 ⟨rfl, ho, hk⟩
  have ho := (show OwnL w1 (BS.rows (BS.marked ⟨xdata_e, xdata_a, xdata_c, xdata_b⟩ (k0))) from BS.own_marked.2 (OwnL.one ho))
  have hk : Kept (FootL [ints xdata_e .u8 (.slice xdata_a xdata_b.length xdata_c) xdata_b]) _ w1 := hk.mono (fun b _ e => (footL_ints _ _ _ _ _).2 e)
  have HB_1 := (show Hid (Blk w1 w.heap.size 24 [.bool xused, .slice xdata_a xdata_b.length xdata_c]) from HB_0.out.kept hk (fun e => by have := HLT.out _ (e); omega))
  have HK_1 := (show Hid (Kept (FootL (StPageRecord.rows ⟨xused, ⟨xdata_e, xdata_a, xdata_c, xdata_b⟩⟩)) w w1) from HK_0.out.next hk (fun b _ e => e))
  have HO0_1 := (show Hid (OwnL w1 (BS.rows (BS.marked ⟨xdata_e, xdata_a, xdata_c, xdata_b⟩ (k0)))) from ho)
  clear ho hk HB_0 HK_0 HO0_0
  go_wp2
  go_ret
  refine ⟨rfl, ?_, HK_1.out⟩
  exact HO0_1.out
theorem szPageRecord_any (x : StPageRecord) (left : Int) (w : World) (h0 : 0 ≤ left) (h1 : left ≤ 1048576) (ha : StPageRecord.rd w x) :
    Calls Try.prog 19 #[x.val, .int .i64 left] w fun e w' => ∃ r : Int, e = .returned (.int .i64 r) ∧ (r = -1 ∨ (r = left - x.szs ∧ 0 ≤ r)) ∧ Same w w' := by
  obtain ⟨xused, ⟨xdata_e, xdata_a, xdata_c, xdata_b⟩⟩ := x
  have hm0 : xdata_b.length ≤ maxLen := (ha).1
  clear ha
  dsimp only [StPageRecord.val, BS.v]
  go_enter Try.func19, Try.ntmps19
  obtain ⟨HK0, HB0⟩ := new1 w [.bool xused, .slice xdata_a xdata_b.length xdata_c] 36
  go_wp2_with fail
  refine (szByteS_any _ _ _ left _ (by omega) (by omega) hm0).mono ?_
  rintro e w1 ⟨r1, rfl, hr, hww⟩
  have hk : Same (w.alloc (.cells #[.bool xused, .slice xdata_a xdata_b.length xdata_c] 36)) w1 := by rw [hww]; exact Kept.refl _ _
  clear hww
  replace hr : r1 = -1 ∨ (r1 = left - xdata_b.length ∧ 0 ≤ r1) := by omega
  have HK1 := (show Hid (Same w w1) from HK0.out.trans hk)
  have HB1 := hid (HB0.out.same hk)
  clear hk
  rcases hr with rfl | ⟨hr, hr1⟩
  · go_wp2
    go_ret
    exact ⟨_, rfl, .inl rfl, HK1.out⟩
  have hle1 : r1 ≤ 1048576 := by omega
  have HR1 := (show Hid (_ = _) from hr)
  clear hr
  go_wp2
  go_ret
  exact ⟨_, rfl, .inr ⟨by have e1 := HR1.out; simp only [StPageRecord.szs]; omega, hr1⟩, HK1.out⟩
theorem toPageRecord_any (x : StPageRecord) (w : World) (hn : x.szs ≤ 1073741824) (ha : StPageRecord.rd w x) :
    Calls Try.prog 22 #[x.val] w fun e w' => ∃ y : StPageRecord, e = .returned y.val ∧ y.dat = x.dat ∧ y.szs = x.szs ∧ (∀ b, FootL y.rows b → w.heap.size ≤ b) ∧ OwnL w' y.rows ∧ Same w w' := by
  obtain ⟨xused, ⟨xdata_e, xdata_a, xdata_c, xdata_b⟩⟩ := x
  have HV0 := (show Hid (Rd .u8 w (.slice xdata_a xdata_b.length xdata_c) xdata_b) from ha)
  clear ha
  simp only [StPageRecord.szs] at hn
  dsimp only [StPageRecord.val, BS.v]
  go_enter Try.func22, Try.ntmps22
  have hk0 : Same w (((w.alloc (.cells #[.bool xused, .slice xdata_a xdata_b.length xdata_c] 36)).alloc (.cells #[.bool false, .slice none 0 0] 24)).alloc (.cells #[.bool xused, .slice none 0 0] 24)) := (((Kept.refl _ _).alloc _).alloc _).alloc _
  have b0 : Blk (((w.alloc (.cells #[.bool xused, .slice xdata_a xdata_b.length xdata_c] 36)).alloc (.cells #[.bool false, .slice none 0 0] 24)).alloc (.cells #[.bool xused, .slice none 0 0] 24)) (w.heap.size) 36 [.bool xused, .slice xdata_a xdata_b.length xdata_c] := ((Blk.new w #[.bool xused, .slice xdata_a xdata_b.length xdata_c] 36).alloc _).alloc _
  have b1 : Blk (((w.alloc (.cells #[.bool xused, .slice xdata_a xdata_b.length xdata_c] 36)).alloc (.cells #[.bool false, .slice none 0 0] 24)).alloc (.cells #[.bool xused, .slice none 0 0] 24)) (w.heap.size + 1) 24 [.bool false, .slice none 0 0] := by have h := (Blk.new (w.alloc (.cells #[.bool xused, .slice xdata_a xdata_b.length xdata_c] 36)) #[.bool false, .slice none 0 0] 24).alloc (.cells #[.bool xused, .slice none 0 0] 24); rwa [World.size_alloc] at h
  have b2 : Blk (((w.alloc (.cells #[.bool xused, .slice xdata_a xdata_b.length xdata_c] 36)).alloc (.cells #[.bool false, .slice none 0 0] 24)).alloc (.cells #[.bool xused, .slice none 0 0] 24)) (w.heap.size + 1 + 1) 24 [.bool xused, .slice none 0 0] := by have h := Blk.new ((w.alloc (.cells #[.bool xused, .slice xdata_a xdata_b.length xdata_c] 36)).alloc (.cells #[.bool false, .slice none 0 0] 24)) #[.bool xused, .slice none 0 0] 24; rwa [World.size_alloc, World.size_alloc] at h
  have hsz : (((w.alloc (.cells #[.bool xused, .slice xdata_a xdata_b.length xdata_c] 36)).alloc (.cells #[.bool false, .slice none 0 0] 24)).alloc (.cells #[.bool xused, .slice none 0 0] 24)).heap.size = w.heap.size + 1 + 1 + 1 := by simp only [World.size_alloc]
  go_wp2_with fail
  refine (toByteS_any _ xdata_b _ (by omega) (HV0.out.same hk0)).mono ?_
  rintro e w1 ⟨g0, rfl, hg, ho, hk⟩
  have O0 : OwnL w1 (BS.rows ⟨5, some ⟨g0, 0, none⟩, xdata_b.length, xdata_b⟩) := OwnL.one ho
  have F0 : ∀ b, FootL (BS.rows ⟨5, some ⟨g0, 0, none⟩, xdata_b.length, xdata_b⟩) b → w.heap.size + 1 + 1 < b := fun b hb => by have h := (footL_ints _ _ _ _ _).1 hb; have h2 : g0 = b := Option.some.inj h; have h3 := hg; omega
  clear ho
  have hk1 : Same w w1 := hk0.trans hk
  replace b0 : Blk w1 (w.heap.size) 36 [.bool xused, .slice xdata_a xdata_b.length xdata_c] := b0.same hk
  replace b1 : Blk w1 (w.heap.size + 1) 24 [.bool false, .slice none 0 0] := b1.same hk
  replace b2 : Blk w1 (w.heap.size + 1 + 1) 24 [.bool xused, .slice none 0 0] := b2.same hk
  replace hsz : w.heap.size + 1 + 1 + 1 ≤ w1.heap.size := by have := hk.size; omega
  clear hk hg
  have da1_0 := b0.c0
  have dr1_0 := b1.c0
  have fr1_0 : w1.frozen? ⟨w.heap.size + 1, 0, none⟩ = false := b1.frozen 0
  have do1_0 := b2.c0
  have fo1_0 : w1.frozen? ⟨w.heap.size + 1 + 1, 0, none⟩ = false := b2.frozen 0
  have da1_1 := b0.c1
  have dr1_1 := b1.c1
  have fr1_1 : w1.frozen? ⟨w.heap.size + 1, 1, none⟩ = false := b1.frozen 1
  have do1_1 := b2.c1
  have fo1_1 : w1.frozen? ⟨w.heap.size + 1 + 1, 1, none⟩ = false := b2.frozen 1
  have HKz := (show Hid (Same w w1) from hk1)
  have HB1 := (show Hid (Blk w1 (w.heap.size + 1) 24 [.bool false, .slice none 0 0]) from b1)
  have HO0 := (show Hid (OwnL w1 (BS.rows ⟨5, some ⟨g0, 0, none⟩, xdata_b.length, xdata_b⟩)) from O0)
  have HF0 := (show Hid (∀ b, FootL (BS.rows ⟨5, some ⟨g0, 0, none⟩, xdata_b.length, xdata_b⟩) b → w.heap.size + 1 + 1 < b) from F0)
  clear b0 b1 b2 hk0 hk1 O0 F0 
  go_wp2
  refine bodyPost_ret (v := StPageRecord.val ⟨xused, ⟨5, some ⟨g0, 0, none⟩, xdata_b.length, xdata_b⟩⟩) (by simp [StPageRecord.val, StPageRecord.val, BS.v, results, Try.results22, go_sem, dr1_0, dr1_1]) rfl ⟨⟨xused, ⟨5, some ⟨g0, 0, none⟩, xdata_b.length, xdata_b⟩⟩, rfl, ?_, ?_, ?_, ?_, ?_⟩
  · rfl
  · rfl
  · exact fun b hb => by have := HF0.out b (hb); omega
  · refine OwnL.kept (R := fun b => b = w.heap.size + 1 ∨ b = w.heap.size + 1 + 1) (show OwnL _ (StPageRecord.rows ⟨xused, ⟨5, some ⟨g0, 0, none⟩, xdata_b.length, xdata_b⟩⟩) from HO0.out) ?_ ?_
    · exact (Kept.setCell (Kept.setCell (Kept.setCell (Kept.refl (fun b => b = w.heap.size + 1 ∨ b = w.heap.size + 1 + 1) _) (p := ⟨w.heap.size + 1 + 1, 1, none⟩) (.inr (.inr rfl)) _) (p := ⟨w.heap.size + 1, 0, none⟩) (.inr (.inl rfl)) _) (p := ⟨w.heap.size + 1, 1, none⟩) (.inr (.inl rfl)) _)
    · exact fun b hb e => by have := HF0.out b (hb); omega
  · exact (Kept.setCell (Kept.setCell (Kept.setCell HKz.out (p := ⟨w.heap.size + 1 + 1, 1, none⟩) (.inl (by simp only []; omega)) _) (p := ⟨w.heap.size + 1, 0, none⟩) (.inl (by simp only []; omega)) _) (p := ⟨w.heap.size + 1, 1, none⟩) (.inl (by simp only []; omega)) _)
end Go.Proofs.Ytcnaabjgjmodeaa

namespace Go.Proofs.Ytcnaabjgjmodeaa
open Go.RowKit
set_option linter.unusedVariables false
def sh (r : Nat) : Nat := if r % 2 = 1 then r / 2 ^^^ 3988292384 else r / 2
def shN : Nat → Nat → Nat
  | 0, r => r
  | k + 1, r => shN k (sh r)
theorem sh_lt (r : Nat) (h : r < 4294967296) : sh r < 4294967296 := by
  unfold sh
  split
  · exact Nat.xor_lt_two_pow (n := 32) (by omega) (by omega)
  · omega
theorem shN_lt (k r : Nat) (h : r < 4294967296) : shN k r < 4294967296 := by
  induction k generalizing r with
  | zero => exact h
  | succ k ih => exact ih _ (sh_lt r h)
theorem shN_succ (k r : Nat) : shN (k + 1) r = sh (shN k r) := by
  induction k generalizing r with
  | zero => rfl
  | succ k ih => exact ih (sh r)
theorem half_xor (a b : Nat) : (a ^^^ b) / 2 = a / 2 ^^^ b / 2 := by
  apply Nat.eq_of_testBit_eq
  intro i
  rw [Nat.testBit_xor, Nat.testBit_div_two, Nat.testBit_div_two, Nat.testBit_div_two, Nat.testBit_xor]
theorem odd_xor (a b : Nat) : (a ^^^ b) % 2 = (a % 2 + b % 2) % 2 := by
  have h := Nat.testBit_xor a b 0
  simp only [Nat.testBit_zero] at h
  have := Nat.mod_two_eq_zero_or_one a
  have := Nat.mod_two_eq_zero_or_one b
  have := Nat.mod_two_eq_zero_or_one (a ^^^ b)
  rcases ‹a % 2 = 0 ∨ a % 2 = 1› with h1 | h1 <;> rcases ‹b % 2 = 0 ∨ b % 2 = 1› with h2 | h2 <;> rcases ‹(a ^^^ b) % 2 = 0 ∨ (a ^^^ b) % 2 = 1› with h3 | h3 <;> rw [h1, h2, h3] at h <;> rw [h1, h2, h3] <;> first | rfl | (simp at h)
theorem sh_xor (a b : Nat) : sh (a ^^^ b) = sh a ^^^ sh b := by
  unfold sh
  rw [half_xor, odd_xor]
  have := Nat.mod_two_eq_zero_or_one a
  have := Nat.mod_two_eq_zero_or_one b
  rcases ‹a % 2 = 0 ∨ a % 2 = 1› with h1 | h1 <;> rcases ‹b % 2 = 0 ∨ b % 2 = 1› with h2 | h2 <;> rw [h1, h2] <;> simp only [Nat.zero_add, Nat.add_zero, Nat.reduceMod, Nat.reduceAdd, if_true, if_false, Nat.zero_ne_one]
  · rw [Nat.xor_assoc]
  · rw [Nat.xor_assoc, Nat.xor_assoc, Nat.xor_comm 3988292384]
  · rw [Nat.xor_assoc, Nat.xor_comm (b / 2), ← Nat.xor_assoc 3988292384, Nat.xor_self, Nat.zero_xor]
theorem shN_xor (k a b : Nat) : shN k (a ^^^ b) = shN k a ^^^ shN k b := by
  induction k generalizing a b with
  | zero => rfl
  | succ k ih => simp only [shN]; rw [sh_xor, ih]
theorem sh_even (r : Nat) : sh (2 * r) = r := by
  unfold sh
  rw [if_neg (by omega)]
  omega
theorem shN_mul (k r : Nat) : shN k (2 ^ k * r) = r := by
  induction k generalizing r with
  | zero => simp [shN]
  | succ k ih =>
    simp only [shN]
    rw [show 2 ^ (k + 1) * r = 2 * (2 ^ k * r) from by rw [Nat.pow_succ, Nat.mul_comm (2 ^ k) 2, Nat.mul_assoc], sh_even, ih]
def tab (i : Nat) : Nat := shN 8 i
theorem tab_lt (i : Nat) (h : i < 4294967296) : tab i < 4294967296 := shN_lt 8 i h
theorem parts_xor (r : Nat) : r = 2 ^ 8 * (r / 256) ^^^ r % 256 := by
  have h1 : 2 ^ 8 * (r / 256) ||| r % 256 = 2 ^ 8 * (r / 256) + r % 256 := (Nat.two_pow_add_eq_or_of_lt (i := 8) (by omega) (r / 256)).symm
  have h2 : 2 ^ 8 * (r / 256) &&& r % 256 = 0 := by
    apply Nat.eq_of_testBit_eq
    intro i
    rw [Nat.testBit_and, Nat.zero_testBit, Nat.testBit_two_pow_mul]
    by_cases hi : 8 ≤ i
    · have : (r % 256).testBit i = false := Nat.testBit_lt_two_pow (Nat.lt_of_lt_of_le (Nat.mod_lt r (by decide)) (Nat.pow_le_pow_right (n := 2) (by decide) hi))
      simp [this]
    · simp [hi]
  have h3 : 2 ^ 8 * (r / 256) ^^^ r % 256 = 2 ^ 8 * (r / 256) ||| r % 256 := by
    apply Nat.eq_of_testBit_eq
    intro i
    have := congrArg (fun n => n.testBit i) h2
    simp only [Nat.testBit_and, Nat.zero_testBit] at this
    rw [Nat.testBit_xor, Nat.testBit_or]
    revert this
    cases (2 ^ 8 * (r / 256)).testBit i <;> cases (r % 256).testBit i <;> simp
  rw [h3, h1]
  omega
theorem step_tab (r x : Nat) : shN 8 (r ^^^ x) = r / 256 ^^^ tab (r % 256 ^^^ x) := by
  conv => lhs; rw [parts_xor r]
  rw [Nat.xor_assoc, shN_xor, shN_mul]
  rfl
def reg (r : Nat) (bs : List Int) : Nat := bs.foldl (fun r b => shN 8 (r ^^^ b.toNat)) r
theorem reg_take (r : Nat) (bs : List Int) (k : Nat) (h : k < bs.length) : reg r (bs.take (k + 1)) = shN 8 (reg r (bs.take k) ^^^ (bs.getD k 0).toNat) := by
  rw [List.take_succ_eq_append_getElem h]
  unfold reg
  rw [List.foldl_append]
  simp [h]
theorem reg_lt (r : Nat) (bs : List Int) (h : r < 4294967296) (hb : IsB bs) : reg r bs < 4294967296 := by
  induction bs generalizing r with
  | nil => exact h
  | cons b bs ih =>
    have h1 := hb b (by simp)
    exact ih _ (shN_lt 8 _ (Nat.xor_lt_two_pow (n := 32) (by omega) (by omega))) (fun y hy => hb y (by simp [hy]))
def crcOn (sum : Int) (bs : List Int) : Int := if sum < 0 ∨ 4294967295 < sum then -1 else 4294967295 - reg (4294967295 - sum).toNat bs
/-! ### The table, as it is filled: m bits done, n entries of the next one -/
def tabM (m n : Nat) : List Int := (List.range 256).map fun j => if j % 2 ^ (8 - m) = 0 ∨ (j % 2 ^ (7 - m) = 0 ∧ j < 2 ^ (8 - m) * n) then ((tab j : Nat) : Int) else 0
theorem tabM_length (m n : Nat) : (tabM m n).length = 256 := by simp [tabM]
theorem tabM_at (m n j : Nat) (h : j < 256) : (tabM m n)[j]? = some (if j % 2 ^ (8 - m) = 0 ∨ (j % 2 ^ (7 - m) = 0 ∧ j < 2 ^ (8 - m) * n) then ((tab j : Nat) : Int) else 0) := by
  simp [tabM, h]
theorem tabM_zero : tabM 0 0 = List.replicate 256 0 := by decide +kernel
theorem tabM_next (m : Nat) (h : m < 8) : tabM m (2 ^ m) = tabM (m + 1) 0 := by
  have : ∀ m < 8, tabM m (2 ^ m) = tabM (m + 1) 0 := by decide +kernel
  exact this m h
theorem tabM_all (j : Nat) (h : j < 256) : (tabM 8 0)[j]? = some ((tab j : Nat) : Int) := by
  rw [tabM_at _ _ _ h, if_pos (.inl (by simp [Nat.mod_one]))]
theorem tabM_read (m n : Nat) (h : m < 8) (hn : n < 2 ^ m) : (tabM m n)[2 ^ (8 - m) * n]? = some ((tab (2 ^ (8 - m) * n) : Nat) : Int) := by
  have hb : 2 ^ (8 - m) * n < 256 := by
    have : 2 ^ (8 - m) * n < 2 ^ (8 - m) * 2 ^ m := Nat.mul_lt_mul_of_pos_left hn (Nat.two_pow_pos _)
    rwa [← Nat.pow_add, show 8 - m + m = 8 from by omega] at this
  rw [tabM_at _ _ _ hb, if_pos (.inl (Nat.mul_mod_right _ _))]
theorem tabM_step (m n : Nat) (h : m < 8) (hn : n < 2 ^ m) : (tabM m n).set (2 ^ (8 - m) * n + 2 ^ (7 - m)) ((tab (2 ^ (8 - m) * n) ^^^ shN (m + 1) 1 : Nat) : Int) = tabM m (n + 1) := by
  have key : ∀ m < 8, ∀ n < 2 ^ m, tab (2 ^ (8 - m) * n + 2 ^ (7 - m)) = tab (2 ^ (8 - m) * n) ^^^ shN (m + 1) 1 := by decide +kernel
  rw [← key m h n hn]
  apply List.ext_getElem?
  intro j
  by_cases hj : j < 256
  · rw [tabM_at m (n + 1) j hj, List.getElem?_set, tabM_length, tabM_at m n j hj]
    clear key
    have : m = 0 ∨ m = 1 ∨ m = 2 ∨ m = 3 ∨ m = 4 ∨ m = 5 ∨ m = 6 ∨ m = 7 := by omega
    rcases this with rfl | rfl | rfl | rfl | rfl | rfl | rfl | rfl <;> simp only [Nat.reducePow, Nat.reduceSub] at hn ⊢ <;>
    ( split
      · rename_i he
        subst he
        rw [if_pos (by omega), if_pos (by omega)]
      · congr 1
        apply ite_congr (propext ⟨fun h => by omega, fun h => by omega⟩) (fun _ => rfl) (fun _ => rfl))
  · rw [List.getElem?_eq_none (by rw [List.length_set, tabM_length]; omega), List.getElem?_eq_none (by rw [tabM_length]; omega)]
end Go.Proofs.Ytcnaabjgjmodeaa

namespace Go.Proofs.Ytcnaabjgjmodeaa
set_option maxRecDepth 100000
set_option maxHeartbeats 1600000
open Go.RowKit
set_option linter.unusedVariables false
theorem disable (w : World) : (callFunc 124 #[]).run Try.prog w = .ok (.value (.tuple #[])) w := run_call_mark0 Try.func124 (by kernel_rfl) (by kernel_rfl) (by kernel_rfl) .disable (by kernel_rfl) w
theorem enable (w : World) : (callFunc 126 #[]).run Try.prog w = .ok (.value (.tuple #[])) w := run_call_mark0 Try.func126 (by kernel_rfl) (by kernel_rfl) (by kernel_rfl) .enable (by kernel_rfl) w
theorem acquire (a : Addr) (w : World) : (callFunc 127 #[.pointer (some a)]).run Try.prog w = .ok (.value (.tuple #[])) w := run_call_marked Try.func127 (by kernel_rfl) (by kernel_rfl) (by kernel_rfl) .acquire (by kernel_rfl) a w
theorem releaseMerge (a : Addr) (w : World) : (callFunc 129 #[.pointer (some a)]).run Try.prog w = .ok (.value (.tuple #[])) w := run_call_marked Try.func129 (by kernel_rfl) (by kernel_rfl) (by kernel_rfl) .releaseMerge (by kernel_rfl) a w
theorem store_deferred (a : Addr) (x : Value) (u : FrameMode) (w : World) (hc : w.cell? a = some x) (hz : w.frozen? a = false) :
    CallsD Try.prog 119 #[.pointer (some a), .bool true] u w fun e u' w' => u' = u ∧ (e = .returned (.tuple #[]) ∧ w' = w.drew.setCell a (.int .u32 1)) := by
  have hc' : w.drew.cell? a = some x := by go_simp
  have hz' : w.drew.frozen? a = false := by go_simp
  have hst := run_call_store (P := Try.prog) Try.func122 (by kernel_rfl) (by kernel_rfl) (by kernel_rfl) (by kernel_rfl) (k := .u32) (y := 1) hc' hz'
  go_enter_d Try.func119, Try.ntmps119
  go_wp2
  go_region_calls
  all_goals (go_end0; exact ⟨rfl, rfl⟩)
theorem unlock_deferred (a : Addr) (u : FrameMode) (w : World) (hc : w.cell? a = some (.int .i32 1)) (hz : w.frozen? a = false) :
    CallsD Try.prog 118 #[.pointer (some a)] u w fun e u' w' => u' = u ∧ (e = .returned (.tuple #[]) ∧ w' = w.setCell a (.int .i32 0)) := by
  have hd := disable
  have he := enable
  have hr := releaseMerge
  have hadd := run_call_add (P := Try.prog) Try.func130 (by kernel_rfl) (by kernel_rfl) (by kernel_rfl) .i32 (by kernel_rfl) (y := -1) (s := 0) hc hz (by simp [go_sem]; rfl)
  have hcv := run_convert_to_unsafe (P := Try.prog) (src := 170) (dst := 174) Try.underlying170 Try.underlying174 (by kernel_rfl) hc
  go_enter_d Try.func118, Try.ntmps118
  go_wp2
  go_end0
  go_wp2
  go_end0
  exact ⟨rfl, rfl⟩
theorem lock_free (a : Addr) (w : World) (hc : w.cell? a = some (.int .i32 0)) (hz : w.frozen? a = false) :
    Calls Try.prog 117 #[.pointer (some a)] w fun e w' => e = .returned (.tuple #[]) ∧ w' = w.setCell a (.int .i32 1) := by
  have hd := disable
  have he := enable
  have ha := acquire
  have hcas := run_call_cas_hit (P := Try.prog) Try.func125 (by kernel_rfl) (by kernel_rfl) (by kernel_rfl) .i32 (by kernel_rfl) (y := 1) hc hz
  have hc' : (w.setCell a (.int .i32 1)).cell? a = some (.int .i32 1) := World.cell?_setCell_same w a _ hc
  have hcv := run_convert_to_unsafe (P := Try.prog) (src := 170) (dst := 174) Try.underlying170 Try.underlying174 (by kernel_rfl) hc'
  go_enter Try.func117, Try.ntmps117
  go_wp2
  first | go_end0 | (simp only [Exit.inBlock, Exit.then]; refine bodyPost_ret (results_none rfl _ _ _) rfl ?_) | refine bodyPost_ret (results_none rfl _ _ _) rfl ?_
  go_wp2
  go_end0
  exact ⟨rfl, rfl⟩
theorem load_zero (a : Addr) (w : World) (hc : w.cell? a = some (.int .u32 0)) :
    Calls Try.prog 113 #[.pointer (some a)] w fun e w' => e = .returned (.bool false) ∧ w' = w := by
  have hl := run_call_load (P := Try.prog) Try.func116 (by kernel_rfl) (by kernel_rfl) (by kernel_rfl) .u32 (by kernel_rfl) hc
  go_enter Try.func113, Try.ntmps113
  go_wp2
  go_ret
  exact ⟨rfl, rfl⟩
theorem slow_any (B : Nat) (t : TypeId) (xs : List Value) (w : World) (hb : Blk w B t xs) (h0 : xs[0]? = some (.int .u32 0)) (h1 : xs[1]? = some (.int .i32 0)) (Q : World → List Value → Prop)
    (hF : Calls Try.prog 111 #[.pointer (some ⟨B, 0, none⟩)] (w.setCell ⟨B, 1, none⟩ (.int .i32 1)) fun e w' => e = .returned (.tuple #[]) ∧ ∃ ys, Blk w' B t ys ∧ ys[0]? = some (.int .u32 0) ∧ ys[1]? = some (.int .i32 1) ∧ Q w' ys) :
    Calls Try.prog 114 #[.pointer (some ⟨B, 0, none⟩), .func (.func 111) #[.pointer (some ⟨B, 0, none⟩)] #[]] w fun e w' => e = .returned (.tuple #[]) ∧
      ∃ w1 ys, Blk w1 B t ys ∧ Q w1 ys ∧ w' = (w1.drew.setCell ⟨B, 0, none⟩ (.int .u32 1)).setCell ⟨B, 1, none⟩ (.int .i32 0) := by
  have c0 : w.cell? ⟨B, 0, none⟩ = some (.int .u32 0) := by rw [hb.cell, h0]
  have c1 : w.cell? ⟨B, 1, none⟩ = some (.int .i32 0) := by rw [hb.cell, h1]
  have f1 := hb.frozen 1
  have c0' : (w.setCell ⟨B, 1, none⟩ (.int .i32 1)).cell? ⟨B, 0, none⟩ = some (.int .u32 0) := (World.cell?_setCell_other _ ⟨B, 1, none⟩ ⟨B, 0, none⟩ _ (by simp)).trans c0
  go_enter_defers Try.func114, Try.ntmps114
  go_wp2_with (first
    | (go_at_call 117; refine (lock_free ⟨B, 1, none⟩ _ (by go_simp) (by go_simp)).mono ?_; rintro e w' ⟨rfl, rfl⟩)
    | (go_at_call 113; refine (load_zero ⟨B, 0, none⟩ _ c0').mono ?_; rintro e w' ⟨rfl, rfl⟩)
    | (go_at_call 111; refine hF.mono ?_; rintro e w' ⟨rfl, ys, hy, hy0, hy1, hq⟩))
  have k0 : w'.cell? ⟨B, 0, none⟩ = some (.int .u32 0) := by rw [hy.cell, hy0]
  have k1 : w'.cell? ⟨B, 1, none⟩ = some (.int .i32 1) := by rw [hy.cell, hy1]
  have z0 := hy.frozen 0
  have z1 := hy.frozen 1
  go_wp2
  refine leaves_cons (f := 119) (args := #[.pointer (some ⟨B, 0, none⟩), .bool true]) (by simp) (by simp [go_sem]) ?_
  refine (store_deferred ⟨B, 0, none⟩ (.int .u32 0) .returning _ k0 z0).mono ?_
  rintro e u' w'' ⟨rfl, rfl, rfl⟩
  refine leaves_cons (f := 118) (args := #[.pointer (some ⟨B, 1, none⟩)]) (by simp [settle]) (by simp [go_sem]) ?_
  refine (unlock_deferred ⟨B, 1, none⟩ _ _ ?_ (by simp [z1])).mono ?_
  · refine (World.cell?_setCell_other _ ⟨B, 0, none⟩ ⟨B, 1, none⟩ _ (by simp)).trans ?_
    rw [World.cell?_drew]
    exact k1
  rintro e u' w'' ⟨rfl, rfl, rfl⟩
  have fin : ∃ w1 ys, Blk w1 B t ys ∧ Q w1 ys ∧ (w'.drew.setCell ⟨B, 0, none⟩ (.int .u32 1)).setCell ⟨B, 1, none⟩ (.int .i32 0) = (w1.drew.setCell ⟨B, 0, none⟩ (.int .u32 1)).setCell ⟨B, 1, none⟩ (.int .i32 0) := ⟨w', ys, hy, hq, rfl⟩
  simpa [Leaves, settle, results, Try.results114] using fin
theorem do_any (B : Nat) (t : TypeId) (xs : List Value) (w : World) (hb : Blk w B t xs) (h0 : xs[0]? = some (.int .u32 0)) (h1 : xs[1]? = some (.int .i32 0)) (Q : World → List Value → Prop)
    (hF : Calls Try.prog 111 #[.pointer (some ⟨B, 0, none⟩)] (w.setCell ⟨B, 1, none⟩ (.int .i32 1)) fun e w' => e = .returned (.tuple #[]) ∧ ∃ ys, Blk w' B t ys ∧ ys[0]? = some (.int .u32 0) ∧ ys[1]? = some (.int .i32 1) ∧ Q w' ys) :
    Calls Try.prog 110 #[.pointer (some ⟨B, 0, none⟩), .func (.func 111) #[.pointer (some ⟨B, 0, none⟩)] #[]] w fun e w' => e = .returned (.tuple #[]) ∧
      ∃ w1 ys, Blk w1 B t ys ∧ Q w1 ys ∧ w' = (w1.drew.setCell ⟨B, 0, none⟩ (.int .u32 1)).setCell ⟨B, 1, none⟩ (.int .i32 0) := by
  have c0 : w.cell? ⟨B, 0, none⟩ = some (.int .u32 0) := by rw [hb.cell, h0]
  go_enter Try.func110, Try.ntmps110
  go_wp2_with (first
    | (go_at_call 114; refine (slow_any B t xs _ hb h0 h1 Q hF).mono ?_; rintro e w' ⟨rfl, hr⟩)
    | (go_at_call 113; refine (load_zero ⟨B, 0, none⟩ _ c0).mono ?_; rintro e w' ⟨rfl, rfl⟩))
  go_end0
  exact ⟨rfl, hr⟩
end Go.Proofs.Ytcnaabjgjmodeaa

namespace Go.Proofs.Ytcnaabjgjmodeaa
open Go
section
variable {P : Program} {ops : Array Oper} {Q : Exit → Act → World → Prop} {md : Region.Mode} {S : World → Prop} {s : Nat}
def wpAnyV (P : Program) (md : Region.Mode) (ops : Array Oper) (Q : Exit → Act → World → Prop) (S : World → Prop) (s : Nat) : Nat → Array Bool → Act → World → Prop
  | 0, listed, a, w => Region.ready md ops listed = [] ∧ Q .normal a w
  | fuel + 1, listed, a, w =>
    (Region.ready md ops listed = [] → Q .normal a w) ∧
    ∀ i ∈ Region.ready md ops listed, wpOp P ops Q i (fun a' w' => (i ≠ s → S w') ∧ wpAnyV P md ops Q S s fuel (listed.setIfInBounds i true) a' w') a w
theorem wpAny_of_V : ∀ (fuel : Nat) (listed : Array Bool) (a : Act) (w : World), wpAnyV P md ops Q S s fuel listed a w → wpAny P md ops Q fuel listed a w
  | 0, _, _, _, h => h
  | fuel + 1, _, _, _, h => ⟨h.1, fun i hi => wpOp_mono (fun a' w' h' => wpAny_of_V fuel _ a' w' h'.2) (h.2 i hi)⟩
def waits (md : Region.Mode) (ops : Array Oper) (s i : Nat) : Bool :=
  match ops[s]? with
  | some o => o.after.any fun e => Region.binds md e && e.on == i
  | none => true
theorem waits_spec {i : Nat} (h : waits md ops s i = true) {os : Oper} (ho : ops[s]? = some os) (hn : ∀ e ∈ os.after, Region.binds md e = true → e.on ≠ i) : False := by
  unfold waits at h
  rw [ho] at h
  obtain ⟨e, he, hb⟩ := Array.any_eq_true'.1 h
  simp only [Bool.and_eq_true, beq_iff_eq] at hb
  exact hn e he hb.1 hb.2
theorem ready_apart {listed : Array Bool} {i j : Nat} (hi : i ∈ Region.ready md ops listed) (hj : j ∈ Region.ready md ops listed) {oj : Oper} (hoj : ops[j]? = some oj) :
    ∀ e ∈ oj.after, Region.binds md e = true → e.on ≠ i := by
  rintro e he hb rfl
  obtain ⟨_, o, ho, hall⟩ := mem_ready.1 hj
  obtain rfl : o = oj := by rw [hoj] at ho; exact (Option.some.inj ho).symm
  have hyes := hall e he hb
  have hno := (mem_ready.1 hi).1
  by_cases hl : e.on < listed.size <;> simp_all
def Loose (md : Region.Mode) (ops : Array Oper) (i : Nat) (oi : Oper) (listed : Array Bool) : Prop :=
  ∀ j oj, ops[j]? = some oj → j ≠ i → listed.getD j true = false → (∀ e ∈ oj.after, Region.binds md e = true → e.on ≠ i) → oi.apart ops oj = true
theorem Loose.on {i j : Nat} {oi : Oper} {listed : Array Bool} (h : Loose md ops i oi listed) (hj : listed.getD j true = false) : Loose md ops i oi (listed.setIfInBounds j true) := fun k ok hk hki hun hno =>
  h k ok hk hki (if e : j = k then e ▸ hj else (getD_set_ne true e) ▸ hun) hno
theorem wpAnyV_first {i : Nat} {oi : Oper} {v : Value} (hi : ops[i]? = some oi) (hsel : ∀ (j : Nat) (o : Oper) cs b, ops[j]? = some o → o.op ≠ .select cs b) (hs : waits md ops s i = true)
    (hQ : ∀ c a w, Q (.panic c) (a.put oi.dst v) w → Q (.panic c) a w) (fuel : Nat) : ∀ (listed : Array Bool) (a : Act) (w : World), Loose md ops i oi listed → i ∈ Region.ready md ops listed → YieldsIf P ops S oi v a → S w →
      wpAnyV P md ops Q S s fuel (listed.setIfInBounds i true) (a.put oi.dst v) w → wpAnyV P md ops Q S s (fuel + 1) listed a w := by
  induction fuel with
  | zero =>
    intro listed a w _ hr hy hS H
    constructor
    · intro h0; simp [h0] at hr
    · intro j hj
      by_cases e : j = i
      · exact e ▸ hy.wpOp hi hS ⟨fun _ => hS, H⟩
      · have := ready_mono hj e
        simp [H.1] at this
  | succ fuel ih =>
    intro listed a w hl hr hy hS H
    constructor
    · intro h0; simp [h0] at hr
    · intro j hj
      by_cases e : j = i
      · exact e ▸ hy.wpOp hi hS ⟨fun _ => hS, H⟩
      · obtain ⟨hun, oj, hoj, _⟩ := mem_ready.1 hj
        have hap := ready_apart hr hj hoj
        have hjs : j ≠ s := fun es => waits_spec hs (es ▸ hoj) hap
        refine wpOp_mono ?_ (wpOp_putIf hoj (hl j oj hoj e hun hap) (fun cs b => hsel i oi cs b hi) (fun cs b => hsel j oj cs b hoj) hQ hy (H.2 j (ready_mono hj e)))
        rintro a' w' ⟨hy', hS', hw'⟩
        exact ⟨hS', ih _ a' w' (hl.on hun) (ready_mono hr (Ne.symm e)) hy' (hS' hjs) (by rw [Array.setIfInBounds_comm _ _ e]; exact hw')⟩
theorem wpAnyV_take {i : Nat} {oi : Oper} {v : Value} {fuel : Nat} {listed : Array Bool} {a : Act} {w : World} (d : Option Tmp) (hi : ops[i]? = some oi) (hd : oi.dst = d)
    (hsl : Region.noSelect ops = true) (hf : Region.free md ops listed i = true) (hr : (Region.ready md ops listed).contains i = true) (hs : waits md ops s i = true)
    (hQ : ∀ c a w, Q (.panic c) (a.put d v) w → Q (.panic c) a w) (hy : YieldsIf P ops S oi v a) (hS : S w)
    (h : wpAnyV P md ops Q S s fuel (listed.setIfInBounds i true) (a.put d v) w) : wpAnyV P md ops Q S s (fuel + 1) listed a w := by
  subst hd
  exact wpAnyV_first hi (Region.noSelect_spec hsl) hs hQ fuel listed a w (Region.free_spec hi hf) (by simpa using hr) hy hS h
theorem sA {α : Type} {l : List α} {i : Nat} {a : α} : l.toArray.setIfInBounds i a = (l.set i a).toArray := List.setIfInBounds_toArray ..
theorem s0 {α : Type} {x : α} {xs : List α} {a : α} : (x :: xs).set 0 a = a :: xs := List.set_cons_zero
theorem sS {α : Type} {x : α} {xs : List α} {i : Nat} {a : α} : (x :: xs).set (i + 1) a = x :: xs.set i a := List.set_cons_succ
theorem tk (i d : Nat) {oi : Oper} {v : Value} {fuel : Nat} {listed : Array Bool} {a a' : Act} {w : World} (hS : S w)
    (h : wpAnyV P md ops Q S s fuel (listed.setIfInBounds i true) a' w) (hi : ops[i]? = some oi := by rfl) (hg : Region.wanted oi (yielded ops a.tmps) = true := by rfl) (hd : oi.dst = some d := by rfl)
    (hy : ∀ w, S w → (execOp a.eval oi).run P w = .ok (.value v) w := by intro w hSw; (try dsimp only at hSw); go_simp; (try with_reducible rfl))
    (hsl : Region.noSelect ops = true := by kernel_rfl) (hf : Region.free md ops listed i = true := by kernel_rfl) (hr : (Region.ready md ops listed).contains i = true := by kernel_rfl) (hs : waits md ops s i = true := by kernel_rfl)
    (hQ : ∀ c a w, Q (.panic c) (a.put (some d) v) w → Q (.panic c) a w := by exact fun _ _ _ h => h)
    (ha : a.put (some d) v = a' := by first | (simp only [Act.put, sA, s0, sS]; done) | (simp only [Act.put, sA, s0, sS]; rfl) | rfl) : wpAnyV P md ops Q S s (fuel + 1) listed a w :=
  wpAnyV_take (some d) hi hd hsl hf hr hs hQ (Or.inl ⟨hg, hy⟩) hS (ha ▸ h)
theorem tkV (i d : Nat) (v : Value) {oi : Oper} {fuel : Nat} {listed : Array Bool} {a a' : Act} {w : World} (hS : S w)
    (h : wpAnyV P md ops Q S s fuel (listed.setIfInBounds i true) a' w) (hi : ops[i]? = some oi := by rfl) (hg : Region.wanted oi (yielded ops a.tmps) = true := by rfl) (hd : oi.dst = some d := by rfl)
    (hy : ∀ w, S w → (execOp a.eval oi).run P w = .ok (.value v) w := by intro w hSw; (try dsimp only at hSw); go_simp; (try omega))
    (hsl : Region.noSelect ops = true := by kernel_rfl) (hf : Region.free md ops listed i = true := by kernel_rfl) (hr : (Region.ready md ops listed).contains i = true := by kernel_rfl) (hs : waits md ops s i = true := by kernel_rfl)
    (hQ : ∀ c a w, Q (.panic c) (a.put (some d) v) w → Q (.panic c) a w := by exact fun _ _ _ h => h)
    (ha : a.put (some d) v = a' := by first | (simp only [Act.put, sA, s0, sS]; done) | (simp only [Act.put, sA, s0, sS]; rfl) | rfl) : wpAnyV P md ops Q S s (fuel + 1) listed a w :=
  wpAnyV_take (some d) hi hd hsl hf hr hs hQ (Or.inl ⟨hg, hy⟩) hS (ha ▸ h)
theorem tkS (i d : Nat) {oi : Oper} {fuel : Nat} {listed : Array Bool} {a a' : Act} {w : World} (hS : S w)
    (h : wpAnyV P md ops Q S s fuel (listed.setIfInBounds i true) a' w) (hi : ops[i]? = some oi := by rfl) (hg : Region.wanted oi (yielded ops a.tmps) = false := by rfl) (hd : oi.dst = some d := by rfl)
    (hsl : Region.noSelect ops = true := by kernel_rfl) (hf : Region.free md ops listed i = true := by kernel_rfl) (hr : (Region.ready md ops listed).contains i = true := by kernel_rfl) (hs : waits md ops s i = true := by kernel_rfl)
    (hQ : ∀ c a w, Q (.panic c) (a.put (some d) undef) w → Q (.panic c) a w := by exact fun _ _ _ h => h)
    (ha : a.put (some d) undef = a' := by first | (simp only [Act.put, sA, s0, sS]; done) | (simp only [Act.put, sA, s0, sS]; rfl) | rfl) : wpAnyV P md ops Q S s (fuel + 1) listed a w :=
  wpAnyV_take (some d) hi hd hsl hf hr hs hQ (Or.inr ⟨hg, rfl⟩) hS (ha ▸ h)
theorem wpAnyV_one {i : Nat} {o : Oper} {fuel : Nat} {listed : Array Bool} {a : Act} {w : World} (hr : Region.ready md ops listed = [i]) (ho : ops[i]? = some o)
    (h : ∀ K' : Act → World → Prop, Shut (∀ a w, (i ≠ s → S w) → wpAnyV P md ops Q S s fuel (listed.setIfInBounds i true) a w → K' a w) → if Region.wanted o (yielded ops a.tmps) = true then Oper.wp P o a w K' Q else K' (a.put o.dst undef) w) :
    wpAnyV P md ops Q S s (fuel + 1) listed a w := by
  constructor
  · intro h0; simp [hr] at h0
  · intro j hj
    rw [hr] at hj
    obtain rfl : j = i := by simpa using hj
    exact wpOp_step ho (fun K' hK => h K' (fun a w hS hW => hK a w ⟨hS, hW⟩))
theorem wpAnyV_two {i j : Nat} {o o' : Oper} {fuel : Nat} {listed : Array Bool} {a : Act} {w : World} (hr : Region.ready md ops listed = [i, j]) (ho : ops[i]? = some o) (ho' : ops[j]? = some o')
    (h : ∀ K' : Act → World → Prop, Shut (∀ a w, (i ≠ s → S w) → wpAnyV P md ops Q S s fuel (listed.setIfInBounds i true) a w → K' a w) → if Region.wanted o (yielded ops a.tmps) = true then Oper.wp P o a w K' Q else K' (a.put o.dst undef) w)
    (h' : ∀ K' : Act → World → Prop, Shut (∀ a w, (j ≠ s → S w) → wpAnyV P md ops Q S s fuel (listed.setIfInBounds j true) a w → K' a w) → if Region.wanted o' (yielded ops a.tmps) = true then Oper.wp P o' a w K' Q else K' (a.put o'.dst undef) w) :
    wpAnyV P md ops Q S s (fuel + 1) listed a w := by
  constructor
  · intro h0; simp [hr] at h0
  · intro k hk
    rw [hr] at hk
    simp only [List.mem_cons, List.not_mem_nil, or_false] at hk
    rcases hk with rfl | rfl
    · exact wpOp_step ho (fun K' hK => h K' (fun a w hS hW => hK a w ⟨hS, hW⟩))
    · exact wpOp_step ho' (fun K' hK => h' K' (fun a w hS hW => hK a w ⟨hS, hW⟩))
theorem wpAnyV_done {fuel : Nat} {listed : Array Bool} {a : Act} {w : World} (hr : Region.ready md ops listed = []) (h : Q .normal a w) : wpAnyV P md ops Q S s fuel listed a w := by
  cases fuel with
  | zero => exact ⟨hr, h⟩
  | succ n => exact ⟨fun _ => h, by rw [hr]; simp⟩
theorem wp_region_V {id : Nat} {a : Act} {w : World} (S : World → Prop) (s n : Nat) (hn : ops.size = n) (hm : P.follows .mixedOrders = true) (h : wpAnyV P .any ops Q S s n (Array.replicate n false) a w.drew) : (Code.region id ops true).wp P Q a w := by
  subst hn
  exact wp_region_any hm (wpAny_of_V _ _ _ _ h)
end
end Go.Proofs.Ytcnaabjgjmodeaa

namespace Go.Proofs.Ytcnaabjgjmodeaa
set_option maxRecDepth 100000
set_option maxHeartbeats 4000000
open Go.RowKit
set_option linter.unusedVariables false
def tcells (d s q : Int) (T : List Int) : List Value := .int .u32 d :: .int .i32 s :: .int .u32 q :: vals .u32 T
theorem tcells_at (d s q : Int) (T : List Int) (j : Nat) : (tcells d s q T)[j + 3]? = (vals .u32 T)[j]? := rfl
theorem tcells_set (d s q : Int) (T : List Int) (j : Nat) (x : Int) : (tcells d s q T).set (j + 3) (.int .u32 x) = tcells d s q (T.set j x) := by simp [tcells, vals]
theorem shiftSum_any (r : Nat) (h : r < 4294967296) (w : World) :
    Calls Try.prog 115 #[.int .u32 r] w fun e w' => e = .returned (.int .u32 (sh r)) ∧ w' = w := by
  have h1 : bits .and .u32 (r : Int) 1 = ((r % 2 : Nat) : Int) := by rw [show (1 : Int) = ((1 : Nat) : Int) from rfl, u32_and_nat r 1 h (by decide), nat_mask1]
  by_cases ho : r % 2 = 1
  · have h2 : bits .xor .u32 ((r : Int) / 2) 3988292384 = ((r / 2 ^^^ 3988292384 : Nat) : Int) := u32_xor_nat (r / 2) 3988292384 (by omega) (by decide)
    have h3 : sh r = r / 2 ^^^ 3988292384 := by unfold sh; rw [if_pos ho]
    rw [h3]
    rw [ho] at h1
    go_enter Try.func115, Try.ntmps115
    go_wp2
    go_ret
    exact ⟨rfl, rfl⟩
  · have h3 : sh r = r / 2 := by unfold sh; rw [if_neg ho]
    rw [h3]
    have ho' : r % 2 = 0 := by omega
    rw [ho'] at h1
    go_enter Try.func115, Try.ntmps115
    go_wp2
    go_ret
    exact ⟨rfl, rfl⟩
def bitOf (m : Nat) : Int := if m < 8 then ((2 ^ (7 - m) : Nat) : Int) else 0
theorem bitOf_next (m : Nat) (h : m < 8) : bitOf m / 2 = bitOf (m + 1) := by
  have : ∀ m < 8, bitOf m / 2 = bitOf (m + 1) := by decide +kernel
  exact this m h
theorem bitOf_lt (m : Nat) (h : m < 8) : 1 ≤ 2 ^ (7 - m) ∧ 2 ^ (7 - m) ≤ 128 ∧ 2 ^ (8 - m) = 2 * 2 ^ (7 - m) := by
  have : ∀ m < 8, 1 ≤ 2 ^ (7 - m) ∧ 2 ^ (7 - m) ≤ 128 ∧ 2 ^ (8 - m) = 2 * 2 ^ (7 - m) := by decide +kernel
  exact this m h
theorem entry_lt (m n : Nat) (h : m < 8) (hn : n < 2 ^ m) : 2 ^ (8 - m) * n + 2 ^ (7 - m) < 256 ∧ 2 ^ (8 - m) * (n + 1) ≤ 256 := by
  have h1 : 2 ^ (8 - m) * (n + 1) ≤ 2 ^ (8 - m) * 2 ^ m := Nat.mul_le_mul_left _ hn
  have h2 := bitOf_lt m h
  rw [← Nat.pow_add, show 8 - m + m = 8 from by omega] at h1
  rw [Nat.mul_succ] at h1
  rw [Nat.mul_succ]
  omega
theorem fill_any (B : Nat) (t : TypeId) (w : World) (hb : Blk w B t (tcells 0 1 0 (List.replicate 256 0))) :
    Calls Try.prog 111 #[.pointer (some ⟨B, 0, none⟩)] w fun e w' => e = .returned (.tuple #[]) ∧ Blk w' B t (tcells 0 1 0 (tabM 8 0)) ∧ Kept (fun b => b = B) w w' := by
  have HB : Hid (Blk w B t (tcells 0 1 0 (tabM 0 0))) := by rw [tabM_zero]; exact hb
  clear hb
  go_enter Try.func111, Try.ntmps111
  go_wp2
  go_loopw [2, 3] (fun r b wr => ∃ m : Nat, m ≤ 8 ∧ r = .int .u32 (shN m 1) ∧ b = .int .i64 (bitOf m) ∧ Hid (Blk wr B t (tcells 0 1 0 (tabM m 0))) ∧ Hid (Kept (fun b => b = B) w wr)) (fun _ b _ => (intOf b).toNat)
  case atStart => exact ⟨0, by omega, rfl, rfl, HB, Kept.refl _ _⟩
  case round =>
    obtain ⟨m, hm, rfl, rfl, HBr, HKr⟩ := hrel
    by_cases hlt : m < 8
    · have hs1 := shN_lt m 1 (by decide)
      have hs2 := shN_lt (m + 1) 1 (by decide)
      have HS := (show Hid (sh (shN m 1) = shN (m + 1) 1) from (shN_succ m 1).symm)
      have HBN := (show Hid (bitOf m / 2 = bitOf (m + 1)) from bitOf_next m hlt)
      have hbo : bitOf m = ((2 ^ (7 - m) : Nat) : Int) := by unfold bitOf; rw [if_pos hlt]
      obtain ⟨p1, p2, p3⟩ := bitOf_lt m hlt
      rw [hbo]
      have HBO := (show Hid (bitOf m = ((2 ^ (7 - m) : Nat) : Int)) from hbo)
      clear hbo
      obtain ⟨b, hbb⟩ : ∃ b : Nat, 2 ^ (7 - m) = b := ⟨_, rfl⟩
      have HBB := (show Hid (2 ^ (7 - m) = b) from hbb)
      rw [hbb] at p1 p2 p3 ⊢
      clear hbb
      go_wp2_with (go_at_call 115; refine (shiftSum_any _ hs1 _).mono ?_; rintro e w' ⟨rfl, rfl⟩; rw [HS.out])
      obtain ⟨s1, hs1e⟩ : ∃ s1 : Nat, shN (m + 1) 1 = s1 := ⟨_, rfl⟩
      have HS1 := (show Hid (shN (m + 1) 1 = s1) from hs1e)
      rw [hs1e] at hs2 ⊢
      clear hs1e hs1 HS
      go_loopw [4] (fun i wr => ∃ n : Nat, n ≤ 2 ^ m ∧ i = .int .i64 ((2 ^ (8 - m) * n : Nat) : Int) ∧ Hid (Blk wr B t (tcells 0 1 0 (tabM m n))) ∧ Hid (Kept (fun b => b = B) w wr)) (fun i _ => 256 - (intOf i).toNat)
      case atStart => exact ⟨0, Nat.zero_le _, rfl, HBr, HKr⟩
      case round =>
        obtain ⟨n, hn, rfl, HBi, HKi⟩ := hrel
        by_cases hnl : n < 2 ^ m
        · obtain ⟨q1, q2⟩ := entry_lt m n hlt hnl
          have HST := (show Hid (_ = _) from tabM_step m n hlt hnl)
          have q3 : wr.cell? ⟨B, 3 + 2 ^ (8 - m) * n, none⟩ = some (.int .u32 ((tab (2 ^ (8 - m) * n) : Nat) : Int)) := by
            rw [HBi.out.cell, Nat.add_comm, tcells_at]
            have := tabM_read m n hlt hnl
            simp [vals, this]
          have q4 := HBi.out.frozen (3 + (2 ^ (8 - m) * n + b))
          obtain ⟨y, q5⟩ : ∃ y, wr.cell? ⟨B, 3 + (2 ^ (8 - m) * n + b), none⟩ = some (.int .u32 y) := by
            rw [HBi.out.cell, Nat.add_comm, tcells_at, vals_at _ _ _ (by rw [tabM_length]; rw [HBB.out] at q1; exact q1)]
            exact ⟨_, rfl⟩
          have HNX := (show Hid (2 ^ (8 - m) * (n + 1) = 2 ^ (8 - m) * n + 2 * b) from (by rw [Nat.mul_succ, p3] : 2 ^ (8 - m) * (n + 1) = 2 ^ (8 - m) * n + 2 * b))
          rw [HNX.out] at q2
          have HQ := (show Hid (2 ^ (8 - m) * n + 2 * b ≤ 256) from q2)
          rw [HBB.out] at q1
          obtain ⟨i, hi⟩ : ∃ i : Nat, 2 ^ (8 - m) * n = i := ⟨_, rfl⟩
          have HI := (show Hid (2 ^ (8 - m) * n = i) from hi)
          rw [hi] at q1 q2 q3 q4 q5 ⊢
          have hti := tab_lt i (by omega)
          have hx := u32_xor_nat (tab i) s1 hti hs2
          have hil : i < 256 := by omega
          have HNL := (show Hid (n < 2 ^ m) from hnl)
          clear hi hn hnl
          have hc1 : (i : Int) < 256 := by omega
          have hc2 : (0 : Int) ≤ (i : Int) := by omega
          have hc3 : (i : Int) + (b : Int) < 256 := by omega
          have hc4 : (0 : Int) ≤ (i : Int) + (b : Int) := by omega
          have hc5 : ((i : Int) + (b : Int)).toNat = i + b := by omega
          have hc6 : IntKind.i64.wrap ((i : Int) + (b : Int)) = (i : Int) + (b : Int) := by rw [IntKind.wrap_i64]; omega
          have hdec : decide ((i : Int) < 256) = true := by simp; omega
          go_wp2
          have hS : (fun w' => w'.cell? ⟨B, 3 + i, none⟩ = some (.int .u32 ((tab i : Nat) : Int)) ∧ w'.cell? ⟨B, 3 + (i + b), none⟩ = some (.int .u32 y) ∧ w'.frozen? ⟨B, 3 + (i + b), none⟩ = false) wr.drew := by go_keep
          refine wp_region_V (fun w' => w'.cell? ⟨B, 3 + i, none⟩ = some (.int .u32 ((tab i : Nat) : Int)) ∧ w'.cell? ⟨B, 3 + (i + b), none⟩ = some (.int .u32 y) ∧ w'.frozen? ⟨B, 3 + (i + b), none⟩ = false) 15 16 rfl (by kernel_rfl) ?_
          refine tk 0 17 hS ?_
          refine tk 1 18 hS ?_
          refine tk 2 19 hS ?_
          refine tk 3 20 hS ?_
          refine tk 4 21 hS ?_
          refine tk 5 22 hS ?_
          refine tk 6 23 hS ?_
          refine tk 7 24 hS ?_
          refine tk 8 25 hS ?_
          refine tk 9 26 hS ?_
          refine tk 10 27 hS ?_
          refine tk 11 28 hS ?_
          refine wpAnyV_one (i := 12) (by kernel_rfl) rfl (fun K hK => ?_)
          go_simp
          have hS : (fun w' => w'.cell? ⟨B, 3 + i, none⟩ = some (.int .u32 ((tab i : Nat) : Int)) ∧ w'.cell? ⟨B, 3 + (i + b), none⟩ = some (.int .u32 y) ∧ w'.frozen? ⟨B, 3 + (i + b), none⟩ = false) wr.drew := by go_keep
          refine hK.out _ _ (fun _ => hS) ?_
          clear hK K
          try simp only [Act.put, sA, s0, sS]
          refine wpAnyV_one (i := 13) (by kernel_rfl) rfl (fun K hK => ?_)
          go_simp
          have hS : (fun w' => w'.cell? ⟨B, 3 + i, none⟩ = some (.int .u32 ((tab i : Nat) : Int)) ∧ w'.cell? ⟨B, 3 + (i + b), none⟩ = some (.int .u32 y) ∧ w'.frozen? ⟨B, 3 + (i + b), none⟩ = false) wr.drew := by go_keep
          refine hK.out _ _ (fun _ => hS) ?_
          clear hK K
          try simp only [Act.put, sA, s0, sS]
          refine tk 14 31 hS ?_
          refine wpAnyV_one (i := 15) (by kernel_rfl) rfl (fun K hK => ?_)
          go_simp
          refine hK.out _ _ (fun h => absurd rfl h) ?_
          clear hK K
          refine wpAnyV_done (by kernel_rfl) ?_
          try simp only [Act.put, sA, s0, sS]
          go_wp2
          go_roundw
          case rel =>
            have h := HBi.out.stored (3 + (i + b)) (.int .u32 ((tab i ^^^ s1 : Nat) : Int))
            rw [Nat.add_comm 3, tcells_set] at h
            have e := HST.out
            rw [HI.out, HBB.out, HS1.out] at e
            rw [e] at h
            refine ⟨n + 1, by have h1 := HNL.out; omega, ?_, ?_, ?_⟩
            · rw [HNX.out, HI.out]
              simp
            · rw [Nat.add_comm 3]
              exact h
            · exact HKi.out.drew.setCell (.inr rfl) _
          case measure => simp [intOf]; omega
        · obtain rfl : n = 2 ^ m := by omega
          have e : 2 ^ (8 - m) * 2 ^ m = 256 := by rw [← Nat.pow_add, show 8 - m + m = 8 from by omega]
          have HB2 := HBi.out
          rw [tabM_next m hlt] at HB2
          rw [e]
          clear e
          go_wp2
          go_roundw
          case rel => exact ⟨m + 1, by omega, by rw [HS1.out], by rw [← HBN.out, HBO.out, HBB.out], HB2, HKi⟩
          case measure => simp [intOf]; omega
    · obtain rfl : m = 8 := by omega
      go_wp2
      go_end0
      exact ⟨rfl, HBr.out, HKr.out⟩
end Go.Proofs.Ytcnaabjgjmodeaa
