import Derived.Test.YtknmledgpgkhpaaG06
import Derived.Test.YtknmledgpgkhpaaG01
import Derived.Test.YtknmledgpgkhpaaG00
import Derived.Test.YtknmledgpgkhpaaG04
import Derived.Laws.AppendOwnNone
import Derived.Laws.IdiomCopy
namespace Go.Proofs.Ytknmledgpgkhpaa
set_option maxRecDepth 100000
set_option maxHeartbeats 4000000
open Go.RowKit
set_option linter.unusedVariables false
set_option linter.unusedSimpArgs false
def pageLSN (raw : List Int) : Int := if ownOK raw = true then numAt raw 4 8 else -1
end Go.Proofs.Ytknmledgpgkhpaa

namespace Go.Proofs.Ytknmledgpgkhpaa
set_option maxRecDepth 100000
set_option maxHeartbeats 4000000
open Go.RowKit
set_option linter.unusedVariables false
set_option linter.unusedSimpArgs false
def usedN (sl : List Int) : Nat → Int
  | 0 => 0
  | k + 1 => usedN sl k + sl.getD (2 * k + 1) 0
end Go.Proofs.Ytknmledgpgkhpaa

namespace Go.Proofs.Ytknmledgpgkhpaa
set_option maxHeartbeats 400000
open Go.RowKit
theorem l1Copy_any (v : Value) (bs : List Int) (w : World) (hn : bs.length ≤ 1099511627776) (hv : Rd .u8 w v bs) :
    Calls Try.prog 49 #[v] w fun e w' => ∃ a n c, e = .returned (.slice a n c) ∧ Own 0 5 .u8 w' (.slice a n c) bs ∧ (∀ b, (Value.slice a n c).ownBlock = some b → w.heap.size ≤ b) ∧ Same w w' := by
  obtain ⟨i0, hi, hz0, hz1, hz2⟩ := info_parts Try.infoByte'
  rcases hv.2 with ⟨rfl, a, c, rfl, hac⟩ | ⟨b, off, c, rfl, _, hc⟩
  · cases a with
    | none =>
      obtain rfl : c = 0 := hac rfl
      clear hv hn hac
      go_enter Try.func49, Try.ntmps49
      go_wp2_with (at_builtin; refine wpList_append_own_none rfl (.tmp 3) (.tmp 4) 22 rfl w.heap.size 5 i0 1 Try.underlying22 hi _ 0 [] rfl (World.ownsRow_made w #[] 0 (Nat.le_refl _) (by simp) (by simp)) rfl ?_)
      go_ret
      exact ⟨_, _, _, rfl, (World.ownsRow_made w #[] 0 (Nat.zero_le _) (by simp) (by simp)), fun b hb => by simp [Value.ownBlock] at hb; omega, (Kept.refl _ _).alloc _⟩
    | some ad =>
      clear hv hn hac
      go_enter Try.func49, Try.ntmps49
      go_wp2_with (at_builtin; refine wpList_append_own _ rfl (.tmp 3) (.tmp 4) 22 rfl w.heap.size 5 i0 (.int .u8 0) 1 1 Try.underlying22 hi hz0 hz1 hz2 rfl (by decide) (.slice (some ⟨w.heap.size, 0, none⟩) 0 0) 0 [] rfl (World.ownsRow_made w #[] 0 (Nat.le_refl _) (by simp) (by simp)) ad 0 c [] rfl rfl (fun j u h => by simp at h) (fun u h => by simp at h) (by simp) (by simp) (by simp) ?_; intro v' w1 hown1 hgrow1 _; have HF := (show Hid (Own w.heap.size 5 .u8 w1 v' []) from hown1); have HK : Hid (Same w w1) := ((Kept.refl _ _).alloc _).grown hgrow1 (fun k e => .inl (by simp [Value.ownBlock] at e; omega)); obtain ⟨aa, na, ca, rfl⟩ := slice_of_own HF.out; clear hown1 hgrow1)
      go_ret
      exact ⟨_, _, _, rfl, HF.out.mono (fun b _ => Nat.zero_le b), fun b hb => (HF.out.lt b hb).1, HK.out⟩
  · have HC : Hid (∀ i, i < bs.length → (w.alloc (.cells #[] 5)).cell? ⟨b, off + i, none⟩ = some (.int .u8 (bs.getD i 0))) := fun i hi => ((Kept.refl (fun _ => False) w).alloc _).cellOf (hc i hi) id
    clear hv hc
    go_enter Try.func49, Try.ntmps49
    go_wp2_with (at_builtin; refine wpList_append_own _ rfl (.tmp 3) (.tmp 4) 22 rfl w.heap.size 5 i0 (.int .u8 0) 1 1 Try.underlying22 hi hz0 hz1 hz2 rfl (by decide) (.slice (some ⟨w.heap.size, 0, none⟩) 0 0) 0 [] rfl (World.ownsRow_made w #[] 0 (Nat.le_refl _) (by simp) (by simp)) ⟨b, off, none⟩ bs.length c (vals .u8 bs) rfl (by simp [vals_length]) (news_of HC.out) vals_one (by unfold maxLen; omega) (by omega) (by simp) ?_; intro v' w1 hown1 hgrow1 _; have HF := (show Hid (Own w.heap.size 5 .u8 w1 v' bs) from (by simpa [Own, Hid] using hown1)); have HK : Hid (Same w w1) := ((Kept.refl _ _).alloc _).grown hgrow1 (fun k e => .inl (by simp [Value.ownBlock] at e; omega)); obtain ⟨aa, na, ca, rfl⟩ := slice_of_own HF.out; clear hown1 hgrow1)
    go_ret
    exact ⟨_, _, _, rfl, HF.out.mono (fun b _ => Nat.zero_le b), fun b hb => (HF.out.lt b hb).1, HK.out⟩
theorem clone_any (v : Value) (bs : List Int) (w : World) (hn : bs.length ≤ 1099511627776) (hv : Rd .u8 w v bs) :
    Calls Try.prog 57 #[v] w fun e w' => ∃ a n c, e = .returned (.slice a n c) ∧ Own 0 5 .u8 w' (.slice a n c) bs ∧ (∀ b, (Value.slice a n c).ownBlock = some b → w.heap.size ≤ b) ∧ Same w w' := by
  obtain ⟨i0, hi, hz0, hz1, hz2⟩ := info_parts Try.infoByte'
  have hnil := fun (wx : World) (a : Option Addr) (n c : Nat) => Lib.run_eql_slice_nil (P := Try.prog) wx 22 5 a n c 0 0 Try.underlying22
  rcases hv.2 with ⟨rfl, a, c, rfl, hac⟩ | ⟨b, off, c, rfl, _, hc⟩
  · cases a with
    | none =>
      obtain rfl : c = 0 := hac rfl
      clear hv hn hac
      go_enter Try.func57, Try.ntmps57
      go_wp2
      go_ret
      exact ⟨_, _, _, rfl, Own.nil _ _ _ _, fun b hb => by simp [Value.ownBlock] at hb, Kept.refl _ _⟩
    | some ad =>
      clear hv hn hac
      go_enter Try.func57, Try.ntmps57
      go_wp2_with (at_builtin; refine wpList_append_own _ rfl (.tmp 5) (.tmp 6) 22 rfl w.heap.size 5 i0 (.int .u8 0) 1 1 Try.underlying22 hi hz0 hz1 hz2 rfl (by decide) (.slice (some ⟨w.heap.size, 0, none⟩) 0 0) 0 [] rfl (World.ownsRow_made w #[] 0 (Nat.le_refl _) (by simp) (by simp)) ad 0 c [] rfl rfl (fun j u h => by simp at h) (fun u h => by simp at h) (by simp) (by simp) (by simp) ?_; intro v' w1 hown1 hgrow1 _; have HF := (show Hid (Own w.heap.size 5 .u8 w1 v' []) from hown1); have HK : Hid (Same w w1) := ((Kept.refl _ _).alloc _).grown hgrow1 (fun k e => .inl (by simp [Value.ownBlock] at e; omega)); obtain ⟨aa, na, ca, rfl⟩ := slice_of_own HF.out; clear hown1 hgrow1)
      go_ret
      exact ⟨_, _, _, rfl, HF.out.mono (fun b _ => Nat.zero_le b), fun b hb => (HF.out.lt b hb).1, HK.out⟩
  · have HC : Hid (∀ i, i < bs.length → (w.alloc (.cells #[] 5)).cell? ⟨b, off + i, none⟩ = some (.int .u8 (bs.getD i 0))) := fun i hi => ((Kept.refl (fun _ => False) w).alloc _).cellOf (hc i hi) id
    clear hv hc
    go_enter Try.func57, Try.ntmps57
    go_wp2_with (at_builtin; refine wpList_append_own _ rfl (.tmp 5) (.tmp 6) 22 rfl w.heap.size 5 i0 (.int .u8 0) 1 1 Try.underlying22 hi hz0 hz1 hz2 rfl (by decide) (.slice (some ⟨w.heap.size, 0, none⟩) 0 0) 0 [] rfl (World.ownsRow_made w #[] 0 (Nat.le_refl _) (by simp) (by simp)) ⟨b, off, none⟩ bs.length c (vals .u8 bs) rfl (by simp [vals_length]) (news_of HC.out) vals_one (by unfold maxLen; omega) (by omega) (by simp) ?_; intro v' w1 hown1 hgrow1 _; have HF := (show Hid (Own w.heap.size 5 .u8 w1 v' bs) from (by simpa [Own, Hid] using hown1)); have HK : Hid (Same w w1) := ((Kept.refl _ _).alloc _).grown hgrow1 (fun k e => .inl (by simp [Value.ownBlock] at e; omega)); obtain ⟨aa, na, ca, rfl⟩ := slice_of_own HF.out; clear hown1 hgrow1)
    go_ret
    exact ⟨_, _, _, rfl, HF.out.mono (fun b _ => Nat.zero_le b), fun b hb => (HF.out.lt b hb).1, HK.out⟩
end Go.Proofs.Ytknmledgpgkhpaa

namespace Go.Proofs.Ytknmledgpgkhpaa
set_option maxRecDepth 100000
set_option maxHeartbeats 4000000
open Go.RowKit
set_option linter.unusedVariables false
set_option linter.unusedSimpArgs false
theorem ownOK_len {raw : List Int} (h : ownOK raw = true) : raw.length = 4096 := by unfold ownOK at h; simp at h; exact h.1
def stretch (raw : List Int) (x y : Int) : List Int := (raw.drop x.toNat).take y.toNat
theorem stretch_length (raw : List Int) (x y : Int) (hl : raw.length = 4096) (hx : 0 ≤ x) (hy : 0 ≤ y) (h : x + y ≤ 4096) : (stretch raw x y).length = y.toNat := by simp [stretch, hl]; omega
end Go.Proofs.Ytknmledgpgkhpaa

namespace Go.Proofs.Ytknmledgpgkhpaa
open Go.RowKit
set_option linter.unusedVariables false
set_option linter.unusedSimpArgs false
/-! ### Stretches that don't share bytes have room -/
theorem count_or {α : Type} (p q : α → Bool) : ∀ (l : List α), (∀ x ∈ l, ¬ (p x = true ∧ q x = true)) → l.countP (fun x => p x || q x) = l.countP p + l.countP q
  | [], _ => rfl
  | x :: l, h => by
    have ih := count_or p q l (fun y hy => h y (List.mem_cons_of_mem _ hy))
    have hx := h x (List.mem_cons_self ..)
    rw [List.countP_cons, List.countP_cons, List.countP_cons, ih]
    cases hp : p x <;> cases hq : q x <;> simp_all <;> omega
theorem count_mid (a b : Nat) (hab : a ≤ b) : ∀ n, (List.range n).countP (fun x => decide (a ≤ x) && decide (x < b)) = min n b - min n a
  | 0 => by simp
  | n + 1 => by
    rw [List.range_succ, List.countP_append, count_mid a b hab n]
    by_cases h1 : a ≤ n <;> by_cases h2 : n < b <;> simp [h1, h2] <;> omega
def inRec (sl : List Int) (i x : Nat) : Bool := decide ((sl.getD (2 * i) 0).toNat ≤ x) && decide (x < (sl.getD (2 * i) 0 + sl.getD (2 * i + 1) 0).toNat)
def inAny (sl : List Int) : Nat → Nat → Bool
  | 0, _ => false
  | k + 1, x => inAny sl k x || inRec sl k x
theorem inAny_iff (sl : List Int) : ∀ (k x : Nat), inAny sl k x = true ↔ ∃ i, i < k ∧ inRec sl i x = true
  | 0, x => by simp [inAny]
  | k + 1, x => by
    simp only [inAny, Bool.or_eq_true, inAny_iff sl k x]
    constructor
    · rintro (⟨i, hi, h⟩ | h)
      · exact ⟨i, by omega, h⟩
      · exact ⟨k, by omega, h⟩
    · rintro ⟨i, hi, h⟩
      by_cases e : i < k
      · exact .inl ⟨i, e, h⟩
      · obtain rfl : i = k := by omega
        exact .inr h
structure SlOK (sl : List Int) : Prop where
  one : ∀ k, k < 32 → (sl.getD (2 * k) 0 = 0 ∧ sl.getD (2 * k + 1) 0 = 0) ∨ (148 ≤ sl.getD (2 * k) 0 ∧ 0 ≤ sl.getD (2 * k + 1) 0 ∧ sl.getD (2 * k + 1) 0 ≤ 1000 ∧ sl.getD (2 * k) 0 + sl.getD (2 * k + 1) 0 ≤ 4096)
  two : ∀ i j, i < 32 → j < i → ¬ (max (sl.getD (2 * i) 0) (sl.getD (2 * j) 0) < min (sl.getD (2 * i) 0 + sl.getD (2 * i + 1) 0) (sl.getD (2 * j) 0 + sl.getD (2 * j + 1) 0))
theorem SlOK.count {sl : List Int} (h : SlOK sl) : ∀ k, k ≤ 32 → (((List.range 4096).countP (inAny sl k) : Nat) : Int) = usedN sl k
  | 0, _ => by
    have : (List.range 4096).countP (inAny sl 0) = 0 := List.countP_eq_zero.2 (fun x _ => by simp [inAny])
    rw [this]; rfl
  | k + 1, hk => by
    have hd : ∀ x ∈ List.range 4096, ¬ (inAny sl k x = true ∧ inRec sl k x = true) := by
      rintro x _ ⟨h1, h2⟩
      obtain ⟨i, hi, h1⟩ := (inAny_iff sl k x).1 h1
      have h3 := h.two k i (by omega) hi
      simp only [inRec, Bool.and_eq_true, decide_eq_true_eq] at h1 h2
      have h4 := h.one k (by omega)
      have h5 := h.one i (by omega)
      omega
    have e : (fun x => inAny sl (k + 1) x) = fun x => inAny sl k x || inRec sl k x := rfl
    have hc := count_or (inAny sl k) (inRec sl k) (List.range 4096) hd
    have hr : (((List.range 4096).countP (inRec sl k) : Nat) : Int) = sl.getD (2 * k + 1) 0 := by
      have h4 := h.one k (by omega)
      have hm := count_mid (sl.getD (2 * k) 0).toNat (sl.getD (2 * k) 0 + sl.getD (2 * k + 1) 0).toNat (by omega) 4096
      have : (List.range 4096).countP (inRec sl k) = min 4096 (sl.getD (2 * k) 0 + sl.getD (2 * k + 1) 0).toNat - min 4096 (sl.getD (2 * k) 0).toNat := hm
      rw [this]
      omega
    have ih := SlOK.count h k (by omega)
    show (((List.range 4096).countP (fun x => inAny sl k x || inRec sl k x) : Nat) : Int) = usedN sl k + sl.getD (2 * k + 1) 0
    rw [hc]
    omega
theorem SlOK.room {sl : List Int} (h : SlOK sl) (k : Nat) (hk : k ≤ 32) : 0 ≤ usedN sl k ∧ usedN sl k ≤ 3948 := by
  have h1 := h.count k hk
  have h2 : (List.range 4096).countP (inAny sl k) ≤ (List.range 4096).countP (fun x => decide (148 ≤ x) && decide (x < 4096)) := by
    refine List.countP_mono_left (fun x hx hp => ?_)
    obtain ⟨i, hi, h3⟩ := (inAny_iff sl k x).1 hp
    have h4 := h.one i (by omega)
    simp only [inRec, Bool.and_eq_true, decide_eq_true_eq] at h3 ⊢
    omega
  rw [count_mid 148 4096 (by omega) 4096] at h2
  omega
/-! ### Compacted -/
def layI (xs : List Int) (o : Nat) (ys : List Int) : List Int := xs.take o ++ (ys ++ xs.drop (o + ys.length))
theorem layI_length (xs : List Int) (o : Nat) (ys : List Int) (h : o + ys.length ≤ xs.length) : (layI xs o ys).length = xs.length := by simp [layI]; omega
theorem lay_layI (k : IntKind) (xs ys : List Int) (o : Nat) : lay (vals k xs) o (vals k ys) = vals k (layI xs o ys) := by
  unfold lay layI
  simp [vals]
def cBot (sl : List Int) (k : Nat) : Int := 4096 - usedN sl k
def cBody (raw sl : List Int) : Nat → List Int
  | 0 => List.replicate 4096 0
  | k + 1 => if sl.getD (2 * k) 0 = 0 then cBody raw sl k else layI (cBody raw sl k) (cBot sl (k + 1)).toNat (stretch raw (sl.getD (2 * k) 0) (sl.getD (2 * k + 1) 0))
theorem SlOK.bot {sl : List Int} (h : SlOK sl) (k : Nat) (hk : k ≤ 32) : 148 ≤ cBot sl k ∧ cBot sl k ≤ 4096 := by
  have := h.room k hk
  unfold cBot
  omega
theorem cBot_succ (sl : List Int) (k : Nat) : cBot sl (k + 1) = cBot sl k - sl.getD (2 * k + 1) 0 := by
  unfold cBot
  rw [show usedN sl (k + 1) = usedN sl k + sl.getD (2 * k + 1) 0 from rfl]
  omega
theorem SlOK.body {sl : List Int} (h : SlOK sl) (raw : List Int) (hl : raw.length = 4096) : ∀ k, k ≤ 32 → (cBody raw sl k).length = 4096
  | 0, _ => by rw [cBody, List.length_replicate]
  | k + 1, hk => by
    rw [cBody]
    have ih := SlOK.body h raw hl k (by omega)
    split
    · exact ih
    · have h1 := h.one k (by omega)
      have h2 := h.bot k (by omega)
      have h3 := h.bot (k + 1) hk
      have h4 := cBot_succ sl k
      rw [layI_length, ih]
      rw [stretch_length raw _ _ hl (by omega) (by omega) (by omega), ih]
      omega
end Go.Proofs.Ytknmledgpgkhpaa

namespace Go.Proofs.Ytknmledgpgkhpaa
open Go.RowKit
set_option linter.unusedVariables false
set_option linter.unusedSimpArgs false
def behind (g cap o : Nat) : Option Addr := if cap = o then some ⟨g, 0, none⟩ else some ⟨g, o, none⟩
theorem Own.laid {base : Nat} {e : TypeId} {w : World} {g n cap : Nat} {xs : List Int} (h : Own base e .u8 w (.slice (some ⟨g, 0, none⟩) n cap) xs) (hn : n = xs.length) (o : Nat) (ys : List Int) (ho : o + ys.length ≤ n) :
    Own base e .u8 (w.setCells g o (vals .u8 ys)) (.slice (some ⟨g, 0, none⟩) n cap) (layI xs o ys) := by
  subst hn
  have h1 := owns_setCells (size := 1) (vals .u8 ys) o h (by rw [vals_length, vals_length]; exact ho)
  rw [lay_layI] at h1
  unfold Own
  rw [layI_length _ _ _ ho]
  exact h1
end Go.Proofs.Ytknmledgpgkhpaa

namespace Go.Proofs.Ytknmledgpgkhpaa
open Go.RowKit
set_option linter.unusedVariables false
set_option linter.unusedSimpArgs false
theorem encB_eq (sum : List Int) (lsn num bot : Int) (sl raw : List Int) (h1 : sum.length = 4) (h2 : sl.length = 64) : encB sum lsn num bot sl raw = headB sum lsn num bot ++ (slotB sl ++ raw.drop 148) := by
  unfold encB cont
  rw [List.length_append, headB_length _ _ _ _ h1, slotB_length, h2, List.append_assoc]
theorem slotB_append (a b : List Int) : slotB (a ++ b) = slotB a ++ slotB b := by simp [slotB]
theorem own_enc {raw : List Int} (h : ownOK raw = true) : encB (raw.take 4) (numAt raw 4 8) (numAt raw 12 4) (numAt raw 16 2) (slotsOf raw) raw = raw ∧ isLSN (numAt raw 4 8) = true := by
  have hl := ownOK_len h
  unfold ownOK pageFault faultP at h
  simp only [hl, ne_eq, not_true_eq_false, if_false] at h
  simp only [beq_self_eq_true, Bool.true_and] at h
  by_cases h2 : headBad (raw.take 4) (numAt raw 4 8) (numAt raw 12 4) (numAt raw 16 2) (slotsOf raw) raw = true
  · simp [h2] at h
  unfold headBad at h2
  simp at h2
  exact ⟨h2.2, h2.1⟩
end Go.Proofs.Ytknmledgpgkhpaa

namespace Go.Proofs.Ytknmledgpgkhpaa
open Go.RowKit
set_option linter.unusedVariables false
set_option linter.unusedSimpArgs false
theorem Rd.cut {w : World} {b off c : Nat} {raw : List Int} (h : Rd .u8 w (.slice (some ⟨b, off, none⟩) raw.length c) raw) (x y : Nat) (hxy : x + y ≤ raw.length) :
    Rd .u8 w (.slice (some (if c = x then ⟨b, off, none⟩ else ⟨b, off + x, none⟩)) y (c - x)) ((raw.drop x).take y) := by
  have hl : ((raw.drop x).take y).length = y := by simp; omega
  rcases h.2 with ⟨rfl, _⟩ | ⟨b', off', c', he, hle, hc⟩
  · simp at hxy
    obtain ⟨rfl, rfl⟩ := hxy
    exact ⟨by simp, .inl ⟨by simp, _, _, rfl, fun h => by cases h⟩⟩
  · injection he with h1 h2 h3
    injection h1 with h1
    injection h1 with h1 h4
    subst h1 h4 h3
    by_cases h0 : y = 0
    · subst h0
      exact ⟨by rw [hl]; simp, .inl ⟨by simp, _, _, rfl, fun h => by cases h⟩⟩
    · rw [if_neg (by omega)]
      refine ⟨by have := h.1; omega, .inr ⟨b, off + x, c - x, by rw [hl], by omega, fun i hi => ?_⟩⟩
      rw [hl] at hi
      rw [Nat.add_assoc, hc (x + i) (by omega)]
      simp [List.getD, List.getElem?_take, List.getElem?_drop, hi]
theorem Rd.part {k : IntKind} {w : World} {b off n c : Nat} {bs : List Int} (h : ∀ i, i < bs.length → w.cell? ⟨b, off + i, none⟩ = some (.int k (bs.getD i 0))) (lo m : Nat) (hm : lo + m ≤ bs.length) (hn : n = m) (hc : m ≤ c) (hmax : m ≤ maxLen) :
    Rd k w (.slice (some ⟨b, off + lo, none⟩) n c) ((bs.drop lo).take m) := by
  have hl : ((bs.drop lo).take m).length = m := by simp; omega
  refine ⟨by omega, .inr ⟨b, off + lo, c, by rw [hn, hl], by rw [hl]; exact hc, fun i hi => ?_⟩⟩
  rw [hl] at hi
  have h1 := h (lo + i) (by omega)
  rw [← Nat.add_assoc] at h1
  rw [h1]
  simp [List.getD, hi]
end Go.Proofs.Ytknmledgpgkhpaa

namespace Go.Proofs.Ytknmledgpgkhpaa
open Go.RowKit
set_option linter.unusedVariables false
set_option linter.unusedSimpArgs false
theorem getN_lows {x : Int} {n : Nat} (hn : 1 ≤ n) (hn8 : n ≤ 8) (h0 : 0 ≤ x) (h1 : x < 256 ^ n) (h2 : x ≤ 9223372036854775807) : getN (lows x n) = x := by
  obtain ⟨m, rfl⟩ : ∃ m : Nat, x = (m : Int) := ⟨x.toNat, by omega⟩
  have e : num (lows (m : Int) n) = (m : Int) := by
    rw [num_lows, Nat.mod_eq_of_lt]
    have : ((256 ^ n : Nat) : Int) = (256 : Int) ^ n := by simp
    omega
  unfold getN
  rw [e, lows_length, if_neg (by omega)]
theorem take_mid (A B C : List Int) : ((A ++ (B ++ C)).drop A.length).take B.length = B := by
  rw [List.drop_left, List.take_left]
theorem take_midN (A B C : List Int) (a b : Nat) (ha : a = A.length) (hb : b = B.length) : ((A ++ (B ++ C)).drop a).take b = B := by subst ha hb; exact take_mid A B C
theorem slotB_at (sl : List Int) (j : Nat) (hj : j < sl.length) : ((slotB sl).drop (2 * j)).take 2 = lows (sl.getD j 0) 2 := by
  have e : sl = sl.take j ++ (sl[j] :: sl.drop (j + 1)) := by rw [← List.drop_eq_getElem_cons hj, List.take_append_drop]
  have hg : sl.getD j 0 = sl[j] := by simp [hj]
  rw [hg]
  conv => lhs; rw [e]
  rw [slotB_append, show slotB (sl[j] :: sl.drop (j + 1)) = lows sl[j] 2 ++ slotB (sl.drop (j + 1)) from by unfold slotB; rw [List.flatMap_cons]]
  exact take_midN _ _ _ _ _ (by rw [slotB_length, List.length_take]; omega) (by rw [lows_length])
structure EncOK (sum : List Int) (lsn num bot : Int) (sl raw : List Int) : Prop where
  s4 : sum.length = 4
  sl64 : sl.length = 64
  r : raw.length = 4096
  lsn : 0 ≤ lsn ∧ lsn ≤ 9223372036854775807
  num : 0 ≤ num ∧ num < 4294967296
  bot : 0 ≤ bot ∧ bot ≤ 65535
  sls : ∀ x ∈ sl, 0 ≤ x ∧ x ≤ 65535
section
variable {sum : List Int} {lsn num bot : Int} {sl raw : List Int}
theorem EncOK.flat (h : EncOK sum lsn num bot sl raw) : encB sum lsn num bot sl raw = sum ++ (lows lsn 8 ++ (lows num 4 ++ (lows bot 2 ++ (lows 0 2 ++ (slotB sl ++ raw.drop 148))))) := by
  rw [encB_eq _ _ _ _ _ _ h.s4 h.sl64]
  simp [headB]
theorem EncOK.len (h : EncOK sum lsn num bot sl raw) : (encB sum lsn num bot sl raw).length = 4096 := encB_length h.s4 h.sl64 h.r
theorem EncOK.sum4 (h : EncOK sum lsn num bot sl raw) : (encB sum lsn num bot sl raw).take 4 = sum := by
  rw [h.flat, List.take_append_of_le_length (by rw [h.s4]; exact Nat.le_refl _), List.take_of_length_le (by rw [h.s4]; exact Nat.le_refl _)]
theorem EncOK.dec (h : EncOK sum lsn num bot sl raw) : numAt (encB sum lsn num bot sl raw) 4 8 = lsn ∧ numAt (encB sum lsn num bot sl raw) 12 4 = num ∧ numAt (encB sum lsn num bot sl raw) 16 2 = bot := by
  refine ⟨?_, ?_, ?_⟩
  · unfold numAt
    rw [h.flat, take_midN _ _ _ _ _ (by rw [h.s4]) (by rw [lows_length])]
    exact getN_lows (by decide) (by decide) h.lsn.1 (by have := h.lsn.2; have : (256 : Int) ^ 8 = 18446744073709551616 := by decide
                                                        omega) h.lsn.2
  · unfold numAt
    rw [h.flat, ← List.append_assoc, take_midN _ _ _ _ _ (by rw [List.length_append, h.s4, lows_length]) (by rw [lows_length])]
    exact getN_lows (by decide) (by decide) h.num.1 (by have := h.num.2; have : (256 : Int) ^ 4 = 4294967296 := by decide
                                                        omega) (by have := h.num.2; omega)
  · unfold numAt
    rw [h.flat, ← List.append_assoc, ← List.append_assoc, take_midN _ _ _ _ _ (by rw [List.length_append, List.length_append, h.s4, lows_length, lows_length]) (by rw [lows_length])]
    exact getN_lows (by decide) (by decide) h.bot.1 (by have := h.bot.2; have : (256 : Int) ^ 2 = 65536 := by decide
                                                        omega) (by have := h.bot.2; omega)
theorem EncOK.behind (h : EncOK sum lsn num bot sl raw) : (encB sum lsn num bot sl raw).drop 148 = raw.drop 148 := by
  rw [encB_eq _ _ _ _ _ _ h.s4 h.sl64, ← List.append_assoc, List.drop_append, List.drop_of_length_le (by rw [List.length_append, headB_length _ _ _ _ h.s4, slotB_length, h.sl64]; decide), List.nil_append, List.length_append, headB_length _ _ _ _ h.s4, slotB_length, h.sl64]
  rfl
theorem EncOK.slots (h : EncOK sum lsn num bot sl raw) : slotsOf (encB sum lsn num bot sl raw) = sl := by
  apply List.ext_getElem?
  intro j
  by_cases hj : j < 64
  · rw [List.getElem?_eq_getElem (by rw [slotsOf_length]; exact hj), List.getElem?_eq_getElem (by rw [h.sl64]; exact hj)]
    have e1 : (slotsOf (encB sum lsn num bot sl raw))[j]'(by rw [slotsOf_length]; exact hj) = (slotsOf (encB sum lsn num bot sl raw)).getD j 0 := by simp [slotsOf_length, hj]
    have e2 : sl[j]'(by rw [h.sl64]; exact hj) = sl.getD j 0 := by simp [h.sl64, hj]
    rw [e1, e2, slotsOf_at _ j hj]
    congr 1
    unfold numAt
    rw [encB_eq _ _ _ _ _ _ h.s4 h.sl64]
    have hd : (headB sum lsn num bot ++ (slotB sl ++ raw.drop 148)).drop (20 + 2 * j) = (slotB sl).drop (2 * j) ++ raw.drop 148 := by
      rw [List.drop_append, List.drop_of_length_le (by rw [headB_length _ _ _ _ h.s4]; omega), List.nil_append, headB_length _ _ _ _ h.s4, Nat.add_sub_cancel_left, List.drop_append_of_le_length (by rw [slotB_length, h.sl64]; omega)]
    rw [hd, List.take_append_of_le_length (by rw [List.length_drop, slotB_length, h.sl64]; omega), slotB_at sl j (by rw [h.sl64]; exact hj)]
    have hb : 0 ≤ sl.getD j 0 ∧ sl.getD j 0 ≤ 65535 := by rw [← e2]; exact h.sls _ (List.getElem_mem _)
    exact getN_lows (by decide) (by decide) hb.1 (by have : (256 : Int) ^ 2 = 65536 := by decide
                                                     omega) (by omega)
  · rw [List.getElem?_eq_none (by rw [slotsOf_length]; omega), List.getElem?_eq_none (by rw [h.sl64]; omega)]
theorem EncOK.again (h : EncOK sum lsn num bot sl raw) : encB sum lsn num bot sl (encB sum lsn num bot sl raw) = encB sum lsn num bot sl raw := by
  rw [encB_eq _ _ _ _ _ (encB sum lsn num bot sl raw) h.s4 h.sl64, h.behind, ← encB_eq _ _ _ _ _ _ h.s4 h.sl64]
theorem EncOK.own (h : EncOK sum lsn num bot sl raw) (hL : isLSN lsn = true) (hb : 148 ≤ bot ∧ bot ≤ 4096) (ha : astray bot sl = false) (hs : share sl = false) : ownOK (encB sum lsn num bot sl raw) = true := by
  obtain ⟨d1, d2, d3⟩ := h.dec
  unfold ownOK pageFault faultP
  rw [h.sum4, d1, d2, d3, h.slots, h.len]
  have hh : headBad sum lsn num bot sl (encB sum lsn num bot sl raw) = false := by
    unfold headBad
    rw [hL, h.again]
    simp
  rw [hh, ha, hs]
  simp
  omega
end
def sl0 (sl : List Int) (s : Nat) : List Int := (sl.set (2 * s) 0).set (2 * s + 1) 0
theorem sl0_at (sl : List Int) (s j : Nat) : (sl0 sl s).getD j 0 = if j = 2 * s ∨ j = 2 * s + 1 then 0 else sl.getD j 0 := by
  unfold sl0
  simp only [List.getD_eq_getElem?_getD]
  by_cases h1 : j = 2 * s + 1
  · subst h1
    rw [if_pos (.inr rfl)]
    by_cases hl : 2 * s + 1 < sl.length
    · rw [List.getElem?_set_self (by rw [List.length_set]; exact hl)]; rfl
    · rw [List.getElem?_eq_none (by rw [List.length_set, List.length_set]; omega)]; rfl
  · rw [List.getElem?_set_ne (by omega)]
    by_cases h2 : j = 2 * s
    · subst h2
      rw [if_pos (.inl rfl)]
      by_cases hl : 2 * s < sl.length
      · rw [List.getElem?_set_self hl]; rfl
      · rw [List.getElem?_eq_none (by rw [List.length_set]; omega)]; rfl
    · rw [List.getElem?_set_ne (by omega), if_neg (by omega)]
theorem sl0_two (sl : List Int) (s k : Nat) : ((sl0 sl s).getD (2 * k) 0 = if k = s then 0 else sl.getD (2 * k) 0) ∧ ((sl0 sl s).getD (2 * k + 1) 0 = if k = s then 0 else sl.getD (2 * k + 1) 0) := by
  rw [sl0_at, sl0_at]
  by_cases e : k = s
  · subst e; simp
  · refine ⟨?_, ?_⟩
    · rw [if_neg (by omega), if_neg e]
    · rw [if_neg (by omega), if_neg e]
theorem SlOK.zero {sl : List Int} (h : SlOK sl) (s : Nat) : SlOK (sl0 sl s) := by
  refine ⟨fun k hk => ?_, fun i j hi hj => ?_⟩
  · obtain ⟨e1, e2⟩ := sl0_two sl s k
    rw [e1, e2]
    by_cases e : k = s
    · rw [if_pos e, if_pos e]; exact .inl ⟨rfl, rfl⟩
    · rw [if_neg e, if_neg e]; exact h.one k hk
  · obtain ⟨e1, e2⟩ := sl0_two sl s i
    obtain ⟨e3, e4⟩ := sl0_two sl s j
    rw [e1, e2, e3, e4]
    have h1 := h.two i j hi hj
    have h2 := h.one i hi
    have h3 := h.one j (by omega)
    by_cases ei : i = s
    · rw [if_pos ei, if_pos ei]; omega
    · rw [if_neg ei, if_neg ei]
      by_cases ej : j = s
      · rw [if_pos ej, if_pos ej]; omega
      · rw [if_neg ej, if_neg ej]; exact h1
def setFull (raw : List Int) (s : Nat) (d : List Int) : Prop := 3948 < usedN (slotsOf raw) 32 - (slotsOf raw).getD (2 * s + 1) 0 + d.length
instance (raw : List Int) (s : Nat) (d : List Int) : Decidable (setFull raw s d) := inferInstanceAs (Decidable (_ < _))
end Go.Proofs.Ytknmledgpgkhpaa

namespace Go.Proofs.Ytknmledgpgkhpaa
open Go.RowKit
set_option linter.unusedVariables false
set_option linter.unusedSimpArgs false
def SetAns (ty : TypeId) (w w' : World) (e : Ending) (x : Int) (ys : List Int) : Prop := ∃ a c, e = .returned (.agg #[.int .i64 x, .slice a ys.length c]) ∧ (∀ b, (Value.slice a ys.length c).ownBlock = some b → w.heap.size ≤ b) ∧ Own 0 ty .u8 w' (.slice a ys.length c) ys ∧ Same w w'
theorem SetAns.none {ty : TypeId} {w w' : World} (x : Int) (h : Same w w') : SetAns ty w w' (.returned (.agg #[.int .i64 x, .slice none 0 0])) x [] := ⟨_, _, rfl, fun b hb => by simp [Value.ownBlock] at hb, Own.nil _ _ _ _, h⟩
end Go.Proofs.Ytknmledgpgkhpaa

namespace Go.Proofs.Ytknmledgpgkhpaa
open Go.RowKit
set_option linter.unusedVariables false
set_option linter.unusedSimpArgs false
theorem set2_at {sl : List Int} (hl : sl.length = 64) (s k : Nat) (hs : s < 32) (a b : Int) :
    (((sl.set (2 * s) a).set (2 * s + 1) b).getD (2 * k) 0 = if k = s then a else sl.getD (2 * k) 0) ∧ (((sl.set (2 * s) a).set (2 * s + 1) b).getD (2 * k + 1) 0 = if k = s then b else sl.getD (2 * k + 1) 0) := by
  simp only [List.getD_eq_getElem?_getD]
  by_cases e : k = s
  · subst e
    rw [if_pos rfl, if_pos rfl, List.getElem?_set_ne (by omega), List.getElem?_set_self (by omega), List.getElem?_set_self (by rw [List.length_set]; omega)]
    exact ⟨rfl, rfl⟩
  · rw [if_neg e, if_neg e, List.getElem?_set_ne (by omega), List.getElem?_set_ne (by omega), List.getElem?_set_ne (by omega), List.getElem?_set_ne (by omega)]
    exact ⟨rfl, rfl⟩
def From (bot : Int) (sl : List Int) : Prop := ∀ k, k < 32 → ¬ sl.getD (2 * k) 0 = 0 → bot ≤ sl.getD (2 * k) 0
theorem SlOK.put {sl : List Int} (h : SlOK sl) (hl : sl.length = 64) {bt : Int} (hf : From bt sl) (s : Nat) (hs : s < 32) (n : Nat) (hb : 148 ≤ bt - n) (hbt : bt ≤ 4096) (hn : n ≤ 1000) :
    SlOK ((sl.set (2 * s) (bt - n)).set (2 * s + 1) (n : Int)) ∧ From (bt - n) ((sl.set (2 * s) (bt - n)).set (2 * s + 1) (n : Int)) := by
  have at0 := fun k => set2_at hl s k hs (bt - n) (n : Int)
  have far := fun k (hk : k < 32) => (by have h1 := h.one k hk; have h2 := hf k hk; omega : (sl.getD (2 * k) 0 = 0 ∧ sl.getD (2 * k + 1) 0 = 0) ∨ (bt ≤ sl.getD (2 * k) 0 ∧ 0 ≤ sl.getD (2 * k + 1) 0))
  refine ⟨⟨fun k hk => ?_, fun i j hi hj => ?_⟩, fun k hk h0 => ?_⟩
  · rw [(at0 k).1, (at0 k).2]
    by_cases e : k = s
    · rw [if_pos e, if_pos e]; omega
    · rw [if_neg e, if_neg e]; exact h.one k hk
  · rw [(at0 i).1, (at0 i).2, (at0 j).1, (at0 j).2]
    have f1 := far i hi
    have f2 := far j (by omega)
    by_cases e : i = s
    · rw [if_pos e, if_pos e, if_neg (by omega), if_neg (by omega)]; omega
    · rw [if_neg e, if_neg e]
      by_cases e2 : j = s
      · rw [if_pos e2, if_pos e2]; omega
      · rw [if_neg e2, if_neg e2]; exact h.two i j hi hj
  · rw [(at0 k).1] at h0 ⊢
    by_cases e : k = s
    · rw [if_pos e]; omega
    · rw [if_neg e] at h0 ⊢
      have := hf k hk h0
      omega
theorem SlOK.all {sl : List Int} (h : SlOK sl) (hl : sl.length = 64) : ∀ x ∈ sl, 0 ≤ x ∧ x ≤ 65535 := by
  intro x hx
  obtain ⟨j, hj, rfl⟩ := List.mem_iff_getElem.1 hx
  have e : sl[j] = sl.getD j 0 := by simp [hj]
  rw [e]
  rcases Nat.mod_two_eq_zero_or_one j with h2 | h2
  · obtain ⟨k, rfl⟩ : ∃ k, j = 2 * k := ⟨j / 2, by omega⟩
    have := h.one k (by omega)
    omega
  · obtain ⟨k, rfl⟩ : ∃ k, j = 2 * k + 1 := ⟨j / 2, by omega⟩
    have := h.one k (by omega)
    omega
theorem From.zero {bot : Int} {sl : List Int} (h : From bot sl) (s : Nat) : From bot (sl0 sl s) := by
  intro k hk h0
  rw [(sl0_two sl s k).1] at h0 ⊢
  by_cases e : k = s
  · rw [if_pos e] at h0; exact absurd rfl h0
  · rw [if_neg e] at h0 ⊢; exact h k hk h0
theorem encB_behind {sum : List Int} {lsn num bot : Int} {sl r r' : List Int} (h1 : sum.length = 4) (h2 : sl.length = 64) (e : r.drop 148 = r'.drop 148) : encB sum lsn num bot sl r = encB sum lsn num bot sl r' := by
  rw [encB_eq _ _ _ _ _ _ h1 h2, encB_eq _ _ _ _ _ _ h1 h2, e]
def PgAt (w : World) (P : Nat) (E : List Int) : Prop := ∃ r : List Int, r.drop 148 = E.drop 148 ∧ SP w P (E.take 4) (numAt E 4 8) (numAt E 12 4) (numAt E 16 2) (slotsOf E) r
theorem PgAt.same {w w' : World} {P : Nat} {E : List Int} (h : PgAt w P E) (hk : Same w w') : PgAt w' P E := h.imp fun r x => ⟨x.1, x.2.same hk⟩
theorem PgAt.of {w : World} {P : Nat} {sum : List Int} {lsn num b : Int} {sl r r' : List Int} (hE : EncOK sum lsn num b sl r) (e : r'.drop 148 = r.drop 148) (h : SP w P sum lsn num b sl r') : PgAt w P (encB sum lsn num b sl r) := by
  obtain ⟨d1, d2, d3⟩ := hE.dec
  refine ⟨r', by rw [hE.behind, e], ?_⟩
  rw [hE.sum4, d1, d2, d3, hE.slots]
  exact h
theorem PgAt.enc {w : World} {P : Nat} {E : List Int} (h : PgAt w P E) (hok : ownOK E = true) : ∃ r, SP w P (E.take 4) (numAt E 4 8) (numAt E 12 4) (numAt E 16 2) (slotsOf E) r ∧ encB (E.take 4) (numAt E 4 8) (numAt E 12 4) (numAt E 16 2) (slotsOf E) r = E := by
  obtain ⟨r, e, h⟩ := h
  exact ⟨r, h, by rw [encB_behind h.l1 h.l2 e]; exact (own_enc hok).1⟩
end Go.Proofs.Ytknmledgpgkhpaa
