import Derived.Test.YtaojjcnmififoaaGreatG22
import Derived.Test.YtaojjcnmififoaaGreatEncSB
import Derived.Test.YtaojjcnmififoaaGreatEncSC
import Derived.Test.YtaojjcnmififoaaGreatEncSD
import Derived.Test.YtaojjcnmififoaaGreatEncSE
import Derived.Test.YtaojjcnmififoaaGreatG09
import Derived.Test.YtaojjcnmififoaaGreatG19
import Derived.Test.YtaojjcnmififoaaGreatEncTyped
import Derived.Test.YtaojjcnmififoaaGreatG11
import Derived.Test.YtaojjcnmififoaaGreatG07
import Derived.Test.YtaojjcnmififoaaGreatG00
import Derived.Test.YtaojjcnmififoaaGreatG01
import Derived.Deep.DeepCutAuto
namespace Go.Proofs.YtaojjcnmififoaaGreat
set_option maxRecDepth 100000
set_option maxHeartbeats 4000000
set_option linter.unusedVariables false
set_option linter.unusedSimpArgs false
open Go.RowKit
theorem Own.sized {base : Nat} {e : TypeId} {k : IntKind} {w : World} {aa : Option Addr} {nn cc : Nat} {bs : List Int} (h : Own base e k w (.slice aa nn cc) bs) : nn = bs.length := by
  rcases h.form with ⟨hh, rfl⟩ | ⟨g, cap, hh, _⟩ <;> cases hh <;> rfl
theorem encFd_good {d : Int × Int × Int × Int × Int × (Bool × List Int) × (Bool × List Int) × Int × Int × List Int × List Int × List Int} (h : recFd d = 0) : encFd d = recBd d := by unfold encFd; rw [if_neg (by simpa using h)]
theorem encFd_bad {d : Int × Int × Int × Int × Int × (Bool × List Int) × (Bool × List Int) × Int × Int × List Int × List Int × List Int} (h : recFd d ≠ 0) : encFd d = [] := by unfold encFd; rw [if_pos h]
theorem specEnc_any (x : StLogRecord) (w : World) (hB : x.isB) (hn : x.szs ≤ 1073741824) (hv : StLogRecord.rd w x) : Calls Tryz.prog 66 #[x.val] w fun e w' => ∃ a c, e = .returned (.slice a (encFd x.dat).length c) ∧ (∀ b, (Value.slice a (encFd x.dat).length c).ownBlock = some b → w.heap.size ≤ b) ∧ Own 0 5 .u8 w' (.slice a (encFd x.dat).length c) (encFd x.dat) ∧ Same w w' := by
  by_cases hz : recFd x.dat = 0
  · have hg := kind_good (show recF x.kind _ _ _ _ _ _ _ _ _ _ _ _ _ = 0 from hz)
    rw [encFd_good hz]
    have key : Calls Tryz.prog 66 #[x.val] w fun e w' => ∃ aa nn cc, e = .returned (.slice aa nn cc) ∧ Own 0 5 .u8 w' (.slice aa nn cc) (recBd x.dat) ∧ (∀ b, (Value.slice aa nn cc).ownBlock = some b → w.heap.size ≤ b) ∧ Same w w' := by
      rcases (show x.kind = 1 ∨ x.kind = 2 ∨ x.kind = 3 ∨ x.kind = 4 ∨ x.kind = 5 ∨ x.kind = 6 ∨ x.kind = 7 ∨ x.kind = 8 by omega) with h | h | h | h | h | h | h | h
      · exact encS_1 x w hB hn hv h hz
      · exact encS_2 x w hB hn hv h hz
      · exact encS_3 x w hB hn hv h hz
      · exact encS_4 x w hB hn hv h hz
      · exact encS_5 x w hB hn hv h hz
      · exact encS_6 x w hB hn hv h hz
      · exact encS_7 x w hB hn hv h hz
      · exact encS_8 x w hB hn hv h hz
    refine key.mono ?_
    rintro e w' ⟨aa, nn, cc, rfl, ho, hf, hk⟩
    obtain rfl := ho.sized
    exact ⟨aa, cc, rfl, hf, ho, hk⟩
  · rw [encFd_bad hz]
    have HF := (show Hid (∀ wx, Same w wx → _) from fun wx (h : Same w wx) => specRec_any x wx hB hn (StLogRecord.rd.same hv h))
    obtain ⟨r, hr⟩ : ∃ r, recFd x.dat = r := ⟨_, rfl⟩
    rw [hr] at HF hz
    clear hr hB hn hv
    obtain ⟨kind, txn, prev, page, slot, ⟨bU, ⟨bDe, bDa, bDc, bDb⟩⟩, ⟨aU, ⟨aDe, aDa, aDc, aDb⟩⟩, uN, nT, ⟨tXe, tXa, tXn, tXc, tXb⟩, ⟨dYe, dYa, dYn, dYc, dYb⟩, ⟨iMe, iMa, iMc, iMb⟩⟩ := x
    have HF1 := HF.out _ ((Kept.refl _ _).alloc (.cells #[.int .i64 kind, .int .i64 txn, .int .i64 prev, .int .i64 page, .int .i64 slot, .bool bU, .slice bDa bDb.length bDc, .bool aU, .slice aDa aDb.length aDc, .int .i64 uN, .int .i64 nT, .slice tXa tXn tXc, .slice dYa dYn dYc, .slice iMa iMb.length iMc] 50))
    dsimp only [StLogRecord.val, StPageRecord.val, BS.v, FR.v] at HF1 ⊢
    have HK0 := hid (sameA w [.int .i64 kind, .int .i64 txn, .int .i64 prev, .int .i64 page, .int .i64 slot, .bool bU, .slice bDa bDb.length bDc, .bool aU, .slice aDa aDb.length aDc, .int .i64 uN, .int .i64 nT, .slice tXa tXn tXc, .slice dYa dYn dYc, .slice iMa iMb.length iMc] 50)
    clear HF
    go_enter Tryz.func66, Tryz.ntmps66
    go_wp2_with fail
    refine HF1.mono ?_
    rintro e w1 ⟨rfl, hk1⟩
    have HK1 := hid (HK0.out.trans hk1)
    clear hk1 HF1
    go_wp2
    go_ret
    exact ⟨_, _, rfl, fun b hb => by have := HK1.out.size; have hb : w1.heap.size = b := by simpa [Value.ownBlock] using hb
                                     omega, Own.empty _ _, HK1.out.alloc _⟩
theorem IsB.app {a b : List Int} (ha : IsB a) (hb : IsB b) : IsB (a ++ b) := fun x h => (List.mem_append.1 h).elim (ha x) (hb x)
theorem partB_isB {u : Bool} {d : List Int} (h : IsB d) : IsB (partB u d) := by
  unfold partB
  split
  · exact fun x hx => (List.mem_cons.1 hx).elim (fun e => by omega) ((numB_isB _ _).app h x)
  · exact fun x hx => by have := List.mem_singleton.1 hx; omega
theorem flat_isB (f : Nat → List Int) (h : ∀ i, IsB (f i)) (n : Nat) : IsB ((List.range n).flatMap f) := fun x hx => by
  obtain ⟨i, _, hi⟩ := List.mem_flatMap.1 hx
  exact h i x hi
theorem headR_isB {k t p : Int} (h : 1 ≤ k ∧ k ≤ 8) : IsB (headR k t p) := IsB.app (IsB.app (fun x hx => by have := List.mem_singleton.1 hx; omega) (numB_isB _ _)) (numB_isB _ _)
theorem recBy_isB {kind txn prev page slot un nt : Int} {bu au : Bool} {bb ab tx dy im : List Int} (hk : 1 ≤ kind ∧ kind ≤ 8) (hb : IsB bb) (ha : IsB ab) (hi : IsB im) : IsB (recBy kind txn prev page slot bu bb au ab un nt tx dy im) := by
  have hh := headR_isB (t := txn) (p := prev) hk
  unfold recBy
  split
  · exact (((hh.app (numB_isB _ _)).app (numB_isB _ _)).app (partB_isB hb)).app (partB_isB ha)
  split
  · exact (((hh.app (numB_isB _ _)).app (numB_isB _ _)).app (partB_isB ha)).app (numB_isB _ _)
  split
  · exact ((((hh.app (numB_isB _ _)).app (numB_isB _ _)).app (flat_isB _ (fun i => (((numB_isB _ _).app (numB_isB _ _)).app (numB_isB _ _)).app (numB_isB _ _)) _)).app (numB_isB _ _)).app (flat_isB _ (fun i => (numB_isB _ _).app (numB_isB _ _)) _)
  split
  · exact (hh.app (numB_isB _ _)).app hi
  · exact hh
theorem recBd_isB {x : StLogRecord} (hB : x.isB) (hz : recFd x.dat = 0) : IsB (recBd x.dat) := recBy_isB (kind_good (show recF x.kind _ _ _ _ _ _ _ _ _ _ _ _ _ = 0 from hz)) hB.1 hB.2.1 hB.2.2
theorem numB_lows {x : Int} {n : Nat} (hn : 1 ≤ n ∧ n ≤ 8) (h0 : 0 ≤ x) (h1 : x < 256 ^ n) : numB x n = lows x n := by
  unfold numB
  rw [if_neg]
  · rfl
  · rintro (h | h | h | h)
    · omega
    · omega
    · omega
    · exact h (Int.ediv_eq_zero_of_lt h0 (by simpa using h1))
abbrev RecD : Type := Int × Int × Int × Int × Int × (Bool × List Int) × (Bool × List Int) × Int × Int × List Int × List Int × List Int
def padB (rs : List Int) (n : Nat) : List Int := rs.take n ++ List.replicate (n - rs.length) 0
def nS (rs : List Int) (n : Nat) : Int := getN (padB rs n)
def nI (rs : List Int) (n : Nat) : Int := getN (rs.take n)
section
variable (num : List Int → Nat → Int) (part : List Int → Nat → List Int)
def rdSlot (rs : List Int) : (Bool × List Int) × List Int :=
  if num rs 1 = 1 then ((true, part (rs.drop 3) (num (rs.drop 1) 2).toNat), (rs.drop 3).drop (num (rs.drop 1) 2).toNat) else ((false, []), rs.drop 1)
def txE (rs : List Int) (i : Nat) : List Int := [num (rs.drop (21 * i)) 4, num (rs.drop (21 * i + 4)) 1, num (rs.drop (21 * i + 5)) 8, num (rs.drop (21 * i + 13)) 8]
def txL (rs : List Int) (n : Nat) : List Int := (List.range n).flatMap (txE num rs)
def dyE (rs : List Int) (i : Nat) : List Int := [num (rs.drop (10 * i)) 2, num (rs.drop (10 * i + 2)) 8]
def dyL (rs : List Int) (n : Nat) : List Int := (List.range n).flatMap (dyE num rs)
def rdBody (k txn prev : Int) (r : List Int) : RecD :=
  if k = 1 then (k, txn, prev, num r 2, num (r.drop 2) 2, (rdSlot num part (r.drop 4)).1, (rdSlot num part (rdSlot num part (r.drop 4)).2).1, 0, 0, [], [], [])
  else if k = 2 then (k, txn, prev, num r 2, num (r.drop 2) 2, (false, []), (rdSlot num part (r.drop 4)).1, num (rdSlot num part (r.drop 4)).2 8, 0, [], [], [])
  else if k = 7 then (k, txn, prev, 0, 0, (false, []), (false, []), 0, num r 4, txL num (r.drop 5) (num (r.drop 4) 1).toNat, dyL num ((r.drop 5).drop (21 * (num (r.drop 4) 1).toNat + 1)) (num ((r.drop 5).drop (21 * (num (r.drop 4) 1).toNat)) 1).toNat, [])
  else if k = 8 then (k, txn, prev, num r 2, 0, (false, []), (false, []), 0, 0, [], [], part (r.drop 2) 4096)
  else (k, txn, prev, 0, 0, (false, []), (false, []), 0, 0, [], [], [])
end
def parS (bs : List Int) : RecD := rdBody nS padB (nS bs 1) (nS (bs.drop 1) 4) (nS (bs.drop 5) 8) (bs.drop 13)
def parI (bs : List Int) : RecD := rdBody nI (fun rs n => rs.take n) (nI bs 1) (if nI bs 1 ≤ 5 then nI (bs.drop 1) 4 else 0) (if nI bs 1 ≤ 5 then nI (bs.drop 5) 8 else 0) (bs.drop 13)
def zeroR : RecD := (0, 0, 0, 0, 0, (false, []), (false, []), 0, 0, [], [], [])
theorem flatMap_len {f : Nat → List Int} {m : Nat} (h : ∀ i, (f i).length = m) : ∀ n, ((List.range n).flatMap f).length = m * n
  | 0 => rfl
  | n + 1 => by rw [List.range_succ, List.flatMap_append, List.length_append, flatMap_len h n]; simp [h]; rw [Nat.mul_succ]
theorem padB_app {x C : List Int} : padB (x ++ C) x.length = x := by simp [padB]
theorem numB_lenD {x : Int} {n : Nat} (hn : 1 ≤ n ∧ n ≤ 8) (h0 : 0 ≤ x) (h1 : x < 256 ^ n) : (numB x n).length = n := by rw [numB_lows hn h0 h1, lows_length]
structure Reads (num : List Int → Nat → Int) (part : List Int → Nat → List Int) : Prop where
  num : ∀ (x : Int) (n : Nat) (C : List Int), 1 ≤ n ∧ n ≤ 8 → 0 ≤ x → x < 256 ^ n → x ≤ 9223372036854775807 → num (numB x n ++ C) n = x
  part : ∀ (x C : List Int), part (x ++ C) x.length = x
theorem getN_back {x : Int} {n : Nat} (hn : 1 ≤ n ∧ n ≤ 8) (h0 : 0 ≤ x) (h1 : x < 256 ^ n) (h2 : x ≤ 9223372036854775807) : getN (numB x n) = x :=
  (getN_numB x n ⟨by omega, h2⟩ (fun e => by have h := numB_lenD hn h0 h1; rw [e] at h; simp at h; omega)).1
theorem reads_S : Reads nS padB :=
  ⟨fun x n C hn h0 h1 h2 => by
    have hl := numB_lenD hn h0 h1
    have e : padB (numB x n ++ C) n = numB x n := by
      have h := padB_app (x := numB x n) (C := C)
      rwa [hl] at h
    unfold nS
    rw [e, getN_back hn h0 h1 h2], fun x C => padB_app⟩
theorem reads_I : Reads nI (fun rs n => rs.take n) :=
  ⟨fun x n C hn h0 h1 h2 => by
    have hl := numB_lenD hn h0 h1
    have e : (numB x n ++ C).take n = numB x n := by
      have h := List.take_left' (l₁ := numB x n) (l₂ := C) hl
      exact h
    unfold nI
    rw [e, getN_back hn h0 h1 h2], fun x C => List.take_left⟩
section
variable {num : List Int → Nat → Int} {part : List Int → Nat → List Int}
theorem Reads.n1 (H : Reads num part) {x : Int} (h0 : 0 ≤ x) (h1 : x < 256) (C : List Int) : num (numB x 1 ++ C) 1 = x := H.num x 1 C (by omega) h0 (by omega) (by omega)
theorem drop1 {x : Int} (h0 : 0 ≤ x) (h1 : x < 256) (C : List Int) : (numB x 1 ++ C).drop 1 = C := List.drop_left' (numB_lenD (n := 1) (by omega) h0 (by omega))
theorem len1 {x : Int} (h0 : 0 ≤ x) (h1 : x < 256) : (numB x 1).length = 1 := numB_lenD (n := 1) (by omega) h0 (by omega)
theorem Reads.n2 (H : Reads num part) {x : Int} (h0 : 0 ≤ x) (h1 : x < 65536) (C : List Int) : num (numB x 2 ++ C) 2 = x := H.num x 2 C (by omega) h0 (by omega) (by omega)
theorem drop2 {x : Int} (h0 : 0 ≤ x) (h1 : x < 65536) (C : List Int) : (numB x 2 ++ C).drop 2 = C := List.drop_left' (numB_lenD (n := 2) (by omega) h0 (by omega))
theorem len2 {x : Int} (h0 : 0 ≤ x) (h1 : x < 65536) : (numB x 2).length = 2 := numB_lenD (n := 2) (by omega) h0 (by omega)
theorem Reads.n4 (H : Reads num part) {x : Int} (h0 : 0 ≤ x) (h1 : x < 4294967296) (C : List Int) : num (numB x 4 ++ C) 4 = x := H.num x 4 C (by omega) h0 (by omega) (by omega)
theorem drop4 {x : Int} (h0 : 0 ≤ x) (h1 : x < 4294967296) (C : List Int) : (numB x 4 ++ C).drop 4 = C := List.drop_left' (numB_lenD (n := 4) (by omega) h0 (by omega))
theorem len4 {x : Int} (h0 : 0 ≤ x) (h1 : x < 4294967296) : (numB x 4).length = 4 := numB_lenD (n := 4) (by omega) h0 (by omega)
theorem Reads.n8 (H : Reads num part) {x : Int} (h0 : 0 ≤ x) (h1 : x < 9223372036854775808) (C : List Int) : num (numB x 8 ++ C) 8 = x := H.num x 8 C (by omega) h0 (by omega) (by omega)
theorem drop8 {x : Int} (h0 : 0 ≤ x) (h1 : x < 9223372036854775808) (C : List Int) : (numB x 8 ++ C).drop 8 = C := List.drop_left' (numB_lenD (n := 8) (by omega) h0 (by omega))
theorem len8 {x : Int} (h0 : 0 ≤ x) (h1 : x < 9223372036854775808) : (numB x 8).length = 8 := numB_lenD (n := 8) (by omega) h0 (by omega)
theorem rdSlot_app (H : Reads num part) {u : Bool} {d C : List Int} (hf : fitsB u d.length = true) : rdSlot num part (partB u d ++ C) = ((u, d), C) := by
  simp only [fitsB, Bool.and_eq_true, decide_eq_true_eq, Bool.or_eq_true] at hf
  unfold rdSlot partB
  cases u with
  | true =>
    have hd : (d.length : Int) < 65536 := by have := hf.1; omega
    have e1 : (1 :: (numB d.length 2 ++ d)) ++ C = numB 1 1 ++ (numB d.length 2 ++ (d ++ C)) := by
      rw [num_one (by omega)]; simp
    have d1 := drop1 (x := 1) (by omega) (by omega) (numB d.length 2 ++ (d ++ C))
    have d3 : (numB 1 1 ++ (numB (d.length : Int) 2 ++ (d ++ C))).drop 3 = d ++ C := by
      rw [show (3 : Nat) = 1 + 2 from rfl, ← List.drop_drop, d1, drop2 (by omega) hd]
    rw [if_pos rfl, e1, H.n1 (by omega) (by omega), if_pos rfl, d1, H.n2 (by omega) hd, d3, Int.toNat_natCast, H.part d C, List.drop_left]
  | false =>
    have h0 : d = [] := by
      rcases hf.2 with h | h
      · cases h
      · exact List.length_eq_zero_iff.1 h
    subst h0
    have n1 := H.n1 (x := 0) (by omega) (by omega) C
    rw [show numB 0 1 = [0] from by decide] at n1
    simp only [Bool.false_eq_true, if_false]
    rw [n1, if_neg (by decide)]
    rfl
def rdHead (num : List Int → Nat → Int) (rs : List Int) : Int × Int × Int := (num rs 1, num (rs.drop 1) 4, num (rs.drop 5) 8)
theorem rdHead_app (H : Reads num part) {k txn prev : Int} (hk : 1 ≤ k ∧ k ≤ 8) (ht : 0 ≤ txn ∧ txn ≤ 2147483648) (hp : 0 ≤ prev ∧ prev ≤ 1099511627776) (C : List Int) : rdHead num (headR k txn prev ++ C) = (k, txn, prev) ∧ (headR k txn prev ++ C).drop 13 = C := by
  have e : headR k txn prev ++ C = numB k 1 ++ (numB txn 4 ++ (numB prev 8 ++ C)) := by unfold headR; rw [num_one hk]; simp
  have d1 := drop1 (x := k) (by omega) (by omega) (numB txn 4 ++ (numB prev 8 ++ C))
  have d5 : (numB k 1 ++ (numB txn 4 ++ (numB prev 8 ++ C))).drop 5 = numB prev 8 ++ C := by
    rw [show (5 : Nat) = 1 + 4 from rfl, ← List.drop_drop, d1, drop4 (by omega) (by omega)]
  refine ⟨?_, ?_⟩
  · unfold rdHead
    rw [e, H.n1 (by omega) (by omega), d1, H.n4 (by omega) (by omega), d5, H.n8 (by omega) (by omega)]
  · rw [e, show (13 : Nat) = 5 + 8 from rfl, ← List.drop_drop, d5, drop8 (by omega) (by omega)]
theorem txB_len {bs : List Int} {i : Nat} (h : (1 ≤ bs.getD (i * 4) 0 ∧ bs.getD (i * 4) 0 ≤ 2147483647) ∧ (1 ≤ bs.getD (i * 4 + 1) 0 ∧ bs.getD (i * 4 + 1) 0 ≤ 3) ∧ (1 ≤ bs.getD (i * 4 + 2) 0 ∧ bs.getD (i * 4 + 2) 0 ≤ 1099511627776) ∧ (0 ≤ bs.getD (i * 4 + 3) 0 ∧ bs.getD (i * 4 + 3) 0 ≤ bs.getD (i * 4 + 2) 0)) : (txB bs i).length = 21 := by
  unfold txB
  simp only [List.length_append, len4 (show 0 ≤ bs.getD (i * 4) 0 by omega) (by omega), len1 (show 0 ≤ bs.getD (i * 4 + 1) 0 by omega) (by omega), len8 (show 0 ≤ bs.getD (i * 4 + 2) 0 by omega) (by omega), len8 (show 0 ≤ bs.getD (i * 4 + 3) 0 by omega) (by omega)]
theorem txE_app (H : Reads num part) {bs rs : List Int} {i : Nat} (C : List Int) (h : (1 ≤ bs.getD (i * 4) 0 ∧ bs.getD (i * 4) 0 ≤ 2147483647) ∧ (1 ≤ bs.getD (i * 4 + 1) 0 ∧ bs.getD (i * 4 + 1) 0 ≤ 3) ∧ (1 ≤ bs.getD (i * 4 + 2) 0 ∧ bs.getD (i * 4 + 2) 0 ≤ 1099511627776) ∧ (0 ≤ bs.getD (i * 4 + 3) 0 ∧ bs.getD (i * 4 + 3) 0 ≤ bs.getD (i * 4 + 2) 0)) (hr : rs.drop (21 * i) = txB bs i ++ C) :
    txE num rs i = [bs.getD (i * 4) 0, bs.getD (i * 4 + 1) 0, bs.getD (i * 4 + 2) 0, bs.getD (i * 4 + 3) 0] := by
  obtain ⟨a, ha⟩ : ∃ a, bs.getD (i * 4) 0 = a := ⟨_, rfl⟩
  obtain ⟨b, hb⟩ : ∃ a, bs.getD (i * 4 + 1) 0 = a := ⟨_, rfl⟩
  obtain ⟨c, hc⟩ : ∃ a, bs.getD (i * 4 + 2) 0 = a := ⟨_, rfl⟩
  obtain ⟨d, hd⟩ : ∃ a, bs.getD (i * 4 + 3) 0 = a := ⟨_, rfl⟩
  have e : rs.drop (21 * i) = numB a 4 ++ (numB b 1 ++ (numB c 8 ++ (numB d 8 ++ C))) := by rw [hr]; unfold txB; rw [ha, hb, hc, hd]; simp
  rw [ha, hb, hc, hd] at h
  rw [ha, hb, hc, hd]
  have e4 : rs.drop (21 * i + 4) = numB b 1 ++ (numB c 8 ++ (numB d 8 ++ C)) := by rw [← List.drop_drop, e, drop4 (by omega) (by omega)]
  have e5 : rs.drop (21 * i + 5) = numB c 8 ++ (numB d 8 ++ C) := by rw [show 21 * i + 5 = 21 * i + 4 + 1 from rfl, ← List.drop_drop, e4, drop1 (by omega) (by omega)]
  have e13 : rs.drop (21 * i + 13) = numB d 8 ++ C := by rw [show 21 * i + 13 = 21 * i + 5 + 8 from rfl, ← List.drop_drop, e5, drop8 (by omega) (by omega)]
  unfold txE
  rw [e, e4, e5, e13, H.n4 (by omega) (by omega), H.n1 (by omega) (by omega), H.n8 (by omega) (by omega), H.n8 (by omega) (by omega)]
theorem getD_at {bs : List Int} {k : Nat} (h : k < bs.length) : bs.getD k 0 = bs[k] := by simp [List.getD, List.getElem?_eq_getElem h]
theorem dyB_len {bs : List Int} {i : Nat} (h : (0 ≤ bs.getD (i * 2) 0 ∧ bs.getD (i * 2) 0 < 16) ∧ (1 ≤ bs.getD (i * 2 + 1) 0 ∧ bs.getD (i * 2 + 1) 0 ≤ 1099511627776)) : (dyB bs i).length = 10 := by
  unfold dyB
  simp only [List.length_append, len2 (show 0 ≤ bs.getD (i * 2) 0 by omega) (by omega), len8 (show 0 ≤ bs.getD (i * 2 + 1) 0 by omega) (by omega)]
theorem dyE_app (H : Reads num part) {bs rs : List Int} {i : Nat} (C : List Int) (h : (0 ≤ bs.getD (i * 2) 0 ∧ bs.getD (i * 2) 0 < 16) ∧ (1 ≤ bs.getD (i * 2 + 1) 0 ∧ bs.getD (i * 2 + 1) 0 ≤ 1099511627776)) (hr : rs.drop (10 * i) = dyB bs i ++ C) : dyE num rs i = [bs.getD (i * 2) 0, bs.getD (i * 2 + 1) 0] := by
  obtain ⟨a, ha⟩ : ∃ a, bs.getD (i * 2) 0 = a := ⟨_, rfl⟩
  obtain ⟨b, hb⟩ : ∃ a, bs.getD (i * 2 + 1) 0 = a := ⟨_, rfl⟩
  have e : rs.drop (10 * i) = numB a 2 ++ (numB b 8 ++ C) := by rw [hr]; unfold dyB; rw [ha, hb]; simp
  rw [ha, hb] at h
  rw [ha, hb]
  have e2 : rs.drop (10 * i + 2) = numB b 8 ++ C := by rw [← List.drop_drop, e, drop2 (by omega) (by omega)]
  unfold dyE
  rw [e, e2, H.n2 (by omega) (by omega), H.n8 (by omega) (by omega)]
theorem txsB_len {bs : List Int} : ∀ n : Nat, (∀ j, j < n → (1 ≤ bs.getD (j * 4) 0 ∧ bs.getD (j * 4) 0 ≤ 2147483647) ∧ (1 ≤ bs.getD (j * 4 + 1) 0 ∧ bs.getD (j * 4 + 1) 0 ≤ 3) ∧ (1 ≤ bs.getD (j * 4 + 2) 0 ∧ bs.getD (j * 4 + 2) 0 ≤ 1099511627776) ∧ (0 ≤ bs.getD (j * 4 + 3) 0 ∧ bs.getD (j * 4 + 3) 0 ≤ bs.getD (j * 4 + 2) 0)) → (txsB bs n).length = 21 * n
  | 0, _ => rfl
  | n + 1, h => by
    rw [txsB_succ, List.length_append, txsB_len n (fun j hj => h j (by omega)), txB_len (h n (by omega))]
    omega
theorem txsB_at {bs : List Int} {i : Nat} : ∀ n : Nat, i < n → ∃ R, txsB bs n = txsB bs i ++ (txB bs i ++ R)
  | 0, h => absurd h (by omega)
  | n + 1, h => by
    by_cases e : i = n
    · subst e
      exact ⟨[], by rw [txsB_succ]; simp⟩
    · obtain ⟨R, hR⟩ := txsB_at (bs := bs) (i := i) n (by omega)
      exact ⟨R ++ txB bs n, by rw [txsB_succ, hR]; simp⟩
theorem txCells (bs : List Int) : ∀ n : Nat, n * 4 ≤ bs.length → (List.range n).flatMap (fun i => [bs.getD (i * 4) 0, bs.getD (i * 4 + 1) 0, bs.getD (i * 4 + 2) 0, bs.getD (i * 4 + 3) 0]) = bs.take (n * 4)
  | 0, _ => by simp
  | n + 1, h => by
    rw [List.range_succ, List.flatMap_append, txCells bs n (by omega)]
    have e : bs.take ((n + 1) * 4) = bs.take (n * 4) ++ (bs.drop (n * 4)).take 4 := by rw [show (n + 1) * 4 = n * 4 + 4 by omega, List.take_add]
    rw [e]
    congr 1
    simp only [List.flatMap_cons, List.flatMap_nil, List.append_nil]
    apply List.ext_getElem
    · simp; omega
    · intro j h1 h2
      simp only [List.length_cons, List.length_nil] at h1
      rw [List.getElem_take, List.getElem_drop]
      rcases (by omega : j = 0 ∨ j = 1 ∨ j = 2 ∨ j = 3) with rfl | rfl | rfl | rfl <;> (simp only [List.getElem_cons_zero, List.getElem_cons_succ]; exact getD_at (by omega))
theorem txL_app (H : Reads num part) {bs C : List Int} {n : Nat} (hl : bs.length = n * 4) (hg : ∀ i, i < n → (1 ≤ bs.getD (i * 4) 0 ∧ bs.getD (i * 4) 0 ≤ 2147483647) ∧ (1 ≤ bs.getD (i * 4 + 1) 0 ∧ bs.getD (i * 4 + 1) 0 ≤ 3) ∧ (1 ≤ bs.getD (i * 4 + 2) 0 ∧ bs.getD (i * 4 + 2) 0 ≤ 1099511627776) ∧ (0 ≤ bs.getD (i * 4 + 3) 0 ∧ bs.getD (i * 4 + 3) 0 ≤ bs.getD (i * 4 + 2) 0)) : txL num (txsB bs n ++ C) n = bs := by
  unfold txL
  have e : ∀ i, i ∈ List.range n → txE num (txsB bs n ++ C) i = [bs.getD (i * 4) 0, bs.getD (i * 4 + 1) 0, bs.getD (i * 4 + 2) 0, bs.getD (i * 4 + 3) 0] := fun i hi => by
    have hi' := List.mem_range.1 hi
    obtain ⟨R, hR⟩ := txsB_at (bs := bs) n hi'
    refine txE_app H (R ++ C) (hg i hi') ?_
    rw [hR, List.append_assoc, List.append_assoc]
    exact List.drop_left' (txsB_len i (fun j hj => hg j (by omega)))
  have e2 : (List.range n).flatMap (txE num (txsB bs n ++ C)) = (List.range n).flatMap (fun i => [bs.getD (i * 4) 0, bs.getD (i * 4 + 1) 0, bs.getD (i * 4 + 2) 0, bs.getD (i * 4 + 3) 0]) := by
    rw [List.flatMap_def, List.flatMap_def, List.map_congr_left e]
  rw [e2, txCells bs n (by omega), ← hl, List.take_length]
theorem dysB_len {bs : List Int} : ∀ n : Nat, (∀ j, j < n → (0 ≤ bs.getD (j * 2) 0 ∧ bs.getD (j * 2) 0 < 16) ∧ (1 ≤ bs.getD (j * 2 + 1) 0 ∧ bs.getD (j * 2 + 1) 0 ≤ 1099511627776)) → (dysB bs n).length = 10 * n
  | 0, _ => rfl
  | n + 1, h => by
    rw [dysB_succ, List.length_append, dysB_len n (fun j hj => h j (by omega)), dyB_len (h n (by omega))]
    omega
theorem dysB_at {bs : List Int} {i : Nat} : ∀ n : Nat, i < n → ∃ R, dysB bs n = dysB bs i ++ (dyB bs i ++ R)
  | 0, h => absurd h (by omega)
  | n + 1, h => by
    by_cases e : i = n
    · subst e
      exact ⟨[], by rw [dysB_succ]; simp⟩
    · obtain ⟨R, hR⟩ := dysB_at (bs := bs) (i := i) n (by omega)
      exact ⟨R ++ dyB bs n, by rw [dysB_succ, hR]; simp⟩
theorem dyCells (bs : List Int) : ∀ n : Nat, n * 2 ≤ bs.length → (List.range n).flatMap (fun i => [bs.getD (i * 2) 0, bs.getD (i * 2 + 1) 0]) = bs.take (n * 2)
  | 0, _ => by simp
  | n + 1, h => by
    rw [List.range_succ, List.flatMap_append, dyCells bs n (by omega)]
    have e : bs.take ((n + 1) * 2) = bs.take (n * 2) ++ (bs.drop (n * 2)).take 2 := by rw [show (n + 1) * 2 = n * 2 + 2 by omega, List.take_add]
    rw [e]
    congr 1
    simp only [List.flatMap_cons, List.flatMap_nil, List.append_nil]
    apply List.ext_getElem
    · simp; omega
    · intro j h1 h2
      simp only [List.length_cons, List.length_nil] at h1
      rw [List.getElem_take, List.getElem_drop]
      rcases (by omega : j = 0 ∨ j = 1) with rfl | rfl <;> (simp only [List.getElem_cons_zero, List.getElem_cons_succ]; exact getD_at (by omega))
theorem dyL_app (H : Reads num part) {bs C : List Int} {n : Nat} (hl : bs.length = n * 2) (hg : ∀ i, i < n → (0 ≤ bs.getD (i * 2) 0 ∧ bs.getD (i * 2) 0 < 16) ∧ (1 ≤ bs.getD (i * 2 + 1) 0 ∧ bs.getD (i * 2 + 1) 0 ≤ 1099511627776)) : dyL num (dysB bs n ++ C) n = bs := by
  unfold dyL
  have e : ∀ i, i ∈ List.range n → dyE num (dysB bs n ++ C) i = [bs.getD (i * 2) 0, bs.getD (i * 2 + 1) 0] := fun i hi => by
    have hi' := List.mem_range.1 hi
    obtain ⟨R, hR⟩ := dysB_at (bs := bs) n hi'
    refine dyE_app H (R ++ C) (hg i hi') ?_
    rw [hR, List.append_assoc, List.append_assoc]
    exact List.drop_left' (dysB_len i (fun j hj => hg j (by omega)))
  have e2 : (List.range n).flatMap (dyE num (dysB bs n ++ C)) = (List.range n).flatMap (fun i => [bs.getD (i * 2) 0, bs.getD (i * 2 + 1) 0]) := by
    rw [List.flatMap_def, List.flatMap_def, List.map_congr_left e]
  rw [e2, dyCells bs n (by omega), ← hl, List.take_length]
theorem nil_of {xs : List Int} {m : Nat} (hm : 0 < m) (h : xs.length / m = 0) (h2 : xs.length % m = 0) : xs = [] := by
  have h3 := Nat.div_add_mod xs.length m
  rw [h, h2] at h3
  exact List.length_eq_zero_iff.1 (by simpa using h3.symm)
theorem two_parts (H : Reads num part) {page slot : Int} (hp : 0 ≤ page ∧ page < 16) (hs : 0 ≤ slot ∧ slot < 32) (C : List Int) : num (numB page 2 ++ (numB slot 2 ++ C)) 2 = page ∧ num ((numB page 2 ++ (numB slot 2 ++ C)).drop 2) 2 = slot ∧ (numB page 2 ++ (numB slot 2 ++ C)).drop 4 = C := by
  have d2 := drop2 (x := page) (by omega) (by omega) (numB slot 2 ++ C)
  refine ⟨H.n2 (by omega) (by omega) _, ?_, ?_⟩
  · rw [d2, H.n2 (by omega) (by omega)]
  · rw [show (4 : Nat) = 2 + 2 from rfl, ← List.drop_drop, d2, drop2 (by omega) (by omega)]
def Back (num : List Int → Nat → Int) (part : List Int → Nat → List Int) (k txn prev page slot : Int) (bu : Bool) (bb : List Int) (au : Bool) (ab : List Int) (un nt : Int) (tx dy im : List Int) : Prop :=
  rdHead num (recBy k txn prev page slot bu bb au ab un nt tx dy im) = (k, txn, prev) ∧ rdBody num part k txn prev ((recBy k txn prev page slot bu bb au ab un nt tx dy im).drop 13) = (k, txn, prev, page, slot, (bu, bb), (au, ab), un, nt, tx, dy, im)
theorem back1 (H : Reads num part) {txn prev page slot un nt : Int} {bu au : Bool} {bb ab tx dy im : List Int} (h : recF 1 txn prev page slot bu bb au ab un nt tx dy im = 0) (h4 : tx.length % 4 = 0) (h2 : dy.length % 2 = 0) : Back num part 1 txn prev page slot bu bb au ab un nt tx dy im := by
  obtain ⟨⟨g1, g2⟩, ⟨g3, g4⟩, _, _⟩ := good1 h
  unfold recF at h
  rw [if_pos rfl] at h
  split at h
  case isFalse => omega
  rename_i ha
  obtain ⟨_, _, hu⟩ := orF_zero h
  have hf : fitsB bu bb.length = true ∧ fitsB au ab.length = true := by
    unfold updF at hu
    split at hu
    · rename_i hq
      simp only [Bool.and_eq_true] at hq
      exact hq.1
    · omega
  simp only [alone1, Bool.and_eq_true, decide_eq_true_eq] at ha
  obtain ⟨⟨⟨⟨e1, e2⟩, e3⟩, e4⟩, e5⟩ := ha
  obtain rfl := nil_of (by omega) e3 h4
  obtain rfl := nil_of (by omega) e4 h2
  subst e1 e2 e5
  have eb : recBy 1 txn prev page slot bu bb au ab 0 0 [] [] [] = headR 1 txn prev ++ (numB page 2 ++ (numB slot 2 ++ (partB bu bb ++ (partB au ab ++ [])))) := by simp [recBy]
  obtain ⟨q1, q2⟩ := rdHead_app H (k := 1) (txn := txn) (prev := prev) (by omega) (by omega) g2 (numB page 2 ++ (numB slot 2 ++ (partB bu bb ++ (partB au ab ++ []))))
  obtain ⟨q3, q4, q5⟩ := two_parts H g3 g4 (partB bu bb ++ (partB au ab ++ []))
  unfold Back
  rw [eb, q1, q2]
  refine ⟨rfl, ?_⟩
  unfold rdBody
  rw [if_pos rfl, q3, q4, q5, rdSlot_app H hf.1]
  dsimp only
  rw [rdSlot_app H hf.2]
theorem back2 (H : Reads num part) {txn prev page slot un nt : Int} {bu au : Bool} {bb ab tx dy im : List Int} (h : recF 2 txn prev page slot bu bb au ab un nt tx dy im = 0) (h4 : tx.length % 4 = 0) (h2 : dy.length % 2 = 0) : Back num part 2 txn prev page slot bu bb au ab un nt tx dy im := by
  obtain ⟨⟨g1, g2⟩, ⟨g3, g4⟩, _, g5⟩ := good2 h
  unfold recF at h
  rw [if_neg (by decide), if_pos rfl] at h
  split at h
  case isFalse => omega
  rename_i ha
  obtain ⟨_, _, hu⟩ := orF_zero h
  have hf : fitsB au ab.length = true := by
    unfold undF at hu
    split at hu
    · omega
    · rename_i hq
      simpa using hq
  simp only [alone2, Bool.and_eq_true, decide_eq_true_eq, beq_iff_eq] at ha
  obtain ⟨⟨⟨⟨⟨e0, e1⟩, e2⟩, e3⟩, e4⟩, e5⟩ := ha
  obtain rfl := nil_of (by omega) e3 h4
  obtain rfl := nil_of (by omega) e4 h2
  subst e0 e1 e2 e5
  have eb : recBy 2 txn prev page slot false [] au ab un 0 [] [] [] = headR 2 txn prev ++ (numB page 2 ++ (numB slot 2 ++ (partB au ab ++ (numB un 8 ++ [])))) := by simp [recBy]
  obtain ⟨q1, q2⟩ := rdHead_app H (k := 2) (txn := txn) (prev := prev) (by omega) (by omega) g2 (numB page 2 ++ (numB slot 2 ++ (partB au ab ++ (numB un 8 ++ []))))
  obtain ⟨q3, q4, q5⟩ := two_parts H g3 g4 (partB au ab ++ (numB un 8 ++ []))
  unfold Back
  rw [eb, q1, q2]
  refine ⟨rfl, ?_⟩
  unfold rdBody
  rw [if_neg (by decide), if_pos rfl, q3, q4, q5, rdSlot_app H hf]
  dsimp only
  rw [H.n8 (by omega) (by omega)]
theorem back3 (H : Reads num part) {txn prev page slot un nt : Int} {bu au : Bool} {bb ab tx dy im : List Int} (h : recF 3 txn prev page slot bu bb au ab un nt tx dy im = 0) (h4 : tx.length % 4 = 0) (h2 : dy.length % 2 = 0) : Back num part 3 txn prev page slot bu bb au ab un nt tx dy im := by
  obtain ⟨g1, g2⟩ := good3 h
  unfold recF at h
  rw [if_neg (by decide), if_neg (by decide), if_pos rfl] at h
  split at h
  case isFalse => omega
  rename_i ha
  simp only [alone3, Bool.and_eq_true, decide_eq_true_eq, beq_iff_eq] at ha
  obtain ⟨⟨⟨⟨⟨⟨⟨⟨a1, a2⟩, a3, a4⟩, a5, a6⟩, e1⟩, e2⟩, e3⟩, e4⟩, e5⟩ := ha
  obtain rfl := nil_of (by omega) e3 h4
  obtain rfl := nil_of (by omega) e4 h2
  subst a1 a2 a3 a4 a5 a6 e1 e2 e5
  have eb : recBy 3 txn prev 0 0 false [] false [] 0 0 [] [] [] = headR 3 txn prev ++ [] := by simp [recBy]
  obtain ⟨q1, q2⟩ := rdHead_app H (k := 3) (txn := txn) (prev := prev) (by omega) (by omega) (by omega) []
  unfold Back
  rw [eb, q1, q2]
  exact ⟨rfl, rfl⟩
theorem back4 (H : Reads num part) {txn prev page slot un nt : Int} {bu au : Bool} {bb ab tx dy im : List Int} (h : recF 4 txn prev page slot bu bb au ab un nt tx dy im = 0) (h4 : tx.length % 4 = 0) (h2 : dy.length % 2 = 0) : Back num part 4 txn prev page slot bu bb au ab un nt tx dy im := by
  obtain ⟨g1, g2⟩ := good4 h
  unfold recF at h
  rw [if_neg (by decide), if_neg (by decide), if_neg (by decide), if_pos rfl] at h
  split at h
  case isFalse => omega
  rename_i ha
  simp only [alone4, Bool.and_eq_true, decide_eq_true_eq, beq_iff_eq] at ha
  obtain ⟨⟨⟨⟨⟨⟨⟨⟨a1, a2⟩, a3, a4⟩, a5, a6⟩, e1⟩, e2⟩, e3⟩, e4⟩, e5⟩ := ha
  obtain rfl := nil_of (by omega) e3 h4
  obtain rfl := nil_of (by omega) e4 h2
  subst a1 a2 a3 a4 a5 a6 e1 e2 e5
  have eb : recBy 4 txn prev 0 0 false [] false [] 0 0 [] [] [] = headR 4 txn prev ++ [] := by simp [recBy]
  obtain ⟨q1, q2⟩ := rdHead_app H (k := 4) (txn := txn) (prev := prev) (by omega) (by omega) (by omega) []
  unfold Back
  rw [eb, q1, q2]
  exact ⟨rfl, rfl⟩
theorem back5 (H : Reads num part) {txn prev page slot un nt : Int} {bu au : Bool} {bb ab tx dy im : List Int} (h : recF 5 txn prev page slot bu bb au ab un nt tx dy im = 0) (h4 : tx.length % 4 = 0) (h2 : dy.length % 2 = 0) : Back num part 5 txn prev page slot bu bb au ab un nt tx dy im := by
  obtain ⟨g1, g2⟩ := good5 h
  unfold recF at h
  rw [if_neg (by decide), if_neg (by decide), if_neg (by decide), if_neg (by decide), if_pos rfl] at h
  split at h
  case isFalse => omega
  rename_i ha
  simp only [alone5, Bool.and_eq_true, decide_eq_true_eq, beq_iff_eq] at ha
  obtain ⟨⟨⟨⟨⟨⟨⟨⟨a1, a2⟩, a3, a4⟩, a5, a6⟩, e1⟩, e2⟩, e3⟩, e4⟩, e5⟩ := ha
  obtain rfl := nil_of (by omega) e3 h4
  obtain rfl := nil_of (by omega) e4 h2
  subst a1 a2 a3 a4 a5 a6 e1 e2 e5
  have eb : recBy 5 txn prev 0 0 false [] false [] 0 0 [] [] [] = headR 5 txn prev ++ [] := by simp [recBy]
  obtain ⟨q1, q2⟩ := rdHead_app H (k := 5) (txn := txn) (prev := prev) (by omega) (by omega) (by omega) []
  unfold Back
  rw [eb, q1, q2]
  exact ⟨rfl, rfl⟩
theorem back6 (H : Reads num part) {txn prev page slot un nt : Int} {bu au : Bool} {bb ab tx dy im : List Int} (h : recF 6 txn prev page slot bu bb au ab un nt tx dy im = 0) (h4 : tx.length % 4 = 0) (h2 : dy.length % 2 = 0) : Back num part 6 txn prev page slot bu bb au ab un nt tx dy im := by
  obtain ⟨g1, g2⟩ := good6 h
  unfold recF at h
  rw [if_neg (by decide), if_neg (by decide), if_neg (by decide), if_neg (by decide), if_neg (by decide), if_pos rfl] at h
  split at h
  case isFalse => omega
  rename_i ha
  simp only [alone6, Bool.and_eq_true, decide_eq_true_eq, beq_iff_eq] at ha
  obtain ⟨⟨⟨⟨⟨⟨⟨⟨⟨⟨b1, b2⟩, a1⟩, a2⟩, a3, a4⟩, a5, a6⟩, e1⟩, e2⟩, e3⟩, e4⟩, e5⟩ := ha
  obtain rfl := nil_of (by omega) e3 h4
  obtain rfl := nil_of (by omega) e4 h2
  subst a1 a2 a3 a4 a5 a6 e1 e2 e5
  have eb : recBy 6 txn prev 0 0 false [] false [] 0 0 [] [] [] = headR 6 txn prev ++ [] := by simp [recBy]
  obtain ⟨q1, q2⟩ := rdHead_app H (k := 6) (txn := txn) (prev := prev) (by omega) (by omega) (by omega) []
  unfold Back
  rw [eb, q1, q2]
  exact ⟨rfl, rfl⟩
theorem back8 (H : Reads num part) {txn prev page slot un nt : Int} {bu au : Bool} {bb ab tx dy im : List Int} (h : recF 8 txn prev page slot bu bb au ab un nt tx dy im = 0) (h4 : tx.length % 4 = 0) (h2 : dy.length % 2 = 0) : Back num part 8 txn prev page slot bu bb au ab un nt tx dy im := by
  obtain ⟨g1, g2, g3, g4⟩ := good8 h
  unfold recF at h
  rw [if_neg (by decide), if_neg (by decide), if_neg (by decide), if_neg (by decide), if_neg (by decide), if_neg (by decide), if_neg (by decide), if_pos rfl] at h
  split at h
  case isFalse => omega
  rename_i ha
  simp only [alone8, Bool.and_eq_true, decide_eq_true_eq, beq_iff_eq] at ha
  obtain ⟨⟨⟨⟨⟨⟨⟨⟨b1, b2⟩, a2⟩, a3, a4⟩, a5, a6⟩, e1⟩, e2⟩, e3⟩, e4⟩ := ha
  obtain rfl := nil_of (by omega) e3 h4
  obtain rfl := nil_of (by omega) e4 h2
  subst a2 a3 a4 a5 a6 e1 e2
  have eb : recBy 8 txn prev page 0 false [] false [] 0 0 [] [] im = headR 8 txn prev ++ (numB page 2 ++ (im ++ [])) := by simp [recBy]
  obtain ⟨q1, q2⟩ := rdHead_app H (k := 8) (txn := txn) (prev := prev) (by omega) (by omega) (by omega) (numB page 2 ++ (im ++ []))
  unfold Back
  rw [eb, q1, q2]
  refine ⟨rfl, ?_⟩
  unfold rdBody
  rw [if_neg (by decide), if_neg (by decide), if_neg (by decide), if_pos rfl, H.n2 (by omega) (by omega), drop2 (by omega) (by omega), ← g4, H.part im []]
theorem back7 (H : Reads num part) {txn prev page slot un nt : Int} {bu au : Bool} {bb ab tx dy im : List Int} (h : recF 7 txn prev page slot bu bb au ab un nt tx dy im = 0) (h4 : tx.length % 4 = 0) (h2 : dy.length % 2 = 0) : Back num part 7 txn prev page slot bu bb au ab un nt tx dy im := by
  obtain ⟨g1, g2, g3, g4, g5⟩ := good7 h
  obtain ⟨t1, t2⟩ := tXgood g4
  obtain ⟨y1, y2⟩ := dYgood g5
  unfold recF at h
  rw [if_neg (by decide), if_neg (by decide), if_neg (by decide), if_neg (by decide), if_neg (by decide), if_neg (by decide), if_pos rfl] at h
  split at h
  case isFalse => omega
  rename_i ha
  simp only [alone7, Bool.and_eq_true, decide_eq_true_eq, beq_iff_eq] at ha
  obtain ⟨⟨⟨⟨⟨⟨⟨b1, b2⟩, a1⟩, a2⟩, a3, a4⟩, a5, a6⟩, e1⟩, e5⟩ := ha
  subst a1 a2 a3 a4 a5 a6 e1 e5
  obtain ⟨n, hn⟩ : ∃ n, tx.length / 4 = n := ⟨_, rfl⟩
  obtain ⟨m, hm⟩ : ∃ m, dy.length / 2 = m := ⟨_, rfl⟩
  have hl : tx.length = n * 4 := by omega
  have hk : dy.length = m * 2 := by omega
  rw [hn] at t1 t2
  rw [hm] at y1 y2
  have eb : recBy 7 txn prev 0 0 false [] false [] 0 nt tx dy [] = headR 7 txn prev ++ (numB nt 4 ++ (numB (n : Int) 1 ++ (txsB tx n ++ (numB (m : Int) 1 ++ (dysB dy m ++ []))))) := by simp [recBy, hn, hm]
  obtain ⟨q1, q2⟩ := rdHead_app H (k := 7) (txn := txn) (prev := prev) (by omega) (by omega) (by omega) (numB nt 4 ++ (numB (n : Int) 1 ++ (txsB tx n ++ (numB (m : Int) 1 ++ (dysB dy m ++ [])))))
  unfold Back
  rw [eb, q1, q2]
  refine ⟨rfl, ?_⟩
  have d4 := drop4 (x := nt) (by omega) (by omega) (numB (n : Int) 1 ++ (txsB tx n ++ (numB (m : Int) 1 ++ (dysB dy m ++ []))))
  have d5 : (numB nt 4 ++ (numB (n : Int) 1 ++ (txsB tx n ++ (numB (m : Int) 1 ++ (dysB dy m ++ []))))).drop 5 = txsB tx n ++ (numB (m : Int) 1 ++ (dysB dy m ++ [])) := by rw [show (5 : Nat) = 4 + 1 from rfl, ← List.drop_drop, d4, drop1 (by omega) (by omega)]
  have d6 : (txsB tx n ++ (numB (m : Int) 1 ++ (dysB dy m ++ []))).drop (21 * n) = numB (m : Int) 1 ++ (dysB dy m ++ []) := List.drop_left' (txsB_len n t2)
  unfold rdBody
  rw [if_neg (by decide), if_neg (by decide), if_pos rfl, H.n4 (by omega) (by omega), d4, H.n1 (by omega) (by omega), d5, Int.toNat_natCast, txL_app H hl t2, ← List.drop_drop, d6, H.n1 (by omega) (by omega), drop1 (by omega) (by omega), Int.toNat_natCast, dyL_app H hk y2]
theorem back_all (H : Reads num part) {k txn prev page slot un nt : Int} {bu au : Bool} {bb ab tx dy im : List Int} (h : recF k txn prev page slot bu bb au ab un nt tx dy im = 0) (h4 : tx.length % 4 = 0) (h2 : dy.length % 2 = 0) : Back num part k txn prev page slot bu bb au ab un nt tx dy im := by
  by_cases k1 : k = 1
  · subst k1; exact back1 H h h4 h2
  by_cases k2 : k = 2
  · subst k2; exact back2 H h h4 h2
  by_cases k3 : k = 3
  · subst k3; exact back3 H h h4 h2
  by_cases k4 : k = 4
  · subst k4; exact back4 H h h4 h2
  by_cases k5 : k = 5
  · subst k5; exact back5 H h h4 h2
  by_cases k6 : k = 6
  · subst k6; exact back6 H h h4 h2
  by_cases k7 : k = 7
  · subst k7; exact back7 H h h4 h2
  by_cases k8 : k = 8
  · subst k8; exact back8 H h h4 h2
  exfalso
  unfold recF at h
  rw [if_neg k1, if_neg k2, if_neg k3, if_neg k4, if_neg k5, if_neg k6, if_neg k7, if_neg k8] at h
  omega
end
def flatOK (d : RecD) : Prop := d.2.2.2.2.2.2.2.2.2.1.length % 4 = 0 ∧ d.2.2.2.2.2.2.2.2.2.2.1.length % 2 = 0
theorem parS_back {d : RecD} (hz : recFd d = 0) (hf : flatOK d) : parS (recBd d) = d := by
  obtain ⟨k, txn, prev, page, slot, ⟨bu, bb⟩, ⟨au, ab⟩, un, nt, tx, dy, im⟩ := d
  obtain ⟨h1, h2⟩ := back_all reads_S (k := k) hz hf.1 hf.2
  unfold rdHead at h1
  simp only [Prod.mk.injEq] at h1
  obtain ⟨e1, e2, e3⟩ := h1
  unfold parS
  show rdBody nS padB (nS (recBy k txn prev page slot bu bb au ab un nt tx dy im) 1) _ _ _ = _
  rw [e1]
  show rdBody nS padB k (nS ((recBy k txn prev page slot bu bb au ab un nt tx dy im).drop 1) 4) _ _ = _
  rw [e2]
  show rdBody nS padB k txn (nS ((recBy k txn prev page slot bu bb au ab un nt tx dy im).drop 5) 8) _ = _
  rw [e3]
  exact h2
theorem rec_head {k txn prev page slot un nt : Int} {bu au : Bool} {bb ab tx dy im : List Int} (h : recF k txn prev page slot bu bb au ab un nt tx dy im = 0) (hk : ¬ k ≤ 5) : txn = 0 ∧ prev = 0 := by
  by_cases k6 : k = 6
  · subst k6; exact good6 h
  by_cases k7 : k = 7
  · subst k7; exact ⟨(good7 h).1, (good7 h).2.1⟩
  by_cases k8 : k = 8
  · subst k8; exact ⟨(good8 h).1, (good8 h).2.1⟩
  exfalso
  unfold recF at h
  rw [if_neg (by omega), if_neg (by omega), if_neg (by omega), if_neg (by omega), if_neg (by omega), if_neg k6, if_neg k7, if_neg k8] at h
  omega
theorem parI_back {d : RecD} (hz : recFd d = 0) (hf : flatOK d) : parI (recBd d) = d := by
  obtain ⟨k, txn, prev, page, slot, ⟨bu, bb⟩, ⟨au, ab⟩, un, nt, tx, dy, im⟩ := d
  obtain ⟨h1, h2⟩ := back_all reads_I (k := k) hz hf.1 hf.2
  have h3 := rec_head (k := k) hz
  unfold rdHead at h1
  simp only [Prod.mk.injEq] at h1
  obtain ⟨e1, e2, e3⟩ := h1
  unfold parI
  show rdBody nI _ (nI (recBy k txn prev page slot bu bb au ab un nt tx dy im) 1) (if nI (recBy k txn prev page slot bu bb au ab un nt tx dy im) 1 ≤ 5 then _ else _) (if nI (recBy k txn prev page slot bu bb au ab un nt tx dy im) 1 ≤ 5 then _ else _) _ = _
  rw [e1]
  show rdBody nI _ k (if k ≤ 5 then (nI ((recBy k txn prev page slot bu bb au ab un nt tx dy im).drop 1) 4) else 0) (if k ≤ 5 then (nI ((recBy k txn prev page slot bu bb au ab un nt tx dy im).drop 5) 8) else 0) _ = _
  rw [e2, e3]
  by_cases hk : k ≤ 5
  · rw [if_pos hk, if_pos hk]; exact h2
  · obtain ⟨r1, r2⟩ := h3 hk
    dsimp only at r1 r2
    subst r1 r2
    rw [if_neg hk]
    exact h2
theorem rdBody_flat (num : List Int → Nat → Int) (part : List Int → Nat → List Int) (k txn prev : Int) (r : List Int) : flatOK (rdBody num part k txn prev r) := by
  unfold rdBody flatOK
  split
  · exact ⟨rfl, rfl⟩
  split
  · exact ⟨rfl, rfl⟩
  split
  · refine ⟨?_, ?_⟩
    · show (txL num _ _).length % 4 = 0
      unfold txL
      rw [flatMap_len (m := 4) (fun i => rfl)]
      omega
    · show (dyL num _ _).length % 2 = 0
      unfold dyL
      rw [flatMap_len (m := 2) (fun i => rfl)]
      omega
  split
  · exact ⟨rfl, rfl⟩
  · exact ⟨rfl, rfl⟩
def decD (bs : List Int) : Bool × RecD := if recFd (parS bs) = 0 ∧ recBd (parS bs) = bs then (true, parS bs) else (false, zeroR)
theorem decD_I (bs : List Int) : decD bs = if recFd (parI bs) = 0 ∧ recBd (parI bs) = bs then (true, parI bs) else (false, zeroR) := by
  unfold decD
  by_cases h : recFd (parS bs) = 0 ∧ recBd (parS bs) = bs
  · have e : parI bs = parS bs := by
      have h1 := parI_back h.1 (rdBody_flat _ _ _ _ _ _)
      rwa [h.2] at h1
    rw [if_pos h, e, if_pos h]
  · rw [if_neg h]
    by_cases h' : recFd (parI bs) = 0 ∧ recBd (parI bs) = bs
    · exfalso
      have e : parS bs = parI bs := by
        have h1 := parS_back h'.1 (rdBody_flat _ _ _ _ _ _)
        rwa [h'.2] at h1
      rw [e] at h
      exact h h'
    · rw [if_neg h']
def zeroF (c : Int) : Int × Int × Int × RecD := (c, 0, 0, zeroR)
def decG (bs : List Int) (size : Nat) (lsn least most : Int) : Int × Int × Int × RecD :=
  if getN ((bs.drop 4).take 4) ≠ crcOn 0 ((bs.drop 8).take (size - 8)) then zeroF 2
  else if getN ((bs.drop 8).take 8) ≠ lsn ∨ lsn < 0 then zeroF 3
  else if getN ((bs.drop 16).take 4) < least ∨ most < getN ((bs.drop 16).take 4) then zeroF 4
  else if (decD ((bs.drop 20).take (size - 20))).1 = true then (0, (size : Int), getN ((bs.drop 16).take 4), (decD ((bs.drop 20).take (size - 20))).2) else zeroF 5
abbrev frOK (bs : List Int) : Prop := 20 ≤ bs.length ∧ 33 ≤ getN (bs.take 4) ∧ getN (bs.take 4) ≤ 4131 ∧ getN (bs.take 4) ≤ bs.length
def decF (bs : List Int) (lsn least most : Int) : Int × Int × Int × RecD :=
  if frOK bs then decG bs (getN (bs.take 4)).toNat lsn least most else zeroF 1
theorem lsn_bytes {xs : List Int} {lsn : Int} (hB : IsB xs) (hl : xs.length = 8) (hI : IsI lsn) : xs = numB lsn 8 ↔ ¬ (getN xs ≠ lsn ∨ lsn < 0) := by
  constructor
  · intro h
    have hne : numB lsn 8 ≠ [] := fun e => by rw [h, e] at hl; simp at hl
    have h1 := getN_numB lsn 8 hI hne
    have h0 : 0 ≤ lsn := by
      by_cases h0 : 0 ≤ lsn
      · exact h0
      · exfalso
        apply hne
        unfold numB
        rw [if_pos (by omega)]
    rw [← h] at h1
    omega
  · intro h
    have h1 : getN xs = lsn := by omega
    have h0 : 0 ≤ lsn := by omega
    have h2 : num xs = lsn := by
      unfold getN at h1
      split at h1
      · omega
      · exact h1
    have h3 := lows_num xs hB
    rw [hl, h2] at h3
    have h4 := numB_lows (x := lsn) (n := 8) (by omega) h0 (by unfold IsI at hI; omega)
    exact h3.symm.trans h4.symm
theorem Rd.cut {w : World} {b off c : Nat} {raw : List Int} (h : Rd .u8 w (.slice (some ⟨b, off, none⟩) raw.length c) raw) (x y : Nat) (hxy : x + y ≤ raw.length) :
    Rd .u8 w (.slice (some (if c = x then ⟨b, off, none⟩ else ⟨b, off + x, none⟩)) y (c - x)) ((raw.drop x).take y) := by
  have hl : ((raw.drop x).take y).length = y := by simp; omega
  rcases h.2 with ⟨rfl, _⟩ | ⟨b', off', c', he, hle, hc⟩
  · simp at hxy
    obtain ⟨rfl, rfl⟩ := hxy
    exact ⟨by simp, .inl ⟨by simp, _, _, rfl, fun h => by cases h⟩⟩
  · injection he with h1 h2 h3
    injection h1 with h1
    injection h1 with h1 h4
    subst h1 h4 h3
    by_cases h0 : y = 0
    · subst h0
      exact ⟨by rw [hl]; simp, .inl ⟨by simp, _, _, rfl, fun h => by cases h⟩⟩
    · rw [if_neg (by omega)]
      refine ⟨by have := h.1; omega, .inr ⟨b, off + x, c - x, by rw [hl], by omega, fun i hi => ?_⟩⟩
      rw [hl] at hi
      rw [Nat.add_assoc, hc (x + i) (by omega)]
      simp [List.getD, List.getElem?_take, List.getElem?_drop, hi]
theorem Rd.part {k : IntKind} {w : World} {b off n c : Nat} {bs : List Int} (h : ∀ i, i < bs.length → w.cell? ⟨b, off + i, none⟩ = some (.int k (bs.getD i 0))) (lo m : Nat) (hm : lo + m ≤ bs.length) (hn : n = m) (hc : m ≤ c) (hmax : m ≤ maxLen) :
    Rd k w (.slice (some ⟨b, off + lo, none⟩) n c) ((bs.drop lo).take m) := by
  have hl : ((bs.drop lo).take m).length = m := by simp; omega
  refine ⟨by omega, .inr ⟨b, off + lo, c, by rw [hn, hl], by rw [hl]; exact hc, fun i hi => ?_⟩⟩
  rw [hl] at hi
  have h1 := h (lo + i) (by omega)
  rw [← Nat.add_assoc] at h1
  rw [h1]
  simp [List.getD, hi]
structure RI (wx : World) (B0 P : Nat) (rs : List Int) : Prop where
  at_ : ∃ v, Blk wx P 136 [v] ∧ ∀ wy, Kept (fun b => B0 ≤ b) wx wy → Rd .u8 wy v rs
  le : B0 ≤ P
theorem RI.keep {F : Nat → Prop} {wx wy : World} {B0 P : Nat} {rs : List Int} (h : RI wx B0 P rs) (hk : Kept F wx wy) (hP : ¬ F P) (hF : ∀ b, b < wx.heap.size → F b → B0 ≤ b) : RI wy B0 P rs := by
  obtain ⟨⟨v, h1, h2⟩, h3⟩ := h
  exact ⟨⟨v, h1.kept hk hP, fun wz hz => h2 wz ((hk.mono hF).trans hz)⟩, h3⟩
theorem RI.same {wx wy : World} {B0 P : Nat} {rs : List Int} (h : RI wx B0 P rs) (hk : Same wx wy) : RI wy B0 P rs := h.keep hk id (fun _ _ e => e.elim)
theorem RI.lt {wx : World} {B0 P : Nat} {rs : List Int} (h : RI wx B0 P rs) : P < wx.heap.size := by
  obtain ⟨⟨v, h1, h2⟩, h3⟩ := h
  exact h1.lt
theorem Rd.headP {w : World} {b off c : Nat} {raw : List Int} (h : Rd .u8 w (.slice (some ⟨b, off, none⟩) raw.length c) raw) (m : Nat) (hm : m ≤ raw.length) : Rd .u8 w (.slice (some ⟨b, off, none⟩) m c) (raw.take m) := by
  have h1 := h.cut 0 m (by omega)
  have e : (if c = 0 then (⟨b, off, none⟩ : Addr) else ⟨b, off + 0, none⟩) = ⟨b, off, none⟩ := by split <;> rfl
  rw [e] at h1
  exact h1
theorem Rd.restP {w : World} {b off c : Nat} {raw : List Int} (h : Rd .u8 w (.slice (some ⟨b, off, none⟩) raw.length c) raw) (m k o k2 : Nat) (hm : m ≤ raw.length) (hk : k = raw.length - m) (ho : o = if c = m then off else off + m) (h2 : k2 = c - m) : Rd .u8 w (.slice (some ⟨b, o, none⟩) k k2) (raw.drop m) := by
  have h1 := h.cut m (raw.length - m) (by omega)
  rw [List.take_of_length_le (by rw [List.length_drop]; omega)] at h1
  have e : (if c = m then (⟨b, off, none⟩ : Addr) else ⟨b, off + m, none⟩) = ⟨b, o, none⟩ := by rw [ho]; split <;> rfl
  rw [e, ← hk, ← h2] at h1
  exact h1
theorem take_ri {w : World} {B0 P : Nat} {rs : List Int} (n : Int) (hn : -1 ≤ n ∧ n ≤ 65536) (hl : rs.length ≤ 1099511627776) (h : RI w B0 P rs) :
    Calls Tryz.prog 87 #[.pointer (some ⟨P, 0, none⟩), .int .i64 n] w fun e w' => ∃ a c, e = .returned (.slice a (rs.take n.toNat).length c) ∧ (∀ wy, Kept (fun b => B0 ≤ b) w' wy → Rd .u8 wy (.slice a (rs.take n.toNat).length c) (rs.take n.toNat)) ∧ RI w' B0 P (rs.drop n.toNat) ∧ Kept (fun b => b = P) w w' := by
  obtain ⟨⟨v, h1, h2⟩, h3⟩ := h
  have hks : ∀ x, Kept (fun b => b = P) w (w.setCell ⟨P, 0, none⟩ x) := fun x => (Kept.refl (fun b => b = P) w).setCell (p := ⟨P, 0, none⟩) (.inr rfl) _
  have hup : ∀ x wy, Kept (fun b => B0 ≤ b) (w.setCell ⟨P, 0, none⟩ x) wy → Kept (fun b => B0 ≤ b) w wy := fun x wy hy => ((hks x).mono (fun b _ e => by omega)).trans hy
  have HKS := hid hks
  have HUP := hid hup
  have HB := hid h1
  have c0 := h1.c0
  have fb := h1.frozen
  have hlt := h1.lt
  obtain ⟨m, hm⟩ : ∃ m : Nat, min n.toNat rs.length = m := ⟨_, rfl⟩
  have hm1 : m ≤ rs.length := by omega
  have e1 : rs.take n.toNat = rs.take m := by rw [← hm, List.take_eq_take_iff]; omega
  have e2 : rs.drop n.toNat = rs.drop m := by rw [← hm]; by_cases h : n.toNat ≤ rs.length; rw [Nat.min_eq_left h]; rw [Nat.min_eq_right (by omega), List.drop_length, List.drop_eq_nil_of_le (by omega)]
  have el : (rs.take m).length = m := by rw [List.length_take]; omega
  rw [e1, e2, el]
  have HV := hid h2
  clear hks h1 h2 hup e1 e2 el
  rcases (HV.out w (Kept.refl _ _)).2 with ⟨rfl, a, c, rfl, hac⟩ | ⟨b, off, c, rfl, hle, hx⟩
  · obtain rfl : m = 0 := by simpa using hm1
    have hn0 : max 0 (min n 0) = 0 := by omega
    rcases a with _ | a
    · obtain rfl : c = 0 := by first | exact hac rfl | simpa using hac
      go_enter Tryz.func87, Tryz.ntmps87
      go_wp2
      all_goals refine bodyPost_ret (v := .slice none 0 0) (by simp [results, Tryz.results87, go_sem]) rfl ⟨_, _, rfl, fun wy hy => ?_, ⟨⟨_, HB.out.stored 0 _, fun wy hy => ?_⟩, h3⟩, HKS.out _⟩
      all_goals exact HV.out wy (HUP.out _ wy hy)
    · go_enter Tryz.func87, Tryz.ntmps87
      go_wp2
      all_goals refine bodyPost_ret (v := .slice (some a) 0 c) (by simp [results, Tryz.results87, go_sem]) rfl ⟨_, _, rfl, fun wy hy => ?_, ⟨⟨_, HB.out.stored 0 _, fun wy hy => ?_⟩, h3⟩, HKS.out _⟩
      all_goals exact HV.out wy (HUP.out _ wy hy)
  · clear hx
    by_cases hn0 : n < 0
    · obtain rfl : m = 0 := by omega
      go_enter Tryz.func87, Tryz.ntmps87
      go_wp2
      all_goals refine bodyPost_ret (v := .slice (some ⟨b, off, none⟩) 0 c) (by simp [results, Tryz.results87, go_sem]) rfl ⟨_, _, rfl, fun wy hy => (HV.out wy (HUP.out _ wy hy)).headP 0 (by omega), ⟨⟨_, HB.out.stored 0 _, fun wy hy => HV.out wy (HUP.out _ wy hy)⟩, h3⟩, HKS.out _⟩
    by_cases hm0 : m = 0
    · subst hm0
      have hz : max 0 (min n rs.length) = 0 := by omega
      go_enter Tryz.func87, Tryz.ntmps87
      go_wp2
      all_goals refine bodyPost_ret (v := .slice (some ⟨b, off, none⟩) 0 c) (by simp [results, Tryz.results87, go_sem]) rfl ⟨_, _, rfl, fun wy hy => (HV.out wy (HUP.out _ wy hy)).headP 0 (by omega), ⟨⟨_, HB.out.stored 0 _, fun wy hy => ?_⟩, h3⟩, HKS.out _⟩
      all_goals exact HV.out wy (HUP.out _ wy hy)
    by_cases hn1 : n ≤ rs.length
    · obtain rfl : n = (m : Int) := by omega
      by_cases hcm : c = m
      · subst hcm
        go_enter Tryz.func87, Tryz.ntmps87
        go_wp2
        refine bodyPost_ret (v := .slice (some ⟨b, off, none⟩) c c) (by simp [results, Tryz.results87, go_sem]) rfl ⟨_, _, rfl, fun wy hy => (HV.out wy (HUP.out _ wy hy)).headP c hm1, ⟨⟨_, HB.out.stored 0 _, fun wy hy => ?_⟩, h3⟩, HKS.out _⟩
        exact (HV.out wy (HUP.out _ wy hy)).restP c _ _ _ hm1 (by omega) (by split <;> omega) (by omega)
      · have hcm' : ¬ m = c := fun e => hcm e.symm
        go_enter Tryz.func87, Tryz.ntmps87
        go_wp2
        refine bodyPost_ret (v := .slice (some ⟨b, off, none⟩) m c) (by simp [results, Tryz.results87, go_sem]) rfl ⟨_, _, rfl, fun wy hy => (HV.out wy (HUP.out _ wy hy)).headP m hm1, ⟨⟨_, HB.out.stored 0 _, fun wy hy => ?_⟩, h3⟩, HKS.out _⟩
        exact (HV.out wy (HUP.out _ wy hy)).restP m _ _ _ hm1 (by omega) (by split <;> omega) (by omega)
    · have hmr : m = rs.length := by omega
      have hgt : (rs.length : Int) < n := by omega
      rw [← hmr] at hgt
      clear hn1
      obtain ⟨L, hL⟩ : ∃ L, rs.length = L := ⟨_, rfl⟩
      rw [hL] at hmr c0 HB hle
      subst hmr
      by_cases hcm : c = m
      · subst hcm
        go_enter Tryz.func87, Tryz.ntmps87
        go_wp2
        refine bodyPost_ret (v := .slice (some ⟨b, off, none⟩) c c) (by simp [results, Tryz.results87, go_sem]) rfl ⟨_, _, rfl, fun wy hy => (HV.out wy (HUP.out _ wy hy)).headP c hm1, ⟨⟨_, HB.out.stored 0 _, fun wy hy => ?_⟩, h3⟩, HKS.out _⟩
        exact (HV.out wy (HUP.out _ wy hy)).restP c _ _ _ hm1 (by omega) (by split <;> omega) (by omega)
      · have hcm' : ¬ m = c := fun e => hcm e.symm
        go_enter Tryz.func87, Tryz.ntmps87
        go_wp2
        refine bodyPost_ret (v := .slice (some ⟨b, off, none⟩) m c) (by simp [results, Tryz.results87, go_sem]) rfl ⟨_, _, rfl, fun wy hy => (HV.out wy (HUP.out _ wy hy)).headP m hm1, ⟨⟨_, HB.out.stored 0 _, fun wy hy => ?_⟩, h3⟩, HKS.out _⟩
        exact (HV.out wy (HUP.out _ wy hy)).restP m _ _ _ hm1 (by omega) (by split <;> omega) (by omega)
theorem RI.isB {wx : World} {B0 P : Nat} {rs : List Int} (hB : IsB rs) (n : Nat) : IsB (rs.take n) ∧ IsB (rs.drop n) := ⟨fun y hy => hB y (List.mem_of_mem_take hy), fun y hy => hB y (List.mem_of_mem_drop hy)⟩
theorem number_ri {w : World} {B0 P : Nat} {rs : List Int} (n : Nat) (hn : n ≤ 8) (hB : IsB rs) (hl : rs.length ≤ 1099511627776) (h : RI w B0 P rs) :
    Calls Tryz.prog 82 #[.pointer (some ⟨P, 0, none⟩), .int .i64 n] w fun e w' => e = .returned (.int .i64 (nI rs n)) ∧ RI w' B0 P (rs.drop n) ∧ Kept (fun b => b = P) w w' := by
  have k1 := take_ri (n : Int) (by omega) hl h
  rw [Int.toNat_natCast] at k1
  go_enter Tryz.func82, Tryz.ntmps82
  go_wp2_with fail
  refine k1.mono ?_
  rintro e w1 ⟨a, c, rfl, hv, hr, hk⟩
  clear k1
  generalize Value.slice a (rs.take n).length c = V at hv ⊢
  have HV := hid hv
  have HR := hid hr
  have HK := hid hk
  clear hv hr hk h
  go_wp2_with fail
  refine (implGet_any _ (rs.take n) w1 (fun y hy => hB y (List.mem_of_mem_take hy)) (by rw [List.length_take]; omega) (HV.out w1 (Kept.refl _ _))).mono ?_
  rintro e w2 ⟨rfl, hk2⟩
  have HK2 := hid hk2
  clear hk2
  go_wp2_with fail
  exact bodyPost_ret (v := .int .i64 (nI rs n)) (by simp [results, Tryz.results82, go_sem, nI]) rfl ⟨rfl, HR.out.same HK2.out, HK.out.next HK2.out (fun _ _ e => e.elim)⟩
theorem place_ri {w : World} {B0 P : Nat} {rs : List Int} (hB : IsB rs) (hl : rs.length ≤ 1099511627776) (h : RI w B0 P rs) :
    Calls Tryz.prog 83 #[.pointer (some ⟨P, 0, none⟩)] w fun e w' => e = .returned (.agg #[.int .i64 (nI rs 2), .int .i64 (nI (rs.drop 2) 2)]) ∧ RI w' B0 P (rs.drop 4) ∧ Kept (fun b => b = P) w w' := by
  have hPl := h.lt
  have hk0 : Same w (w.alloc (.cells #[.int .i64 0, .int .i64 0] 140)) := (Kept.refl _ _).alloc _
  have HB0 := hid (Blk.newL w [.int .i64 0, .int .i64 0] 140)
  have HK0 := hid hk0
  have H0 := hid (h.same hk0)
  have hne : ¬ w.heap.size = P := by omega
  clear h hk0
  go_enter Tryz.func83, Tryz.ntmps83
  go_wp2_with fail
  refine (number_ri 2 (by omega) hB hl H0.out).mono ?_
  rintro e w1 ⟨rfl, hr1, hk1⟩
  have HB1 := hid (HB0.out.kept hk1 hne)
  have HR1 := hid hr1
  have HK1 := (show Hid (Kept (fun b => b = P) w w1) from (HK0.out.mono (fun _ _ e => e.elim)).trans hk1)
  clear hr1 hk1 H0 HK0 HB0
  go_wp2_with fail
  refine (number_ri 2 (by omega) (fun y hy => hB y (List.mem_of_mem_drop hy)) (by rw [List.length_drop]; omega) HR1.out).mono ?_
  rintro e w2 ⟨rfl, hr2, hk2⟩
  have HB2 := hid (HB1.out.kept hk2 hne)
  have HR2 := hid hr2
  have HK2 := hid (HK1.out.trans hk2)
  clear hr2 hk2 HB1 HR1 HK1
  obtain ⟨c0, c1⟩ := HB2.out.all2
  have fb := HB2.out.frozen
  obtain ⟨x, hx⟩ : ∃ x, nI rs 2 = x := ⟨_, rfl⟩
  obtain ⟨y, hy⟩ : ∃ x, nI (rs.drop 2) 2 = x := ⟨_, rfl⟩
  rw [hx, hy]
  have hks : Kept (fun b => b = w.heap.size) w2 ((w2.setCell ⟨w.heap.size, 0, none⟩ (.int .i64 x)).setCell ⟨w.heap.size, 1, none⟩ (.int .i64 y)) := ((Kept.refl (fun b => b = w.heap.size) w2).setCell (.inr rfl) _).setCell (.inr rfl) _
  have HKS := hid hks
  have hle := HR2.out.le
  have HX := hid hx
  have HY := hid hy
  clear hks hx hy
  go_wp2_with fail
  refine bodyPost_ret (v := .agg #[.int .i64 x, .int .i64 y]) (by simp [results, Tryz.results83, go_sem, c0, c1]) rfl ⟨by rw [HX.out, HY.out], ?_, ?_⟩
  · have h := HR2.out.keep HKS.out (fun e => hne e.symm) (fun b _ e => by have := HK2.out.size; omega)
    rw [List.drop_drop] at h
    exact h
  · exact HK2.out.next HKS.out (fun i hi e => by omega)
end Go.Proofs.YtaojjcnmififoaaGreat
