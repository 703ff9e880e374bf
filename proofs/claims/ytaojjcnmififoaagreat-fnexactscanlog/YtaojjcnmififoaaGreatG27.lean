import Derived.Test.YtaojjcnmififoaaGreatG22
import Derived.Test.YtaojjcnmififoaaGreatEncSB
import Derived.Test.YtaojjcnmififoaaGreatEncSC
import Derived.Test.YtaojjcnmififoaaGreatEncSD
import Derived.Test.YtaojjcnmififoaaGreatEncSE
import Derived.Test.YtaojjcnmififoaaGreatG09
import Derived.Test.YtaojjcnmififoaaGreatG19
import Derived.Test.YtaojjcnmififoaaGreatEncTyped
import Derived.Test.YtaojjcnmififoaaGreatG11
import Derived.Test.YtaojjcnmififoaaGreatG07
import Derived.Test.YtaojjcnmififoaaGreatG00
import Derived.Test.YtaojjcnmififoaaGreatG01
import Derived.Deep.DeepCutAuto
namespace Go.Proofs.YtaojjcnmififoaaGreat
set_option maxRecDepth 100000
set_option maxHeartbeats 4000000
set_option linter.unusedVariables false
set_option linter.unusedSimpArgs false
open Go.RowKit
theorem Own.sized {base : Nat} {e : TypeId} {k : IntKind} {w : World} {aa : Option Addr} {nn cc : Nat} {bs : List Int} (h : Own base e k w (.slice aa nn cc) bs) : nn = bs.length := by
  rcases h.form with ⟨hh, rfl⟩ | ⟨g, cap, hh, _⟩ <;> cases hh <;> rfl
theorem Yn {d : Int × Int × Int × Int × Int × (Bool × List Int) × (Bool × List Int) × Int × Int × List Int × List Int × List Int} (h : RJ d = 0) : V5 d = RD d := by unfold V5; rw [if_neg (by simpa using h)]
theorem ZF {d : Int × Int × Int × Int × Int × (Bool × List Int) × (Bool × List Int) × Int × Int × List Int × List Int × List Int} (h : RJ d ≠ 0) : V5 d = [] := by unfold V5; rw [if_pos h]
theorem ja2 (x : StLogRecord) (w : World) (hB : x.isB) (hn : x.szs ≤ 1073741824) (hv : StLogRecord.rd w x) : Calls Tryz.prog 66 #[x.val] w fun e w' => ∃ a c, e = .returned (.slice a (V5 x.dat).length c) ∧ (∀ b, (Value.slice a (V5 x.dat).length c).ownBlock = some b → w.heap.size ≤ b) ∧ Own 0 5 .u8 w' (.slice a (V5 x.dat).length c) (V5 x.dat) ∧ Same w w' := by
  by_cases hz : RJ x.dat = 0
  · have hg := Xm (show RV x.kind _ _ _ _ _ _ _ _ _ _ _ _ _ = 0 from hz)
    rw [Yn hz]
    have key : Calls Tryz.prog 66 #[x.val] w fun e w' => ∃ aa nn cc, e = .returned (.slice aa nn cc) ∧ Own 0 5 .u8 w' (.slice aa nn cc) (RD x.dat) ∧ (∀ b, (Value.slice aa nn cc).ownBlock = some b → w.heap.size ≤ b) ∧ Same w w' := by
      rcases (show x.kind = 1 ∨ x.kind = 2 ∨ x.kind = 3 ∨ x.kind = 4 ∨ x.kind = 5 ∨ x.kind = 6 ∨ x.kind = 7 ∨ x.kind = 8 by omega) with h | h | h | h | h | h | h | h
      · exact jft x w hB hn hv h hz
      · exact jfe x w hB hn hv h hz
      · exact jff x w hB hn hv h hz
      · exact jfg x w hB hn hv h hz
      · exact jfh x w hB hn hv h hz
      · exact jfi x w hB hn hv h hz
      · exact jfk x w hB hn hv h hz
      · exact jfj x w hB hn hv h hz
    refine key.mono ?_
    rintro e w' ⟨aa, nn, cc, rfl, ho, hf, hk⟩
    obtain rfl := ho.sized
    exact ⟨aa, cc, rfl, hf, ho, hk⟩
  · rw [ZF hz]
    have HF := (show Hid (∀ wx, Same w wx → _) from fun wx (h : Same w wx) => SA x wx hB hn (StLogRecord.rd.same hv h))
    obtain ⟨r, hr⟩ : ∃ r, RJ x.dat = r := ⟨_, rfl⟩
    rw [hr] at HF hz
    clear hr hB hn hv
    obtain ⟨kind, txn, prev, page, slot, ⟨bU, ⟨rO, bp, bq, aZ⟩⟩, ⟨aU, ⟨qn, bj, bk, aV⟩⟩, uN, nT, ⟨fZ, bT, aR, bV, cn⟩, ⟨fY, bX, a9, bW, dF⟩, ⟨rr, bw, bD, bd⟩⟩ := x
    have gy := HF.out _ (kZ0.alloc (.cells #[.int .i64 kind, .int .i64 txn, .int .i64 prev, .int .i64 page, .int .i64 slot, .bool bU, .slice bp aZ.length bq, .bool aU, .slice bj aV.length bk, .int .i64 uN, .int .i64 nT, .slice bT aR bV, .slice bX a9 bW, .slice bw bd.length bD] 50))
    dsimp only [StLogRecord.val, StPageRecord.val, BS.v, FR.v] at gy ⊢
    have aJ := hid (Xx w [.int .i64 kind, .int .i64 txn, .int .i64 prev, .int .i64 page, .int .i64 slot, .bool bU, .slice bp aZ.length bq, .bool aU, .slice bj aV.length bk, .int .i64 uN, .int .i64 nT, .slice bT aR bV, .slice bX a9 bW, .slice bw bd.length bD] 50)
    clear HF
    go_enter Tryz.func66, Tryz.ntmps66
    go_wp2_with fail
    refine gy.mono ?_
    rintro e w1 ⟨rfl, aH⟩
    have aM := hid (aJ.out.trans aH)
    clear aH gy
    go_wp2
    go_ret
    exact ⟨_, _, rfl, fun b hb => by have := aM.out.size; have hb : w1.heap.size = b := by simpa [Value.ownBlock] using hb
                                     omega, Own.empty _ _, aM.out.alloc _⟩
theorem IsB.app {a b : List Int} (ha : IsB a) (hb : IsB b) : IsB (a ++ b) := fun x h => (List.mem_append.1 h).elim (ha x) (hb x)
theorem Xn {u : Bool} {d : List Int} (h : IsB d) : IsB (Ry u d) := by
  unfold Ry
  split
  · exact fun x hx => (List.mem_cons.1 hx).elim (fun e => by omega) ((R9 _ _).app h x)
  · exact fun x hx => by have := List.mem_singleton.1 hx; omega
theorem ja3 (f : Nat → List Int) (h : ∀ i, IsB (f i)) (n : Nat) : IsB ((List.range n).flatMap f) := fun x hx => by
  obtain ⟨i, _, hi⟩ := List.mem_flatMap.1 hx
  exact h i x hi
theorem jcT {k t p : Int} (h : 1 ≤ k ∧ k ≤ 8) : IsB (Rv k t p) := IsB.app (IsB.app (fun x hx => by have := List.mem_singleton.1 hx; omega) (R9 _ _)) (R9 _ _)
theorem jcU {kind txn prev page slot un nt : Int} {bu au : Bool} {bb ab tx dy im : List Int} (hk : 1 ≤ kind ∧ kind ≤ 8) (hb : IsB bb) (ha : IsB ab) (hi : IsB im) : IsB (RO kind txn prev page slot bu bb au ab un nt tx dy im) := by
  have hh := jcT (t := txn) (p := prev) hk
  unfold RO
  split
  · exact (((hh.app (R9 _ _)).app (R9 _ _)).app (Xn hb)).app (Xn ha)
  split
  · exact (((hh.app (R9 _ _)).app (R9 _ _)).app (Xn ha)).app (R9 _ _)
  split
  · exact ((((hh.app (R9 _ _)).app (R9 _ _)).app (ja3 _ (fun i => (((R9 _ _).app (R9 _ _)).app (R9 _ _)).app (R9 _ _)) _)).app (R9 _ _)).app (ja3 _ (fun i => (R9 _ _).app (R9 _ _)) _)
  split
  · exact (hh.app (R9 _ _)).app hi
  · exact hh
theorem ZG {x : StLogRecord} (hB : x.isB) (hz : RJ x.dat = 0) : IsB (RD x.dat) := jcU (Xm (show RV x.kind _ _ _ _ _ _ _ _ _ _ _ _ _ = 0 from hz)) hB.1 hB.2.1 hB.2.2
theorem ZH {x : Int} {n : Nat} (hn : 1 ≤ n ∧ n ≤ 8) (h0 : 0 ≤ x) (h1 : x < 256 ^ n) : Q6 x n = R8 x n := by
  unfold Q6
  rw [if_neg]
  · rfl
  · rintro (h | h | h | h)
    · omega
    · omega
    · omega
    · exact h (Int.ediv_eq_zero_of_lt h0 (by simpa using h1))
abbrev VT : Type := Int × Int × Int × Int × Int × (Bool × List Int) × (Bool × List Int) × Int × Int × List Int × List Int × List Int
def SX (rs : List Int) (n : Nat) : List Int := rs.take n ++ List.replicate (n - rs.length) 0
def nS (rs : List Int) (n : Nat) : Int := RQ (SX rs n)
def nI (rs : List Int) (n : Nat) : Int := RQ (rs.take n)
section
variable (num : List Int → Nat → Int) (part : List Int → Nat → List Int)
def Sz (rs : List Int) : (Bool × List Int) × List Int :=
  if num rs 1 = 1 then ((true, part (rs.drop 3) (num (rs.drop 1) 2).toNat), (rs.drop 3).drop (num (rs.drop 1) 2).toNat) else ((false, []), rs.drop 1)
def txE (rs : List Int) (i : Nat) : List Int := [num (rs.drop (21 * i)) 4, num (rs.drop (21 * i + 4)) 1, num (rs.drop (21 * i + 5)) 8, num (rs.drop (21 * i + 13)) 8]
def txL (rs : List Int) (n : Nat) : List Int := (List.range n).flatMap (txE num rs)
def dyE (rs : List Int) (i : Nat) : List Int := [num (rs.drop (10 * i)) 2, num (rs.drop (10 * i + 2)) 8]
def dyL (rs : List Int) (n : Nat) : List Int := (List.range n).flatMap (dyE num rs)
def Ru (k txn prev : Int) (r : List Int) : VT :=
  if k = 1 then (k, txn, prev, num r 2, num (r.drop 2) 2, (Sz num part (r.drop 4)).1, (Sz num part (Sz num part (r.drop 4)).2).1, 0, 0, [], [], [])
  else if k = 2 then (k, txn, prev, num r 2, num (r.drop 2) 2, (false, []), (Sz num part (r.drop 4)).1, num (Sz num part (r.drop 4)).2 8, 0, [], [], [])
  else if k = 7 then (k, txn, prev, 0, 0, (false, []), (false, []), 0, num r 4, txL num (r.drop 5) (num (r.drop 4) 1).toNat, dyL num ((r.drop 5).drop (21 * (num (r.drop 4) 1).toNat + 1)) (num ((r.drop 5).drop (21 * (num (r.drop 4) 1).toNat)) 1).toNat, [])
  else if k = 8 then (k, txn, prev, num r 2, 0, (false, []), (false, []), 0, 0, [], [], part (r.drop 2) 4096)
  else (k, txn, prev, 0, 0, (false, []), (false, []), 0, 0, [], [], [])
end
def XV (bs : List Int) : VT := Ru nS SX (nS bs 1) (nS (bs.drop 1) 4) (nS (bs.drop 5) 8) (bs.drop 13)
def UK (bs : List Int) : VT := Ru nI (fun rs n => rs.take n) (nI bs 1) (if nI bs 1 ≤ 5 then nI (bs.drop 1) 4 else 0) (if nI bs 1 ≤ 5 then nI (bs.drop 5) 8 else 0) (bs.drop 13)
def V6 : VT := (0, 0, 0, 0, 0, (false, []), (false, []), 0, 0, [], [], [])
theorem Tx {f : Nat → List Int} {m : Nat} (h : ∀ i, (f i).length = m) : ∀ n, ((List.range n).flatMap f).length = m * n
  | 0 => rfl
  | n + 1 => by rw [List.range_succ, List.flatMap_append, List.length_append, Tx h n]; simp [h]; rw [Nat.mul_succ]
theorem ja4 {x C : List Int} : SX (x ++ C) x.length = x := by simp [SX]
theorem Te {x : Int} {n : Nat} (hn : 1 ≤ n ∧ n ≤ 8) (h0 : 0 ≤ x) (h1 : x < 256 ^ n) : (Q6 x n).length = n := by rw [ZH hn h0 h1, Rs]
structure Reads (num : List Int → Nat → Int) (part : List Int → Nat → List Int) : Prop where
  num : ∀ (x : Int) (n : Nat) (C : List Int), 1 ≤ n ∧ n ≤ 8 → 0 ≤ x → x < 256 ^ n → x ≤ 9223372036854775807 → num (Q6 x n ++ C) n = x
  part : ∀ (x C : List Int), part (x ++ C) x.length = x
theorem ZI {x : Int} {n : Nat} (hn : 1 ≤ n ∧ n ≤ 8) (h0 : 0 ≤ x) (h1 : x < 256 ^ n) (h2 : x ≤ 9223372036854775807) : RQ (Q6 x n) = x :=
  (Zy x n ⟨by omega, h2⟩ (fun e => by have h := Te hn h0 h1; rw [e] at h; simp at h; omega)).1
theorem jeJ : Reads nS SX :=
  ⟨fun x n C hn h0 h1 h2 => by
    have hl := Te hn h0 h1
    have e : SX (Q6 x n ++ C) n = Q6 x n := by
      have h := ja4 (x := Q6 x n) (C := C)
      rwa [hl] at h
    unfold nS
    rw [e, ZI hn h0 h1 h2], fun x C => ja4⟩
theorem jeK : Reads nI (fun rs n => rs.take n) :=
  ⟨fun x n C hn h0 h1 h2 => by
    have hl := Te hn h0 h1
    have e : (Q6 x n ++ C).take n = Q6 x n := by
      have h := List.take_left' (l₁ := Q6 x n) (l₂ := C) hl
      exact h
    unfold nI
    rw [e, ZI hn h0 h1 h2], fun x C => List.take_left⟩
section
variable {num : List Int → Nat → Int} {part : List Int → Nat → List Int}
theorem Reads.n1 (H : Reads num part) {x : Int} (h0 : 0 ≤ x) (h1 : x < 256) (C : List Int) : num (Q6 x 1 ++ C) 1 = x := H.num x 1 C (by omega) h0 (by omega) (by omega)
theorem drop1 {x : Int} (h0 : 0 ≤ x) (h1 : x < 256) (C : List Int) : (Q6 x 1 ++ C).drop 1 = C := List.drop_left' (Te (n := 1) (by omega) h0 (by omega))
theorem jgL {x : Int} (h0 : 0 ≤ x) (h1 : x < 256) : (Q6 x 1).length = 1 := Te (n := 1) (by omega) h0 (by omega)
theorem Reads.n2 (H : Reads num part) {x : Int} (h0 : 0 ≤ x) (h1 : x < 65536) (C : List Int) : num (Q6 x 2 ++ C) 2 = x := H.num x 2 C (by omega) h0 (by omega) (by omega)
theorem drop2 {x : Int} (h0 : 0 ≤ x) (h1 : x < 65536) (C : List Int) : (Q6 x 2 ++ C).drop 2 = C := List.drop_left' (Te (n := 2) (by omega) h0 (by omega))
theorem jgM {x : Int} (h0 : 0 ≤ x) (h1 : x < 65536) : (Q6 x 2).length = 2 := Te (n := 2) (by omega) h0 (by omega)
theorem Reads.n4 (H : Reads num part) {x : Int} (h0 : 0 ≤ x) (h1 : x < 4294967296) (C : List Int) : num (Q6 x 4 ++ C) 4 = x := H.num x 4 C (by omega) h0 (by omega) (by omega)
theorem jdO {x : Int} (h0 : 0 ≤ x) (h1 : x < 4294967296) (C : List Int) : (Q6 x 4 ++ C).drop 4 = C := List.drop_left' (Te (n := 4) (by omega) h0 (by omega))
theorem jgN {x : Int} (h0 : 0 ≤ x) (h1 : x < 4294967296) : (Q6 x 4).length = 4 := Te (n := 4) (by omega) h0 (by omega)
theorem Reads.n8 (H : Reads num part) {x : Int} (h0 : 0 ≤ x) (h1 : x < 9223372036854775808) (C : List Int) : num (Q6 x 8 ++ C) 8 = x := H.num x 8 C (by omega) h0 (by omega) (by omega)
theorem jeX {x : Int} (h0 : 0 ≤ x) (h1 : x < 9223372036854775808) (C : List Int) : (Q6 x 8 ++ C).drop 8 = C := List.drop_left' (Te (n := 8) (by omega) h0 (by omega))
theorem len8 {x : Int} (h0 : 0 ≤ x) (h1 : x < 9223372036854775808) : (Q6 x 8).length = 8 := Te (n := 8) (by omega) h0 (by omega)
theorem Wn (H : Reads num part) {u : Bool} {d C : List Int} (hf : Rj u d.length = true) : Sz num part (Ry u d ++ C) = ((u, d), C) := by
  simp only [Rj, Bool.and_eq_true, decide_eq_true_eq, Bool.or_eq_true] at hf
  unfold Sz Ry
  cases u with
  | true =>
    have hd : (d.length : Int) < 65536 := by have := hf.1; omega
    have e1 : (1 :: (Q6 d.length 2 ++ d)) ++ C = Q6 1 1 ++ (Q6 d.length 2 ++ (d ++ C)) := by
      rw [Uk (by omega)]; simp
    have d1 := drop1 (x := 1) (by omega) (by omega) (Q6 d.length 2 ++ (d ++ C))
    have d3 : (Q6 1 1 ++ (Q6 (d.length : Int) 2 ++ (d ++ C))).drop 3 = d ++ C := by
      rw [show (3 : Nat) = 1 + 2 from rfl, ← List.drop_drop, d1, drop2 (by omega) hd]
    rw [if_pos rfl, e1, H.n1 (by omega) (by omega), if_pos rfl, d1, H.n2 (by omega) hd, d3, Int.toNat_natCast, H.part d C, List.drop_left]
  | false =>
    have h0 : d = [] := by
      rcases hf.2 with h | h
      · cases h
      · exact List.length_eq_zero_iff.1 h
    subst h0
    have n1 := H.n1 (x := 0) (by omega) (by omega) C
    rw [show Q6 0 1 = [0] from by decide] at n1
    simp only [Bool.false_eq_true, if_false]
    rw [n1, if_neg (by decide)]
    rfl
def Yo (num : List Int → Nat → Int) (rs : List Int) : Int × Int × Int := (num rs 1, num (rs.drop 1) 4, num (rs.drop 5) 8)
theorem Ty (H : Reads num part) {k txn prev : Int} (hk : 1 ≤ k ∧ k ≤ 8) (ht : 0 ≤ txn ∧ txn ≤ 2147483648) (hp : 0 ≤ prev ∧ prev ≤ 1099511627776) (C : List Int) : Yo num (Rv k txn prev ++ C) = (k, txn, prev) ∧ (Rv k txn prev ++ C).drop 13 = C := by
  have e : Rv k txn prev ++ C = Q6 k 1 ++ (Q6 txn 4 ++ (Q6 prev 8 ++ C)) := by unfold Rv; rw [Uk hk]; simp
  have d1 := drop1 (x := k) (by omega) (by omega) (Q6 txn 4 ++ (Q6 prev 8 ++ C))
  have d5 : (Q6 k 1 ++ (Q6 txn 4 ++ (Q6 prev 8 ++ C))).drop 5 = Q6 prev 8 ++ C := by
    rw [show (5 : Nat) = 1 + 4 from rfl, ← List.drop_drop, d1, jdO (by omega) (by omega)]
  refine ⟨?_, ?_⟩
  · unfold Yo
    rw [e, H.n1 (by omega) (by omega), d1, H.n4 (by omega) (by omega), d5, H.n8 (by omega) (by omega)]
  · rw [e, show (13 : Nat) = 5 + 8 from rfl, ← List.drop_drop, d5, jeX (by omega) (by omega)]
theorem jeL {bs : List Int} {i : Nat} (h : (1 ≤ bs.getD (i * 4) 0 ∧ bs.getD (i * 4) 0 ≤ 2147483647) ∧ (1 ≤ bs.getD (i * 4 + 1) 0 ∧ bs.getD (i * 4 + 1) 0 ≤ 3) ∧ (1 ≤ bs.getD (i * 4 + 2) 0 ∧ bs.getD (i * 4 + 2) 0 ≤ 1099511627776) ∧ (0 ≤ bs.getD (i * 4 + 3) 0 ∧ bs.getD (i * 4 + 3) 0 ≤ bs.getD (i * 4 + 2) 0)) : (txB bs i).length = 21 := by
  unfold txB
  simp only [List.length_append, jgN (show 0 ≤ bs.getD (i * 4) 0 by omega) (by omega), jgL (show 0 ≤ bs.getD (i * 4 + 1) 0 by omega) (by omega), len8 (show 0 ≤ bs.getD (i * 4 + 2) 0 by omega) (by omega), len8 (show 0 ≤ bs.getD (i * 4 + 3) 0 by omega) (by omega)]
theorem jeM (H : Reads num part) {bs rs : List Int} {i : Nat} (C : List Int) (h : (1 ≤ bs.getD (i * 4) 0 ∧ bs.getD (i * 4) 0 ≤ 2147483647) ∧ (1 ≤ bs.getD (i * 4 + 1) 0 ∧ bs.getD (i * 4 + 1) 0 ≤ 3) ∧ (1 ≤ bs.getD (i * 4 + 2) 0 ∧ bs.getD (i * 4 + 2) 0 ≤ 1099511627776) ∧ (0 ≤ bs.getD (i * 4 + 3) 0 ∧ bs.getD (i * 4 + 3) 0 ≤ bs.getD (i * 4 + 2) 0)) (hr : rs.drop (21 * i) = txB bs i ++ C) :
    txE num rs i = [bs.getD (i * 4) 0, bs.getD (i * 4 + 1) 0, bs.getD (i * 4 + 2) 0, bs.getD (i * 4 + 3) 0] := by
  obtain ⟨a, ha⟩ : ∃ a, bs.getD (i * 4) 0 = a := ⟨_, rfl⟩
  obtain ⟨b, hb⟩ : ∃ a, bs.getD (i * 4 + 1) 0 = a := ⟨_, rfl⟩
  obtain ⟨c, hc⟩ : ∃ a, bs.getD (i * 4 + 2) 0 = a := ⟨_, rfl⟩
  obtain ⟨d, hd⟩ : ∃ a, bs.getD (i * 4 + 3) 0 = a := ⟨_, rfl⟩
  have e : rs.drop (21 * i) = Q6 a 4 ++ (Q6 b 1 ++ (Q6 c 8 ++ (Q6 d 8 ++ C))) := by rw [hr]; unfold txB; rw [ha, hb, hc, hd]; simp
  rw [ha, hb, hc, hd] at h
  rw [ha, hb, hc, hd]
  have e4 : rs.drop (21 * i + 4) = Q6 b 1 ++ (Q6 c 8 ++ (Q6 d 8 ++ C)) := by rw [← List.drop_drop, e, jdO (by omega) (by omega)]
  have e5 : rs.drop (21 * i + 5) = Q6 c 8 ++ (Q6 d 8 ++ C) := by rw [show 21 * i + 5 = 21 * i + 4 + 1 from rfl, ← List.drop_drop, e4, drop1 (by omega) (by omega)]
  have LG : rs.drop (21 * i + 13) = Q6 d 8 ++ C := by rw [show 21 * i + 13 = 21 * i + 5 + 8 from rfl, ← List.drop_drop, e5, jeX (by omega) (by omega)]
  unfold txE
  rw [e, e4, e5, LG, H.n4 (by omega) (by omega), H.n1 (by omega) (by omega), H.n8 (by omega) (by omega), H.n8 (by omega) (by omega)]
theorem getD_at {bs : List Int} {k : Nat} (h : k < bs.length) : bs.getD k 0 = bs[k] := by simp [List.getD, List.getElem?_eq_getElem h]
theorem jeN {bs : List Int} {i : Nat} (h : (0 ≤ bs.getD (i * 2) 0 ∧ bs.getD (i * 2) 0 < 16) ∧ (1 ≤ bs.getD (i * 2 + 1) 0 ∧ bs.getD (i * 2 + 1) 0 ≤ 1099511627776)) : (dyB bs i).length = 10 := by
  unfold dyB
  simp only [List.length_append, jgM (show 0 ≤ bs.getD (i * 2) 0 by omega) (by omega), len8 (show 0 ≤ bs.getD (i * 2 + 1) 0 by omega) (by omega)]
theorem jeO (H : Reads num part) {bs rs : List Int} {i : Nat} (C : List Int) (h : (0 ≤ bs.getD (i * 2) 0 ∧ bs.getD (i * 2) 0 < 16) ∧ (1 ≤ bs.getD (i * 2 + 1) 0 ∧ bs.getD (i * 2 + 1) 0 ≤ 1099511627776)) (hr : rs.drop (10 * i) = dyB bs i ++ C) : dyE num rs i = [bs.getD (i * 2) 0, bs.getD (i * 2 + 1) 0] := by
  obtain ⟨a, ha⟩ : ∃ a, bs.getD (i * 2) 0 = a := ⟨_, rfl⟩
  obtain ⟨b, hb⟩ : ∃ a, bs.getD (i * 2 + 1) 0 = a := ⟨_, rfl⟩
  have e : rs.drop (10 * i) = Q6 a 2 ++ (Q6 b 8 ++ C) := by rw [hr]; unfold dyB; rw [ha, hb]; simp
  rw [ha, hb] at h
  rw [ha, hb]
  have e2 : rs.drop (10 * i + 2) = Q6 b 8 ++ C := by rw [← List.drop_drop, e, drop2 (by omega) (by omega)]
  unfold dyE
  rw [e, e2, H.n2 (by omega) (by omega), H.n8 (by omega) (by omega)]
theorem Yp {bs : List Int} : ∀ n : Nat, (∀ j, j < n → (1 ≤ bs.getD (j * 4) 0 ∧ bs.getD (j * 4) 0 ≤ 2147483647) ∧ (1 ≤ bs.getD (j * 4 + 1) 0 ∧ bs.getD (j * 4 + 1) 0 ≤ 3) ∧ (1 ≤ bs.getD (j * 4 + 2) 0 ∧ bs.getD (j * 4 + 2) 0 ≤ 1099511627776) ∧ (0 ≤ bs.getD (j * 4 + 3) 0 ∧ bs.getD (j * 4 + 3) 0 ≤ bs.getD (j * 4 + 2) 0)) → (RG bs n).length = 21 * n
  | 0, _ => rfl
  | n + 1, h => by
    rw [UC, List.length_append, Yp n (fun j hj => h j (by omega)), jeL (h n (by omega))]
    omega
theorem jcs {bs : List Int} {i : Nat} : ∀ n : Nat, i < n → ∃ R, RG bs n = RG bs i ++ (txB bs i ++ R)
  | 0, h => absurd h (by omega)
  | n + 1, h => by
    by_cases e : i = n
    · subst e
      exact ⟨[], by rw [UC]; simp⟩
    · obtain ⟨R, hR⟩ := jcs (bs := bs) (i := i) n (by omega)
      exact ⟨R ++ txB bs n, by rw [UC, hR]; simp⟩
theorem jct (bs : List Int) : ∀ n : Nat, n * 4 ≤ bs.length → (List.range n).flatMap (fun i => [bs.getD (i * 4) 0, bs.getD (i * 4 + 1) 0, bs.getD (i * 4 + 2) 0, bs.getD (i * 4 + 3) 0]) = bs.take (n * 4)
  | 0, _ => by simp
  | n + 1, h => by
    rw [List.range_succ, List.flatMap_append, jct bs n (by omega)]
    have e : bs.take ((n + 1) * 4) = bs.take (n * 4) ++ (bs.drop (n * 4)).take 4 := by rw [show (n + 1) * 4 = n * 4 + 4 by omega, List.take_add]
    rw [e]
    congr 1
    simp only [List.flatMap_cons, List.flatMap_nil, List.append_nil]
    apply List.ext_getElem
    · simp; omega
    · intro j h1 h2
      simp only [List.length_cons, List.length_nil] at h1
      rw [List.getElem_take, List.getElem_drop]
      rcases (by omega : j = 0 ∨ j = 1 ∨ j = 2 ∨ j = 3) with rfl | rfl | rfl | rfl <;> (simp only [List.getElem_cons_zero, List.getElem_cons_succ]; exact getD_at (by omega))
theorem jeP (H : Reads num part) {bs C : List Int} {n : Nat} (hl : bs.length = n * 4) (hg : ∀ i, i < n → (1 ≤ bs.getD (i * 4) 0 ∧ bs.getD (i * 4) 0 ≤ 2147483647) ∧ (1 ≤ bs.getD (i * 4 + 1) 0 ∧ bs.getD (i * 4 + 1) 0 ≤ 3) ∧ (1 ≤ bs.getD (i * 4 + 2) 0 ∧ bs.getD (i * 4 + 2) 0 ≤ 1099511627776) ∧ (0 ≤ bs.getD (i * 4 + 3) 0 ∧ bs.getD (i * 4 + 3) 0 ≤ bs.getD (i * 4 + 2) 0)) : txL num (RG bs n ++ C) n = bs := by
  unfold txL
  have e : ∀ i, i ∈ List.range n → txE num (RG bs n ++ C) i = [bs.getD (i * 4) 0, bs.getD (i * 4 + 1) 0, bs.getD (i * 4 + 2) 0, bs.getD (i * 4 + 3) 0] := fun i hi => by
    have qU := List.mem_range.1 hi
    obtain ⟨R, hR⟩ := jcs (bs := bs) n qU
    refine jeM H (R ++ C) (hg i qU) ?_
    rw [hR, List.append_assoc, List.append_assoc]
    exact List.drop_left' (Yp i (fun j hj => hg j (by omega)))
  have e2 : (List.range n).flatMap (txE num (RG bs n ++ C)) = (List.range n).flatMap (fun i => [bs.getD (i * 4) 0, bs.getD (i * 4 + 1) 0, bs.getD (i * 4 + 2) 0, bs.getD (i * 4 + 3) 0]) := by
    rw [List.flatMap_def, List.flatMap_def, List.map_congr_left e]
  rw [e2, jct bs n (by omega), ← hl, List.take_length]
theorem ja5 {bs : List Int} : ∀ n : Nat, (∀ j, j < n → (0 ≤ bs.getD (j * 2) 0 ∧ bs.getD (j * 2) 0 < 16) ∧ (1 ≤ bs.getD (j * 2 + 1) 0 ∧ bs.getD (j * 2 + 1) 0 ≤ 1099511627776)) → (Tg bs n).length = 10 * n
  | 0, _ => rfl
  | n + 1, h => by
    rw [UD, List.length_append, ja5 n (fun j hj => h j (by omega)), jeN (h n (by omega))]
    omega
theorem jcu {bs : List Int} {i : Nat} : ∀ n : Nat, i < n → ∃ R, Tg bs n = Tg bs i ++ (dyB bs i ++ R)
  | 0, h => absurd h (by omega)
  | n + 1, h => by
    by_cases e : i = n
    · subst e
      exact ⟨[], by rw [UD]; simp⟩
    · obtain ⟨R, hR⟩ := jcu (bs := bs) (i := i) n (by omega)
      exact ⟨R ++ dyB bs n, by rw [UD, hR]; simp⟩
theorem jcv (bs : List Int) : ∀ n : Nat, n * 2 ≤ bs.length → (List.range n).flatMap (fun i => [bs.getD (i * 2) 0, bs.getD (i * 2 + 1) 0]) = bs.take (n * 2)
  | 0, _ => by simp
  | n + 1, h => by
    rw [List.range_succ, List.flatMap_append, jcv bs n (by omega)]
    have e : bs.take ((n + 1) * 2) = bs.take (n * 2) ++ (bs.drop (n * 2)).take 2 := by rw [show (n + 1) * 2 = n * 2 + 2 by omega, List.take_add]
    rw [e]
    congr 1
    simp only [List.flatMap_cons, List.flatMap_nil, List.append_nil]
    apply List.ext_getElem
    · simp; omega
    · intro j h1 h2
      simp only [List.length_cons, List.length_nil] at h1
      rw [List.getElem_take, List.getElem_drop]
      rcases (by omega : j = 0 ∨ j = 1) with rfl | rfl <;> (simp only [List.getElem_cons_zero, List.getElem_cons_succ]; exact getD_at (by omega))
theorem jeQ (H : Reads num part) {bs C : List Int} {n : Nat} (hl : bs.length = n * 2) (hg : ∀ i, i < n → (0 ≤ bs.getD (i * 2) 0 ∧ bs.getD (i * 2) 0 < 16) ∧ (1 ≤ bs.getD (i * 2 + 1) 0 ∧ bs.getD (i * 2 + 1) 0 ≤ 1099511627776)) : dyL num (Tg bs n ++ C) n = bs := by
  unfold dyL
  have e : ∀ i, i ∈ List.range n → dyE num (Tg bs n ++ C) i = [bs.getD (i * 2) 0, bs.getD (i * 2 + 1) 0] := fun i hi => by
    have qU := List.mem_range.1 hi
    obtain ⟨R, hR⟩ := jcu (bs := bs) n qU
    refine jeO H (R ++ C) (hg i qU) ?_
    rw [hR, List.append_assoc, List.append_assoc]
    exact List.drop_left' (ja5 i (fun j hj => hg j (by omega)))
  have e2 : (List.range n).flatMap (dyE num (Tg bs n ++ C)) = (List.range n).flatMap (fun i => [bs.getD (i * 2) 0, bs.getD (i * 2 + 1) 0]) := by
    rw [List.flatMap_def, List.flatMap_def, List.map_congr_left e]
  rw [e2, jcv bs n (by omega), ← hl, List.take_length]
theorem Ub {xs : List Int} {m : Nat} (hm : 0 < m) (h : xs.length / m = 0) (h2 : xs.length % m = 0) : xs = [] := by
  have h3 := Nat.div_add_mod xs.length m
  rw [h, h2] at h3
  exact List.length_eq_zero_iff.1 (by simpa using h3.symm)
theorem ZJ (H : Reads num part) {page slot : Int} (hp : 0 ≤ page ∧ page < 16) (hs : 0 ≤ slot ∧ slot < 32) (C : List Int) : num (Q6 page 2 ++ (Q6 slot 2 ++ C)) 2 = page ∧ num ((Q6 page 2 ++ (Q6 slot 2 ++ C)).drop 2) 2 = slot ∧ (Q6 page 2 ++ (Q6 slot 2 ++ C)).drop 4 = C := by
  have d2 := drop2 (x := page) (by omega) (by omega) (Q6 slot 2 ++ C)
  refine ⟨H.n2 (by omega) (by omega) _, ?_, ?_⟩
  · rw [d2, H.n2 (by omega) (by omega)]
  · rw [show (4 : Nat) = 2 + 2 from rfl, ← List.drop_drop, d2, drop2 (by omega) (by omega)]
def VF (num : List Int → Nat → Int) (part : List Int → Nat → List Int) (k txn prev page slot : Int) (bu : Bool) (bb : List Int) (au : Bool) (ab : List Int) (un nt : Int) (tx dy im : List Int) : Prop :=
  Yo num (RO k txn prev page slot bu bb au ab un nt tx dy im) = (k, txn, prev) ∧ Ru num part k txn prev ((RO k txn prev page slot bu bb au ab un nt tx dy im).drop 13) = (k, txn, prev, page, slot, (bu, bb), (au, ab), un, nt, tx, dy, im)
theorem jf2 (H : Reads num part) {txn prev page slot un nt : Int} {bu au : Bool} {bb ab tx dy im : List Int} (h : RV 1 txn prev page slot bu bb au ab un nt tx dy im = 0) (h4 : tx.length % 4 = 0) (h2 : dy.length % 2 = 0) : VF num part 1 txn prev page slot bu bb au ab un nt tx dy im := by
  obtain ⟨⟨g1, g2⟩, ⟨g3, g4⟩, _, _⟩ := jdI h
  unfold RV at h
  rw [if_pos rfl] at h
  split at h
  case isFalse => omega
  rename_i ha
  obtain ⟨_, _, hu⟩ := WH h
  have hf : Rj bu bb.length = true ∧ Rj au ab.length = true := by
    unfold jaf at hu
    split at hu
    · rename_i hq
      simp only [Bool.and_eq_true] at hq
      exact hq.1
    · omega
  simp only [Yi, Bool.and_eq_true, decide_eq_true_eq] at ha
  obtain ⟨⟨⟨⟨e1, e2⟩, e3⟩, e4⟩, e5⟩ := ha
  obtain rfl := Ub (by omega) e3 h4
  obtain rfl := Ub (by omega) e4 h2
  subst e1 e2 e5
  have eb : RO 1 txn prev page slot bu bb au ab 0 0 [] [] [] = Rv 1 txn prev ++ (Q6 page 2 ++ (Q6 slot 2 ++ (Ry bu bb ++ (Ry au ab ++ [])))) := by simp [RO]
  obtain ⟨q1, q2⟩ := Ty H (k := 1) (txn := txn) (prev := prev) (by omega) (by omega) g2 (Q6 page 2 ++ (Q6 slot 2 ++ (Ry bu bb ++ (Ry au ab ++ []))))
  obtain ⟨q3, q4, q5⟩ := ZJ H g3 g4 (Ry bu bb ++ (Ry au ab ++ []))
  unfold VF
  rw [eb, q1, q2]
  refine ⟨rfl, ?_⟩
  unfold Ru
  rw [if_pos rfl, q3, q4, q5, Wn H hf.1]
  dsimp only
  rw [Wn H hf.2]
theorem jf3 (H : Reads num part) {txn prev page slot un nt : Int} {bu au : Bool} {bb ab tx dy im : List Int} (h : RV 2 txn prev page slot bu bb au ab un nt tx dy im = 0) (h4 : tx.length % 4 = 0) (h2 : dy.length % 2 = 0) : VF num part 2 txn prev page slot bu bb au ab un nt tx dy im := by
  obtain ⟨⟨g1, g2⟩, ⟨g3, g4⟩, _, g5⟩ := jdJ h
  unfold RV at h
  rw [if_neg (by decide), if_pos rfl] at h
  split at h
  case isFalse => omega
  rename_i ha
  obtain ⟨_, _, hu⟩ := WH h
  have hf : Rj au ab.length = true := by
    unfold jag at hu
    split at hu
    · omega
    · rename_i hq
      simpa using hq
  simp only [Yj, Bool.and_eq_true, decide_eq_true_eq, beq_iff_eq] at ha
  obtain ⟨⟨⟨⟨⟨e0, e1⟩, e2⟩, e3⟩, e4⟩, e5⟩ := ha
  obtain rfl := Ub (by omega) e3 h4
  obtain rfl := Ub (by omega) e4 h2
  subst e0 e1 e2 e5
  have eb : RO 2 txn prev page slot false [] au ab un 0 [] [] [] = Rv 2 txn prev ++ (Q6 page 2 ++ (Q6 slot 2 ++ (Ry au ab ++ (Q6 un 8 ++ [])))) := by simp [RO]
  obtain ⟨q1, q2⟩ := Ty H (k := 2) (txn := txn) (prev := prev) (by omega) (by omega) g2 (Q6 page 2 ++ (Q6 slot 2 ++ (Ry au ab ++ (Q6 un 8 ++ []))))
  obtain ⟨q3, q4, q5⟩ := ZJ H g3 g4 (Ry au ab ++ (Q6 un 8 ++ []))
  unfold VF
  rw [eb, q1, q2]
  refine ⟨rfl, ?_⟩
  unfold Ru
  rw [if_neg (by decide), if_pos rfl, q3, q4, q5, Wn H hf]
  dsimp only
  rw [H.n8 (by omega) (by omega)]
theorem jf4 (H : Reads num part) {txn prev page slot un nt : Int} {bu au : Bool} {bb ab tx dy im : List Int} (h : RV 3 txn prev page slot bu bb au ab un nt tx dy im = 0) (h4 : tx.length % 4 = 0) (h2 : dy.length % 2 = 0) : VF num part 3 txn prev page slot bu bb au ab un nt tx dy im := by
  obtain ⟨g1, g2⟩ := jdK h
  unfold RV at h
  rw [if_neg (by decide), if_neg (by decide), if_pos rfl] at h
  split at h
  case isFalse => omega
  rename_i ha
  simp only [Yk, Bool.and_eq_true, decide_eq_true_eq, beq_iff_eq] at ha
  obtain ⟨⟨⟨⟨⟨⟨⟨⟨a1, a2⟩, a3, a4⟩, a5, a6⟩, e1⟩, e2⟩, e3⟩, e4⟩, e5⟩ := ha
  obtain rfl := Ub (by omega) e3 h4
  obtain rfl := Ub (by omega) e4 h2
  subst a1 a2 a3 a4 a5 a6 e1 e2 e5
  have eb : RO 3 txn prev 0 0 false [] false [] 0 0 [] [] [] = Rv 3 txn prev ++ [] := by simp [RO]
  obtain ⟨q1, q2⟩ := Ty H (k := 3) (txn := txn) (prev := prev) (by omega) (by omega) (by omega) []
  unfold VF
  rw [eb, q1, q2]
  exact ⟨rfl, rfl⟩
theorem jf5 (H : Reads num part) {txn prev page slot un nt : Int} {bu au : Bool} {bb ab tx dy im : List Int} (h : RV 4 txn prev page slot bu bb au ab un nt tx dy im = 0) (h4 : tx.length % 4 = 0) (h2 : dy.length % 2 = 0) : VF num part 4 txn prev page slot bu bb au ab un nt tx dy im := by
  obtain ⟨g1, g2⟩ := jdL h
  unfold RV at h
  rw [if_neg (by decide), if_neg (by decide), if_neg (by decide), if_pos rfl] at h
  split at h
  case isFalse => omega
  rename_i ha
  simp only [Yl, Bool.and_eq_true, decide_eq_true_eq, beq_iff_eq] at ha
  obtain ⟨⟨⟨⟨⟨⟨⟨⟨a1, a2⟩, a3, a4⟩, a5, a6⟩, e1⟩, e2⟩, e3⟩, e4⟩, e5⟩ := ha
  obtain rfl := Ub (by omega) e3 h4
  obtain rfl := Ub (by omega) e4 h2
  subst a1 a2 a3 a4 a5 a6 e1 e2 e5
  have eb : RO 4 txn prev 0 0 false [] false [] 0 0 [] [] [] = Rv 4 txn prev ++ [] := by simp [RO]
  obtain ⟨q1, q2⟩ := Ty H (k := 4) (txn := txn) (prev := prev) (by omega) (by omega) (by omega) []
  unfold VF
  rw [eb, q1, q2]
  exact ⟨rfl, rfl⟩
theorem jf6 (H : Reads num part) {txn prev page slot un nt : Int} {bu au : Bool} {bb ab tx dy im : List Int} (h : RV 5 txn prev page slot bu bb au ab un nt tx dy im = 0) (h4 : tx.length % 4 = 0) (h2 : dy.length % 2 = 0) : VF num part 5 txn prev page slot bu bb au ab un nt tx dy im := by
  obtain ⟨g1, g2⟩ := jdM h
  unfold RV at h
  rw [if_neg (by decide), if_neg (by decide), if_neg (by decide), if_neg (by decide), if_pos rfl] at h
  split at h
  case isFalse => omega
  rename_i ha
  simp only [Ym, Bool.and_eq_true, decide_eq_true_eq, beq_iff_eq] at ha
  obtain ⟨⟨⟨⟨⟨⟨⟨⟨a1, a2⟩, a3, a4⟩, a5, a6⟩, e1⟩, e2⟩, e3⟩, e4⟩, e5⟩ := ha
  obtain rfl := Ub (by omega) e3 h4
  obtain rfl := Ub (by omega) e4 h2
  subst a1 a2 a3 a4 a5 a6 e1 e2 e5
  have eb : RO 5 txn prev 0 0 false [] false [] 0 0 [] [] [] = Rv 5 txn prev ++ [] := by simp [RO]
  obtain ⟨q1, q2⟩ := Ty H (k := 5) (txn := txn) (prev := prev) (by omega) (by omega) (by omega) []
  unfold VF
  rw [eb, q1, q2]
  exact ⟨rfl, rfl⟩
theorem jf7 (H : Reads num part) {txn prev page slot un nt : Int} {bu au : Bool} {bb ab tx dy im : List Int} (h : RV 6 txn prev page slot bu bb au ab un nt tx dy im = 0) (h4 : tx.length % 4 = 0) (h2 : dy.length % 2 = 0) : VF num part 6 txn prev page slot bu bb au ab un nt tx dy im := by
  obtain ⟨g1, g2⟩ := jdN h
  unfold RV at h
  rw [if_neg (by decide), if_neg (by decide), if_neg (by decide), if_neg (by decide), if_neg (by decide), if_pos rfl] at h
  split at h
  case isFalse => omega
  rename_i ha
  simp only [Xj, Bool.and_eq_true, decide_eq_true_eq, beq_iff_eq] at ha
  obtain ⟨⟨⟨⟨⟨⟨⟨⟨⟨⟨b1, b2⟩, a1⟩, a2⟩, a3, a4⟩, a5, a6⟩, e1⟩, e2⟩, e3⟩, e4⟩, e5⟩ := ha
  obtain rfl := Ub (by omega) e3 h4
  obtain rfl := Ub (by omega) e4 h2
  subst a1 a2 a3 a4 a5 a6 e1 e2 e5
  have eb : RO 6 txn prev 0 0 false [] false [] 0 0 [] [] [] = Rv 6 txn prev ++ [] := by simp [RO]
  obtain ⟨q1, q2⟩ := Ty H (k := 6) (txn := txn) (prev := prev) (by omega) (by omega) (by omega) []
  unfold VF
  rw [eb, q1, q2]
  exact ⟨rfl, rfl⟩
theorem jf8 (H : Reads num part) {txn prev page slot un nt : Int} {bu au : Bool} {bb ab tx dy im : List Int} (h : RV 8 txn prev page slot bu bb au ab un nt tx dy im = 0) (h4 : tx.length % 4 = 0) (h2 : dy.length % 2 = 0) : VF num part 8 txn prev page slot bu bb au ab un nt tx dy im := by
  obtain ⟨g1, g2, g3, g4⟩ := jaY h
  unfold RV at h
  rw [if_neg (by decide), if_neg (by decide), if_neg (by decide), if_neg (by decide), if_neg (by decide), if_neg (by decide), if_neg (by decide), if_pos rfl] at h
  split at h
  case isFalse => omega
  rename_i ha
  simp only [Xl, Bool.and_eq_true, decide_eq_true_eq, beq_iff_eq] at ha
  obtain ⟨⟨⟨⟨⟨⟨⟨⟨b1, b2⟩, a2⟩, a3, a4⟩, a5, a6⟩, e1⟩, e2⟩, e3⟩, e4⟩ := ha
  obtain rfl := Ub (by omega) e3 h4
  obtain rfl := Ub (by omega) e4 h2
  subst a2 a3 a4 a5 a6 e1 e2
  have eb : RO 8 txn prev page 0 false [] false [] 0 0 [] [] im = Rv 8 txn prev ++ (Q6 page 2 ++ (im ++ [])) := by simp [RO]
  obtain ⟨q1, q2⟩ := Ty H (k := 8) (txn := txn) (prev := prev) (by omega) (by omega) (by omega) (Q6 page 2 ++ (im ++ []))
  unfold VF
  rw [eb, q1, q2]
  refine ⟨rfl, ?_⟩
  unfold Ru
  rw [if_neg (by decide), if_neg (by decide), if_neg (by decide), if_pos rfl, H.n2 (by omega) (by omega), drop2 (by omega) (by omega), ← g4, H.part im []]
theorem jf9 (H : Reads num part) {txn prev page slot un nt : Int} {bu au : Bool} {bb ab tx dy im : List Int} (h : RV 7 txn prev page slot bu bb au ab un nt tx dy im = 0) (h4 : tx.length % 4 = 0) (h2 : dy.length % 2 = 0) : VF num part 7 txn prev page slot bu bb au ab un nt tx dy im := by
  obtain ⟨g1, g2, g3, g4, g5⟩ := jaX h
  obtain ⟨t1, t2⟩ := jb5 g4
  obtain ⟨y1, y2⟩ := jb6 g5
  unfold RV at h
  rw [if_neg (by decide), if_neg (by decide), if_neg (by decide), if_neg (by decide), if_neg (by decide), if_neg (by decide), if_pos rfl] at h
  split at h
  case isFalse => omega
  rename_i ha
  simp only [Xk, Bool.and_eq_true, decide_eq_true_eq, beq_iff_eq] at ha
  obtain ⟨⟨⟨⟨⟨⟨⟨b1, b2⟩, a1⟩, a2⟩, a3, a4⟩, a5, a6⟩, e1⟩, e5⟩ := ha
  subst a1 a2 a3 a4 a5 a6 e1 e5
  obtain ⟨n, hn⟩ : ∃ n, tx.length / 4 = n := ⟨_, rfl⟩
  obtain ⟨m, hm⟩ : ∃ m, dy.length / 2 = m := ⟨_, rfl⟩
  have hl : tx.length = n * 4 := by omega
  have hk : dy.length = m * 2 := by omega
  rw [hn] at t1 t2
  rw [hm] at y1 y2
  have eb : RO 7 txn prev 0 0 false [] false [] 0 nt tx dy [] = Rv 7 txn prev ++ (Q6 nt 4 ++ (Q6 (n : Int) 1 ++ (RG tx n ++ (Q6 (m : Int) 1 ++ (Tg dy m ++ []))))) := by simp [RO, hn, hm]
  obtain ⟨q1, q2⟩ := Ty H (k := 7) (txn := txn) (prev := prev) (by omega) (by omega) (by omega) (Q6 nt 4 ++ (Q6 (n : Int) 1 ++ (RG tx n ++ (Q6 (m : Int) 1 ++ (Tg dy m ++ [])))))
  unfold VF
  rw [eb, q1, q2]
  refine ⟨rfl, ?_⟩
  have d4 := jdO (x := nt) (by omega) (by omega) (Q6 (n : Int) 1 ++ (RG tx n ++ (Q6 (m : Int) 1 ++ (Tg dy m ++ []))))
  have d5 : (Q6 nt 4 ++ (Q6 (n : Int) 1 ++ (RG tx n ++ (Q6 (m : Int) 1 ++ (Tg dy m ++ []))))).drop 5 = RG tx n ++ (Q6 (m : Int) 1 ++ (Tg dy m ++ [])) := by rw [show (5 : Nat) = 4 + 1 from rfl, ← List.drop_drop, d4, drop1 (by omega) (by omega)]
  have d6 : (RG tx n ++ (Q6 (m : Int) 1 ++ (Tg dy m ++ []))).drop (21 * n) = Q6 (m : Int) 1 ++ (Tg dy m ++ []) := List.drop_left' (Yp n t2)
  unfold Ru
  rw [if_neg (by decide), if_neg (by decide), if_pos rfl, H.n4 (by omega) (by omega), d4, H.n1 (by omega) (by omega), d5, Int.toNat_natCast, jeP H hl t2, ← List.drop_drop, d6, H.n1 (by omega) (by omega), drop1 (by omega) (by omega), Int.toNat_natCast, jeQ H hk y2]
theorem ja6 (H : Reads num part) {k txn prev page slot un nt : Int} {bu au : Bool} {bb ab tx dy im : List Int} (h : RV k txn prev page slot bu bb au ab un nt tx dy im = 0) (h4 : tx.length % 4 = 0) (h2 : dy.length % 2 = 0) : VF num part k txn prev page slot bu bb au ab un nt tx dy im := by
  by_cases k1 : k = 1
  · subst k1; exact jf2 H h h4 h2
  by_cases k2 : k = 2
  · subst k2; exact jf3 H h h4 h2
  by_cases k3 : k = 3
  · subst k3; exact jf4 H h h4 h2
  by_cases k4 : k = 4
  · subst k4; exact jf5 H h h4 h2
  by_cases k5 : k = 5
  · subst k5; exact jf6 H h h4 h2
  by_cases k6 : k = 6
  · subst k6; exact jf7 H h h4 h2
  by_cases k7 : k = 7
  · subst k7; exact jf9 H h h4 h2
  by_cases k8 : k = 8
  · subst k8; exact jf8 H h h4 h2
  exfalso
  unfold RV at h
  rw [if_neg k1, if_neg k2, if_neg k3, if_neg k4, if_neg k5, if_neg k6, if_neg k7, if_neg k8] at h
  omega
end
def jaj (d : VT) : Prop := d.2.2.2.2.2.2.2.2.2.1.length % 4 = 0 ∧ d.2.2.2.2.2.2.2.2.2.2.1.length % 2 = 0
theorem jcV {d : VT} (hz : RJ d = 0) (hf : jaj d) : XV (RD d) = d := by
  obtain ⟨k, txn, prev, page, slot, ⟨bu, bb⟩, ⟨au, ab⟩, un, nt, tx, dy, im⟩ := d
  obtain ⟨h1, h2⟩ := ja6 jeJ (k := k) hz hf.1 hf.2
  unfold Yo at h1
  simp only [Prod.mk.injEq] at h1
  obtain ⟨e1, e2, e3⟩ := h1
  unfold XV
  show Ru nS SX (nS (RO k txn prev page slot bu bb au ab un nt tx dy im) 1) _ _ _ = _
  rw [e1]
  show Ru nS SX k (nS ((RO k txn prev page slot bu bb au ab un nt tx dy im).drop 1) 4) _ _ = _
  rw [e2]
  show Ru nS SX k txn (nS ((RO k txn prev page slot bu bb au ab un nt tx dy im).drop 5) 8) _ = _
  rw [e3]
  exact h2
theorem jdP {k txn prev page slot un nt : Int} {bu au : Bool} {bb ab tx dy im : List Int} (h : RV k txn prev page slot bu bb au ab un nt tx dy im = 0) (hk : ¬ k ≤ 5) : txn = 0 ∧ prev = 0 := by
  by_cases k6 : k = 6
  · subst k6; exact jdN h
  by_cases k7 : k = 7
  · subst k7; exact ⟨(jaX h).1, (jaX h).2.1⟩
  by_cases k8 : k = 8
  · subst k8; exact ⟨(jaY h).1, (jaY h).2.1⟩
  exfalso
  unfold RV at h
  rw [if_neg (by omega), if_neg (by omega), if_neg (by omega), if_neg (by omega), if_neg (by omega), if_neg k6, if_neg k7, if_neg k8] at h
  omega
theorem jcW {d : VT} (hz : RJ d = 0) (hf : jaj d) : UK (RD d) = d := by
  obtain ⟨k, txn, prev, page, slot, ⟨bu, bb⟩, ⟨au, ab⟩, un, nt, tx, dy, im⟩ := d
  obtain ⟨h1, h2⟩ := ja6 jeK (k := k) hz hf.1 hf.2
  have h3 := jdP (k := k) hz
  unfold Yo at h1
  simp only [Prod.mk.injEq] at h1
  obtain ⟨e1, e2, e3⟩ := h1
  unfold UK
  show Ru nI _ (nI (RO k txn prev page slot bu bb au ab un nt tx dy im) 1) (if nI (RO k txn prev page slot bu bb au ab un nt tx dy im) 1 ≤ 5 then _ else _) (if nI (RO k txn prev page slot bu bb au ab un nt tx dy im) 1 ≤ 5 then _ else _) _ = _
  rw [e1]
  show Ru nI _ k (if k ≤ 5 then (nI ((RO k txn prev page slot bu bb au ab un nt tx dy im).drop 1) 4) else 0) (if k ≤ 5 then (nI ((RO k txn prev page slot bu bb au ab un nt tx dy im).drop 5) 8) else 0) _ = _
  rw [e2, e3]
  by_cases hk : k ≤ 5
  · rw [if_pos hk, if_pos hk]; exact h2
  · obtain ⟨r1, r2⟩ := h3 hk
    dsimp only at r1 r2
    subst r1 r2
    rw [if_neg hk]
    exact h2
theorem XE (num : List Int → Nat → Int) (part : List Int → Nat → List Int) (k txn prev : Int) (r : List Int) : jaj (Ru num part k txn prev r) := by
  unfold Ru jaj
  split
  · exact ⟨rfl, rfl⟩
  split
  · exact ⟨rfl, rfl⟩
  split
  · refine ⟨?_, ?_⟩
    · show (txL num _ _).length % 4 = 0
      unfold txL
      rw [Tx (m := 4) (fun i => rfl)]
      omega
    · show (dyL num _ _).length % 2 = 0
      unfold dyL
      rw [Tx (m := 2) (fun i => rfl)]
      omega
  split
  · exact ⟨rfl, rfl⟩
  · exact ⟨rfl, rfl⟩
def VG (bs : List Int) : Bool × VT := if RJ (XV bs) = 0 ∧ RD (XV bs) = bs then (true, XV bs) else (false, V6)
theorem jfu (bs : List Int) : VG bs = if RJ (UK bs) = 0 ∧ RD (UK bs) = bs then (true, UK bs) else (false, V6) := by
  unfold VG
  by_cases h : RJ (XV bs) = 0 ∧ RD (XV bs) = bs
  · have e : UK bs = XV bs := by
      have h1 := jcW h.1 (XE _ _ _ _ _ _)
      rwa [h.2] at h1
    rw [if_pos h, e, if_pos h]
  · rw [if_neg h]
    by_cases h' : RJ (UK bs) = 0 ∧ RD (UK bs) = bs
    · exfalso
      have e : XV bs = UK bs := by
        have h1 := jcV h'.1 (XE _ _ _ _ _ _)
        rwa [h'.2] at h1
      rw [e] at h
      exact h h'
    · rw [if_neg h']
def S9 (c : Int) : Int × Int × Int × VT := (c, 0, 0, V6)
def WJ (bs : List Int) (size : Nat) (lsn least most : Int) : Int × Int × Int × VT :=
  if RQ ((bs.drop 4).take 4) ≠ Tv 0 ((bs.drop 8).take (size - 8)) then S9 2
  else if RQ ((bs.drop 8).take 8) ≠ lsn ∨ lsn < 0 then S9 3
  else if RQ ((bs.drop 16).take 4) < least ∨ most < RQ ((bs.drop 16).take 4) then S9 4
  else if (VG ((bs.drop 20).take (size - 20))).1 = true then (0, (size : Int), RQ ((bs.drop 16).take 4), (VG ((bs.drop 20).take (size - 20))).2) else S9 5
abbrev Ve (bs : List Int) : Prop := 20 ≤ bs.length ∧ 33 ≤ RQ (bs.take 4) ∧ RQ (bs.take 4) ≤ 4131 ∧ RQ (bs.take 4) ≤ bs.length
def RP (bs : List Int) (lsn least most : Int) : Int × Int × Int × VT :=
  if Ve bs then WJ bs (RQ (bs.take 4)).toNat lsn least most else S9 1
theorem jcX {xs : List Int} {lsn : Int} (hB : IsB xs) (hl : xs.length = 8) (hI : IsI lsn) : xs = Q6 lsn 8 ↔ ¬ (RQ xs ≠ lsn ∨ lsn < 0) := by
  constructor
  · intro h
    have fW : Q6 lsn 8 ≠ [] := fun e => by rw [h, e] at hl; simp at hl
    have h1 := Zy lsn 8 hI fW
    have h0 : 0 ≤ lsn := by
      by_cases h0 : 0 ≤ lsn
      · exact h0
      · exfalso
        apply fW
        unfold Q6
        rw [if_pos (by omega)]
    rw [← h] at h1
    omega
  · intro h
    have h1 : RQ xs = lsn := by omega
    have h0 : 0 ≤ lsn := by omega
    have h2 : num xs = lsn := by
      unfold RQ at h1
      split at h1
      · omega
      · exact h1
    have h3 := jaQ xs hB
    rw [hl, h2] at h3
    have h4 := ZH (x := lsn) (n := 8) (by omega) h0 (by unfold IsI at hI; omega)
    exact h3.symm.trans h4.symm
theorem Rd.cut {w : World} {b off c : Nat} {raw : List Int} (h : Rd .u8 w (.slice (some ⟨b, off, none⟩) raw.length c) raw) (x y : Nat) (Bs : x + y ≤ raw.length) :
    Rd .u8 w (.slice (some (if c = x then ⟨b, off, none⟩ else ⟨b, off + x, none⟩)) y (c - x)) ((raw.drop x).take y) := by
  have hl : ((raw.drop x).take y).length = y := by simp; omega
  rcases h.2 with ⟨rfl, _⟩ | ⟨b', kK, c', he, kx, hc⟩
  · simp at Bs
    obtain ⟨rfl, rfl⟩ := Bs
    exact ⟨by simp, .inl ⟨by simp, _, _, rfl, fun h => by cases h⟩⟩
  · injection he with h1 h2 h3
    injection h1 with h1
    injection h1 with h1 h4
    subst h1 h4 h3
    by_cases h0 : y = 0
    · subst h0
      exact ⟨by rw [hl]; simp, .inl ⟨by simp, _, _, rfl, fun h => by cases h⟩⟩
    · rw [if_neg (by omega)]
      refine ⟨by have := h.1; omega, .inr ⟨b, off + x, c - x, by rw [hl], by omega, fun i hi => ?_⟩⟩
      rw [hl] at hi
      rw [Nat.add_assoc, hc (x + i) (by omega)]
      simp [List.getD, List.getElem?_take, List.getElem?_drop, hi]
theorem Rd.part {k : IntKind} {w : World} {b off n c : Nat} {bs : List Int} (h : ∀ i, i < bs.length → w.cell? ⟨b, off + i, none⟩ = some (.int k (bs.getD i 0))) (lo m : Nat) (hm : lo + m ≤ bs.length) (hn : n = m) (hc : m ≤ c) (m9 : m ≤ maxLen) :
    Rd k w (.slice (some ⟨b, off + lo, none⟩) n c) ((bs.drop lo).take m) := by
  have hl : ((bs.drop lo).take m).length = m := by simp; omega
  refine ⟨by omega, .inr ⟨b, off + lo, c, by rw [hn, hl], by rw [hl]; exact hc, fun i hi => ?_⟩⟩
  rw [hl] at hi
  have h1 := h (lo + i) (by omega)
  rw [← Nat.add_assoc] at h1
  rw [h1]
  simp [List.getD, hi]
structure RI (wx : World) (B0 P : Nat) (rs : List Int) : Prop where
  at_ : ∃ v, Blk wx P 136 [v] ∧ ∀ wy, Kept (fun b => B0 ≤ b) wx wy → Rd .u8 wy v rs
  le : B0 ≤ P
theorem RI.keep {F : Nat → Prop} {wx wy : World} {B0 P : Nat} {rs : List Int} (h : RI wx B0 P rs) (hk : Kept F wx wy) (hP : ¬ F P) (hF : ∀ b, b < wx.heap.size → F b → B0 ≤ b) : RI wy B0 P rs := by
  obtain ⟨⟨v, h1, h2⟩, h3⟩ := h
  exact ⟨⟨v, h1.kept hk hP, fun wz hz => h2 wz ((hk.mono hF).trans hz)⟩, h3⟩
theorem RI.same {wx wy : World} {B0 P : Nat} {rs : List Int} (h : RI wx B0 P rs) (hk : Same wx wy) : RI wy B0 P rs := h.keep hk id (fun _ _ e => e.elim)
theorem RI.lt {wx : World} {B0 P : Nat} {rs : List Int} (h : RI wx B0 P rs) : P < wx.heap.size := by
  obtain ⟨⟨v, h1, h2⟩, h3⟩ := h
  exact h1.lt
theorem Rd.headP {w : World} {b off c : Nat} {raw : List Int} (h : Rd .u8 w (.slice (some ⟨b, off, none⟩) raw.length c) raw) (m : Nat) (hm : m ≤ raw.length) : Rd .u8 w (.slice (some ⟨b, off, none⟩) m c) (raw.take m) := by
  have h1 := h.cut 0 m (by omega)
  have e : (if c = 0 then (⟨b, off, none⟩ : Addr) else ⟨b, off + 0, none⟩) = ⟨b, off, none⟩ := by split <;> rfl
  rw [e] at h1
  exact h1
theorem Rd.restP {w : World} {b off c : Nat} {raw : List Int} (h : Rd .u8 w (.slice (some ⟨b, off, none⟩) raw.length c) raw) (m k o k2 : Nat) (hm : m ≤ raw.length) (hk : k = raw.length - m) (ho : o = if c = m then off else off + m) (h2 : k2 = c - m) : Rd .u8 w (.slice (some ⟨b, o, none⟩) k k2) (raw.drop m) := by
  have h1 := h.cut m (raw.length - m) (by omega)
  rw [List.take_of_length_le (by rw [List.length_drop]; omega)] at h1
  have e : (if c = m then (⟨b, off, none⟩ : Addr) else ⟨b, off + m, none⟩) = ⟨b, o, none⟩ := by rw [ho]; split <;> rfl
  rw [e, ← hk, ← h2] at h1
  exact h1
theorem jak {w : World} {B0 P : Nat} {rs : List Int} (n : Int) (hn : -1 ≤ n ∧ n ≤ 65536) (hl : rs.length ≤ 1099511627776) (h : RI w B0 P rs) :
    Calls Tryz.prog 87 #[.pointer (some ⟨P, 0, none⟩), .int .i64 n] w fun e w' => ∃ a c, e = .returned (.slice a (rs.take n.toNat).length c) ∧ (∀ wy, Kept (fun b => B0 ≤ b) w' wy → Rd .u8 wy (.slice a (rs.take n.toNat).length c) (rs.take n.toNat)) ∧ RI w' B0 P (rs.drop n.toNat) ∧ Kept (fun b => b = P) w w' := by
  obtain ⟨⟨v, h1, h2⟩, h3⟩ := h
  have gL : ∀ x, Kept (fun b => b = P) w (w.setCell ⟨P, 0, none⟩ x) := fun x => (Kept.refl (fun b => b = P) w).setCell (p := ⟨P, 0, none⟩) (.inr rfl) _
  have IV : ∀ x wy, Kept (fun b => B0 ≤ b) (w.setCell ⟨P, 0, none⟩ x) wy → Kept (fun b => B0 ≤ b) w wy := fun x wy hy => ((gL x).mono (fun b _ e => by omega)).trans hy
  have kJ := hid gL
  have mF := hid IV
  have HB := hid h1
  have c0 := h1.c0
  have fb := h1.frozen
  have bH := h1.lt
  obtain ⟨m, hm⟩ : ∃ m : Nat, min n.toNat rs.length = m := ⟨_, rfl⟩
  have iZ : m ≤ rs.length := by omega
  have e1 : rs.take n.toNat = rs.take m := by rw [← hm, List.take_eq_take_iff]; omega
  have e2 : rs.drop n.toNat = rs.drop m := by rw [← hm]; by_cases h : n.toNat ≤ rs.length; rw [Nat.min_eq_left h]; rw [Nat.min_eq_right (by omega), List.drop_length, List.drop_eq_nil_of_le (by omega)]
  have el : (rs.take m).length = m := by rw [List.length_take]; omega
  rw [e1, e2, el]
  have HV := hid h2
  clear gL h1 h2 IV e1 e2 el
  rcases (HV.out w kZ0).2 with ⟨rfl, a, c, rfl, kl⟩ | ⟨b, off, c, rfl, kx, hx⟩
  · obtain rfl : m = 0 := by simpa using iZ
    have K9 : max 0 (min n 0) = 0 := by omega
    rcases a with _ | a
    · obtain rfl : c = 0 := by first | exact kl rfl | simpa using kl
      go_enter Tryz.func87, Tryz.ntmps87
      go_wp2
      all_goals refine bodyPost_ret (v := .slice none 0 0) (by simp [results, Tryz.results87, go_sem]) rfl ⟨_, _, rfl, fun wy hy => ?_, ⟨⟨_, HB.out.stored 0 _, fun wy hy => ?_⟩, h3⟩, kJ.out _⟩
      all_goals exact HV.out wy (mF.out _ wy hy)
    · go_enter Tryz.func87, Tryz.ntmps87
      go_wp2
      all_goals refine bodyPost_ret (v := .slice (some a) 0 c) (by simp [results, Tryz.results87, go_sem]) rfl ⟨_, _, rfl, fun wy hy => ?_, ⟨⟨_, HB.out.stored 0 _, fun wy hy => ?_⟩, h3⟩, kJ.out _⟩
      all_goals exact HV.out wy (mF.out _ wy hy)
  · clear hx
    by_cases K9 : n < 0
    · obtain rfl : m = 0 := by omega
      go_enter Tryz.func87, Tryz.ntmps87
      go_wp2
      all_goals refine bodyPost_ret (v := .slice (some ⟨b, off, none⟩) 0 c) (by simp [results, Tryz.results87, go_sem]) rfl ⟨_, _, rfl, fun wy hy => (HV.out wy (mF.out _ wy hy)).headP 0 (by omega), ⟨⟨_, HB.out.stored 0 _, fun wy hy => HV.out wy (mF.out _ wy hy)⟩, h3⟩, kJ.out _⟩
    by_cases hm0 : m = 0
    · subst hm0
      have hz : max 0 (min n rs.length) = 0 := by omega
      go_enter Tryz.func87, Tryz.ntmps87
      go_wp2
      all_goals refine bodyPost_ret (v := .slice (some ⟨b, off, none⟩) 0 c) (by simp [results, Tryz.results87, go_sem]) rfl ⟨_, _, rfl, fun wy hy => (HV.out wy (mF.out _ wy hy)).headP 0 (by omega), ⟨⟨_, HB.out.stored 0 _, fun wy hy => ?_⟩, h3⟩, kJ.out _⟩
      all_goals exact HV.out wy (mF.out _ wy hy)
    by_cases tr : n ≤ rs.length
    · obtain rfl : n = (m : Int) := by omega
      by_cases jY : c = m
      · subst jY
        go_enter Tryz.func87, Tryz.ntmps87
        go_wp2
        refine bodyPost_ret (v := .slice (some ⟨b, off, none⟩) c c) (by simp [results, Tryz.results87, go_sem]) rfl ⟨_, _, rfl, fun wy hy => (HV.out wy (mF.out _ wy hy)).headP c iZ, ⟨⟨_, HB.out.stored 0 _, fun wy hy => ?_⟩, h3⟩, kJ.out _⟩
        exact (HV.out wy (mF.out _ wy hy)).restP c _ _ _ iZ (by omega) (by split <;> omega) (by omega)
      · have tM : ¬ m = c := fun e => jY e.symm
        go_enter Tryz.func87, Tryz.ntmps87
        go_wp2
        refine bodyPost_ret (v := .slice (some ⟨b, off, none⟩) m c) (by simp [results, Tryz.results87, go_sem]) rfl ⟨_, _, rfl, fun wy hy => (HV.out wy (mF.out _ wy hy)).headP m iZ, ⟨⟨_, HB.out.stored 0 _, fun wy hy => ?_⟩, h3⟩, kJ.out _⟩
        exact (HV.out wy (mF.out _ wy hy)).restP m _ _ _ iZ (by omega) (by split <;> omega) (by omega)
    · have nG : m = rs.length := by omega
      have Ov : (rs.length : Int) < n := by omega
      rw [← nG] at Ov
      clear tr
      obtain ⟨L, hL⟩ : ∃ L, rs.length = L := ⟨_, rfl⟩
      rw [hL] at nG c0 HB kx
      subst nG
      by_cases jY : c = m
      · subst jY
        go_enter Tryz.func87, Tryz.ntmps87
        go_wp2
        refine bodyPost_ret (v := .slice (some ⟨b, off, none⟩) c c) (by simp [results, Tryz.results87, go_sem]) rfl ⟨_, _, rfl, fun wy hy => (HV.out wy (mF.out _ wy hy)).headP c iZ, ⟨⟨_, HB.out.stored 0 _, fun wy hy => ?_⟩, h3⟩, kJ.out _⟩
        exact (HV.out wy (mF.out _ wy hy)).restP c _ _ _ iZ (by omega) (by split <;> omega) (by omega)
      · have tM : ¬ m = c := fun e => jY e.symm
        go_enter Tryz.func87, Tryz.ntmps87
        go_wp2
        refine bodyPost_ret (v := .slice (some ⟨b, off, none⟩) m c) (by simp [results, Tryz.results87, go_sem]) rfl ⟨_, _, rfl, fun wy hy => (HV.out wy (mF.out _ wy hy)).headP m iZ, ⟨⟨_, HB.out.stored 0 _, fun wy hy => ?_⟩, h3⟩, kJ.out _⟩
        exact (HV.out wy (mF.out _ wy hy)).restP m _ _ _ iZ (by omega) (by split <;> omega) (by omega)
theorem RI.isB {wx : World} {B0 P : Nat} {rs : List Int} (hB : IsB rs) (n : Nat) : IsB (rs.take n) ∧ IsB (rs.drop n) := ⟨fun y hy => hB y (List.mem_of_mem_take hy), fun y hy => hB y (List.mem_of_mem_drop hy)⟩
theorem RX {w : World} {B0 P : Nat} {rs : List Int} (n : Nat) (hn : n ≤ 8) (hB : IsB rs) (hl : rs.length ≤ 1099511627776) (h : RI w B0 P rs) :
    Calls Tryz.prog 82 #[.pointer (some ⟨P, 0, none⟩), .int .i64 n] w fun e w' => e = .returned (.int .i64 (nI rs n)) ∧ RI w' B0 P (rs.drop n) ∧ Kept (fun b => b = P) w w' := by
  have k1 := jak (n : Int) (by omega) hl h
  rw [Int.toNat_natCast] at k1
  go_enter Tryz.func82, Tryz.ntmps82
  go_wp2_with fail
  refine k1.mono ?_
  rintro e w1 ⟨a, c, rfl, hv, hr, hk⟩
  clear k1
  generalize Value.slice a (rs.take n).length c = V at hv ⊢
  have HV := hid hv
  have HR := hid hr
  have HK := hid hk
  clear hv hr hk h
  go_wp2_with fail
  refine (Us _ (rs.take n) w1 (fun y hy => hB y (List.mem_of_mem_take hy)) (by rw [List.length_take]; omega) (HV.out w1 kZ0)).mono ?_
  rintro e w2 ⟨rfl, aN⟩
  have aY := hid aN
  clear aN
  go_wp2_with fail
  exact bodyPost_ret (v := .int .i64 (nI rs n)) (by simp [results, Tryz.results82, go_sem, nI]) rfl ⟨rfl, HR.out.same aY.out, HK.out.next aY.out (fun _ _ e => e.elim)⟩
theorem ja7 {w : World} {B0 P : Nat} {rs : List Int} (hB : IsB rs) (hl : rs.length ≤ 1099511627776) (h : RI w B0 P rs) :
    Calls Tryz.prog 83 #[.pointer (some ⟨P, 0, none⟩)] w fun e w' => e = .returned (.agg #[.int .i64 (nI rs 2), .int .i64 (nI (rs.drop 2) 2)]) ∧ RI w' B0 P (rs.drop 4) ∧ Kept (fun b => b = P) w w' := by
  have vV := h.lt
  have du : Same w (w.alloc (.cells #[.int .i64 0, .int .i64 0] 140)) := kZ0.alloc _
  have bm := hid (Blk.newL w [.int .i64 0, .int .i64 0] 140)
  have aJ := hid du
  have H0 := hid (h.same du)
  have fW : ¬ w.heap.size = P := by omega
  clear h du
  go_enter Tryz.func83, Tryz.ntmps83
  go_wp2_with fail
  refine (RX 2 (by omega) hB hl H0.out).mono ?_
  rintro e w1 ⟨rfl, lk, aH⟩
  have bf := hid (bm.out.kept aH fW)
  have fU := hid lk
  have aM := (show Hid (Kept (fun b => b = P) w w1) from (aJ.out.mono (fun _ _ e => e.elim)).trans aH)
  clear lk aH H0 aJ bm
  go_wp2_with fail
  refine (RX 2 (by omega) (fun y hy => hB y (List.mem_of_mem_drop hy)) (by rw [List.length_drop]; omega) fU.out).mono ?_
  rintro e w2 ⟨rfl, b9, aN⟩
  have cm := hid (bf.out.kept aN fW)
  have jD := hid b9
  have aY := hid (aM.out.trans aN)
  clear b9 aN bf fU aM
  obtain ⟨c0, c1⟩ := cm.out.all2
  have fb := cm.out.frozen
  obtain ⟨x, hx⟩ : ∃ x, nI rs 2 = x := ⟨_, rfl⟩
  obtain ⟨y, hy⟩ : ∃ x, nI (rs.drop 2) 2 = x := ⟨_, rfl⟩
  rw [hx, hy]
  have gL : Kept (fun b => b = w.heap.size) w2 ((w2.setCell ⟨w.heap.size, 0, none⟩ (.int .i64 x)).setCell ⟨w.heap.size, 1, none⟩ (.int .i64 y)) := ((Kept.refl (fun b => b = w.heap.size) w2).setCell (.inr rfl) _).setCell (.inr rfl) _
  have kJ := hid gL
  have kx := jD.out.le
  have HX := hid hx
  have HY := hid hy
  clear gL hx hy
  go_wp2_with fail
  refine bodyPost_ret (v := .agg #[.int .i64 x, .int .i64 y]) (by simp [results, Tryz.results83, go_sem, c0, c1]) rfl ⟨by rw [HX.out, HY.out], ?_, ?_⟩
  · have h := jD.out.keep kJ.out (fun e => fW e.symm) (fun b _ e => by have := aY.out.size; omega)
    rw [List.drop_drop] at h
    exact h
  · exact aY.out.next kJ.out (fun i hi e => by omega)
end Go.Proofs.YtaojjcnmififoaaGreat
