import Derived.Test.YtcldagphkpkdpaaG27
namespace Go.Proofs.Ytcldagphkpkdpaa
set_option maxRecDepth 100000
set_option maxHeartbeats 4000000
set_option linter.unusedVariables false
set_option linter.unusedSimpArgs false
open Go.RowKit
theorem specFs_any (x : StLogRecord) (w : World) (hB : x.isB) (hn : x.szs ≤ 1073741824) (hv : StLogRecord.rd w x) : Calls Try.prog 67 #[x.val] w fun e w' => e = .returned (.int .i64 (fsFd x.dat)) ∧ Same w w' := by
 have HF := (show Hid (∀ wx, Same w wx → Calls Try.prog 66 #[x.val] wx fun e w' => e = .returned (.int .i64 (recFd x.dat)) ∧ Same wx w') from fun wx (h : Same w wx) => specRec_any x wx hB hn (StLogRecord.rd.same hv h))
 have HE := hid (fun wx (h : Same w wx) => specEnc_any x wx hB hn (StLogRecord.rd.same hv h))
 by_cases hz : recFd x.dat = 0
 ·have hl := recBd_length hz
  rw [fsFd_good hz]
  rw [hz] at HF
  rw [encFd_good hz] at HE
  generalize recBd x.dat = R at *
  clear hz hB hn hv
  obtain ⟨kind, txn, prev, page, slot, ⟨bU, ⟨bDe, bDa, bDc, bDb⟩⟩, ⟨aU, ⟨aDe, aDa, aDc, aDb⟩⟩, uN, nT, ⟨tXe, tXa, tXn, tXc, tXb⟩, ⟨dYe, dYa, dYn, dYc, dYb⟩, ⟨iMe, iMa, iMc, iMb⟩⟩ := x
  dsimp only [StLogRecord.val, StPageRecord.val, BS.v, FR.v] at HF HE ⊢
  have b0 := Blk.newL w [.int .i64 kind, .int .i64 txn, .int .i64 prev, .int .i64 page, .int .i64 slot, .bool bU, .slice bDa bDb.length bDc, .bool aU, .slice aDa aDb.length aDc, .int .i64 uN, .int .i64 nT, .slice tXa tXn tXc, .slice dYa dYn dYc, .slice iMa iMb.length iMc] 48
  have HK0 := hid (sameA w [.int .i64 kind, .int .i64 txn, .int .i64 prev, .int .i64 page, .int .i64 slot, .bool bU, .slice bDa bDb.length bDc, .bool aU, .slice aDa aDb.length aDc, .int .i64 uN, .int .i64 nT, .slice tXa tXn tXc, .slice dYa dYn dYc, .slice iMa iMb.length iMc] 48)
  go_enter Try.func67, Try.ntmps67
  go_wp2_with fail
  refine (HF.out _ HK0.out).mono ?_
  rintro e w1 ⟨rfl, hk1⟩
  have HK1 := hid (HK0.out.trans hk1)
  have b1 := b0.same hk1
  clear hk1
  obtain ⟨db1_0, db1_1, db1_2, db1_3, db1_4, db1_5, db1_6, db1_7, db1_8, db1_9, db1_10, db1_11, db1_12, db1_13⟩ := b1.all14
  go_wp2_with fail
  refine (HE.out _ HK1.out).mono ?_
  rintro e w2 ⟨a2, c2, rfl, hf2, ho2, hk2⟩
  have HK2 := hid (HK1.out.trans hk2)
  clear hk2 hf2 ho2
  go_wp2
  go_ret
  exact ⟨rfl, HK2.out⟩
 ·rw [fsFd_bad hz]
  generalize recFd x.dat = r at *
  clear hB hn hv HE
  obtain ⟨kind, txn, prev, page, slot, ⟨bU, ⟨bDe, bDa, bDc, bDb⟩⟩, ⟨aU, ⟨aDe, aDa, aDc, aDb⟩⟩, uN, nT, ⟨tXe, tXa, tXn, tXc, tXb⟩, ⟨dYe, dYa, dYn, dYc, dYb⟩, ⟨iMe, iMa, iMc, iMb⟩⟩ := x
  dsimp only [StLogRecord.val, StPageRecord.val, BS.v, FR.v] at HF ⊢
  have HK0 := hid (sameA w [.int .i64 kind, .int .i64 txn, .int .i64 prev, .int .i64 page, .int .i64 slot, .bool bU, .slice bDa bDb.length bDc, .bool aU, .slice aDa aDb.length aDc, .int .i64 uN, .int .i64 nT, .slice tXa tXn tXc, .slice dYa dYn dYc, .slice iMa iMb.length iMc] 48)
  go_enter Try.func67, Try.ntmps67
  go_wp2_with fail
  refine (HF.out _ HK0.out).mono ?_
  rintro e w1 ⟨rfl, hk1⟩
  have HK1 := hid (HK0.out.trans hk1)
  clear hk1
  go_wp2
  go_ret
  exact ⟨rfl, HK1.out⟩
theorem isB_nil : IsB [] := fun x h => absurd h (by simp)
theorem IsB.app {a b : List Int} (ha : IsB a) (hb : IsB b) : IsB (a ++ b) := fun x h => (List.mem_append.1 h).elim (ha x) (hb x)
theorem partB_isB {u : Bool} {d : List Int} (h : IsB d) : IsB (partB u d) := by
 unfold partB
 split
 ·exact fun x hx => (List.mem_cons.1 hx).elim (fun e => by omega) ((numB_isB _ _).app h x)
 ·exact fun x hx => by have := List.mem_singleton.1 hx; omega
theorem flat_isB (f : Nat → List Int) (h : ∀ i, IsB (f i)) (n : Nat) : IsB ((List.range n).flatMap f) := fun x hx => by
 obtain ⟨i, _, hi⟩ := List.mem_flatMap.1 hx
 exact h i x hi
theorem headR_isB {k t p : Int} (h : 1 ≤ k ∧ k ≤ 8) : IsB (headR k t p) := IsB.app (IsB.app (fun x hx => by have := List.mem_singleton.1 hx; omega) (numB_isB _ _)) (numB_isB _ _)
theorem recBy_isB {kind txn prev page slot un nt : Int} {bu au : Bool} {bb ab tx dy im : List Int} (hk : 1 ≤ kind ∧ kind ≤ 8) (hb : IsB bb) (ha : IsB ab) (hi : IsB im) : IsB (recBy kind txn prev page slot bu bb au ab un nt tx dy im) := by
 have hh := headR_isB (t := txn) (p := prev) hk
 unfold recBy
 split
 ·exact (((hh.app (numB_isB _ _)).app (numB_isB _ _)).app (partB_isB hb)).app (partB_isB ha)
 split
 ·exact (((hh.app (numB_isB _ _)).app (numB_isB _ _)).app (partB_isB ha)).app (numB_isB _ _)
 split
 ·exact ((((hh.app (numB_isB _ _)).app (numB_isB _ _)).app (flat_isB _ (fun i => (((numB_isB _ _).app (numB_isB _ _)).app (numB_isB _ _)).app (numB_isB _ _)) _)).app (numB_isB _ _)).app (flat_isB _ (fun i => (numB_isB _ _).app (numB_isB _ _)) _)
 split
 ·exact (hh.app (numB_isB _ _)).app hi
 ·exact hh
theorem recBd_isB {x : StLogRecord} (hB : x.isB) (hz : recFd x.dat = 0) : IsB (recBd x.dat) := recBy_isB (kind_good (show recF x.kind _ _ _ _ _ _ _ _ _ _ _ _ _ = 0 from hz)) hB.1 hB.2.1 hB.2.2
theorem numB_lows {x : Int} {n : Nat} (hn : 1 ≤ n ∧ n ≤ 8) (h0 : 0 ≤ x) (h1 : x < 256 ^ n) : numB x n = lows x n := by
 unfold numB
 rw [if_neg]
 ·rfl
 ·rintro (h | h | h | h)
  ·omega
  ·omega
  ·omega
  ·exact h (Int.ediv_eq_zero_of_lt h0 (by simpa using h1))
def sumB (lsn ep : Int) (R : List Int) : List Int := (numB lsn 8 ++ numB ep 4) ++ R
def frB (lsn ep : Int) (R : List Int) : List Int := (numB (20 + (R.length : Int)) 4 ++ numB (crcOn 0 (sumB lsn ep R)) 4) ++ sumB lsn ep R
def frFd (lsn ep : Int) (d : RcY) : List Int := if recFd d = 0 ∧ (1 ≤ lsn ∧ lsn ≤ 1099511627776) ∧ (1 ≤ ep ∧ ep ≤ 4294967295) then frB lsn ep (recBd d) else []
theorem sumB_isB {lsn ep : Int} {R : List Int} (h : IsB R) : IsB (sumB lsn ep R) := ((numB_isB _ _).app (numB_isB _ _)).app h
theorem sumB_length (lsn ep : Int) (R : List Int) : (sumB lsn ep R).length ≤ 16 + R.length := by
 have := numB_length lsn 8
 have := numB_length ep 4
 simp only [sumB, List.length_append]
 omega
theorem frB_length (lsn ep : Int) (R : List Int) : (frB lsn ep R).length ≤ 32 + R.length := by
 have := numB_length (20 + (R.length : Int)) 4
 have := numB_length (crcOn 0 (sumB lsn ep R)) 4
 have := sumB_length lsn ep R
 simp only [frB, List.length_append]
 omega
theorem frFd_yes {lsn ep : Int} {d : RcY} (h : recFd d = 0 ∧ (1 ≤ lsn ∧ lsn ≤ 1099511627776) ∧ (1 ≤ ep ∧ ep ≤ 4294967295)) : frFd lsn ep d = frB lsn ep (recBd d) := if_pos h
theorem frFd_no {lsn ep : Int} {d : RcY} (h : ¬ (recFd d = 0 ∧ (1 ≤ lsn ∧ lsn ≤ 1099511627776) ∧ (1 ≤ ep ∧ ep ≤ 4294967295))) : frFd lsn ep d = [] := if_neg h
theorem frFd_length (lsn ep : Int) (d : RcY) : (frFd lsn ep d).length ≤ 6000 := by
 by_cases h : recFd d = 0 ∧ (1 ≤ lsn ∧ lsn ≤ 1099511627776) ∧ (1 ≤ ep ∧ ep ≤ 4294967295)
 ·rw [frFd_yes h]
  have := frB_length lsn ep (recBd d)
  have := (recBd_length h.1).2
  omega
 ·rw [frFd_no h]; simp
end Go.Proofs.Ytcldagphkpkdpaa
