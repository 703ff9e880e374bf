import Derived.Test.YtdbpaadndaoihaaGreatDoorG21
import Derived.Test.YtdbpaadndaoihaaGreatDoorEncTyped
import Derived.Test.YtdbpaadndaoihaaGreatDoorG03
import Derived.Test.YtdbpaadndaoihaaGreatDoorG12
import Derived.Test.YtdbpaadndaoihaaGreatDoorG09
import Derived.Test.YtdbpaadndaoihaaGreatDoorG13
import Derived.Test.YtdbpaadndaoihaaGreatDoorG07
import Derived.Test.YtdbpaadndaoihaaGreatDoorG00
import Derived.Test.YtdbpaadndaoihaaGreatDoorG01
import Derived.Deep.RegionWith
import Derived.Deep.DeepMust
import Derived.Deep.DeepCutAuto
namespace Go.Proofs.YtdbpaadndaoihaaGreatDoor
set_option maxRecDepth 100000
set_option maxHeartbeats 16000000
set_option linter.unusedVariables false
set_option linter.unusedSimpArgs false
open Go.RowKit
theorem encI_6h (x : StLogRecord) (w : World) (hB : x.isB) (hn : x.szs ≤ 1073741824) (hv : StLogRecord.rd w x) (hF0 : ∀ wx, Same w wx → Calls Tryz.prog 93 #[x.val] wx fun e w' => e = .returned (.int .i64 (recFd x.dat)) ∧ Same wx w') (hk : x.kind = 6) (hz : recFd x.dat = 0) :
  Calls Tryz.prog 81 #[x.val] w fun e w' => ∃ aa nn cc, e = .returned (.slice aa nn cc) ∧ Own 0 5 .u8 w' (.slice aa nn cc) (recBd x.dat) ∧ (∀ b, (Value.slice aa nn cc).ownBlock = some b → w.heap.size ≤ b) ∧ Same w w' := by
 have HRES := (show Hid (recFd x.dat = 0) from hz)
 have HF := hid hF0
 obtain ⟨kind, txn, prev, page, slot, ⟨bU, ⟨bDe, bDa, bDc, bDb⟩⟩, ⟨aU, ⟨aDe, aDa, aDc, aDb⟩⟩, uN, nT, ⟨tXe, tXa, tXn, tXc, tXb⟩, ⟨dYe, dYa, dYn, dYc, dYb⟩, ⟨iMe, iMa, iMc, iMb⟩⟩ := x
 obtain ⟨hvb, hva, hvt, hvd, hvi⟩ := hv
 have HRB := (show Hid (Rd .u8 w (.slice bDa bDb.length bDc) bDb) from hvb)
 have HRA := (show Hid (Rd .u8 w (.slice aDa aDb.length aDc) aDb) from hva)
 have HRI := (show Hid (Rd .u8 w (.slice iMa iMb.length iMc) iMb) from hvi)
 have HRT := (show Hid (RdF 4 w ⟨tXe, tXa, tXn, tXc, tXb⟩) from hvt)
 have HRD := (show Hid (RdF 2 w ⟨dYe, dYa, dYn, dYc, dYb⟩) from hvd)
 dsimp only at hk
 subst hk
 have hg := (show recF 6 txn prev page slot bU bDb aU aDb uN nT tXb dYb iMb = 0 from hz)
 obtain ⟨ht0, hp0⟩ := good6 hg
 have HT0 := (show Hid (txn = 0) from ht0)
 have HP0 := (show Hid (prev = 0) from hp0)
 clear ht0 hp0
 have hwz : recBd (StLogRecord.dat ⟨6, txn, prev, page, slot, ⟨bU, ⟨bDe, bDa, bDc, bDb⟩⟩, ⟨aU, ⟨aDe, aDa, aDc, aDb⟩⟩, uN, nT, ⟨tXe, tXa, tXn, tXc, tXb⟩, ⟨dYe, dYa, dYn, dYc, dYb⟩, ⟨iMe, iMa, iMc, iMb⟩⟩) = headR 6 0 0 ++ ([]) := by simp [recBd, recBy, StLogRecord.dat, StPageRecord.dat, HT0.out, HP0.out]
 have HWZ := hid hwz
 clear hwz
 clear hF0 hz hB hn hvb hva hvt hvd hvi hg
 rw [HWZ.out]
 have HF1 := HF.out _ ((Kept.refl _ _).alloc (.cells #[.int .i64 6, .int .i64 txn, .int .i64 prev, .int .i64 page, .int .i64 slot, .bool bU, .slice bDa bDb.length bDc, .bool aU, .slice aDa aDb.length aDc, .int .i64 uN, .int .i64 nT, .slice tXa tXn tXc, .slice dYa dYn dYc, .slice iMa iMb.length iMc] 49))
 rw [HRES.out] at HF1
 dsimp only [StLogRecord.val, StPageRecord.val, BS.v, FR.v] at HF1 ⊢
 have b0 := Blk.newL w [.int .i64 6, .int .i64 txn, .int .i64 prev, .int .i64 page, .int .i64 slot, .bool bU, .slice bDa bDb.length bDc, .bool aU, .slice aDa aDb.length aDc, .int .i64 uN, .int .i64 nT, .slice tXa tXn tXc, .slice dYa dYn dYc, .slice iMa iMb.length iMc] 49
 have HK0 := hid (sameA w [.int .i64 6, .int .i64 txn, .int .i64 prev, .int .i64 page, .int .i64 slot, .bool bU, .slice bDa bDb.length bDc, .bool aU, .slice aDa aDb.length aDc, .int .i64 uN, .int .i64 nT, .slice tXa tXn tXc, .slice dYa dYn dYc, .slice iMa iMb.length iMc] 49)
 clear HRES HF HWZ
 go_enter Tryz.func81, Tryz.ntmps81
 go_wp2_with fail
 refine HF1.mono ?_
 rintro e w1 ⟨rfl, hk1⟩
 have HK1 := hid (HK0.out.trans hk1)
 have b1 := b0.same hk1
 clear hk1 HF1 b0
 obtain ⟨d0, d1, d2, d3, d4, d5, d6, d7, d8, d9, d10, d11, d12, d13⟩ := b1.all14
 go_wp2_with fail
 refine (typeRecord_6 txn prev page slot bU bDa bDb.length bDc aU aDa aDb.length aDc uN nT tXa tXn tXc dYa dYn dYc iMa iMb.length iMc _).mono ?_
 rintro e w2 ⟨rfl, hk2⟩
 have HK2 := hid (HK1.out.trans hk2)
 clear hk2
 go_wp2_with fail
 refine (encTyped_6 0 0 _ (by omega) (by omega)).mono ?_
 rintro e w3 ⟨a3, n3, c3, rfl, hown, hf, hk3⟩
 have HO3 := (show Hid (Own 0 5 .u8 w3 (.slice a3 n3 c3) (headR 6 0 0 ++ ([]))) from hown)
 have HF3 := (show Hid (∀ b, (Value.slice a3 n3 c3).ownBlock = some b → w.heap.size ≤ b) from fun b hb => Nat.le_trans HK2.out.size (hf b hb))
 have HK3 := hid (HK2.out.trans hk3)
 clear hown hf hk3
 go_wp2
 go_ret
 exact ⟨_, _, _, rfl, HO3.out, HF3.out, HK3.out⟩
theorem encI_7h (x : StLogRecord) (w : World) (hB : x.isB) (hn : x.szs ≤ 1073741824) (hv : StLogRecord.rd w x) (hF0 : ∀ wx, Same w wx → Calls Tryz.prog 93 #[x.val] wx fun e w' => e = .returned (.int .i64 (recFd x.dat)) ∧ Same wx w') (hk : x.kind = 7) (hz : recFd x.dat = 0) :
  Calls Tryz.prog 81 #[x.val] w fun e w' => ∃ aa nn cc, e = .returned (.slice aa nn cc) ∧ Own 0 5 .u8 w' (.slice aa nn cc) (recBd x.dat) ∧ (∀ b, (Value.slice aa nn cc).ownBlock = some b → w.heap.size ≤ b) ∧ Same w w' := by
 have HRES := (show Hid (recFd x.dat = 0) from hz)
 have HF := hid hF0
 obtain ⟨kind, txn, prev, page, slot, ⟨bU, ⟨bDe, bDa, bDc, bDb⟩⟩, ⟨aU, ⟨aDe, aDa, aDc, aDb⟩⟩, uN, nT, ⟨tXe, tXa, tXn, tXc, tXb⟩, ⟨dYe, dYa, dYn, dYc, dYb⟩, ⟨iMe, iMa, iMc, iMb⟩⟩ := x
 obtain ⟨hvb, hva, hvt, hvd, hvi⟩ := hv
 have HRB := (show Hid (Rd .u8 w (.slice bDa bDb.length bDc) bDb) from hvb)
 have HRA := (show Hid (Rd .u8 w (.slice aDa aDb.length aDc) aDb) from hva)
 have HRI := (show Hid (Rd .u8 w (.slice iMa iMb.length iMc) iMb) from hvi)
 have HRT := (show Hid (RdF 4 w ⟨tXe, tXa, tXn, tXc, tXb⟩) from hvt)
 have HRD := (show Hid (RdF 2 w ⟨dYe, dYa, dYn, dYc, dYb⟩) from hvd)
 dsimp only at hk
 subst hk
 have hg := (show recF 7 txn prev page slot bU bDb aU aDb uN nT tXb dYb iMb = 0 from hz)
 obtain ⟨ht0, hp0, hh1, hh2, hh3⟩ := good7 hg
 have e1 : tXb.length / 4 = tXn := by have := hvt.2.1; dsimp only at this; omega
 have e2 : dYb.length / 2 = dYn := by have := hvd.2.1; dsimp only at this; omega
 rw [e1] at hh2
 rw [e2] at hh3
 obtain ⟨hn8, htg⟩ := tXgood hh2
 obtain ⟨hn16, hdg⟩ := dYgood hh3
 have HTG := (show Hid (∀ i, i < tXn → _) from htg)
 have HDG := (show Hid (∀ i, i < dYn → _) from hdg)
 have HTN := (show Hid (tXb.length / 4 = tXn) from e1)
 have HDN := (show Hid (dYb.length / 2 = dYn) from e2)
 clear e1 e2 htg hdg hh2 hh3
 have HT0 := (show Hid (txn = 0) from ht0)
 have HP0 := (show Hid (prev = 0) from hp0)
 clear ht0 hp0
 have hwz : recBd (StLogRecord.dat ⟨7, txn, prev, page, slot, ⟨bU, ⟨bDe, bDa, bDc, bDb⟩⟩, ⟨aU, ⟨aDe, aDa, aDc, aDb⟩⟩, uN, nT, ⟨tXe, tXa, tXn, tXc, tXb⟩, ⟨dYe, dYa, dYn, dYc, dYb⟩, ⟨iMe, iMa, iMc, iMb⟩⟩) = headR 7 0 0 ++ ((((numB nT 4 ++ numB (tXn : Nat) 1) ++ txsB tXb tXn) ++ numB (dYn : Nat) 1) ++ dysB dYb dYn) := by simp [recBd, recBy, StLogRecord.dat, StPageRecord.dat, HTN.out, HDN.out, HT0.out, HP0.out]
 have HWZ := hid hwz
 clear hwz
 clear hF0 hz hB hn hvb hva hvt hvd hvi hg
 rw [HWZ.out]
 have HF1 := HF.out _ ((Kept.refl _ _).alloc (.cells #[.int .i64 7, .int .i64 txn, .int .i64 prev, .int .i64 page, .int .i64 slot, .bool bU, .slice bDa bDb.length bDc, .bool aU, .slice aDa aDb.length aDc, .int .i64 uN, .int .i64 nT, .slice tXa tXn tXc, .slice dYa dYn dYc, .slice iMa iMb.length iMc] 49))
 rw [HRES.out] at HF1
 dsimp only [StLogRecord.val, StPageRecord.val, BS.v, FR.v] at HF1 ⊢
 have b0 := Blk.newL w [.int .i64 7, .int .i64 txn, .int .i64 prev, .int .i64 page, .int .i64 slot, .bool bU, .slice bDa bDb.length bDc, .bool aU, .slice aDa aDb.length aDc, .int .i64 uN, .int .i64 nT, .slice tXa tXn tXc, .slice dYa dYn dYc, .slice iMa iMb.length iMc] 49
 have HK0 := hid (sameA w [.int .i64 7, .int .i64 txn, .int .i64 prev, .int .i64 page, .int .i64 slot, .bool bU, .slice bDa bDb.length bDc, .bool aU, .slice aDa aDb.length aDc, .int .i64 uN, .int .i64 nT, .slice tXa tXn tXc, .slice dYa dYn dYc, .slice iMa iMb.length iMc] 49)
 clear HRES HF HWZ
 go_enter Tryz.func81, Tryz.ntmps81
 go_wp2_with fail
 refine HF1.mono ?_
 rintro e w1 ⟨rfl, hk1⟩
 have HK1 := hid (HK0.out.trans hk1)
 have b1 := b0.same hk1
 clear hk1 HF1 b0
 obtain ⟨d0, d1, d2, d3, d4, d5, d6, d7, d8, d9, d10, d11, d12, d13⟩ := b1.all14
 go_wp2_with fail
 refine (typeRecord_7 txn prev page slot bU bDa bDb.length bDc aU aDa aDb.length aDc uN nT tXa tXn tXc dYa dYn dYc iMa iMb.length iMc _).mono ?_
 rintro e w2 ⟨rfl, hk2⟩
 have HK2 := hid (HK1.out.trans hk2)
 clear hk2
 go_wp2_with fail
 refine (encTyped_7 0 0 nT tXe tXa tXn tXc tXb dYe dYa dYn dYc dYb _ (by omega) (by omega) hh1 hn8 hn16 HTG.out HDG.out (HRT.out.same HK2.out) (HRD.out.same HK2.out)).mono ?_
 rintro e w3 ⟨a3, n3, c3, rfl, hown, hf, hk3⟩
 have HO3 := (show Hid (Own 0 5 .u8 w3 (.slice a3 n3 c3) (headR 7 0 0 ++ ((((numB nT 4 ++ numB (tXn : Nat) 1) ++ txsB tXb tXn) ++ numB (dYn : Nat) 1) ++ dysB dYb dYn))) from hown)
 have HF3 := (show Hid (∀ b, (Value.slice a3 n3 c3).ownBlock = some b → w.heap.size ≤ b) from fun b hb => Nat.le_trans HK2.out.size (hf b hb))
 have HK3 := hid (HK2.out.trans hk3)
 clear hown hf hk3
 go_wp2
 go_ret
 exact ⟨_, _, _, rfl, HO3.out, HF3.out, HK3.out⟩
theorem Own.sized {base : Nat} {e : TypeId} {k : IntKind} {w : World} {aa : Option Addr} {nn cc : Nat} {bs : List Int} (h : Own base e k w (.slice aa nn cc) bs) : nn = bs.length := by
 rcases h.form with ⟨hh, rfl⟩ | ⟨g, cap, hh, _⟩ <;> cases hh <;> rfl
theorem encFd_good {d : Int × Int × Int × Int × Int × (Bool × List Int) × (Bool × List Int) × Int × Int × List Int × List Int × List Int} (h : recFd d = 0) : encFd d = recBd d := by unfold encFd; rw [if_neg (by simpa using h)]
theorem encFd_bad {d : Int × Int × Int × Int × Int × (Bool × List Int) × (Bool × List Int) × Int × Int × List Int × List Int × List Int} (h : recFd d ≠ 0) : encFd d = [] := by unfold encFd; rw [if_pos h]
theorem headR_pos (kind txn prev : Int) : 1 ≤ (headR kind txn prev).length := by
 simp only [headR, List.length_append, List.length_singleton]
 omega
theorem recBy_length {kind txn prev page slot un nt : Int} {bu au : Bool} {bb ab tx dy im : List Int} (h : recF kind txn prev page slot bu bb au ab un nt tx dy im = 0) : 1 ≤ (recBy kind txn prev page slot bu bb au ab un nt tx dy im).length ∧ (recBy kind txn prev page slot bu bb au ab un nt tx dy im).length ≤ 5000 := by
 have hh := headR_length kind txn prev
 have hp := headR_pos kind txn prev
 have n1 := numB_length page 2
 have n2 := numB_length slot 2
 have n3 := numB_length un 8
 have n4 := numB_length nt 4
 have n5 := numB_length (tx.length / 4 : Nat) 1
 have n6 := numB_length (dy.length / 2 : Nat) 1
 have p1 := partB_length bu bb
 have p2 := partB_length au ab
 have t1 := txsB_length tx (tx.length / 4)
 have t2 := dysB_length dy (dy.length / 2)
 unfold recBy
 by_cases h1 : kind = 1
 ·subst h1
  obtain ⟨_, _, g1, g2⟩ := good1 h
  rw [if_pos rfl]
  simp only [List.length_append]
  omega
 rw [if_neg h1]
 by_cases h2 : kind = 2
 ·subst h2
  obtain ⟨_, _, g1, _⟩ := good2 h
  rw [if_pos rfl]
  simp only [List.length_append]
  omega
 rw [if_neg h2]
 by_cases h7 : kind = 7
 ·subst h7
  obtain ⟨_, _, _, g1, g2⟩ := good7 h
  have g1 := (tXgood g1).1
  have g2 := (dYgood g2).1
  rw [if_pos rfl]
  simp only [List.length_append]
  omega
 rw [if_neg h7]
 by_cases h8 : kind = 8
 ·subst h8
  obtain ⟨_, _, _, g1⟩ := good8 h
  rw [if_pos rfl]
  simp only [List.length_append]
  omega
 rw [if_neg h8]
 omega
theorem recBd_length {d : Int × Int × Int × Int × Int × (Bool × List Int) × (Bool × List Int) × Int × Int × List Int × List Int × List Int} (h : recFd d = 0) : 1 ≤ (recBd d).length ∧ (recBd d).length ≤ 5000 := recBy_length h
theorem isB_nil : IsB [] := fun x h => absurd h (by simp)
theorem IsB.app {a b : List Int} (ha : IsB a) (hb : IsB b) : IsB (a ++ b) := fun x h => (List.mem_append.1 h).elim (ha x) (hb x)
theorem partB_isB {u : Bool} {d : List Int} (h : IsB d) : IsB (partB u d) := by
 unfold partB
 split
 ·exact fun x hx => (List.mem_cons.1 hx).elim (fun e => by omega) ((numB_isB _ _).app h x)
 ·exact fun x hx => by have := List.mem_singleton.1 hx; omega
theorem flat_isB (f : Nat → List Int) (h : ∀ i, IsB (f i)) (n : Nat) : IsB ((List.range n).flatMap f) := fun x hx => by
 obtain ⟨i, _, hi⟩ := List.mem_flatMap.1 hx
 exact h i x hi
theorem headR_isB {k t p : Int} (h : 1 ≤ k ∧ k ≤ 8) : IsB (headR k t p) := IsB.app (IsB.app (fun x hx => by have := List.mem_singleton.1 hx; omega) (numB_isB _ _)) (numB_isB _ _)
theorem recBy_isB {kind txn prev page slot un nt : Int} {bu au : Bool} {bb ab tx dy im : List Int} (hk : 1 ≤ kind ∧ kind ≤ 8) (hb : IsB bb) (ha : IsB ab) (hi : IsB im) : IsB (recBy kind txn prev page slot bu bb au ab un nt tx dy im) := by
 have hh := headR_isB (t := txn) (p := prev) hk
 unfold recBy
 split
 ·exact (((hh.app (numB_isB _ _)).app (numB_isB _ _)).app (partB_isB hb)).app (partB_isB ha)
 split
 ·exact (((hh.app (numB_isB _ _)).app (numB_isB _ _)).app (partB_isB ha)).app (numB_isB _ _)
 split
 ·exact ((((hh.app (numB_isB _ _)).app (numB_isB _ _)).app (flat_isB _ (fun i => (((numB_isB _ _).app (numB_isB _ _)).app (numB_isB _ _)).app (numB_isB _ _)) _)).app (numB_isB _ _)).app (flat_isB _ (fun i => (numB_isB _ _).app (numB_isB _ _)) _)
 split
 ·exact (hh.app (numB_isB _ _)).app hi
 ·exact hh
theorem recBd_isB {x : StLogRecord} (hB : x.isB) (hz : recFd x.dat = 0) : IsB (recBd x.dat) := recBy_isB (kind_good (show recF x.kind _ _ _ _ _ _ _ _ _ _ _ _ _ = 0 from hz)) hB.1 hB.2.1 hB.2.2
theorem numB_lows {x : Int} {n : Nat} (hn : 1 ≤ n ∧ n ≤ 8) (h0 : 0 ≤ x) (h1 : x < 256 ^ n) : numB x n = lows x n := by
 unfold numB
 rw [if_neg]
 ·rfl
 ·rintro (h | h | h | h)
  ·omega
  ·omega
  ·omega
  ·exact h (Int.ediv_eq_zero_of_lt h0 (by simpa using h1))
def sumB (lsn ep : Int) (R : List Int) : List Int := (numB lsn 8 ++ numB ep 4) ++ R
def frB (lsn ep : Int) (R : List Int) : List Int := (numB (20 + (R.length : Int)) 4 ++ numB (crcOn 0 (sumB lsn ep R)) 4) ++ sumB lsn ep R
def frFd (lsn ep : Int) (d : Int × Int × Int × Int × Int × (Bool × List Int) × (Bool × List Int) × Int × Int × List Int × List Int × List Int) : List Int := if recFd d = 0 ∧ (1 ≤ lsn ∧ lsn ≤ 1099511627776) ∧ (1 ≤ ep ∧ ep ≤ 4294967295) then frB lsn ep (recBd d) else []
theorem sumB_isB {lsn ep : Int} {R : List Int} (h : IsB R) : IsB (sumB lsn ep R) := ((numB_isB _ _).app (numB_isB _ _)).app h
theorem sumB_length (lsn ep : Int) (R : List Int) : (sumB lsn ep R).length ≤ 16 + R.length := by
 have := numB_length lsn 8
 have := numB_length ep 4
 simp only [sumB, List.length_append]
 omega
theorem frFd_yes {lsn ep : Int} {d : Int × Int × Int × Int × Int × (Bool × List Int) × (Bool × List Int) × Int × Int × List Int × List Int × List Int} (h : recFd d = 0 ∧ (1 ≤ lsn ∧ lsn ≤ 1099511627776) ∧ (1 ≤ ep ∧ ep ≤ 4294967295)) : frFd lsn ep d = frB lsn ep (recBd d) := if_pos h
theorem frFd_no {lsn ep : Int} {d : Int × Int × Int × Int × Int × (Bool × List Int) × (Bool × List Int) × Int × Int × List Int × List Int × List Int} (h : ¬ (recFd d = 0 ∧ (1 ≤ lsn ∧ lsn ≤ 1099511627776) ∧ (1 ≤ ep ∧ ep ≤ 4294967295))) : frFd lsn ep d = [] := if_neg h
theorem vals_app (k : IntKind) (a b : List Int) : vals k (a ++ b) = vals k a ++ vals k b := by simp [vals]
theorem layV (k : IntKind) (P C rest C' : List Int) (o : Nat) (ho : o = P.length) (h : C.length = C'.length) : lay (vals k (P ++ (C ++ rest))) o (vals k C') = vals k (P ++ (C' ++ rest)) := by
 subst ho
 unfold lay
 rw [vals_app, vals_app, vals_app, vals_app]
 have e1 : (vals k P).length = P.length := vals_length _ _
 have e2 : (vals k C).length = (vals k C').length := by rw [vals_length, vals_length, h]
 rw [← e1, List.take_left', List.drop_append, e1]
 ·congr 1
  congr 1
  rw [List.drop_of_length_le (by rw [e1]; omega), List.nil_append]
  rw [show P.length + (vals k C').length - P.length = (vals k C).length by omega, List.drop_left']
  rfl
 ·rfl
theorem implFrame_h (lsn ep : Int) (x : StLogRecord) (w : World) (hL : IsI lsn) (hE : IsI ep) (hB : x.isB) (hn : x.szs ≤ 1073741824) (hv : StLogRecord.rd w x) (hE0 : ∀ wx, Same w wx → Calls Tryz.prog 81 #[x.val] wx fun e w' => ∃ a c, e = .returned (.slice a (encFd x.dat).length c) ∧ (∀ b, (Value.slice a (encFd x.dat).length c).ownBlock = some b → wx.heap.size ≤ b) ∧ Own 0 5 .u8 w' (.slice a (encFd x.dat).length c) (encFd x.dat) ∧ Same wx w') : Calls Tryz.prog 62 #[.int .i64 lsn, .int .i64 ep, x.val] w fun e w' => ∃ a c, e = .returned (.slice a (frFd lsn ep x.dat).length c) ∧ (∀ b, (Value.slice a (frFd lsn ep x.dat).length c).ownBlock = some b → w.heap.size ≤ b) ∧ Own 0 5 .u8 w' (.slice a (frFd lsn ep x.dat).length c) (frFd lsn ep x.dat) ∧ Same w w' := by
 have HE := hid hE0
 by_cases hy : recFd x.dat = 0 ∧ (1 ≤ lsn ∧ lsn ≤ 1099511627776) ∧ (1 ≤ ep ∧ ep ≤ 4294967295)
 ·obtain ⟨hRa, hRb⟩ := recBd_length hy.1
  have hRB := recBd_isB hB hy.1
  rw [frFd_yes hy]
  rw [encFd_good hy.1] at HE
  have hy2 := hy.2
  clear hE0 hy hB hn hv
  generalize recBd x.dat = R at *
  obtain ⟨kind, txn, prev, page, slot, ⟨bU, ⟨bDe, bDa, bDc, bDb⟩⟩, ⟨aU, ⟨aDe, aDa, aDc, aDb⟩⟩, uN, nT, ⟨tXe, tXa, tXn, tXc, tXb⟩, ⟨dYe, dYa, dYn, dYc, dYb⟩, ⟨iMe, iMa, iMc, iMb⟩⟩ := x
  dsimp only [StLogRecord.val, StPageRecord.val, BS.v, FR.v] at HE ⊢
  obtain ⟨⟨hl1, hl2⟩, he1, he2⟩ := hy2
  obtain ⟨i0, hi, hz0, hz1, hz2⟩ := info_parts Tryz.infoByte'
  have HK0 := hid (sameA w [.int .i64 kind, .int .i64 txn, .int .i64 prev, .int .i64 page, .int .i64 slot, .bool bU, .slice bDa bDb.length bDc, .bool aU, .slice aDa aDb.length aDc, .int .i64 uN, .int .i64 nT, .slice tXa tXn tXc, .slice dYa dYn dYc, .slice iMa iMb.length iMc] 49)
  have HSB := hid (sumB_isB (lsn := lsn) (ep := ep) hRB)
  have hsl := sumB_length lsn ep R
  have hcr := crcOn_le 0 (sumB lsn ep R) (by omega) (by omega) HSB.out
  have hsm : sumB lsn ep R = (lows lsn 8 ++ lows ep 4) ++ R := by unfold sumB; rw [show numB lsn 8 = lows lsn 8 from numB_lows (n := 8) (by omega) (by omega) (by omega), show numB ep 4 = lows ep 4 from numB_lows (n := 4) (by omega) (by omega) (by omega)]
  have HSM := hid hsm
  clear hsm
  obtain ⟨N, hN⟩ : ∃ N : Nat, N = 20 + R.length := ⟨_, rfl⟩
  have hNI : (20 : Int) + (R.length : Int) = (N : Int) := by omega
  have hR0 : ¬ (R.length : Int) = 0 := by omega
  have hNb : N ≤ 5020 := by omega
  have hNa : 21 ≤ N := by omega
  have hfr : frB lsn ep R = lows (N : Int) 4 ++ (lows (crcOn 0 (sumB lsn ep R)) 4 ++ (lows lsn 8 ++ (lows ep 4 ++ R))) := by unfold frB; rw [HSM.out, hNI, show numB (N : Int) 4 = lows (N : Int) 4 from numB_lows (n := 4) (by omega) (by omega) (by omega), show numB (crcOn 0 ((lows lsn 8 ++ lows ep 4) ++ R)) 4 = lows (crcOn 0 ((lows lsn 8 ++ lows ep 4) ++ R)) 4 from numB_lows (n := 4) (by omega) (by rw [← HSM.out]; omega) (by rw [← HSM.out]; omega), ← HSM.out]; rw [show sumB lsn ep R = (lows lsn 8 ++ lows ep 4) ++ R from HSM.out]; simp only [List.append_assoc]
  have HFR := hid hfr
  clear hfr
  have HN := hid hN
  have HNI := hid hNI
  clear hN hNI
  have q1 : ((R.length : Int) == 0) = false := by rw [beq_eq_false_iff_ne]; exact hR0
  have q2 : decide (lsn < 1) = false := decide_eq_false (by omega)
  have q3 : decide (1099511627776 < lsn) = false := decide_eq_false (by omega)
  have q4 : decide (ep < 1) = false := decide_eq_false (by omega)
  have q5 : decide (4294967295 < ep) = false := decide_eq_false (by omega)
  go_enter Tryz.func62, Tryz.ntmps62
  go_wp2_with fail
  refine (HE.out _ HK0.out).mono ?_
  rintro e w1 ⟨a1, c1, rfl, hf, ho, hk⟩
  have HK1 := hid (HK0.out.trans hk)
  have HO1 := (show Hid (Own 0 5 .u8 w1 (.slice a1 R.length c1) (R)) from ho)
  clear hf ho hk
  obtain ⟨g1, cap1, hv1, _, hg1, _, _⟩ := HO1.out.form.resolve_left (fun h => by have := h.2; rw [this] at hR0; simp at hR0)
  injection hv1 with ea en ec
  subst ea
  subst ec
  go_wp2_with (at_make; go_loud (refine wpList_make_full _ rfl (.tmp 32) (.tmp 32) 22 rfl 0 5 i0 (.int .u8 0) 1 Tryz.underlying22 hi hz0 hz1 .i64 .i64 _ _ N rfl rfl (by exact HNI.out) (by exact HNI.out) (by rw [hz2]; omega) (by unfold maxLen; omega) (Nat.zero_le _) ?_); intro w2 hown hgrow; have HO2 := (show Hid (Own 0 5 .u8 w2 (.slice (some ⟨w1.heap.size, 0, none⟩) N N) (List.replicate N (0 : Int))) from own_made (by simpa using hown)); have HS2 := (show Hid (Same w1 w2) from Kept.of_grown hgrow (fun k e => by cases e)); clear hown hgrow)
  have HB2 := (show Hid (Blk w2 w1.heap.size 5 (vals .u8 (List.replicate 4 (0 : Int) ++ (List.replicate 4 (0 : Int) ++ (List.replicate 8 (0 : Int) ++ (List.replicate 4 (0 : Int) ++ List.replicate R.length (0 : Int))))))) from (by have h := Own.blk HO2.out; rw [HN.out, show List.replicate (20 + R.length) (0 : Int) = List.replicate 4 (0 : Int) ++ (List.replicate 4 (0 : Int) ++ (List.replicate 8 (0 : Int) ++ (List.replicate 4 (0 : Int) ++ List.replicate R.length (0 : Int)))) from by simp only [List.replicate_append_replicate]; congr 1; omega] at h; exact h))
  have HK2 := hid (HK1.out.trans HS2.out)
  have HQ2 := (show Hid (Kept (fun b => b = w1.heap.size) w1 w2) from HS2.out.mono (fun _ _ e => absurd e id))
  clear HO2 HS2
  have hN4 : (4 : Int) ≤ (N : Int) := by omega
  have hne4 : ¬ N = 4 := by omega
  have hne8 : ¬ N = 8 := by omega
  have hN8 : (8 : Int) ≤ (N : Int) := by omega
  have hN16 : (16 : Int) ≤ (N : Int) := by omega
  have hN20 : (20 : Int) ≤ (N : Int) := by omega
  go_wp2_with fail
  refine (writeNumber_any w1.heap.size 0 4 N 5 _ ((N : Int)) _ HB2.out (by rw [vals_length]; simp [lows_length]; try omega) (by omega) (by omega) (by omega)).mono ?_
  rintro e w3 ⟨rfl, hb, hk⟩
  have HB3 := (show Hid (Blk w3 w1.heap.size 5 (vals .u8 (lows (N : Int) 4 ++ (List.replicate 4 (0 : Int) ++ (List.replicate 8 (0 : Int) ++ (List.replicate 4 (0 : Int) ++ List.replicate R.length (0 : Int))))))) from (by have h := hb; rw [show List.replicate 4 (0 : Int) ++ (List.replicate 4 (0 : Int) ++ (List.replicate 8 (0 : Int) ++ (List.replicate 4 (0 : Int) ++ List.replicate R.length (0 : Int)))) = ([]) ++ ((List.replicate 4 (0 : Int)) ++ (List.replicate 4 (0 : Int) ++ (List.replicate 8 (0 : Int) ++ (List.replicate 4 (0 : Int) ++ List.replicate R.length (0 : Int))))) from by simp only [List.append_assoc, List.nil_append, List.append_nil], layV _ ([]) (List.replicate 4 (0 : Int)) (List.replicate 4 (0 : Int) ++ (List.replicate 8 (0 : Int) ++ (List.replicate 4 (0 : Int) ++ List.replicate R.length (0 : Int)))) (lows (N : Int) 4) 0 (by simp [lows_length]) (by simp [lows_length])] at h; rw [show lows (N : Int) 4 ++ (List.replicate 4 (0 : Int) ++ (List.replicate 8 (0 : Int) ++ (List.replicate 4 (0 : Int) ++ List.replicate R.length (0 : Int)))) = ([]) ++ ((lows (N : Int) 4) ++ (List.replicate 4 (0 : Int) ++ (List.replicate 8 (0 : Int) ++ (List.replicate 4 (0 : Int) ++ List.replicate R.length (0 : Int))))) from by simp only [List.append_assoc, List.nil_append, List.append_nil]]; exact h))
  have HK3 := (show Hid (Same w w3) from HK2.out.next hk (fun i hi e => by have := HK1.out.size; omega))
  have HQ3 := (show Hid (Kept (fun b => b = w1.heap.size) w1 w3) from HQ2.out.next hk (fun i hi e => e))
  clear hb hk
  go_wp2_with fail
  refine (writeNumber_any w1.heap.size 8 8 (N - 8) 5 _ (lsn) _ HB3.out (by rw [vals_length]; simp [lows_length]; try omega) (by omega) (by omega) (by omega)).mono ?_
  rintro e w4 ⟨rfl, hb, hk⟩
  have HB4 := (show Hid (Blk w4 w1.heap.size 5 (vals .u8 (lows (N : Int) 4 ++ (List.replicate 4 (0 : Int) ++ (lows lsn 8 ++ (List.replicate 4 (0 : Int) ++ List.replicate R.length (0 : Int))))))) from (by have h := hb; rw [show lows (N : Int) 4 ++ (List.replicate 4 (0 : Int) ++ (List.replicate 8 (0 : Int) ++ (List.replicate 4 (0 : Int) ++ List.replicate R.length (0 : Int)))) = (lows (N : Int) 4 ++ List.replicate 4 (0 : Int)) ++ ((List.replicate 8 (0 : Int)) ++ (List.replicate 4 (0 : Int) ++ List.replicate R.length (0 : Int))) from by simp only [List.append_assoc, List.nil_append, List.append_nil], layV _ (lows (N : Int) 4 ++ List.replicate 4 (0 : Int)) (List.replicate 8 (0 : Int)) (List.replicate 4 (0 : Int) ++ List.replicate R.length (0 : Int)) (lows lsn 8) 8 (by simp [lows_length]) (by simp [lows_length])] at h; rw [show lows (N : Int) 4 ++ (List.replicate 4 (0 : Int) ++ (lows lsn 8 ++ (List.replicate 4 (0 : Int) ++ List.replicate R.length (0 : Int)))) = (lows (N : Int) 4 ++ List.replicate 4 (0 : Int)) ++ ((lows lsn 8) ++ (List.replicate 4 (0 : Int) ++ List.replicate R.length (0 : Int))) from by simp only [List.append_assoc, List.nil_append, List.append_nil]]; exact h))
  have HK4 := (show Hid (Same w w4) from HK3.out.next hk (fun i hi e => by have := HK1.out.size; omega))
  have HQ4 := (show Hid (Kept (fun b => b = w1.heap.size) w1 w4) from HQ3.out.next hk (fun i hi e => e))
  clear hb hk
  go_wp2_with fail
  refine (writeNumber_any w1.heap.size 16 4 (N - 16) 5 _ (ep) _ HB4.out (by rw [vals_length]; simp [lows_length]; try omega) (by omega) (by omega) (by omega)).mono ?_
  rintro e w5 ⟨rfl, hb, hk⟩
  have HB5 := (show Hid (Blk w5 w1.heap.size 5 (vals .u8 (lows (N : Int) 4 ++ (List.replicate 4 (0 : Int) ++ (lows lsn 8 ++ (lows ep 4 ++ List.replicate R.length (0 : Int))))))) from (by have h := hb; rw [show lows (N : Int) 4 ++ (List.replicate 4 (0 : Int) ++ (lows lsn 8 ++ (List.replicate 4 (0 : Int) ++ List.replicate R.length (0 : Int)))) = ((lows (N : Int) 4 ++ List.replicate 4 (0 : Int)) ++ lows lsn 8) ++ ((List.replicate 4 (0 : Int)) ++ (List.replicate R.length (0 : Int))) from by simp only [List.append_assoc, List.nil_append, List.append_nil], layV _ ((lows (N : Int) 4 ++ List.replicate 4 (0 : Int)) ++ lows lsn 8) (List.replicate 4 (0 : Int)) (List.replicate R.length (0 : Int)) (lows ep 4) 16 (by simp [lows_length]) (by simp [lows_length])] at h; rw [show lows (N : Int) 4 ++ (List.replicate 4 (0 : Int) ++ (lows lsn 8 ++ (lows ep 4 ++ List.replicate R.length (0 : Int)))) = ((lows (N : Int) 4 ++ List.replicate 4 (0 : Int)) ++ lows lsn 8) ++ ((lows ep 4) ++ (List.replicate R.length (0 : Int))) from by simp only [List.append_assoc, List.nil_append, List.append_nil]]; exact h))
  have HK5 := (show Hid (Same w w5) from HK4.out.next hk (fun i hi e => by have := HK1.out.size; omega))
  have HQ5 := (show Hid (Kept (fun b => b = w1.heap.size) w1 w5) from HQ4.out.next hk (fun i hi e => e))
  clear hb hk
  have HR5 := (show Hid (Own 0 5 .u8 w5 (.slice (some ⟨g1, 0, none⟩) R.length c1) R) from HO1.out.kept HQ5.out (fun b hb e => by have hb : g1 = b := Option.some.inj hb; omega))
  have hcp := run_copy_cells (P := Tryz.prog) w5 22 22 3 5 w1.heap.size 20 (N - 20) (N - 20) ⟨g1, 0, none⟩ R.length c1 (vals .u8 R) Tryz.underlying22 (by rw [hi]; simp [hz1]) (by rw [vals_length]; have : N - 20 = R.length := (by have := HN.out; omega); simp [this]) (news_of (off := 0) (fun i h => by have := HR5.out.cell rfl i h; simpa using this)) (fun j hj => by rw [vals_length] at hj; rw [HB5.out.cell, List.getElem?_eq_getElem (by rw [vals_length]; simp [lows_length]; try omega)]; rfl) (fun j _ => HB5.out.frozen _) vals_one
  have HCP := hid hcp
  have HB6 := (show Hid (Blk (w5.setCells w1.heap.size 20 (vals .u8 R)) w1.heap.size 5 (vals .u8 (lows (N : Int) 4 ++ (List.replicate 4 (0 : Int) ++ (lows lsn 8 ++ (lows ep 4 ++ R)))))) from (by have h := Blk.setCells (vals .u8 R) 20 HB5.out (by rw [vals_length, vals_length]; simp [lows_length]; try omega); rw [show lows (N : Int) 4 ++ (List.replicate 4 (0 : Int) ++ (lows lsn 8 ++ (lows ep 4 ++ List.replicate R.length (0 : Int)))) = (((lows (N : Int) 4 ++ List.replicate 4 (0 : Int)) ++ lows lsn 8) ++ lows ep 4) ++ ((List.replicate R.length (0 : Int)) ++ ([])) from by simp only [List.append_assoc, List.nil_append, List.append_nil], layV _ (((lows (N : Int) 4 ++ List.replicate 4 (0 : Int)) ++ lows lsn 8) ++ lows ep 4) (List.replicate R.length (0 : Int)) ([]) (R) 20 (by simp [lows_length]) (by simp [lows_length])] at h; rw [show lows (N : Int) 4 ++ (List.replicate 4 (0 : Int) ++ (lows lsn 8 ++ (lows ep 4 ++ R))) = (((lows (N : Int) 4 ++ List.replicate 4 (0 : Int)) ++ lows lsn 8) ++ lows ep 4) ++ ((R) ++ ([])) from by simp only [List.append_assoc, List.nil_append, List.append_nil]]; exact h))
  have HK6 := (show Hid (Same w (w5.setCells w1.heap.size 20 (vals .u8 R))) from Kept.setCells (.inl (by have := HK1.out.size; omega)) _ _ HK5.out)
  have HQ6 := (show Hid (Kept (fun b => b = w1.heap.size) w1 (w5.setCells w1.heap.size 20 (vals .u8 R))) from Kept.setCells (R := fun b => b = w1.heap.size) (.inr rfl) _ _ HQ5.out)
  have HD6 := (show Hid (Rd .u8 (w5.setCells w1.heap.size 20 (vals .u8 R)) (.slice (some ⟨w1.heap.size, 8, none⟩) (N - 8) (N - 8)) (sumB lsn ep R)) from (by have h := Blk.rd HB6.out 8 (N - 8) (N - 8) (by have := HN.out; simp [lows_length]; try omega) (Nat.le_refl _) (by unfold maxLen; simp [lows_length]; try omega); rw [HSM.out]; rw [show ((lows (N : Int) 4 ++ (List.replicate 4 (0 : Int) ++ (lows lsn 8 ++ (lows ep 4 ++ R)))).drop 8).take (N - 8) = (lows lsn 8 ++ lows ep 4) ++ R from (by rw [show lows (N : Int) 4 ++ (List.replicate 4 (0 : Int) ++ (lows lsn 8 ++ (lows ep 4 ++ R))) = (lows (N : Int) 4 ++ List.replicate 4 (0 : Int)) ++ ((lows lsn 8 ++ lows ep 4) ++ R) from by simp only [List.append_assoc], List.drop_left' (by simp [lows_length]), List.take_of_length_le (by have := HN.out; simp [lows_length]; try omega)])] at h; exact h))
  rw [vals_length] at hcp
  generalize (w5.setCells w1.heap.size 20 (vals .u8 R)) = w6 at *
  go_wp2_with fail
  have hS : ((fun _ : World => True)) w6.drew := by trivial
  refine wp_region_V ((fun _ : World => True)) 99 6 rfl (by kernel_rfl) ?_
  refine tk 0 51 hS ?_
  refine tk 1 52 hS ?_
  refine tk 2 53 hS ?_
  refine tk 3 54 hS ?_
  refine wpAnyV_one (i := 4) (by kernel_rfl) rfl (fun K hK => ?_)
  go_simp
  refine (implCrc_any _ (sumB lsn ep R) _ HSB.out (by omega) (HD6.out.same (Kept.refl _ _).drew)).mono ?_
  rintro e w7 ⟨rfl, hk⟩
  have HB7 := (show Hid (Blk w7 w1.heap.size 5 (vals .u8 (lows (N : Int) 4 ++ (List.replicate 4 (0 : Int) ++ (lows lsn 8 ++ (lows ep 4 ++ R)))))) from HB6.out.drew.same hk)
  have HK7 := hid (HK6.out.drew.trans hk)
  have HQ7 := (show Hid (Kept (fun b => b = w1.heap.size) w1 w7) from HQ6.out.drew.next (hk.mono (fun _ _ e => absurd e id)) (fun i hi e => e))
  clear hk
  have hS : ((fun _ : World => True)) w7 := by trivial
  refine hK.out _ _ (fun _ => hS) ?_
  clear hK K
  try simp only [Act.put, sA, s0, sS]
  refine wpAnyV_one (i := 5) (by kernel_rfl) rfl (fun K hK => ?_)
  go_simp
  refine (writeNumber_any w1.heap.size 4 4 (N - 4) 5 _ (crcOn 0 (sumB lsn ep R)) _ HB7.out (by rw [vals_length]; simp [lows_length]; try omega) (by omega) (by omega) (by omega)).mono ?_
  rintro e w8 ⟨rfl, hb, hk⟩
  have HB8 := (show Hid (Blk w8 w1.heap.size 5 (vals .u8 (lows (N : Int) 4 ++ (lows (crcOn 0 (sumB lsn ep R)) 4 ++ (lows lsn 8 ++ (lows ep 4 ++ R)))))) from (by have h := hb; rw [show lows (N : Int) 4 ++ (List.replicate 4 (0 : Int) ++ (lows lsn 8 ++ (lows ep 4 ++ R))) = (lows (N : Int) 4) ++ ((List.replicate 4 (0 : Int)) ++ (lows lsn 8 ++ (lows ep 4 ++ R))) from by simp only [List.append_assoc, List.nil_append, List.append_nil], layV _ (lows (N : Int) 4) (List.replicate 4 (0 : Int)) (lows lsn 8 ++ (lows ep 4 ++ R)) (lows (crcOn 0 (sumB lsn ep R)) 4) 4 (by simp [lows_length]) (by simp [lows_length])] at h; rw [show lows (N : Int) 4 ++ (lows (crcOn 0 (sumB lsn ep R)) 4 ++ (lows lsn 8 ++ (lows ep 4 ++ R))) = (lows (N : Int) 4) ++ ((lows (crcOn 0 (sumB lsn ep R)) 4) ++ (lows lsn 8 ++ (lows ep 4 ++ R))) from by simp only [List.append_assoc, List.nil_append, List.append_nil]]; exact h))
  have HK8 := (show Hid (Same w w8) from HK7.out.next hk (fun i hi e => by have := HK1.out.size; omega))
  have HQ8 := (show Hid (Kept (fun b => b = w1.heap.size) w1 w8) from HQ7.out.next hk (fun i hi e => e))
  clear hb hk
  have hS : ((fun _ : World => True)) w8 := by trivial
  refine hK.out _ _ (fun _ => hS) ?_
  clear hK K
  try simp only [Act.put, sA, s0, sS]
  refine wpAnyV_done (by kernel_rfl) ?_
  go_wp2
  go_ret
  have hlen : (frB lsn ep R).length = N := by have := HN.out; rw [HFR.out]; simp [lows_length]; try omega
  refine ⟨some ⟨w1.heap.size, 0, none⟩, N, by first | (rw [hlen]; done) | simp [hlen], fun b hb => ?_, ?_, HK8.out⟩
  ·have hb : w1.heap.size = b := by simpa [Value.ownBlock] using hb
   have := HK1.out.size
   omega
  ·have h := Blk.own HB8.out (by unfold maxLen; simp [lows_length]; try omega)
   rw [← HFR.out] at h
   rw [hlen] at h ⊢
   exact h
 ·rw [frFd_no hy]
  have hor : (encFd x.dat).length = 0 ∨ (1 ≤ (encFd x.dat).length ∧ (encFd x.dat).length ≤ 5000 ∧ ¬ ((1 ≤ lsn ∧ lsn ≤ 1099511627776) ∧ (1 ≤ ep ∧ ep ≤ 4294967295))) := by by_cases h : recFd x.dat = 0; rw [encFd_good h]; exact .inr ⟨(recBd_length h).1, (recBd_length h).2, fun h2 => hy ⟨h, h2⟩⟩; rw [encFd_bad h]; exact .inl rfl
  clear hE0 hy hB hn hv
  generalize encFd x.dat = R at *
  obtain ⟨kind, txn, prev, page, slot, ⟨bU, ⟨bDe, bDa, bDc, bDb⟩⟩, ⟨aU, ⟨aDe, aDa, aDc, aDb⟩⟩, uN, nT, ⟨tXe, tXa, tXn, tXc, tXb⟩, ⟨dYe, dYa, dYn, dYc, dYb⟩, ⟨iMe, iMa, iMc, iMb⟩⟩ := x
  dsimp only [StLogRecord.val, StPageRecord.val, BS.v, FR.v] at HE ⊢
  have HK0 := hid (sameA w [.int .i64 kind, .int .i64 txn, .int .i64 prev, .int .i64 page, .int .i64 slot, .bool bU, .slice bDa bDb.length bDc, .bool aU, .slice aDa aDb.length aDc, .int .i64 uN, .int .i64 nT, .slice tXa tXn tXc, .slice dYa dYn dYc, .slice iMa iMb.length iMc] 49)
  have key : (R.length : Int) = 0 ∨ (¬ (R.length : Int) = 0 ∧ lsn < 1) ∨ (¬ (R.length : Int) = 0 ∧ ¬ lsn < 1 ∧ 1099511627776 < lsn) ∨ (¬ (R.length : Int) = 0 ∧ ¬ lsn < 1 ∧ ¬ 1099511627776 < lsn ∧ ep < 1) ∨ (¬ (R.length : Int) = 0 ∧ ¬ lsn < 1 ∧ ¬ 1099511627776 < lsn ∧ ¬ ep < 1 ∧ 4294967295 < ep) := by omega
  clear hor
  rcases key with h1 | ⟨h1, h2⟩ | ⟨h1, h2, h3⟩ | ⟨h1, h2, h3, h4⟩ | ⟨h1, h2, h3, h4, h5⟩
  ·have q1 : ((R.length : Int) == 0) = true := by rw [beq_iff_eq]; exact h1
   go_enter Tryz.func62, Tryz.ntmps62
   go_wp2_with fail
   refine (HE.out _ HK0.out).mono ?_
   rintro e w1 ⟨a1, c1, rfl, hf, ho, hk⟩
   have HK1 := hid (HK0.out.trans hk)
   clear hf ho hk
   go_wp2
   go_ret
   exact ⟨none, 0, rfl, fun b hb => (by simp [Value.ownBlock] at hb), Own.nil _ _ _ _, HK1.out⟩
  ·have q1 : ((R.length : Int) == 0) = false := by rw [beq_eq_false_iff_ne]; exact h1
   have q2 : decide (lsn < 1) = true := decide_eq_true h2
   go_enter Tryz.func62, Tryz.ntmps62
   go_wp2_with fail
   refine (HE.out _ HK0.out).mono ?_
   rintro e w1 ⟨a1, c1, rfl, hf, ho, hk⟩
   have HK1 := hid (HK0.out.trans hk)
   clear hf ho hk
   go_wp2
   go_ret
   exact ⟨none, 0, rfl, fun b hb => (by simp [Value.ownBlock] at hb), Own.nil _ _ _ _, HK1.out⟩
  ·have q1 : ((R.length : Int) == 0) = false := by rw [beq_eq_false_iff_ne]; exact h1
   have q2 : decide (lsn < 1) = false := decide_eq_false h2
   have q3 : decide (1099511627776 < lsn) = true := decide_eq_true h3
   go_enter Tryz.func62, Tryz.ntmps62
   go_wp2_with fail
   refine (HE.out _ HK0.out).mono ?_
   rintro e w1 ⟨a1, c1, rfl, hf, ho, hk⟩
   have HK1 := hid (HK0.out.trans hk)
   clear hf ho hk
   go_wp2
   go_ret
   exact ⟨none, 0, rfl, fun b hb => (by simp [Value.ownBlock] at hb), Own.nil _ _ _ _, HK1.out⟩
  ·have q1 : ((R.length : Int) == 0) = false := by rw [beq_eq_false_iff_ne]; exact h1
   have q2 : decide (lsn < 1) = false := decide_eq_false h2
   have q3 : decide (1099511627776 < lsn) = false := decide_eq_false h3
   have q4 : decide (ep < 1) = true := decide_eq_true h4
   go_enter Tryz.func62, Tryz.ntmps62
   go_wp2_with fail
   refine (HE.out _ HK0.out).mono ?_
   rintro e w1 ⟨a1, c1, rfl, hf, ho, hk⟩
   have HK1 := hid (HK0.out.trans hk)
   clear hf ho hk
   go_wp2
   go_ret
   exact ⟨none, 0, rfl, fun b hb => (by simp [Value.ownBlock] at hb), Own.nil _ _ _ _, HK1.out⟩
  ·have q1 : ((R.length : Int) == 0) = false := by rw [beq_eq_false_iff_ne]; exact h1
   have q2 : decide (lsn < 1) = false := decide_eq_false h2
   have q3 : decide (1099511627776 < lsn) = false := decide_eq_false h3
   have q4 : decide (ep < 1) = false := decide_eq_false h4
   have q5 : decide (4294967295 < ep) = true := decide_eq_true h5
   go_enter Tryz.func62, Tryz.ntmps62
   go_wp2_with fail
   refine (HE.out _ HK0.out).mono ?_
   rintro e w1 ⟨a1, c1, rfl, hf, ho, hk⟩
   have HK1 := hid (HK0.out.trans hk)
   clear hf ho hk
   go_wp2
   go_ret
   exact ⟨none, 0, rfl, fun b hb => (by simp [Value.ownBlock] at hb), Own.nil _ _ _ _, HK1.out⟩
def bgR : StLogRecord := ⟨6, 0, 0, 0, 0, ⟨false, ⟨0, none, 0, []⟩⟩, ⟨false, ⟨0, none, 0, []⟩⟩, 0, 0, ⟨0, none, 0, 0, []⟩, ⟨0, none, 0, 0, []⟩, ⟨0, none, 0, []⟩⟩
def tbR : StLogRecord := ⟨7, 0, 0, 0, 0, ⟨false, ⟨0, none, 0, []⟩⟩, ⟨false, ⟨0, none, 0, []⟩⟩, 0, 1, ⟨0, none, 0, 0, []⟩, ⟨0, none, 0, 0, []⟩, ⟨0, none, 0, []⟩⟩
theorem rd_nil8 (w : World) : Rd .u8 w (.slice none 0 0) [] := (Own.nil 0 0 .u8 w).rd
theorem rdF_nil (m : Nat) (w : World) : RdF m w ⟨0, none, 0, 0, []⟩ := ⟨Nat.zero_le _, by simp, .inl rfl⟩
theorem bgR_rd (w : World) : StLogRecord.rd w bgR := ⟨rd_nil8 w, rd_nil8 w, rdF_nil 4 w, rdF_nil 2 w, rd_nil8 w⟩
theorem tbR_rd (w : World) : StLogRecord.rd w tbR := ⟨rd_nil8 w, rd_nil8 w, rdF_nil 4 w, rdF_nil 2 w, rd_nil8 w⟩
theorem bgR_isB : bgR.isB := ⟨isB_nil, isB_nil, isB_nil⟩
theorem tbR_isB : tbR.isB := ⟨isB_nil, isB_nil, isB_nil⟩
theorem bgR_szs : bgR.szs ≤ 1073741824 := by decide
theorem tbR_szs : tbR.szs ≤ 1073741824 := by decide
theorem bgR_good : recFd bgR.dat = 0 := by kernel_rfl
theorem tbR_good : recFd tbR.dat = 0 := by kernel_rfl
theorem implRec_bg (w wx : World) (_ : Same w wx) : Calls Tryz.prog 93 #[bgR.val] wx fun e w' => e = .returned (.int .i64 (recFd bgR.dat)) ∧ Same wx w' :=
 recI_6 0 0 0 0 false none 0 [] false none 0 [] 0 0 0 none 0 0 [] 0 none 0 0 [] none 0 [] wx isB_nil isB_nil isB_nil (Nat.zero_le _) (rd_nil8 wx) (rd_nil8 wx) (rd_nil8 wx) (rdF_nil 4 wx) (rdF_nil 2 wx) (Nat.zero_le _) (Nat.zero_le _)
theorem implRec_tb (w wx : World) (_ : Same w wx) : Calls Tryz.prog 93 #[tbR.val] wx fun e w' => e = .returned (.int .i64 (recFd tbR.dat)) ∧ Same wx w' :=
 recI_7 0 0 0 0 false none 0 [] false none 0 [] 0 1 0 none 0 0 [] 0 none 0 0 [] none 0 [] wx isB_nil isB_nil isB_nil (Nat.zero_le _) (rd_nil8 wx) (rd_nil8 wx) (rd_nil8 wx) (rdF_nil 4 wx) (rdF_nil 2 wx) (Nat.zero_le _) (Nat.zero_le _)
theorem enc_form {f : Nat} {x : StLogRecord} {w : World} (hz : recFd x.dat = 0) (h : Calls Tryz.prog f #[x.val] w fun e w' => ∃ aa nn cc, e = .returned (.slice aa nn cc) ∧ Own 0 5 .u8 w' (.slice aa nn cc) (recBd x.dat) ∧ (∀ b, (Value.slice aa nn cc).ownBlock = some b → w.heap.size ≤ b) ∧ Same w w') :
  Calls Tryz.prog f #[x.val] w fun e w' => ∃ a c, e = .returned (.slice a (encFd x.dat).length c) ∧ (∀ b, (Value.slice a (encFd x.dat).length c).ownBlock = some b → w.heap.size ≤ b) ∧ Own 0 5 .u8 w' (.slice a (encFd x.dat).length c) (encFd x.dat) ∧ Same w w' := by
 rw [encFd_good hz]
 refine h.mono ?_
 rintro e w' ⟨aa, nn, cc, rfl, ho, hf, hk⟩
 have hs := Own.sized ho
 subst hs
 exact ⟨aa, cc, rfl, hf, ho, hk⟩
theorem implEnc_bg (w wx : World) (_ : Same w wx) : Calls Tryz.prog 81 #[bgR.val] wx fun e w' => ∃ a c, e = .returned (.slice a (encFd bgR.dat).length c) ∧ (∀ b, (Value.slice a (encFd bgR.dat).length c).ownBlock = some b → wx.heap.size ≤ b) ∧ Own 0 5 .u8 w' (.slice a (encFd bgR.dat).length c) (encFd bgR.dat) ∧ Same wx w' :=
 enc_form bgR_good (encI_6h bgR wx bgR_isB bgR_szs (bgR_rd wx) (implRec_bg wx) rfl bgR_good)
theorem implEnc_tb (w wx : World) (_ : Same w wx) : Calls Tryz.prog 81 #[tbR.val] wx fun e w' => ∃ a c, e = .returned (.slice a (encFd tbR.dat).length c) ∧ (∀ b, (Value.slice a (encFd tbR.dat).length c).ownBlock = some b → wx.heap.size ≤ b) ∧ Own 0 5 .u8 w' (.slice a (encFd tbR.dat).length c) (encFd tbR.dat) ∧ Same wx w' :=
 enc_form tbR_good (encI_7h tbR wx tbR_isB tbR_szs (tbR_rd wx) (implRec_tb wx) rfl tbR_good)
theorem implFrame_bg (w : World) : Calls Tryz.prog 62 #[.int .i64 512, .int .i64 1, .agg #[.int .i64 6, .int .i64 0, .int .i64 0, .int .i64 0, .int .i64 0, .bool false, .slice none 0 0, .bool false, .slice none 0 0, .int .i64 0, .int .i64 0, .slice none 0 0, .slice none 0 0, .slice none 0 0]] w fun e w' => ∃ a c, e = .returned (.slice a (frFd 512 1 bgR.dat).length c) ∧ (∀ b, (Value.slice a (frFd 512 1 bgR.dat).length c).ownBlock = some b → w.heap.size ≤ b) ∧ Own 0 5 .u8 w' (.slice a (frFd 512 1 bgR.dat).length c) (frFd 512 1 bgR.dat) ∧ Same w w' :=
 implFrame_h 512 1 bgR w (by unfold IsI; omega) (by unfold IsI; omega) bgR_isB bgR_szs (bgR_rd w) (implEnc_bg w)
theorem implFrame_tb (w : World) : Calls Tryz.prog 62 #[.int .i64 545, .int .i64 1, .agg #[.int .i64 7, .int .i64 0, .int .i64 0, .int .i64 0, .int .i64 0, .bool false, .slice none 0 0, .bool false, .slice none 0 0, .int .i64 0, .int .i64 1, .slice none 0 0, .slice none 0 0, .slice none 0 0]] w fun e w' => ∃ a c, e = .returned (.slice a (frFd 545 1 tbR.dat).length c) ∧ (∀ b, (Value.slice a (frFd 545 1 tbR.dat).length c).ownBlock = some b → w.heap.size ≤ b) ∧ Own 0 5 .u8 w' (.slice a (frFd 545 1 tbR.dat).length c) (frFd 545 1 tbR.dat) ∧ Same w w' :=
 implFrame_h 545 1 tbR w (by unfold IsI; omega) (by unfold IsI; omega) tbR_isB tbR_szs (tbR_rd w) (implEnc_tb w)
theorem numB_len' {x : Int} {n : Nat} (hn : 1 ≤ n ∧ n ≤ 8) (h0 : 0 ≤ x) (h1 : x < 256 ^ n) : (numB x n).length = n := by rw [numB_lows hn h0 h1, lows_length]
theorem frB_len {lsn ep : Int} {R : List Int} (hB : IsB R) (hR : R.length ≤ 5000) (hl : 1 ≤ lsn ∧ lsn ≤ 1099511627776) (he : 1 ≤ ep ∧ ep ≤ 4294967295) : (frB lsn ep R).length = 20 + R.length := by
 have hs : (sumB lsn ep R).length = 12 + R.length := by
  have h1 : (numB lsn 8).length = 8 := numB_len' (n := 8) (by omega) (by omega) (by omega)
  have h2 : (numB ep 4).length = 4 := numB_len' (n := 4) (by omega) (by omega) (by omega)
  simp only [sumB, List.length_append, h1, h2]
 have hc := crcOn_le 0 (sumB lsn ep R) (by omega) (by omega) (sumB_isB hB)
 have h3 : (numB (20 + (R.length : Int)) 4).length = 4 := numB_len' (n := 4) (by omega) (by omega) (by omega)
 have h4 : (numB (crcOn 0 (sumB lsn ep R)) 4).length = 4 := numB_len' (n := 4) (by omega) (by omega) (by omega)
 simp only [frB, List.length_append, h3, h4, hs]
 omega
theorem bgR_len : (recBd bgR.dat).length = 13 := by kernel_rfl
theorem tbR_len : (recBd tbR.dat).length = 19 := by kernel_rfl
theorem fr_bg : (frFd 512 1 bgR.dat).length = 33 := by
 rw [frFd_yes ⟨bgR_good, by omega, by omega⟩, frB_len (recBd_isB bgR_isB bgR_good) (by rw [bgR_len]; omega) (by omega) (by omega), bgR_len]
theorem fr_tb : (frFd 545 1 tbR.dat).length = 39 := by
 rw [frFd_yes ⟨tbR_good, by omega, by omega⟩, frB_len (recBd_isB tbR_isB tbR_good) (by rw [tbR_len]; omega) (by omega) (by omega), tbR_len]
def ckB : List Int := frFd 512 1 bgR.dat ++ frFd 545 1 tbR.dat
theorem ckB_len : ckB.length = 72 := by unfold ckB; rw [List.length_append, fr_bg, fr_tb]
theorem m1_good : mF 1 1 512 512 = 0 := by kernel_rfl
theorem encM1 : encM 1 1 512 512 = mB 1 1 512 512 := if_pos m1_good
theorem encM1_len : (encM 1 1 512 512).length = 512 := by rw [encM1, mB_length]
theorem pageNew_len (k : Nat) (h : k < 16) : (pageNew (k : Int)).length = 4096 := by
 unfold pageNew
 rw [if_neg (by omega)]
 exact by rw [sealB_length _ (by rw [newB_length]; decide), newB_length]
def fmtP (l : Int) (xs : List Int) : Nat → List Int
 | 0 => xs
 | k + 1 => layI (fmtP l xs k) ((2 + l + (k : Int) * 8).toNat * 512) (pageNew (k : Int))
theorem fmtP_length (l : Int) (xs : List Int) (hl : 0 ≤ l) (p : Nat) (hp : p ≤ 16) (hx : (2 + l + (p : Int) * 8).toNat * 512 = xs.length) : ∀ k, k ≤ p → (fmtP l xs k).length = xs.length
 | 0, _ => rfl
 | k + 1, h => by
  have ih := fmtP_length l xs hl p hp hx k (by omega)
  unfold fmtP
  rw [layI_length _ _ _ (by rw [ih, pageNew_len k (by omega), ← hx]; omega), ih]
def fmtD (p f l : Int) : List Int := if geoF p f l = 0 then fmtP l (layI (layI (List.replicate ((2 + l + p * 8).toNat * 512) 0) 0 (encM 1 1 512 512)) 1024 ckB) p.toNat else []
structure FmI (w wx : World) (G Z D g N : Nat) (p f l : Int) (xs : List Int) : Prop where
 geo : Blk wx G 24 [.int .i64 p, .int .i64 f, .int .i64 l]
 res : Blk wx Z 27 [.slice none 0 0, .slice none 0 0]
 box : Blk wx D 27 [.slice (some ⟨g, 0, none⟩) N N, .slice none 0 0]
 own : Own 0 5 .u8 wx (.slice (some ⟨g, 0, none⟩) N N) xs
 len : N = xs.length
 fr : w.heap.size ≤ g ∧ g ≠ G ∧ g ≠ Z ∧ g ≠ D ∧ w.heap.size ≤ Z
 kept : Same w wx
theorem FmI.same {w wx wy : World} {G Z D g N : Nat} {p f l : Int} {xs : List Int} (h : FmI w wx G Z D g N p f l xs) (hk : Same wx wy) : FmI w wy G Z D g N p f l xs :=
 ⟨h.geo.same hk, h.res.same hk, h.box.same hk, h.own.same hk, h.len, h.fr, h.kept.trans hk⟩
theorem FmI.keptG {w wx : World} {G Z D g N : Nat} {p f l : Int} {xs : List Int} (h : FmI w wx G Z D g N p f l xs) (o : Nat) (ys : List Int) : Kept (fun b => b = g) wx (wx.setCells g o (vals .u8 ys)) :=
 Kept.setCells (R := fun b => b = g) (.inr rfl) _ _ (Kept.refl _ _)
theorem FmI.lay {w wx : World} {G Z D g N : Nat} {p f l : Int} {xs : List Int} (h : FmI w wx G Z D g N p f l xs) (o : Nat) (ys : List Int) (ho : o + ys.length ≤ N) : FmI w (wx.setCells g o (vals .u8 ys)) G Z D g N p f l (layI xs o ys) :=
 ⟨h.geo.kept (h.keptG o ys) (fun e => h.fr.2.1 e.symm), h.res.kept (h.keptG o ys) (fun e => h.fr.2.2.1 e.symm), h.box.kept (h.keptG o ys) (fun e => h.fr.2.2.2.1 e.symm), h.own.laid h.len o ys ho,
  by rw [layI_length _ _ _ (by rw [← h.len]; exact ho)]; exact h.len, h.fr, h.kept.next (h.keptG o ys) (fun i hi e => by have := h.fr.1; omega)⟩
theorem byte_one' : (Tryz.prog.info? 5).map (·.size) = some 1 := by kernel_rfl
theorem FmI.copy {w wx : World} {G Z D g N : Nat} {p f l : Int} {xs : List Int} (h : FmI w wx G Z D g N p f l xs) (o : Nat) (ys : List Int) (sv : Value) (ho : o + ys.length ≤ N) (ho2 : o < N) (hs : Rd .u8 wx sv ys) :
  (Builtin.copy_ #[22, 22] 3 #[.slice (some ⟨g, o, none⟩) (N - o) (N - o), sv]).run Tryz.prog wx = .ok (goInt ys.length) (wx.setCells g o (vals .u8 ys)) := by
 have hcp := run_copyOwn (P := Tryz.prog) 3 Tryz.underlying22 byte_one' h.own h.len o ho hs
 rwa [show behind g N o = some ⟨g, o, none⟩ from if_neg (by omega)] at hcp
structure EOp where
 kind : Int
 sec : Int
 v : Value
 bs : List Int
def kOp : RowK EOp := ⟨3, fun p => [.int .i64 p.kind, .int .i64 p.sec, p.v], fun _ => rfl, EOp.v, EOp.bs⟩
def EOp.dat (p : EOp) : Int × Int × List Int := (p.kind, p.sec, p.bs)
def datOpS (ps : List EOp) : List (Int × Int × List Int) := ps.map EOp.dat
theorem datOpS_length (ps : List EOp) : (datOpS ps).length = ps.length := by simp [datOpS]
theorem Tryz.infoROp : (Tryz.prog.info? 95).map (fun i => (i.zero, i.size, i.bytes)) = some (some (.agg #[.int .i64 0, .int .i64 0, .slice none 0 0]), 3, 40) := by kernel_rfl
def zOp : EOp := ⟨0, 0, .slice none 0 0, []⟩
variable {E : Type}
section
variable {K : RowK E} {base : Nat} {tw tb : TypeId} {w w' : World} {v : Value} {qs : List E}
theorem OwnR.snoc {g n cap : Nat} (p : E) (h : OwnR K base tw tb w v qs) (hu : Own base tb .u8 w (K.v p) (K.bs p)) (huf : ∀ b, (K.v p).ownBlock = some b → ¬ footR K v qs b)
  (hg : w.grownBy w' v.ownBlock) (hrow : w'.ownsRow base tw K.m (.slice (some ⟨g, 0, none⟩) (n + 1) cap) (n + 1) (K.all qs ++ K.cells p)) (hn : n = qs.length) (hat : v.ownBlock = some g ∨ g = w.heap.size) :
  OwnR K base tw tb w' (.slice (some ⟨g, 0, none⟩) (n + 1) cap) (qs ++ [p]) := by
 have hk : Kept (fun b => v.ownBlock = some b) w w' := Kept.of_grown hg (fun k e => e)
 have hul : ∀ b, (K.v p).ownBlock = some b → b < w.heap.size := fun b hb => (hu.lt b hb).2
 have hgu : (K.v p).ownBlock ≠ some g := fun e => by
  rcases hat with hat | hat
  ·exact huf g e (.inl hat)
  ·have := hul g e; omega
 have hgp : ∀ q ∈ qs, (K.v q).ownBlock ≠ some g := fun q hp e => by
  rcases hat with hat | hat
  ·exact h.out (K.v q) (List.mem_map_of_mem hp) g hat e
  ·have := (h.lt g (.inr ⟨q, hp, e⟩)).2; omega
 refine ⟨?_, fun q hp => ?_, fun x hx => ?_, ?_⟩
 ·have e : K.all (qs ++ [p]) = K.all qs ++ K.cells p := by rw [K.all_append]; simp [RowK.all]
  rw [e, List.length_append, List.length_singleton, ← hn]
  exact hrow
 ·rcases List.mem_append.1 hp with hp | hp
  ·exact (h.data q hp).kept hk (fun b hb e => h.out (K.v q) (List.mem_map_of_mem hp) b e hb)
  ·simp at hp
   subst hp
   exact hu.kept hk (fun b hb e => huf b hb (.inl e))
 ·rw [List.map_append, List.mem_append] at hx
  intro b hb
  have hb' : b = g := by simpa [Value.ownBlock] using hb.symm
  subst hb'
  rcases hx with hx | hx
  ·obtain ⟨q, hp, rfl⟩ := List.mem_map.1 hx
   exact hgp q hp
  ·simp at hx
   subst hx
   exact hgu
 ·rw [List.map_append]
  refine List.pairwise_append.2 ⟨h.each, by simp, fun x hx y hy => ?_⟩
  obtain ⟨q, hp, rfl⟩ := List.mem_map.1 hx
  simp at hy
  subst hy
  exact fun b hb hb' => huf b hb' (.inr ⟨q, hp, hb⟩)
theorem footR_nil (b : Nat) : ¬ footR K (.slice none 0 0) [] b := by
 rintro (h | ⟨p, hp, _⟩)
 ·simp [Value.ownBlock] at h
 ·simp at hp
end
def OpsR (w w' : World) (ds : List (Int × Int × List Int)) (v : Value) : Prop :=
 ∃ a n c ps, v = .slice a n c ∧ datOpS ps = ds ∧ (∀ b, footR kOp (.slice a n c) ps b → w.heap.size ≤ b) ∧ OwnR kOp 0 95 5 w' (.slice a n c) ps ∧ Same w w'
end Go.Proofs.YtdbpaadndaoihaaGreatDoor
