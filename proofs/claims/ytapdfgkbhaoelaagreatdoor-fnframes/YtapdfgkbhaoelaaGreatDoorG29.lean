import Derived.Test.YtapdfgkbhaoelaaGreatDoorG24
import Derived.Test.YtapdfgkbhaoelaaGreatDoorEncSB
import Derived.Test.YtapdfgkbhaoelaaGreatDoorEncSC
import Derived.Test.YtapdfgkbhaoelaaGreatDoorEncSD
import Derived.Test.YtapdfgkbhaoelaaGreatDoorEncSE
namespace Go.Proofs.YtapdfgkbhaoelaaGreatDoor
set_option maxRecDepth 100000
set_option maxHeartbeats 4000000
set_option linter.unusedVariables false
set_option linter.unusedSimpArgs false
open Go.RowKit
theorem Own.sized {base : Nat} {e : TypeId} {k : IntKind} {w : World} {aa : Option Addr} {nn cc : Nat} {bs : List Int} (h : Own base e k w (.slice aa nn cc) bs) : nn = bs.length := by
 rcases h.form with ⟨hh, rfl⟩ | ⟨g, cap, hh, _⟩ <;> cases hh <;> rfl
theorem P9 {d : Int × Int × Int × Int × Int × (Bool × List Int) × (Bool × List Int) × Int × Int × List Int × List Int × List Int} (h : O9 d = 0) : P8 d = Pe d := by unfold P8; rw [if_neg (by simpa using h)]
theorem Sj {d : Int × Int × Int × Int × Int × (Bool × List Int) × (Bool × List Int) × Int × Int × List Int × List Int × List Int} (h : O9 d ≠ 0) : P8 d = [] := by unfold P8; rw [if_pos h]
theorem Rz (x : StLogRecord) (w : World) (hB : x.isB) (hn : x.szs ≤ 1073741824) (hv : StLogRecord.rd w x) : Calls Tryz.prog 37 #[x.val] w fun e w' => ∃ a c, e = .returned (.slice a (P8 x.dat).length c) ∧ (∀ b, (Value.slice a (P8 x.dat).length c).ownBlock = some b → w.heap.size ≤ b) ∧ Own 0 5 .u8 w' (.slice a (P8 x.dat).length c) (P8 x.dat) ∧ Same w w' := by
  by_cases hz : O9 x.dat = 0
  · have hg := Tm (show Pw x.kind _ _ _ _ _ _ _ _ _ _ _ _ _ = 0 from hz)
    rw [P9 hz]
    have key : Calls Tryz.prog 37 #[x.val] w fun e w' => ∃ aa nn cc, e = .returned (.slice aa nn cc) ∧ Own 0 5 .u8 w' (.slice aa nn cc) (Pe x.dat) ∧ (∀ b, (Value.slice aa nn cc).ownBlock = some b → w.heap.size ≤ b) ∧ Same w w' := by
      rcases (show x.kind = 1 ∨ x.kind = 2 ∨ x.kind = 3 ∨ x.kind = 4 ∨ x.kind = 5 ∨ x.kind = 6 ∨ x.kind = 7 ∨ x.kind = 8 by omega) with h | h | h | h | h | h | h | h
      · exact jeR x w hB hn hv h hz
      · exact jek x w hB hn hv h hz
      · exact jel x w hB hn hv h hz
      · exact jem x w hB hn hv h hz
      · exact jen x w hB hn hv h hz
      · exact jeo x w hB hn hv h hz
      · exact jeq x w hB hn hv h hz
      · exact jep x w hB hn hv h hz
    refine key.mono ?_;rintro e w' ⟨aa, nn, cc, rfl, ho, hf, hk⟩;obtain rfl := ho.sized;exact ⟨aa, cc, rfl, hf, ho, hk⟩
  · rw [Sj hz]
    have HF := (show Hid (∀ wx, Same w wx → _) from fun wx (h : Same w wx) => Qc x wx hB hn (StLogRecord.rd.same hv h));obtain ⟨r, hr⟩ : ∃ r, O9 x.dat = r := ⟨_, rfl⟩;rw [hr] at HF hz;clear hr hB hn hv;obtain ⟨kind, txn, prev, page, slot, ⟨bU, ⟨eS, ax, ay, aI⟩⟩, ⟨aU, ⟨eP, ao, al, aG⟩⟩, uN, nT, ⟨dI, aJ, ak, aK, bh⟩, ⟨dF, aM, aw, aH, bw⟩, ⟨eM, aF, aD, aL⟩⟩ := x;have bJ := HF.out _ (kZ0.alloc (.cells #[Q1 kind, Q1 txn, Q1 prev, Q1 page, Q1 slot, .bool bU, .slice ax aI.length ay, .bool aU, .slice ao aG.length al, Q1 uN, Q1 nT, .slice aJ ak aK, .slice aM aw aH, .slice aF aL.length aD] 28));dsimp only [StLogRecord.val, StPageRecord.val, BS.v, FR.v] at bJ ⊢;have aP := hid (Rv w [Q1 kind, Q1 txn, Q1 prev, Q1 page, Q1 slot, .bool bU, .slice ax aI.length ay, .bool aU, .slice ao aG.length al, Q1 uN, Q1 nT, .slice aJ ak aK, .slice aM aw aH, .slice aF aL.length aD] 28);clear HF
    go_enter Tryz.func37, Tryz.ntmps37
    go_wp2_with fail
    refine bJ.mono ?_;rintro e w1 ⟨rfl, ah⟩;have aN := hid (aP.out.trans ah);clear ah bJ;go_wp2;go_ret
    exact ⟨_, _, rfl, fun b hb => by have := aN.out.size; have hb : w1.heap.size = b := by simpa [Value.ownBlock] using hb
                                     omega, Own.empty _ _, aN.out.alloc _⟩
theorem Ua (x : StLogRecord) (w : World) (hB : x.isB) (hn : x.szs ≤ 1073741824) (hv : StLogRecord.rd w x) : Calls Tryz.prog 5 #[x.val] w fun e w' => ∃ a c, e = .returned (.slice a (P8 x.dat).length c) ∧ (∀ b, (Value.slice a (P8 x.dat).length c).ownBlock = some b → w.heap.size ≤ b) ∧ Own 0 5 .u8 w' (.slice a (P8 x.dat).length c) (P8 x.dat) ∧ Same w w' := by
 by_cases hz : O9 x.dat = 0
 ·have hg := Tm (show Pw x.kind _ _ _ _ _ _ _ _ _ _ _ _ _ = 0 from hz)
  rw [P9 hz]
  have key : Calls Tryz.prog 5 #[x.val] w fun e w' => ∃ aa nn cc, e = .returned (.slice aa nn cc) ∧ Own 0 5 .u8 w' (.slice aa nn cc) (Pe x.dat) ∧ (∀ b, (Value.slice aa nn cc).ownBlock = some b → w.heap.size ≤ b) ∧ Same w w' := by
   rcases (show x.kind = 1 ∨ x.kind = 2 ∨ x.kind = 3 ∨ x.kind = 4 ∨ x.kind = 5 ∨ x.kind = 6 ∨ x.kind = 7 ∨ x.kind = 8 by omega) with h | h | h | h | h | h | h | h
   ·exact jeJ x w hB hn hv h hz
   ·exact jeK x w hB hn hv h hz
   ·exact jeL x w hB hn hv h hz
   ·exact jeM x w hB hn hv h hz
   ·exact jeN x w hB hn hv h hz
   ·exact jeO x w hB hn hv h hz
   ·exact jeP x w hB hn hv h hz
   ·exact jeQ x w hB hn hv h hz
  refine key.mono ?_;rintro e w' ⟨aa, nn, cc, rfl, ho, hf, hk⟩;obtain rfl := ho.sized;exact ⟨aa, cc, rfl, hf, ho, hk⟩
 ·rw [Sj hz]
  have HF := (show Hid (∀ wx, Same w wx → _) from fun wx (h : Same w wx) => QH x wx hB hn (StLogRecord.rd.same hv h));obtain ⟨r, hr⟩ : ∃ r, O9 x.dat = r := ⟨_, rfl⟩;rw [hr] at HF hz;clear hr hB hn hv;obtain ⟨kind, txn, prev, page, slot, ⟨bU, ⟨eS, ax, ay, aI⟩⟩, ⟨aU, ⟨eP, ao, al, aG⟩⟩, uN, nT, ⟨dI, aJ, ak, aK, bh⟩, ⟨dF, aM, aw, aH, bw⟩, ⟨eM, aF, aD, aL⟩⟩ := x;have bJ := HF.out _ (kZ0.alloc (.cells #[Q1 kind, Q1 txn, Q1 prev, Q1 page, Q1 slot, .bool bU, .slice ax aI.length ay, .bool aU, .slice ao aG.length al, Q1 uN, Q1 nT, .slice aJ ak aK, .slice aM aw aH, .slice aF aL.length aD] 28));dsimp only [StLogRecord.val, StPageRecord.val, BS.v, FR.v] at bJ ⊢;have aP := hid (Rv w [Q1 kind, Q1 txn, Q1 prev, Q1 page, Q1 slot, .bool bU, .slice ax aI.length ay, .bool aU, .slice ao aG.length al, Q1 uN, Q1 nT, .slice aJ ak aK, .slice aM aw aH, .slice aF aL.length aD] 28);clear HF
  go_enter Tryz.func5, Tryz.ntmps5
  go_wp2_with fail
  refine bJ.mono ?_;rintro e w1 ⟨rfl, ah⟩;have aN := hid (aP.out.trans ah);clear ah bJ;go_wp2;go_ret;exact ⟨none, 0, rfl, fun b hb => (by simp [Value.ownBlock] at hb), Own.nil _ _ _ _, aN.out⟩
theorem jbN (kind txn prev : Int) : 1 ≤ (Pf kind txn prev).length := by
 simp only [Pf, List.length_append, List.length_singleton];omega
theorem YU {kind txn prev page slot un nt : Int} {bu au : Bool} {bb ab tx dy im : List Int} (h : Pw kind txn prev page slot bu bb au ab un nt tx dy im = 0) : 1 ≤ (Pq kind txn prev page slot bu bb au ab un nt tx dy im).length ∧ (Pq kind txn prev page slot bu bb au ab un nt tx dy im).length ≤ 5000 := by
 have hh := Qq kind txn prev;have hp := jbN kind txn prev;have n1 := O3 page 2;have n2 := O3 slot 2;have n3 := O3 un 8;have n4 := O3 nt 4;have n5 := O3 (tx.length / 4 : Nat) 1;have n6 := O3 (dy.length / 2 : Nat) 1;have p1 := QG bu bb;have p2 := QG au ab;have t1 := R8 tx (tx.length / 4);have t2 := T9 dy (dy.length / 2);unfold Pq
 by_cases h1 : kind = 1
 ·subst h1
  obtain ⟨_, _, g1, g2⟩ := X7 h;rw [if_pos rfl];simp only [List.length_append];omega
 rw [if_neg h1]
 by_cases h2 : kind = 2
 ·subst h2
  obtain ⟨_, _, g1, _⟩ := X8 h;rw [if_pos rfl];simp only [List.length_append];omega
 rw [if_neg h2]
 by_cases h7 : kind = 7
 ·subst h7
  obtain ⟨_, _, _, g1, g2⟩ := VH h;have g1 := (Vq g1).1;have g2 := (Vr g2).1;rw [if_pos rfl];simp only [List.length_append];omega
 rw [if_neg h7]
 by_cases h8 : kind = 8
 ·subst h8
  obtain ⟨_, _, _, g1⟩ := VI h;rw [if_pos rfl];simp only [List.length_append];omega
 rw [if_neg h8];omega
theorem Q5 {d : Int × Int × Int × Int × Int × (Bool × List Int) × (Bool × List Int) × Int × Int × List Int × List Int × List Int} (h : O9 d = 0) : 1 ≤ (Pe d).length ∧ (Pe d).length ≤ 5000 := YU h
theorem U3 (d : Int × Int × Int × Int × Int × (Bool × List Int) × (Bool × List Int) × Int × Int × List Int × List Int × List Int) : (P8 d).length ≤ 5000 := by
 by_cases h : O9 d = 0
 ·rw [P9 h]; exact (Q5 h).2
 ·rw [Sj h]; simp
def WY (d : Int × Int × Int × Int × Int × (Bool × List Int) × (Bool × List Int) × Int × Int × List Int × List Int × List Int) : Int := if O9 d ≠ 0 then 0 else 20 + ((Pe d).length : Int)
theorem Um {d : Int × Int × Int × Int × Int × (Bool × List Int) × (Bool × List Int) × Int × Int × List Int × List Int × List Int} (h : O9 d = 0) : WY d = 20 + ((Pe d).length : Int) := by unfold WY; rw [if_neg (by simpa using h)]
theorem ZP {d : Int × Int × Int × Int × Int × (Bool × List Int) × (Bool × List Int) × Int × Int × List Int × List Int × List Int} (h : O9 d ≠ 0) : WY d = 0 := by unfold WY; rw [if_pos h]
theorem jaI (x : StLogRecord) (w : World) (hB : x.isB) (hn : x.szs ≤ 1073741824) (hv : StLogRecord.rd w x) : Calls Tryz.prog 53 #[x.val] w fun e w' => e = .returned (Q1 (WY x.dat)) ∧ Same w w' := by
 have HF := (show Hid (∀ wx, Same w wx → Calls Tryz.prog 7 #[x.val] wx fun e w' => e = .returned (Q1 (O9 x.dat)) ∧ Same wx w') from fun wx (h : Same w wx) => Qc x wx hB hn (StLogRecord.rd.same hv h));have HE := hid (fun wx (h : Same w wx) => Rz x wx hB hn (StLogRecord.rd.same hv h))
 by_cases hz : O9 x.dat = 0
 ·have hl := Q5 hz
  rw [Um hz];rw [hz] at HF;rw [P9 hz] at HE;generalize Pe x.dat = R at *;clear hz hB hn hv;obtain ⟨kind, txn, prev, page, slot, ⟨bU, ⟨eS, ax, ay, aI⟩⟩, ⟨aU, ⟨eP, ao, al, aG⟩⟩, uN, nT, ⟨dI, aJ, ak, aK, bh⟩, ⟨dF, aM, aw, aH, bw⟩, ⟨eM, aF, aD, aL⟩⟩ := x;dsimp only [StLogRecord.val, StPageRecord.val, BS.v, FR.v] at HF HE ⊢;have b0 := Blk.newL w [Q1 kind, Q1 txn, Q1 prev, Q1 page, Q1 slot, .bool bU, .slice ax aI.length ay, .bool aU, .slice ao aG.length al, Q1 uN, Q1 nT, .slice aJ ak aK, .slice aM aw aH, .slice aF aL.length aD] 28;have aP := hid (Rv w [Q1 kind, Q1 txn, Q1 prev, Q1 page, Q1 slot, .bool bU, .slice ax aI.length ay, .bool aU, .slice ao aG.length al, Q1 uN, Q1 nT, .slice aJ ak aK, .slice aM aw aH, .slice aF aL.length aD] 28)
  go_enter Tryz.func53, Tryz.ntmps53
  go_wp2_with fail
  refine (HF.out _ aP.out).mono ?_;rintro e w1 ⟨rfl, ah⟩;have aN := hid (aP.out.trans ah);have b1 := b0.same ah;clear ah;obtain ⟨Ij, Ja, FM, G8, GF, Fu, Im, Gg, II, Gf, Ea, ES, Ex, C0⟩ := b1.all14
  go_wp2_with fail
  refine (HE.out _ aN.out).mono ?_;rintro e w2 ⟨a2, c2, rfl, iq, eZ, aj⟩;have aO := hid (aN.out.trans aj);clear aj iq eZ;go_wp2;go_ret;exact ⟨rfl, aO.out⟩
 ·rw [ZP hz]
  generalize O9 x.dat = r at *;clear hB hn hv HE;obtain ⟨kind, txn, prev, page, slot, ⟨bU, ⟨eS, ax, ay, aI⟩⟩, ⟨aU, ⟨eP, ao, al, aG⟩⟩, uN, nT, ⟨dI, aJ, ak, aK, bh⟩, ⟨dF, aM, aw, aH, bw⟩, ⟨eM, aF, aD, aL⟩⟩ := x;dsimp only [StLogRecord.val, StPageRecord.val, BS.v, FR.v] at HF ⊢;have aP := hid (Rv w [Q1 kind, Q1 txn, Q1 prev, Q1 page, Q1 slot, .bool bU, .slice ax aI.length ay, .bool aU, .slice ao aG.length al, Q1 uN, Q1 nT, .slice aJ ak aK, .slice aM aw aH, .slice aF aL.length aD] 28)
  go_enter Tryz.func53, Tryz.ntmps53
  go_wp2_with fail
  refine (HF.out _ aP.out).mono ?_;rintro e w1 ⟨rfl, ah⟩;have aN := hid (aP.out.trans ah);clear ah;go_wp2;go_ret;exact ⟨rfl, aN.out⟩
theorem jaJ (x : StLogRecord) (w : World) (hB : x.isB) (hn : x.szs ≤ 1073741824) (hv : StLogRecord.rd w x) : Calls Tryz.prog 20 #[x.val] w fun e w' => e = .returned (Q1 (WY x.dat)) ∧ Same w w' := by
 have HE := hid (fun wx (h : Same w wx) => Ua x wx hB hn (StLogRecord.rd.same hv h))
 have hR : ((P8 x.dat).length = 0 ∧ WY x.dat = 0) ∨ (1 ≤ (P8 x.dat).length ∧ (P8 x.dat).length ≤ 5000 ∧ WY x.dat = 20 + ((P8 x.dat).length : Int)) := by
  by_cases hz : O9 x.dat = 0
  ·have hl := Q5 hz
   rw [Um hz, P9 hz];exact .inr ⟨hl.1, hl.2, rfl⟩
  ·rw [ZP hz, Sj hz]
   exact .inl ⟨rfl, rfl⟩
 generalize P8 x.dat = R at *;generalize WY x.dat = F at *;clear hB hn hv;obtain ⟨kind, txn, prev, page, slot, ⟨bU, ⟨eS, ax, ay, aI⟩⟩, ⟨aU, ⟨eP, ao, al, aG⟩⟩, uN, nT, ⟨dI, aJ, ak, aK, bh⟩, ⟨dF, aM, aw, aH, bw⟩, ⟨eM, aF, aD, aL⟩⟩ := x;dsimp only [StLogRecord.val, StPageRecord.val, BS.v, FR.v] at HE ⊢;have aP := hid (Rv w [Q1 kind, Q1 txn, Q1 prev, Q1 page, Q1 slot, .bool bU, .slice ax aI.length ay, .bool aU, .slice ao aG.length al, Q1 uN, Q1 nT, .slice aJ ak aK, .slice aM aw aH, .slice aF aL.length aD] 28)
 rcases hR with ⟨hl, rfl⟩ | ⟨hl, je, rfl⟩
 ·go_enter Tryz.func20, Tryz.ntmps20
  go_wp2_with fail
  refine (HE.out _ aP.out).mono ?_;rintro e w2 ⟨a2, c2, rfl, iq, eZ, aj⟩;have aO := hid (aP.out.trans aj);clear aj iq eZ;rw [hl];go_wp2;go_ret;exact ⟨rfl, aO.out⟩
 ·go_enter Tryz.func20, Tryz.ntmps20
  go_wp2_with fail
  refine (HE.out _ aP.out).mono ?_;rintro e w2 ⟨a2, c2, rfl, iq, eZ, aj⟩;have aO := hid (aP.out.trans aj);clear aj iq eZ;go_wp2;go_ret;exact ⟨rfl, aO.out⟩
theorem ja2 : IsB [] := fun x h => absurd h (by simp)
theorem IsB.app {a b : List Int} (ha : IsB a) (hb : IsB b) : IsB (a ++ b) := fun x h => (List.mem_append.1 h).elim (ha x) (hb x)
theorem Vu {u : Bool} {d : List Int} (h : IsB d) : IsB (Pn u d) := by
 unfold Pn
 split
 ·exact fun x hx => (List.mem_cons.1 hx).elim (fun e => by omega) ((PU _ _).app h x)
 ·exact fun x hx => by have := List.mem_singleton.1 hx; omega
theorem ZQ (f : Nat → List Int) (h : ∀ i, IsB (f i)) (n : Nat) : IsB ((List.range n).flatMap f) := fun x hx => by
 obtain ⟨i, _, hi⟩ := List.mem_flatMap.1 hx;exact h i x hi
theorem jbO {k t p : Int} (h : 1 ≤ k ∧ k ≤ 8) : IsB (Pf k t p) := IsB.app (IsB.app (fun x hx => by have := List.mem_singleton.1 hx; omega) (PU _ _)) (PU _ _)
theorem jbP {kind txn prev page slot un nt : Int} {bu au : Bool} {bb ab tx dy im : List Int} (hk : 1 ≤ kind ∧ kind ≤ 8) (hb : IsB bb) (ha : IsB ab) (hi : IsB im) : IsB (Pq kind txn prev page slot bu bb au ab un nt tx dy im) := by
 have hh := jbO (t := txn) (p := prev) hk;unfold Pq
 split
 ·exact (((hh.app (PU _ _)).app (PU _ _)).app (Vu hb)).app (Vu ha)
 split
 ·exact (((hh.app (PU _ _)).app (PU _ _)).app (Vu ha)).app (PU _ _)
 split
 ·exact ((((hh.app (PU _ _)).app (PU _ _)).app (ZQ _ (fun i => (((PU _ _).app (PU _ _)).app (PU _ _)).app (PU _ _)) _)).app (PU _ _)).app (ZQ _ (fun i => (PU _ _).app (PU _ _)) _)
 split
 ·exact (hh.app (PU _ _)).app hi
 ·exact hh
theorem Sk {x : StLogRecord} (hB : x.isB) (hz : O9 x.dat = 0) : IsB (Pe x.dat) := jbP (Tm (show Pw x.kind _ _ _ _ _ _ _ _ _ _ _ _ _ = 0 from hz)) hB.1 hB.2.1 hB.2.2
theorem Sl {x : Int} {n : Nat} (hn : 1 ≤ n ∧ n ≤ 8) (h0 : 0 ≤ x) (h1 : x < 256 ^ n) : OW x n = O5 x n := by
 unfold OW;rw [if_neg]
 ·rfl
 ·rintro (h | h | h | h)
  ·omega
  ·omega
  ·omega
  ·exact h (Int.ediv_eq_zero_of_lt h0 (by simpa using h1))
def QB (lsn ep : Int) (R : List Int) : List Int := (OW lsn 8 ++ OW ep 4) ++ R
def frB (lsn ep : Int) (R : List Int) : List Int := (OW (20 + (R.length : Int)) 4 ++ OW (Pp 0 (QB lsn ep R)) 4) ++ QB lsn ep R
def VT (lsn ep : Int) (d : Int × Int × Int × Int × Int × (Bool × List Int) × (Bool × List Int) × Int × Int × List Int × List Int × List Int) : List Int := if O9 d = 0 ∧ (1 ≤ lsn ∧ lsn ≤ 1099511627776) ∧ (1 ≤ ep ∧ ep ≤ 4294967295) then frB lsn ep (Pe d) else []
theorem Sz {lsn ep : Int} {R : List Int} (h : IsB R) : IsB (QB lsn ep R) := ((PU _ _).app (PU _ _)).app h
theorem VJ (lsn ep : Int) (R : List Int) : (QB lsn ep R).length ≤ 16 + R.length := by
 have := O3 lsn 8;have := O3 ep 4;simp only [QB, List.length_append];omega
theorem WZ {lsn ep : Int} {d : Int × Int × Int × Int × Int × (Bool × List Int) × (Bool × List Int) × Int × Int × List Int × List Int × List Int} (h : O9 d = 0 ∧ (1 ≤ lsn ∧ lsn ≤ 1099511627776) ∧ (1 ≤ ep ∧ ep ≤ 4294967295)) : VT lsn ep d = frB lsn ep (Pe d) := if_pos h
theorem YV {lsn ep : Int} {d : Int × Int × Int × Int × Int × (Bool × List Int) × (Bool × List Int) × Int × Int × List Int × List Int × List Int} (h : ¬ (O9 d = 0 ∧ (1 ≤ lsn ∧ lsn ≤ 1099511627776) ∧ (1 ≤ ep ∧ ep ≤ 4294967295))) : VT lsn ep d = [] := if_neg h
theorem U4 (k : IntKind) (a b : List Int) : vals k (a ++ b) = vals k a ++ vals k b := by simp [vals]
theorem jcO (k : IntKind) (P C rest C' : List Int) (o : Nat) (ho : o = P.length) (h : C.length = C'.length) : lay (vals k (P ++ (C ++ rest))) o (vals k C') = vals k (P ++ (C' ++ rest)) := by
 subst ho;unfold lay;rw [U4, U4, U4, U4];have e1 : (vals k P).length = P.length := O1 _ _
 have e2 : (vals k C).length = (vals k C').length := by rw [O1, O1, h]
 rw [← e1, List.take_left', List.drop_append, e1]
 ·congr 1
  congr 1
  rw [List.drop_of_length_le (by rw [e1]; omega), List.nil_append];rw [show P.length + (vals k C').length - P.length = (vals k C).length by omega, List.drop_left'];rfl
 ·rfl
theorem ZR {x C : List Int} : QL (x ++ C) x.length = x := by simp [QL]
theorem QS {x : Int} {n : Nat} (hn : 1 ≤ n ∧ n ≤ 8) (h0 : 0 ≤ x) (h1 : x < 256 ^ n) : (OW x n).length = n := by rw [Sl hn h0 h1, OY]
structure Reads (num : List Int → Nat → Int) (part : List Int → Nat → List Int) : Prop where
 num : ∀ (x : Int) (n : Nat) (C : List Int), 1 ≤ n ∧ n ≤ 8 → 0 ≤ x → x < 256 ^ n → x ≤ 9223372036854775807 → num (OW x n ++ C) n = x
 part : ∀ (x C : List Int), part (x ++ C) x.length = x
theorem RQ {x : Int} {n : Nat} (hn : 1 ≤ n ∧ n ≤ 8) (h0 : 0 ≤ x) (h1 : x < 256 ^ n) (h2 : x ≤ 9223372036854775807) : Ps (OW x n) = x :=
 (XW x n ⟨by omega, h2⟩ (fun e => by have h := QS hn h0 h1; rw [e] at h; simp at h; omega)).1
theorem jdL : Reads nS QL :=
 ⟨fun x n C hn h0 h1 h2 => by
  have hl := QS hn h0 h1
  have e : QL (OW x n ++ C) n = OW x n := by
   have h := ZR (x := OW x n) (C := C)
   rwa [hl] at h
  unfold nS
  rw [e, RQ hn h0 h1 h2], fun x C => ZR⟩
theorem jdM : Reads nI (fun rs n => rs.take n) :=
 ⟨fun x n C hn h0 h1 h2 => by
  have hl := QS hn h0 h1
  have e : (OW x n ++ C).take n = OW x n := by
   have h := List.take_left' (l₁ := OW x n) (l₂ := C) hl;exact h
  unfold nI
  rw [e, RQ hn h0 h1 h2], fun x C => List.take_left⟩
section
variable {num : List Int → Nat → Int} {part : List Int → Nat → List Int}
theorem Reads.n1 (H : Reads num part) {x : Int} (h0 : 0 ≤ x) (h1 : x < 256) (C : List Int) : num (OW x 1 ++ C) 1 = x := H.num x 1 C (by omega) h0 (by omega) (by omega)
theorem drop1 {x : Int} (h0 : 0 ≤ x) (h1 : x < 256) (C : List Int) : (OW x 1 ++ C).drop 1 = C := List.drop_left' (QS (n := 1) (by omega) h0 (by omega))
theorem jeS {x : Int} (h0 : 0 ≤ x) (h1 : x < 256) : (OW x 1).length = 1 := QS (n := 1) (by omega) h0 (by omega)
theorem Reads.n2 (H : Reads num part) {x : Int} (h0 : 0 ≤ x) (h1 : x < 65536) (C : List Int) : num (OW x 2 ++ C) 2 = x := H.num x 2 C (by omega) h0 (by omega) (by omega)
theorem drop2 {x : Int} (h0 : 0 ≤ x) (h1 : x < 65536) (C : List Int) : (OW x 2 ++ C).drop 2 = C := List.drop_left' (QS (n := 2) (by omega) h0 (by omega))
theorem jaK {x : Int} (h0 : 0 ≤ x) (h1 : x < 65536) : (OW x 2).length = 2 := QS (n := 2) (by omega) h0 (by omega)
theorem Reads.n4 (H : Reads num part) {x : Int} (h0 : 0 ≤ x) (h1 : x < 4294967296) (C : List Int) : num (OW x 4 ++ C) 4 = x := H.num x 4 C (by omega) h0 (by omega) (by omega)
theorem jcP {x : Int} (h0 : 0 ≤ x) (h1 : x < 4294967296) (C : List Int) : (OW x 4 ++ C).drop 4 = C := List.drop_left' (QS (n := 4) (by omega) h0 (by omega))
theorem VU {x : Int} (h0 : 0 ≤ x) (h1 : x < 4294967296) : (OW x 4).length = 4 := QS (n := 4) (by omega) h0 (by omega)
theorem Reads.n8 (H : Reads num part) {x : Int} (h0 : 0 ≤ x) (h1 : x < 9223372036854775808) (C : List Int) : num (OW x 8 ++ C) 8 = x := H.num x 8 C (by omega) h0 (by omega) (by omega)
theorem jec {x : Int} (h0 : 0 ≤ x) (h1 : x < 9223372036854775808) (C : List Int) : (OW x 8 ++ C).drop 8 = C := List.drop_left' (QS (n := 8) (by omega) h0 (by omega))
theorem len8 {x : Int} (h0 : 0 ≤ x) (h1 : x < 9223372036854775808) : (OW x 8).length = 8 := QS (n := 8) (by omega) h0 (by omega)
theorem UK (H : Reads num part) {u : Bool} {d C : List Int} (hf : QN u d.length = true) : Qr num part (Pn u d ++ C) = ((u, d), C) := by
 simp only [QN, Bool.and_eq_true, decide_eq_true_eq, Bool.or_eq_true] at hf;unfold Qr Pn
 cases u with
 | true =>
  have hd : (d.length : Int) < 65536 := by have := hf.1; omega
  have e1 : (1 :: (OW d.length 2 ++ d)) ++ C = OW 1 1 ++ (OW d.length 2 ++ (d ++ C)) := by
   rw [RZ (by omega)]; simp
  have d1 := drop1 (x := 1) (by omega) (by omega) (OW d.length 2 ++ (d ++ C))
  have d3 : (OW 1 1 ++ (OW (d.length : Int) 2 ++ (d ++ C))).drop 3 = d ++ C := by
   rw [show (3 : Nat) = 1 + 2 from rfl, ← List.drop_drop, d1, drop2 (by omega) hd]
  rw [if_pos rfl, e1, H.n1 (by omega) (by omega), if_pos rfl, d1, H.n2 (by omega) hd, d3, Int.toNat_natCast, H.part d C, List.drop_left]
 | false =>
  have h0 : d = [] := by
   rcases hf.2 with h | h
   ·cases h
   ·exact List.length_eq_zero_iff.1 h
  subst h0;have n1 := H.n1 (x := 0) (by omega) (by omega) C;rw [show OW 0 1 = [0] from by decide] at n1;simp only [Bool.false_eq_true, if_false];rw [n1, if_neg (by decide)];rfl
def Xa (num : List Int → Nat → Int) (rs : List Int) : Int × Int × Int := (num rs 1, num (rs.drop 1) 4, num (rs.drop 5) 8)
theorem Ri (H : Reads num part) {k txn prev : Int} (hk : 1 ≤ k ∧ k ≤ 8) (ht : 0 ≤ txn ∧ txn ≤ 2147483648) (hp : 0 ≤ prev ∧ prev ≤ 1099511627776) (C : List Int) : Xa num (Pf k txn prev ++ C) = (k, txn, prev) ∧ (Pf k txn prev ++ C).drop 13 = C := by
 have e : Pf k txn prev ++ C = OW k 1 ++ (OW txn 4 ++ (OW prev 8 ++ C)) := by unfold Pf; rw [RZ hk]; simp
 have d1 := drop1 (x := k) (by omega) (by omega) (OW txn 4 ++ (OW prev 8 ++ C))
 have d5 : (OW k 1 ++ (OW txn 4 ++ (OW prev 8 ++ C))).drop 5 = OW prev 8 ++ C := by
  rw [show (5 : Nat) = 1 + 4 from rfl, ← List.drop_drop, d1, jcP (by omega) (by omega)]
 refine ⟨?_, ?_⟩
 ·unfold Xa
  rw [e, H.n1 (by omega) (by omega), d1, H.n4 (by omega) (by omega), d5, H.n8 (by omega) (by omega)]
 ·rw [e, show (13 : Nat) = 5 + 8 from rfl, ← List.drop_drop, d5, jec (by omega) (by omega)]
theorem jdN {bs : List Int} {i : Nat} (h : (1 ≤ bs.getD (i * 4) 0 ∧ bs.getD (i * 4) 0 ≤ 2147483647) ∧ (1 ≤ bs.getD (i * 4 + 1) 0 ∧ bs.getD (i * 4 + 1) 0 ≤ 3) ∧ (1 ≤ bs.getD (i * 4 + 2) 0 ∧ bs.getD (i * 4 + 2) 0 ≤ 1099511627776) ∧ (0 ≤ bs.getD (i * 4 + 3) 0 ∧ bs.getD (i * 4 + 3) 0 ≤ bs.getD (i * 4 + 2) 0)) : (txB bs i).length = 21 := by
 unfold txB;simp only [List.length_append, VU (show 0 ≤ bs.getD (i * 4) 0 by omega) (by omega), jeS (show 0 ≤ bs.getD (i * 4 + 1) 0 by omega) (by omega), len8 (show 0 ≤ bs.getD (i * 4 + 2) 0 by omega) (by omega), len8 (show 0 ≤ bs.getD (i * 4 + 3) 0 by omega) (by omega)]
theorem jdO (H : Reads num part) {bs rs : List Int} {i : Nat} (C : List Int) (h : (1 ≤ bs.getD (i * 4) 0 ∧ bs.getD (i * 4) 0 ≤ 2147483647) ∧ (1 ≤ bs.getD (i * 4 + 1) 0 ∧ bs.getD (i * 4 + 1) 0 ≤ 3) ∧ (1 ≤ bs.getD (i * 4 + 2) 0 ∧ bs.getD (i * 4 + 2) 0 ≤ 1099511627776) ∧ (0 ≤ bs.getD (i * 4 + 3) 0 ∧ bs.getD (i * 4 + 3) 0 ≤ bs.getD (i * 4 + 2) 0)) (hr : rs.drop (21 * i) = txB bs i ++ C) :
  txE num rs i = [bs.getD (i * 4) 0, bs.getD (i * 4 + 1) 0, bs.getD (i * 4 + 2) 0, bs.getD (i * 4 + 3) 0] := by
 obtain ⟨a, ha⟩ : ∃ a, bs.getD (i * 4) 0 = a := ⟨_, rfl⟩;obtain ⟨b, hb⟩ : ∃ a, bs.getD (i * 4 + 1) 0 = a := ⟨_, rfl⟩;obtain ⟨c, hc⟩ : ∃ a, bs.getD (i * 4 + 2) 0 = a := ⟨_, rfl⟩;obtain ⟨d, hd⟩ : ∃ a, bs.getD (i * 4 + 3) 0 = a := ⟨_, rfl⟩
 have e : rs.drop (21 * i) = OW a 4 ++ (OW b 1 ++ (OW c 8 ++ (OW d 8 ++ C))) := by rw [hr]; unfold txB; rw [ha, hb, hc, hd]; simp
 rw [ha, hb, hc, hd] at h;rw [ha, hb, hc, hd]
 have e4 : rs.drop (21 * i + 4) = OW b 1 ++ (OW c 8 ++ (OW d 8 ++ C)) := by rw [← List.drop_drop, e, jcP (by omega) (by omega)]
 have e5 : rs.drop (21 * i + 5) = OW c 8 ++ (OW d 8 ++ C) := by rw [show 21 * i + 5 = 21 * i + 4 + 1 from rfl, ← List.drop_drop, e4, drop1 (by omega) (by omega)]
 have GJ : rs.drop (21 * i + 13) = OW d 8 ++ C := by rw [show 21 * i + 13 = 21 * i + 5 + 8 from rfl, ← List.drop_drop, e5, jec (by omega) (by omega)]
 unfold txE;rw [e, e4, e5, GJ, H.n4 (by omega) (by omega), H.n1 (by omega) (by omega), H.n8 (by omega) (by omega), H.n8 (by omega) (by omega)]
theorem getD_at {bs : List Int} {k : Nat} (h : k < bs.length) : bs.getD k 0 = bs[k] := by simp [List.getD, List.getElem?_eq_getElem h]
theorem jdP {bs : List Int} {i : Nat} (h : (0 ≤ bs.getD (i * 2) 0 ∧ bs.getD (i * 2) 0 < 16) ∧ (1 ≤ bs.getD (i * 2 + 1) 0 ∧ bs.getD (i * 2 + 1) 0 ≤ 1099511627776)) : (dyB bs i).length = 10 := by
 unfold dyB;simp only [List.length_append, jaK (show 0 ≤ bs.getD (i * 2) 0 by omega) (by omega), len8 (show 0 ≤ bs.getD (i * 2 + 1) 0 by omega) (by omega)]
theorem jdQ (H : Reads num part) {bs rs : List Int} {i : Nat} (C : List Int) (h : (0 ≤ bs.getD (i * 2) 0 ∧ bs.getD (i * 2) 0 < 16) ∧ (1 ≤ bs.getD (i * 2 + 1) 0 ∧ bs.getD (i * 2 + 1) 0 ≤ 1099511627776)) (hr : rs.drop (10 * i) = dyB bs i ++ C) : dyE num rs i = [bs.getD (i * 2) 0, bs.getD (i * 2 + 1) 0] := by
 obtain ⟨a, ha⟩ : ∃ a, bs.getD (i * 2) 0 = a := ⟨_, rfl⟩;obtain ⟨b, hb⟩ : ∃ a, bs.getD (i * 2 + 1) 0 = a := ⟨_, rfl⟩
 have e : rs.drop (10 * i) = OW a 2 ++ (OW b 8 ++ C) := by rw [hr]; unfold dyB; rw [ha, hb]; simp
 rw [ha, hb] at h;rw [ha, hb]
 have e2 : rs.drop (10 * i + 2) = OW b 8 ++ C := by rw [← List.drop_drop, e, drop2 (by omega) (by omega)]
 unfold dyE;rw [e, e2, H.n2 (by omega) (by omega), H.n8 (by omega) (by omega)]
theorem U5 {bs : List Int} : ∀ n : Nat, (∀ j, j < n → (1 ≤ bs.getD (j * 4) 0 ∧ bs.getD (j * 4) 0 ≤ 2147483647) ∧ (1 ≤ bs.getD (j * 4 + 1) 0 ∧ bs.getD (j * 4 + 1) 0 ≤ 3) ∧ (1 ≤ bs.getD (j * 4 + 2) 0 ∧ bs.getD (j * 4 + 2) 0 ≤ 1099511627776) ∧ (0 ≤ bs.getD (j * 4 + 3) 0 ∧ bs.getD (j * 4 + 3) 0 ≤ bs.getD (j * 4 + 2) 0)) → (PI bs n).length = 21 * n
 | 0, _ => rfl
 | n + 1, h => by
  rw [Sg, List.length_append, U5 n (fun j hj => h j (by omega)), jdN (h n (by omega))];omega
theorem ja3 {bs : List Int} {i : Nat} : ∀ n : Nat, i < n → ∃ R, PI bs n = PI bs i ++ (txB bs i ++ R)
 | 0, h => absurd h (by omega)
 | n + 1, h => by
  by_cases e : i = n
  ·subst e
   exact ⟨[], by rw [Sg]; simp⟩
  ·obtain ⟨R, hR⟩ := ja3 (bs := bs) (i := i) n (by omega)
   exact ⟨R ++ txB bs n, by rw [Sg, hR]; simp⟩
theorem ja4 (bs : List Int) : ∀ n : Nat, n * 4 ≤ bs.length → (List.range n).flatMap (fun i => [bs.getD (i * 4) 0, bs.getD (i * 4 + 1) 0, bs.getD (i * 4 + 2) 0, bs.getD (i * 4 + 3) 0]) = bs.take (n * 4)
 | 0, _ => by simp
 | n + 1, h => by
  rw [List.range_succ, List.flatMap_append, ja4 bs n (by omega)]
  have e : bs.take ((n + 1) * 4) = bs.take (n * 4) ++ (bs.drop (n * 4)).take 4 := by rw [show (n + 1) * 4 = n * 4 + 4 by omega, List.take_add]
  rw [e]
  congr 1
  simp only [List.flatMap_cons, List.flatMap_nil, List.append_nil];apply List.ext_getElem
  ·simp; omega
  ·intro j h1 h2
   simp only [List.length_cons, List.length_nil] at h1;rw [List.getElem_take, List.getElem_drop]
   rcases (by omega : j = 0 ∨ j = 1 ∨ j = 2 ∨ j = 3) with rfl | rfl | rfl | rfl <;> (simp only [List.getElem_cons_zero, List.getElem_cons_succ]; exact getD_at (by omega))
theorem jdR (H : Reads num part) {bs C : List Int} {n : Nat} (hl : bs.length = n * 4) (hg : ∀ i, i < n → (1 ≤ bs.getD (i * 4) 0 ∧ bs.getD (i * 4) 0 ≤ 2147483647) ∧ (1 ≤ bs.getD (i * 4 + 1) 0 ∧ bs.getD (i * 4 + 1) 0 ≤ 3) ∧ (1 ≤ bs.getD (i * 4 + 2) 0 ∧ bs.getD (i * 4 + 2) 0 ≤ 1099511627776) ∧ (0 ≤ bs.getD (i * 4 + 3) 0 ∧ bs.getD (i * 4 + 3) 0 ≤ bs.getD (i * 4 + 2) 0)) : txL num (PI bs n ++ C) n = bs := by
 unfold txL
 have e : ∀ i, i ∈ List.range n → txE num (PI bs n ++ C) i = [bs.getD (i * 4) 0, bs.getD (i * 4 + 1) 0, bs.getD (i * 4 + 2) 0, bs.getD (i * 4 + 3) 0] := fun i hi => by
  have r8 := List.mem_range.1 hi;obtain ⟨R, hR⟩ := ja3 (bs := bs) n r8;refine jdO H (R ++ C) (hg i r8) ?_;rw [hR, List.append_assoc, List.append_assoc];exact List.drop_left' (U5 i (fun j hj => hg j (by omega)))
 have e2 : (List.range n).flatMap (txE num (PI bs n ++ C)) = (List.range n).flatMap (fun i => [bs.getD (i * 4) 0, bs.getD (i * 4 + 1) 0, bs.getD (i * 4 + 2) 0, bs.getD (i * 4 + 3) 0]) := by
  rw [List.flatMap_def, List.flatMap_def, List.map_congr_left e]
 rw [e2, ja4 bs n (by omega), ← hl, List.take_length]
theorem Xb {bs : List Int} : ∀ n : Nat, (∀ j, j < n → (0 ≤ bs.getD (j * 2) 0 ∧ bs.getD (j * 2) 0 < 16) ∧ (1 ≤ bs.getD (j * 2 + 1) 0 ∧ bs.getD (j * 2 + 1) 0 ≤ 1099511627776)) → (QK bs n).length = 10 * n
 | 0, _ => rfl
 | n + 1, h => by
  rw [Si, List.length_append, Xb n (fun j hj => h j (by omega)), jdP (h n (by omega))];omega
theorem ja5 {bs : List Int} {i : Nat} : ∀ n : Nat, i < n → ∃ R, QK bs n = QK bs i ++ (dyB bs i ++ R)
 | 0, h => absurd h (by omega)
 | n + 1, h => by
  by_cases e : i = n
  ·subst e
   exact ⟨[], by rw [Si]; simp⟩
  ·obtain ⟨R, hR⟩ := ja5 (bs := bs) (i := i) n (by omega)
   exact ⟨R ++ dyB bs n, by rw [Si, hR]; simp⟩
theorem ja6 (bs : List Int) : ∀ n : Nat, n * 2 ≤ bs.length → (List.range n).flatMap (fun i => [bs.getD (i * 2) 0, bs.getD (i * 2 + 1) 0]) = bs.take (n * 2)
 | 0, _ => by simp
 | n + 1, h => by
  rw [List.range_succ, List.flatMap_append, ja6 bs n (by omega)]
  have e : bs.take ((n + 1) * 2) = bs.take (n * 2) ++ (bs.drop (n * 2)).take 2 := by rw [show (n + 1) * 2 = n * 2 + 2 by omega, List.take_add]
  rw [e]
  congr 1
  simp only [List.flatMap_cons, List.flatMap_nil, List.append_nil];apply List.ext_getElem
  ·simp; omega
  ·intro j h1 h2
   simp only [List.length_cons, List.length_nil] at h1;rw [List.getElem_take, List.getElem_drop]
   rcases (by omega : j = 0 ∨ j = 1) with rfl | rfl <;> (simp only [List.getElem_cons_zero, List.getElem_cons_succ]; exact getD_at (by omega))
theorem jdS (H : Reads num part) {bs C : List Int} {n : Nat} (hl : bs.length = n * 2) (hg : ∀ i, i < n → (0 ≤ bs.getD (i * 2) 0 ∧ bs.getD (i * 2) 0 < 16) ∧ (1 ≤ bs.getD (i * 2 + 1) 0 ∧ bs.getD (i * 2 + 1) 0 ≤ 1099511627776)) : dyL num (QK bs n ++ C) n = bs := by
 unfold dyL
 have e : ∀ i, i ∈ List.range n → dyE num (QK bs n ++ C) i = [bs.getD (i * 2) 0, bs.getD (i * 2 + 1) 0] := fun i hi => by
  have r8 := List.mem_range.1 hi;obtain ⟨R, hR⟩ := ja5 (bs := bs) n r8;refine jdQ H (R ++ C) (hg i r8) ?_;rw [hR, List.append_assoc, List.append_assoc];exact List.drop_left' (Xb i (fun j hj => hg j (by omega)))
 have e2 : (List.range n).flatMap (dyE num (QK bs n ++ C)) = (List.range n).flatMap (fun i => [bs.getD (i * 2) 0, bs.getD (i * 2 + 1) 0]) := by
  rw [List.flatMap_def, List.flatMap_def, List.map_congr_left e]
 rw [e2, ja6 bs n (by omega), ← hl, List.take_length]
theorem RJ {xs : List Int} {m : Nat} (hm : 0 < m) (h : xs.length / m = 0) (h2 : xs.length % m = 0) : xs = [] := by
 have h3 := Nat.div_add_mod xs.length m;rw [h, h2] at h3;exact List.length_eq_zero_iff.1 (by simpa using h3.symm)
theorem Ye (H : Reads num part) {page slot : Int} (hp : 0 ≤ page ∧ page < 16) (hs : 0 ≤ slot ∧ slot < 32) (C : List Int) : num (OW page 2 ++ (OW slot 2 ++ C)) 2 = page ∧ num ((OW page 2 ++ (OW slot 2 ++ C)).drop 2) 2 = slot ∧ (OW page 2 ++ (OW slot 2 ++ C)).drop 4 = C := by
 have d2 := drop2 (x := page) (by omega) (by omega) (OW slot 2 ++ C);refine ⟨H.n2 (by omega) (by omega) _, ?_, ?_⟩
 ·rw [d2, H.n2 (by omega) (by omega)]
 ·rw [show (4 : Nat) = 2 + 2 from rfl, ← List.drop_drop, d2, drop2 (by omega) (by omega)]
def Ub (num : List Int → Nat → Int) (part : List Int → Nat → List Int) (k txn prev page slot : Int) (bu : Bool) (bb : List Int) (au : Bool) (ab : List Int) (un nt : Int) (tx dy im : List Int) : Prop :=
 Xa num (Pq k txn prev page slot bu bb au ab un nt tx dy im) = (k, txn, prev) ∧ Pt num part k txn prev ((Pq k txn prev page slot bu bb au ab un nt tx dy im).drop 13) = (k, txn, prev, page, slot, (bu, bb), (au, ab), un, nt, tx, dy, im)
theorem jfo (H : Reads num part) {txn prev page slot un nt : Int} {bu au : Bool} {bb ab tx dy im : List Int} (h : Pw 1 txn prev page slot bu bb au ab un nt tx dy im = 0) (h4 : tx.length % 4 = 0) (h2 : dy.length % 2 = 0) : Ub num part 1 txn prev page slot bu bb au ab un nt tx dy im := by
 obtain ⟨⟨g1, g2⟩, ⟨g3, g4⟩, _, _⟩ := X7 h;unfold Pw at h;rw [if_pos rfl] at h
 split at h
 case isFalse => omega
 rename_i ha
 obtain ⟨_, _, hu⟩ := U0 h
 have hf : QN bu bb.length = true ∧ QN au ab.length = true := by
  unfold Zx at hu
  split at hu
  ·rename_i hq
   simp only [Bool.and_eq_true] at hq;exact hq.1
  ·omega
 simp only [Vk, Bool.and_eq_true, decide_eq_true_eq] at ha;obtain ⟨⟨⟨⟨e1, e2⟩, e3⟩, e4⟩, e5⟩ := ha;obtain rfl := RJ (by omega) e3 h4;obtain rfl := RJ (by omega) e4 h2;subst e1 e2 e5
 have eb : Pq 1 txn prev page slot bu bb au ab 0 0 [] [] [] = Pf 1 txn prev ++ (OW page 2 ++ (OW slot 2 ++ (Pn bu bb ++ (Pn au ab ++ [])))) := by simp [Pq]
 obtain ⟨q1, q2⟩ := Ri H (k := 1) (txn := txn) (prev := prev) (by omega) (by omega) g2 (OW page 2 ++ (OW slot 2 ++ (Pn bu bb ++ (Pn au ab ++ []))));obtain ⟨q3, q4, q5⟩ := Ye H g3 g4 (Pn bu bb ++ (Pn au ab ++ []));unfold Ub;rw [eb, q1, q2];refine ⟨rfl, ?_⟩;unfold Pt;rw [if_pos rfl, q3, q4, q5, UK H hf.1];dsimp only;rw [UK H hf.2]
theorem jfp (H : Reads num part) {txn prev page slot un nt : Int} {bu au : Bool} {bb ab tx dy im : List Int} (h : Pw 2 txn prev page slot bu bb au ab un nt tx dy im = 0) (h4 : tx.length % 4 = 0) (h2 : dy.length % 2 = 0) : Ub num part 2 txn prev page slot bu bb au ab un nt tx dy im := by
 obtain ⟨⟨g1, g2⟩, ⟨g3, g4⟩, _, g5⟩ := X8 h;unfold Pw at h;rw [if_neg (by decide), if_pos rfl] at h
 split at h
 case isFalse => omega
 rename_i ha
 obtain ⟨_, _, hu⟩ := U0 h
 have hf : QN au ab.length = true := by
  unfold Zy at hu
  split at hu
  ·omega
  ·rename_i hq
   simpa using hq
 simp only [Vl, Bool.and_eq_true, decide_eq_true_eq, beq_iff_eq] at ha;obtain ⟨⟨⟨⟨⟨e0, e1⟩, e2⟩, e3⟩, e4⟩, e5⟩ := ha;obtain rfl := RJ (by omega) e3 h4;obtain rfl := RJ (by omega) e4 h2;subst e0 e1 e2 e5
 have eb : Pq 2 txn prev page slot false [] au ab un 0 [] [] [] = Pf 2 txn prev ++ (OW page 2 ++ (OW slot 2 ++ (Pn au ab ++ (OW un 8 ++ [])))) := by simp [Pq]
 obtain ⟨q1, q2⟩ := Ri H (k := 2) (txn := txn) (prev := prev) (by omega) (by omega) g2 (OW page 2 ++ (OW slot 2 ++ (Pn au ab ++ (OW un 8 ++ []))));obtain ⟨q3, q4, q5⟩ := Ye H g3 g4 (Pn au ab ++ (OW un 8 ++ []));unfold Ub;rw [eb, q1, q2];refine ⟨rfl, ?_⟩;unfold Pt;rw [if_neg (by decide), if_pos rfl, q3, q4, q5, UK H hf];dsimp only;rw [H.n8 (by omega) (by omega)]
theorem jfq (H : Reads num part) {txn prev page slot un nt : Int} {bu au : Bool} {bb ab tx dy im : List Int} (h : Pw 3 txn prev page slot bu bb au ab un nt tx dy im = 0) (h4 : tx.length % 4 = 0) (h2 : dy.length % 2 = 0) : Ub num part 3 txn prev page slot bu bb au ab un nt tx dy im := by
 obtain ⟨g1, g2⟩ := ZA h;unfold Pw at h;rw [if_neg (by decide), if_neg (by decide), if_pos rfl] at h
 split at h
 case isFalse => omega
 rename_i ha
 simp only [Vm, Bool.and_eq_true, decide_eq_true_eq, beq_iff_eq] at ha;obtain ⟨⟨⟨⟨⟨⟨⟨⟨a1, a2⟩, a3, a4⟩, a5, a6⟩, e1⟩, e2⟩, e3⟩, e4⟩, e5⟩ := ha;obtain rfl := RJ (by omega) e3 h4;obtain rfl := RJ (by omega) e4 h2;subst a1 a2 a3 a4 a5 a6 e1 e2 e5
 have eb : Pq 3 txn prev 0 0 false [] false [] 0 0 [] [] [] = Pf 3 txn prev ++ [] := by simp [Pq]
 obtain ⟨q1, q2⟩ := Ri H (k := 3) (txn := txn) (prev := prev) (by omega) (by omega) (by omega) [];unfold Ub;rw [eb, q1, q2];exact ⟨rfl, rfl⟩
theorem jfr (H : Reads num part) {txn prev page slot un nt : Int} {bu au : Bool} {bb ab tx dy im : List Int} (h : Pw 4 txn prev page slot bu bb au ab un nt tx dy im = 0) (h4 : tx.length % 4 = 0) (h2 : dy.length % 2 = 0) : Ub num part 4 txn prev page slot bu bb au ab un nt tx dy im := by
 obtain ⟨g1, g2⟩ := ZB h;unfold Pw at h;rw [if_neg (by decide), if_neg (by decide), if_neg (by decide), if_pos rfl] at h
 split at h
 case isFalse => omega
 rename_i ha
 simp only [Vn, Bool.and_eq_true, decide_eq_true_eq, beq_iff_eq] at ha;obtain ⟨⟨⟨⟨⟨⟨⟨⟨a1, a2⟩, a3, a4⟩, a5, a6⟩, e1⟩, e2⟩, e3⟩, e4⟩, e5⟩ := ha;obtain rfl := RJ (by omega) e3 h4;obtain rfl := RJ (by omega) e4 h2;subst a1 a2 a3 a4 a5 a6 e1 e2 e5
 have eb : Pq 4 txn prev 0 0 false [] false [] 0 0 [] [] [] = Pf 4 txn prev ++ [] := by simp [Pq]
 obtain ⟨q1, q2⟩ := Ri H (k := 4) (txn := txn) (prev := prev) (by omega) (by omega) (by omega) [];unfold Ub;rw [eb, q1, q2];exact ⟨rfl, rfl⟩
theorem jfs (H : Reads num part) {txn prev page slot un nt : Int} {bu au : Bool} {bb ab tx dy im : List Int} (h : Pw 5 txn prev page slot bu bb au ab un nt tx dy im = 0) (h4 : tx.length % 4 = 0) (h2 : dy.length % 2 = 0) : Ub num part 5 txn prev page slot bu bb au ab un nt tx dy im := by
 obtain ⟨g1, g2⟩ := ZC h;unfold Pw at h;rw [if_neg (by decide), if_neg (by decide), if_neg (by decide), if_neg (by decide), if_pos rfl] at h
 split at h
 case isFalse => omega
 rename_i ha
 simp only [Vo, Bool.and_eq_true, decide_eq_true_eq, beq_iff_eq] at ha;obtain ⟨⟨⟨⟨⟨⟨⟨⟨a1, a2⟩, a3, a4⟩, a5, a6⟩, e1⟩, e2⟩, e3⟩, e4⟩, e5⟩ := ha;obtain rfl := RJ (by omega) e3 h4;obtain rfl := RJ (by omega) e4 h2;subst a1 a2 a3 a4 a5 a6 e1 e2 e5
 have eb : Pq 5 txn prev 0 0 false [] false [] 0 0 [] [] [] = Pf 5 txn prev ++ [] := by simp [Pq]
 obtain ⟨q1, q2⟩ := Ri H (k := 5) (txn := txn) (prev := prev) (by omega) (by omega) (by omega) [];unfold Ub;rw [eb, q1, q2];exact ⟨rfl, rfl⟩
theorem jft (H : Reads num part) {txn prev page slot un nt : Int} {bu au : Bool} {bb ab tx dy im : List Int} (h : Pw 6 txn prev page slot bu bb au ab un nt tx dy im = 0) (h4 : tx.length % 4 = 0) (h2 : dy.length % 2 = 0) : Ub num part 6 txn prev page slot bu bb au ab un nt tx dy im := by
 obtain ⟨g1, g2⟩ := ZE h;unfold Pw at h;rw [if_neg (by decide), if_neg (by decide), if_neg (by decide), if_neg (by decide), if_neg (by decide), if_pos rfl] at h
 split at h
 case isFalse => omega
 rename_i ha
 simp only [UG, Bool.and_eq_true, decide_eq_true_eq, beq_iff_eq] at ha;obtain ⟨⟨⟨⟨⟨⟨⟨⟨⟨⟨b1, b2⟩, a1⟩, a2⟩, a3, a4⟩, a5, a6⟩, e1⟩, e2⟩, e3⟩, e4⟩, e5⟩ := ha;obtain rfl := RJ (by omega) e3 h4;obtain rfl := RJ (by omega) e4 h2;subst a1 a2 a3 a4 a5 a6 e1 e2 e5
 have eb : Pq 6 txn prev 0 0 false [] false [] 0 0 [] [] [] = Pf 6 txn prev ++ [] := by simp [Pq]
 obtain ⟨q1, q2⟩ := Ri H (k := 6) (txn := txn) (prev := prev) (by omega) (by omega) (by omega) [];unfold Ub;rw [eb, q1, q2];exact ⟨rfl, rfl⟩
theorem jfu (H : Reads num part) {txn prev page slot un nt : Int} {bu au : Bool} {bb ab tx dy im : List Int} (h : Pw 8 txn prev page slot bu bb au ab un nt tx dy im = 0) (h4 : tx.length % 4 = 0) (h2 : dy.length % 2 = 0) : Ub num part 8 txn prev page slot bu bb au ab un nt tx dy im := by
 obtain ⟨g1, g2, g3, g4⟩ := VI h;unfold Pw at h;rw [if_neg (by decide), if_neg (by decide), if_neg (by decide), if_neg (by decide), if_neg (by decide), if_neg (by decide), if_neg (by decide), if_pos rfl] at h
 split at h
 case isFalse => omega
 rename_i ha
 simp only [UI, Bool.and_eq_true, decide_eq_true_eq, beq_iff_eq] at ha;obtain ⟨⟨⟨⟨⟨⟨⟨⟨b1, b2⟩, a2⟩, a3, a4⟩, a5, a6⟩, e1⟩, e2⟩, e3⟩, e4⟩ := ha;obtain rfl := RJ (by omega) e3 h4;obtain rfl := RJ (by omega) e4 h2;subst a2 a3 a4 a5 a6 e1 e2
 have eb : Pq 8 txn prev page 0 false [] false [] 0 0 [] [] im = Pf 8 txn prev ++ (OW page 2 ++ (im ++ [])) := by simp [Pq]
 obtain ⟨q1, q2⟩ := Ri H (k := 8) (txn := txn) (prev := prev) (by omega) (by omega) (by omega) (OW page 2 ++ (im ++ []));unfold Ub;rw [eb, q1, q2];refine ⟨rfl, ?_⟩;unfold Pt;rw [if_neg (by decide), if_neg (by decide), if_neg (by decide), if_pos rfl, H.n2 (by omega) (by omega), drop2 (by omega) (by omega), ← g4, H.part im []]
theorem jfv (H : Reads num part) {txn prev page slot un nt : Int} {bu au : Bool} {bb ab tx dy im : List Int} (h : Pw 7 txn prev page slot bu bb au ab un nt tx dy im = 0) (h4 : tx.length % 4 = 0) (h2 : dy.length % 2 = 0) : Ub num part 7 txn prev page slot bu bb au ab un nt tx dy im := by
 obtain ⟨g1, g2, g3, g4, g5⟩ := VH h;obtain ⟨t1, t2⟩ := Vq g4;obtain ⟨y1, y2⟩ := Vr g5;unfold Pw at h;rw [if_neg (by decide), if_neg (by decide), if_neg (by decide), if_neg (by decide), if_neg (by decide), if_neg (by decide), if_pos rfl] at h
 split at h
 case isFalse => omega
 rename_i ha
 simp only [UH, Bool.and_eq_true, decide_eq_true_eq, beq_iff_eq] at ha;obtain ⟨⟨⟨⟨⟨⟨⟨b1, b2⟩, a1⟩, a2⟩, a3, a4⟩, a5, a6⟩, e1⟩, e5⟩ := ha;subst a1 a2 a3 a4 a5 a6 e1 e5;obtain ⟨n, hn⟩ : ∃ n, tx.length / 4 = n := ⟨_, rfl⟩;obtain ⟨m, hm⟩ : ∃ m, dy.length / 2 = m := ⟨_, rfl⟩
 have hl : tx.length = n * 4 := by omega
 have hk : dy.length = m * 2 := by omega
 rw [hn] at t1 t2;rw [hm] at y1 y2
 have eb : Pq 7 txn prev 0 0 false [] false [] 0 nt tx dy [] = Pf 7 txn prev ++ (OW nt 4 ++ (OW (n : Int) 1 ++ (PI tx n ++ (OW (m : Int) 1 ++ (QK dy m ++ []))))) := by simp [Pq, hn, hm]
 obtain ⟨q1, q2⟩ := Ri H (k := 7) (txn := txn) (prev := prev) (by omega) (by omega) (by omega) (OW nt 4 ++ (OW (n : Int) 1 ++ (PI tx n ++ (OW (m : Int) 1 ++ (QK dy m ++ [])))));unfold Ub;rw [eb, q1, q2];refine ⟨rfl, ?_⟩;have d4 := jcP (x := nt) (by omega) (by omega) (OW (n : Int) 1 ++ (PI tx n ++ (OW (m : Int) 1 ++ (QK dy m ++ []))))
 have d5 : (OW nt 4 ++ (OW (n : Int) 1 ++ (PI tx n ++ (OW (m : Int) 1 ++ (QK dy m ++ []))))).drop 5 = PI tx n ++ (OW (m : Int) 1 ++ (QK dy m ++ [])) := by rw [show (5 : Nat) = 4 + 1 from rfl, ← List.drop_drop, d4, drop1 (by omega) (by omega)]
 have d6 : (PI tx n ++ (OW (m : Int) 1 ++ (QK dy m ++ []))).drop (21 * n) = OW (m : Int) 1 ++ (QK dy m ++ []) := List.drop_left' (U5 n t2);unfold Pt;rw [if_neg (by decide), if_neg (by decide), if_pos rfl, H.n4 (by omega) (by omega), d4, H.n1 (by omega) (by omega), d5, Int.toNat_natCast, jdR H hl t2, ← List.drop_drop, d6, H.n1 (by omega) (by omega), drop1 (by omega) (by omega), Int.toNat_natCast, jdS H hk y2]
theorem ZT (H : Reads num part) {k txn prev page slot un nt : Int} {bu au : Bool} {bb ab tx dy im : List Int} (h : Pw k txn prev page slot bu bb au ab un nt tx dy im = 0) (h4 : tx.length % 4 = 0) (h2 : dy.length % 2 = 0) : Ub num part k txn prev page slot bu bb au ab un nt tx dy im := by
 by_cases k1 : k = 1
 ·subst k1; exact jfo H h h4 h2
 by_cases k2 : k = 2
 ·subst k2; exact jfp H h h4 h2
 by_cases k3 : k = 3
 ·subst k3; exact jfq H h h4 h2
 by_cases k4 : k = 4
 ·subst k4; exact jfr H h h4 h2
 by_cases k5 : k = 5
 ·subst k5; exact jfs H h h4 h2
 by_cases k6 : k = 6
 ·subst k6; exact jft H h h4 h2
 by_cases k7 : k = 7
 ·subst k7; exact jfv H h h4 h2
 by_cases k8 : k = 8
 ·subst k8; exact jfu H h h4 h2
 exfalso;unfold Pw at h;rw [if_neg k1, if_neg k2, if_neg k3, if_neg k4, if_neg k5, if_neg k6, if_neg k7, if_neg k8] at h;omega
end
def Vv (d : Uv) : Prop := d.2.2.2.2.2.2.2.2.2.1.length % 4 = 0 ∧ d.2.2.2.2.2.2.2.2.2.2.1.length % 2 = 0
theorem Yf {d : Uv} (hz : O9 d = 0) (hf : Vv d) : VS (Pe d) = d := by
 obtain ⟨k, txn, prev, page, slot, ⟨bu, bb⟩, ⟨au, ab⟩, un, nt, tx, dy, im⟩ := d;obtain ⟨h1, h2⟩ := ZT jdL (k := k) hz hf.1 hf.2;unfold Xa at h1;simp only [Prod.mk.injEq] at h1;obtain ⟨e1, e2, e3⟩ := h1;unfold VS
 show Pt nS QL (nS (Pq k txn prev page slot bu bb au ab un nt tx dy im) 1) _ _ _ = _
 rw [e1]
 show Pt nS QL k (nS ((Pq k txn prev page slot bu bb au ab un nt tx dy im).drop 1) 4) _ _ = _
 rw [e2]
 show Pt nS QL k txn (nS ((Pq k txn prev page slot bu bb au ab un nt tx dy im).drop 5) 8) _ = _
 rw [e3];exact h2
theorem jcQ {k txn prev page slot un nt : Int} {bu au : Bool} {bb ab tx dy im : List Int} (h : Pw k txn prev page slot bu bb au ab un nt tx dy im = 0) (hk : ¬ k ≤ 5) : txn = 0 ∧ prev = 0 := by
 by_cases k6 : k = 6
 ·subst k6; exact ZE h
 by_cases k7 : k = 7
 ·subst k7; exact ⟨(VH h).1, (VH h).2.1⟩
 by_cases k8 : k = 8
 ·subst k8; exact ⟨(VI h).1, (VI h).2.1⟩
 exfalso;unfold Pw at h;rw [if_neg (by omega), if_neg (by omega), if_neg (by omega), if_neg (by omega), if_neg (by omega), if_neg k6, if_neg k7, if_neg k8] at h;omega
theorem jbQ {d : Uv} (hz : O9 d = 0) (hf : Vv d) : Sy (Pe d) = d := by
 obtain ⟨k, txn, prev, page, slot, ⟨bu, bb⟩, ⟨au, ab⟩, un, nt, tx, dy, im⟩ := d;obtain ⟨h1, h2⟩ := ZT jdM (k := k) hz hf.1 hf.2;have h3 := jcQ (k := k) hz;unfold Xa at h1;simp only [Prod.mk.injEq] at h1;obtain ⟨e1, e2, e3⟩ := h1;unfold Sy
 show Pt nI _ (nI (Pq k txn prev page slot bu bb au ab un nt tx dy im) 1) (if nI (Pq k txn prev page slot bu bb au ab un nt tx dy im) 1 ≤ 5 then _ else _) (if nI (Pq k txn prev page slot bu bb au ab un nt tx dy im) 1 ≤ 5 then _ else _) _ = _
 rw [e1]
 show Pt nI _ k (if k ≤ 5 then (nI ((Pq k txn prev page slot bu bb au ab un nt tx dy im).drop 1) 4) else 0) (if k ≤ 5 then (nI ((Pq k txn prev page slot bu bb au ab un nt tx dy im).drop 5) 8) else 0) _ = _
 rw [e2, e3]
 by_cases hk : k ≤ 5
 ·rw [if_pos hk, if_pos hk]; exact h2
 ·obtain ⟨r1, r2⟩ := h3 hk
  dsimp only at r1 r2;subst r1 r2;rw [if_neg hk];exact h2
theorem VK (num : List Int → Nat → Int) (part : List Int → Nat → List Int) (k txn prev : Int) (r : List Int) : Vv (Pt num part k txn prev r) := by
 unfold Pt Vv
 split
 ·exact ⟨rfl, rfl⟩
 split
 ·exact ⟨rfl, rfl⟩
 split
 ·refine ⟨?_, ?_⟩
  ·show (txL num _ _).length % 4 = 0
   unfold txL;rw [Rh (m := 4) (fun i => rfl)];omega
  ·show (dyL num _ _).length % 2 = 0
   unfold dyL;rw [Rh (m := 2) (fun i => rfl)];omega
 split
 ·exact ⟨rfl, rfl⟩
 ·exact ⟨rfl, rfl⟩
def QU (bs : List Int) : Bool × Uv := if O9 (VS bs) = 0 ∧ Pe (VS bs) = bs then (true, VS bs) else (false, SN)
theorem jeT (bs : List Int) : QU bs = if O9 (Sy bs) = 0 ∧ Pe (Sy bs) = bs then (true, Sy bs) else (false, SN) := by
 unfold QU
 by_cases h : O9 (VS bs) = 0 ∧ Pe (VS bs) = bs
 ·have e : Sy bs = VS bs := by
   have h1 := jbQ h.1 (VK _ _ _ _ _ _)
   rwa [h.2] at h1
  rw [if_pos h, e, if_pos h]
 ·rw [if_neg h]
  by_cases h' : O9 (Sy bs) = 0 ∧ Pe (Sy bs) = bs
  ·exfalso
   have e : VS bs = Sy bs := by
    have h1 := Yf h'.1 (VK _ _ _ _ _ _)
    rwa [h'.2] at h1
   rw [e] at h;exact h h'
  ·rw [if_neg h']
def Q9 (c : Int) : Int × Int × Int × Uv := (c, 0, 0, SN)
def ZU (bs : List Int) (size : Nat) (lsn least most : Int) : Int × Int × Int × Uv :=
 if Ps ((bs.drop 4).take 4) ≠ Pp 0 ((bs.drop 8).take (size - 8)) then Q9 2
 else if Ps ((bs.drop 8).take 8) ≠ lsn ∨ lsn < 0 then Q9 3
 else if Ps ((bs.drop 16).take 4) < least ∨ most < Ps ((bs.drop 16).take 4) then Q9 4
 else if (QU ((bs.drop 20).take (size - 20))).1 = true then (0, (size : Int), Ps ((bs.drop 16).take 4), (QU ((bs.drop 20).take (size - 20))).2) else Q9 5
abbrev Xc (bs : List Int) : Prop := 20 ≤ bs.length ∧ 33 ≤ Ps (bs.take 4) ∧ Ps (bs.take 4) ≤ 4131 ∧ Ps (bs.take 4) ≤ bs.length
def QT (bs : List Int) (lsn least most : Int) : Int × Int × Int × Uv :=
 if Xc bs then ZU bs (Ps (bs.take 4)).toNat lsn least most else Q9 1
theorem jbR {xs : List Int} {lsn : Int} (hB : IsB xs) (hl : xs.length = 8) (hI : IsI lsn) : xs = OW lsn 8 ↔ ¬ (Ps xs ≠ lsn ∨ lsn < 0) := by
 constructor
 ·intro h
  have er : OW lsn 8 ≠ [] := fun e => by rw [h, e] at hl; simp at hl
  have h1 := XW lsn 8 hI er
  have h0 : 0 ≤ lsn := by
   by_cases h0 : 0 ≤ lsn
   ·exact h0
   ·exfalso
    apply er;unfold OW;rw [if_pos (by omega)]
  rw [← h] at h1;omega
 ·intro h
  have h1 : Ps xs = lsn := by omega
  have h0 : 0 ≤ lsn := by omega
  have h2 : num xs = lsn := by
   unfold Ps at h1
   split at h1
   ·omega
   ·exact h1
  have h3 := Zp xs hB;rw [hl, h2] at h3;have h4 := Sl (x := lsn) (n := 8) (by omega) h0 (by unfold IsI at hI; omega);exact h3.symm.trans h4.symm
end Go.Proofs.YtapdfgkbhaoelaaGreatDoor
