import Derived.Test.YtljfcdkhicffcaaGreatG01
import Derived.Deep.DeepCutAuto
namespace Go.Proofs.YtljfcdkhicffcaaGreat
set_option linter.unusedVariables false
set_option linter.unusedSimpArgs false
set_option maxRecDepth 100000
set_option maxHeartbeats 8000000
open Go.RowKit Go
structure StStep where
 kd : Int
 tx : Int
 rid : Int
 cnt : Int
 data : BS
 keep : FR
def StStep.val (x : StStep) : Value := .agg #[V x.kd, V x.tx, V x.rid, V x.cnt, x.data.v, x.keep.v]
def StStep.rows (x : StStep) : List Row := x.data.rows ++ ((x.keep).rows 1)
def StStep.dat (x : StStep) : Int × Int × Int × Int × List Int × List Int := (x.kd, x.tx, x.rid, x.cnt, x.data.bs, x.keep.bs)
def StStep.size (x : StStep) : Int := (x.data.bs.length : Int) + (x.keep.bs.length : Int)
def StStep.marked (x : StStep) (k : Int) : StStep := ⟨x.kd, x.tx, x.rid, x.cnt, x.data.marked (k), x.keep.marked (k + (x.data.bs.length : Int))⟩
def StStep.rd (w : World) (x : StStep) : Prop := Rd .u8 w x.data.v x.data.bs ∧ RdF 1 w x.keep
theorem StStep.rd.kept {R : Nat → Prop} {w w' : World} {x : StStep} (h : StStep.rd w x) (hk : Kept R w w') (hr : ∀ b, Uu x.rows b → ¬ R b) : StStep.rd w' x :=
 ⟨Rd.kept (h.1) hk (fun b hb => hr b ((Ud _ _ _).2 (.inl ((WB _ _ _ _ _).2 hb)))), RdF.kept (h.2) hk (fun b hb => hr b ((Ud _ _ _).2 (.inr (((Ux _ _).2 hb)))))⟩
theorem StStep.rd.same {w w' : World} {x : StStep} (h : StStep.rd w x) (hk : Same w w') : StStep.rd w' x := h.kept hk (fun _ _ => id)
theorem StStep.own_rd {w : World} {x : StStep} (h : OwnL w x.rows) : StStep.rd w x :=
 ⟨(OwnL.of_one h.left).rd, (FR.own_rd h.right)⟩
def StStep.szs (x : StStep) : Int := (x.data.bs.length : Int) + (x.keep.n : Int)
theorem StStep.szs_le (x : StStep) : 0 ≤ x.szs := by
 unfold StStep.szs;omega
set_option maxRecDepth 100000 in
set_option maxHeartbeats 4000000 in
theorem jdB (x y : StStep) (w : World) (hn : x.size ≤ 1125899906842624) (hd : x.dat = y.dat) (ha : OwnL w x.rows) (hb : OwnL w y.rows) :
  Calls Tryz.prog 39 #[x.val, y.val] w fun e w' => e = .returned (.bool true) ∧ Same w w' := by
 obtain ⟨cq, cj, aW, aU, ⟨iF, aI, aJ, ag⟩, ⟨dR, aE, aB, aD, cQ⟩⟩ := x;obtain ⟨TD, TH, QN, QF, ⟨rI, dw, dB, Gm⟩, ⟨lQ, cw, bZ, cy, FP⟩⟩ := y;simp only [StStep.dat, Prod.mk.injEq] at hd;obtain ⟨rfl, rfl, rfl, rfl, rfl, rfl⟩ := hd;simp only [StStep.size] at hn;have Pv := (show Hid (OwnL w [ints iF .u8 (.slice aI ag.length aJ) ag]) from ha.left);have Sd := (show Hid (OwnL w [ints rI .u8 (.slice dw ag.length dB) ag]) from hb.left);have PZ := (show Hid (OwnL w [⟨dR, 1, .slice aE aB aD, aB, vals .i64 cQ⟩]) from ha.right);have QG := (show Hid (OwnL w [⟨lQ, 1, .slice cw bZ cy, bZ, vals .i64 cQ⟩]) from hb.right);clear ha hb;dsimp only [StStep.val, BS.v, FR.v]
 go_enter Tryz.func39, Tryz.ntmps39
 have dx : Same w ((w.alloc (.cells #[V cq, V cj, V aW, V aU, .slice aI ag.length aJ, .slice aE aB aD] 71)).alloc (.cells #[V cq, V cj, V aW, V aU, .slice dw ag.length dB, .slice cw bZ cy] 71)) := (kZ0.alloc _).alloc _;have ay := (show Hid (Same w _) from dx);have Cp := (show Hid (Blk ((w.alloc (.cells #[V cq, V cj, V aW, V aU, .slice aI ag.length aJ, .slice aE aB aD] 71)).alloc (.cells #[V cq, V cj, V aW, V aU, .slice dw ag.length dB, .slice cw bZ cy] 71)) w.heap.size 71 [V cq, V cj, V aW, V aU, .slice aI ag.length aJ, .slice aE aB aD]) from (Blk.new w #[V cq, V cj, V aW, V aU, .slice aI ag.length aJ, .slice aE aB aD] 71).alloc _);have Do := (show Hid (Blk ((w.alloc (.cells #[V cq, V cj, V aW, V aU, .slice aI ag.length aJ, .slice aE aB aD] 71)).alloc (.cells #[V cq, V cj, V aW, V aU, .slice dw ag.length dB, .slice cw bZ cy] 71)) (w.heap.size + 1) 71 [V cq, V cj, V aW, V aU, .slice dw ag.length dB, .slice cw bZ cy]) from by have h := Blk.new (w.alloc (.cells #[V cq, V cj, V aW, V aU, .slice aI ag.length aJ, .slice aE aB aD] 71)) #[V cq, V cj, V aW, V aU, .slice dw ag.length dB, .slice cw bZ cy] 71; rwa [World.size_alloc] at h);clear dx
 go_wp2_with fail
 refine (WV 0 _ _ ag _ (by omega) (Pv.out.of_one.same ay.out) (Sd.out.of_one.same ay.out)).mono ?_;rintro e w1 ⟨rfl, nn, nV⟩
 have hk : Same ((w.alloc (.cells #[V cq, V cj, V aW, V aU, .slice aI ag.length aJ, .slice aE aB aD] 71)).alloc (.cells #[V cq, V cj, V aW, V aU, .slice dw ag.length dB, .slice cw bZ cy] 71)) w1 := by rw [nV]; exact kZ0.drewN _
 clear nV;have ao := hid (ay.out.trans hk);have yD := hid (Cp.out.same hk);have yk := hid (Do.out.same hk);clear hk ay Cp Do;have KN : w1.cell? ⟨w.heap.size, 5, none⟩ = some (.slice aE aB aD) := yD.out.cell 5;have M4 : w1.cell? ⟨w.heap.size + 1, 5, none⟩ = some (.slice cw bZ cy) := yk.out.cell 5
 go_wp2_with fail
 refine (jaS ⟨dR, aE, aB, aD, cQ⟩ ⟨lQ, cw, bZ, cy, cQ⟩ _ (by dsimp only; omega) rfl (PZ.out.same ao.out) (QG.out.same ao.out)).mono ?_;rintro e w2 ⟨rfl, hk⟩;have ap := hid (ao.out.trans hk);have QO := hid (yD.out.same hk);have Pk := hid (yk.out.same hk);clear hk ao yD yk;go_wp2;go_ret;exact ⟨rfl, ap.out⟩
set_option maxRecDepth 100000 in
set_option maxHeartbeats 4000000 in
theorem jdC (x : StStep) (left : Int) (w : World) (h0 : 0 ≤ left) (h1 : left ≤ 1048576) (ha : StStep.rd w x) :
  Calls Tryz.prog 23 #[x.val, V left] w fun e w' => ∃ r : Int, e = .returned (V r) ∧ (r = -1 ∨ (r = left - x.szs ∧ 0 ≤ r)) ∧ Same w w' := by
 obtain ⟨cq, cj, aW, aU, ⟨iF, aI, aJ, ag⟩, ⟨dR, aE, aB, aD, cQ⟩⟩ := x;have jI : ag.length ≤ maxLen := (ha.1).1;have d9 : aB ≤ maxLen := (ha.2).1;clear ha;dsimp only [StStep.val, BS.v, FR.v]
 go_enter Tryz.func23, Tryz.ntmps23
 have ay := (show Hid (Same w (w.alloc (.cells #[V cq, V cj, V aW, V aU, .slice aI ag.length aJ, .slice aE aB aD] 58))) from kZ0.alloc _);have fm := (show Hid (Blk (w.alloc (.cells #[V cq, V cj, V aW, V aU, .slice aI ag.length aJ, .slice aE aB aD] 58)) w.heap.size 58 [V cq, V cj, V aW, V aU, .slice aI ag.length aJ, .slice aE aB aD]) from Blk.new w #[V cq, V cj, V aW, V aU, .slice aI ag.length aJ, .slice aE aB aD] 58)
 go_wp2_with fail
 refine (XW _ _ _ left _ (by omega) (by omega) jI).mono ?_;rintro e w1 ⟨r1, rfl, hr, nV⟩
 have hk : Same (w.alloc (.cells #[V cq, V cj, V aW, V aU, .slice aI ag.length aJ, .slice aE aB aD] 58)) w1 := by rw [nV]; exact kZ0
 clear nV
 replace hr : r1 = -1 ∨ (r1 = left - ag.length ∧ 0 ≤ r1) := by omega
 have ao := hid (ay.out.trans hk);have bF := hid (fm.out.same hk);clear hk
 rcases hr with rfl | ⟨hr, lG⟩
 ·go_wp2
  go_ret;exact ⟨_, rfl, .inl rfl, ao.out⟩
 have Bn : r1 ≤ 1048576 := by omega
 have rG := (show Hid (_ = _) from hr);clear hr;have Qg : w1.cell? ⟨w.heap.size, 5, none⟩ = some (.slice aE aB aD) := bF.out.cell 5
 go_wp2_with fail
 refine (jaT _ _ _ r1 _ (by omega) (by omega) d9).mono ?_;rintro e w2 ⟨r2, rfl, hr, nV⟩
 have hk : Same w1 w2 := by rw [nV]; exact kZ0
 clear nV
 replace hr : r2 = -1 ∨ (r2 = r1 - aB ∧ 0 ≤ r2) := by omega
 have ap := hid (ao.out.trans hk);have bK := hid (bF.out.same hk);clear hk
 rcases hr with rfl | ⟨hr, dZ⟩
 ·go_wp2
  go_ret;exact ⟨_, rfl, .inl rfl, ap.out⟩
 have OX : r2 ≤ 1048576 := by omega
 have vJ := (show Hid (_ = _) from hr);clear hr;go_wp2;go_ret;exact ⟨_, rfl, .inr ⟨by have e1 := rG.out; have e2 := vJ.out; simp only [StStep.szs]; omega, dZ⟩, ap.out⟩
set_option maxRecDepth 100000 in
set_option maxHeartbeats 16000000 in
theorem jdD (x : StStep) (w : World) (hn : x.szs ≤ 1073741824) (ha : StStep.rd w x) :
  Calls Tryz.prog 30 #[x.val] w fun e w' => ∃ y : StStep, e = .returned y.val ∧ y.dat = x.dat ∧ y.szs = x.szs ∧ (∀ b, Uu y.rows b → w.heap.size ≤ b) ∧ OwnL w' y.rows ∧ Same w w' := by
 obtain ⟨cq, cj, aW, aU, ⟨iF, aI, aJ, ag⟩, ⟨dR, aE, aB, aD, cQ⟩⟩ := x;have Jy := (show Hid (Rd .u8 w (.slice aI ag.length aJ) ag) from ha.1);have Jt := (show Hid (RdF 1 w ⟨dR, aE, aB, aD, cQ⟩) from ha.2);clear ha;simp only [StStep.szs] at hn;dsimp only [StStep.val, BS.v, FR.v]
 go_enter Tryz.func30, Tryz.ntmps30
 have dx : Same w (((w.alloc (.cells #[V cq, V cj, V aW, V aU, .slice aI ag.length aJ, .slice aE aB aD] 58)).alloc (.cells #[V 0, V 0, V 0, V 0, V0, V0] 71)).alloc (.cells #[V cq, V cj, V aW, V aU, V0, V0] 71)) := ((kZ0.alloc _).alloc _).alloc _;have b0 : Blk (((w.alloc (.cells #[V cq, V cj, V aW, V aU, .slice aI ag.length aJ, .slice aE aB aD] 58)).alloc (.cells #[V 0, V 0, V 0, V 0, V0, V0] 71)).alloc (.cells #[V cq, V cj, V aW, V aU, V0, V0] 71)) (w.heap.size) 58 [V cq, V cj, V aW, V aU, .slice aI ag.length aJ, .slice aE aB aD] := ((Blk.new w #[V cq, V cj, V aW, V aU, .slice aI ag.length aJ, .slice aE aB aD] 58).alloc _).alloc _
 have b1 : Blk (((w.alloc (.cells #[V cq, V cj, V aW, V aU, .slice aI ag.length aJ, .slice aE aB aD] 58)).alloc (.cells #[V 0, V 0, V 0, V 0, V0, V0] 71)).alloc (.cells #[V cq, V cj, V aW, V aU, V0, V0] 71)) (w.heap.size + 1) 71 [V 0, V 0, V 0, V 0, V0, V0] := by have h := (Blk.new (w.alloc (.cells #[V cq, V cj, V aW, V aU, .slice aI ag.length aJ, .slice aE aB aD] 58)) #[V 0, V 0, V 0, V 0, V0, V0] 71).alloc (.cells #[V cq, V cj, V aW, V aU, V0, V0] 71); rwa [World.size_alloc] at h
 have b2 : Blk (((w.alloc (.cells #[V cq, V cj, V aW, V aU, .slice aI ag.length aJ, .slice aE aB aD] 58)).alloc (.cells #[V 0, V 0, V 0, V 0, V0, V0] 71)).alloc (.cells #[V cq, V cj, V aW, V aU, V0, V0] 71)) (w.heap.size + 1 + 1) 71 [V cq, V cj, V aW, V aU, V0, V0] := by have h := Blk.new ((w.alloc (.cells #[V cq, V cj, V aW, V aU, .slice aI ag.length aJ, .slice aE aB aD] 58)).alloc (.cells #[V 0, V 0, V 0, V 0, V0, V0] 71)) #[V cq, V cj, V aW, V aU, V0, V0] 71; rwa [World.size_alloc, World.size_alloc] at h
 have bD : (((w.alloc (.cells #[V cq, V cj, V aW, V aU, .slice aI ag.length aJ, .slice aE aB aD] 58)).alloc (.cells #[V 0, V 0, V 0, V 0, V0, V0] 71)).alloc (.cells #[V cq, V cj, V aW, V aU, V0, V0] 71)).heap.size = w.heap.size + 1 + 1 + 1 := by simp only [World.size_alloc]
 go_wp2_with fail
 refine (XV _ ag _ (by omega) (Jy.out.same dx)).mono ?_;rintro e w1 ⟨g0, rfl, hg, ho, hk⟩;have O0 : OwnL w1 (BS.rows ⟨5, some ⟨g0, 0, none⟩, ag.length, ag⟩) := OwnL.one ho
 have F0 : ∀ b, Uu (BS.rows ⟨5, some ⟨g0, 0, none⟩, ag.length, ag⟩) b → w.heap.size + 1 + 1 < b := fun b hb => by have h := (WB _ _ _ _ _).1 hb; have h2 : g0 = b := Option.some.inj h; have h3 := hg; omega
 clear ho;have af : Same w w1 := dx.trans hk;replace b0 : Blk w1 (w.heap.size) 58 [V cq, V cj, V aW, V aU, .slice aI ag.length aJ, .slice aE aB aD] := b0.same hk;replace b1 : Blk w1 (w.heap.size + 1) 71 [V 0, V 0, V 0, V 0, V0, V0] := b1.same hk;replace b2 : Blk w1 (w.heap.size + 1 + 1) 71 [V cq, V cj, V aW, V aU, V0, V0] := b2.same hk
 replace bD : w.heap.size + 1 + 1 + 1 ≤ w1.heap.size := by have := hk.size; omega
 clear hk hg;have pY : w1.cell? ⟨w.heap.size, 0, none⟩ = some (V cq) := b0.cell 0;have qd : w1.cell? ⟨w.heap.size + 1, 0, none⟩ = some (V 0) := b1.cell 0;have wZ : w1.frozen? ⟨w.heap.size + 1, 0, none⟩ = false := b1.frozen 0;have ou : w1.cell? ⟨w.heap.size + 1 + 1, 0, none⟩ = some (V cq) := b2.cell 0;have wJ : w1.frozen? ⟨w.heap.size + 1 + 1, 0, none⟩ = false := b2.frozen 0;have oT : w1.cell? ⟨w.heap.size, 1, none⟩ = some (V cj) := b0.cell 1;have nA : w1.cell? ⟨w.heap.size + 1, 1, none⟩ = some (V 0) := b1.cell 1;have vo : w1.frozen? ⟨w.heap.size + 1, 1, none⟩ = false := b1.frozen 1;have nH : w1.cell? ⟨w.heap.size + 1 + 1, 1, none⟩ = some (V cj) := b2.cell 1;have vl : w1.frozen? ⟨w.heap.size + 1 + 1, 1, none⟩ = false := b2.frozen 1;have pa : w1.cell? ⟨w.heap.size, 2, none⟩ = some (V aW) := b0.cell 2;have pq : w1.cell? ⟨w.heap.size + 1, 2, none⟩ = some (V 0) := b1.cell 2;have sQ : w1.frozen? ⟨w.heap.size + 1, 2, none⟩ = false := b1.frozen 2;have qv : w1.cell? ⟨w.heap.size + 1 + 1, 2, none⟩ = some (V aW) := b2.cell 2;have wU : w1.frozen? ⟨w.heap.size + 1 + 1, 2, none⟩ = false := b2.frozen 2;have pH : w1.cell? ⟨w.heap.size, 3, none⟩ = some (V aU) := b0.cell 3;have qj : w1.cell? ⟨w.heap.size + 1, 3, none⟩ = some (V 0) := b1.cell 3;have vE : w1.frozen? ⟨w.heap.size + 1, 3, none⟩ = false := b1.frozen 3;have nE : w1.cell? ⟨w.heap.size + 1 + 1, 3, none⟩ = some (V aU) := b2.cell 3;have tX : w1.frozen? ⟨w.heap.size + 1 + 1, 3, none⟩ = false := b2.frozen 3;have oZ : w1.cell? ⟨w.heap.size, 4, none⟩ = some (.slice aI ag.length aJ) := b0.cell 4;have oC : w1.cell? ⟨w.heap.size + 1, 4, none⟩ = some (V0) := b1.cell 4;have xD : w1.frozen? ⟨w.heap.size + 1, 4, none⟩ = false := b1.frozen 4;have oh : w1.cell? ⟨w.heap.size + 1 + 1, 4, none⟩ = some (V0) := b2.cell 4;have s7 : w1.frozen? ⟨w.heap.size + 1 + 1, 4, none⟩ = false := b2.frozen 4;have nx : w1.cell? ⟨w.heap.size, 5, none⟩ = some (.slice aE aB aD) := b0.cell 5;have pO : w1.cell? ⟨w.heap.size + 1, 5, none⟩ = some (V0) := b1.cell 5;have ud : w1.frozen? ⟨w.heap.size + 1, 5, none⟩ = false := b1.frozen 5;have qk : w1.cell? ⟨w.heap.size + 1 + 1, 5, none⟩ = some (V0) := b2.cell 5;have sY : w1.frozen? ⟨w.heap.size + 1 + 1, 5, none⟩ = false := b2.frozen 5;have ae : Same w (w1.setCell ⟨w.heap.size + 1 + 1, 4, none⟩ (Q4 g0 ag.length ag.length)) := af.setCell (.inl (by simp only []; omega)) _;replace b0 : Blk (w1.setCell ⟨w.heap.size + 1 + 1, 4, none⟩ (Q4 g0 ag.length ag.length)) (w.heap.size) 58 [V cq, V cj, V aW, V aU, .slice aI ag.length aJ, .slice aE aB aD] := b0.other (by simp only []; omega) _;replace b1 : Blk (w1.setCell ⟨w.heap.size + 1 + 1, 4, none⟩ (Q4 g0 ag.length ag.length)) (w.heap.size + 1) 71 [V 0, V 0, V 0, V 0, V0, V0] := b1.other (by simp only []; omega) _;replace b2 : Blk (w1.setCell ⟨w.heap.size + 1 + 1, 4, none⟩ (Q4 g0 ag.length ag.length)) (w.heap.size + 1 + 1) 71 [V cq, V cj, V aW, V aU, Q4 g0 ag.length ag.length, V0] := b2.stored 4 _;replace O0 : OwnL (w1.setCell ⟨w.heap.size + 1 + 1, 4, none⟩ (Q4 g0 ag.length ag.length)) (BS.rows ⟨5, some ⟨g0, 0, none⟩, ag.length, ag⟩) := O0.kept (Kept.setCell (Kept.refl (fun b => b = w.heap.size + 1 + 1) _) (.inr rfl) _) (fun b hb e => by have := F0 b hb; omega)
 replace bD : w.heap.size + 1 + 1 + 1 ≤ (w1.setCell ⟨w.heap.size + 1 + 1, 4, none⟩ (Q4 g0 ag.length ag.length)).heap.size := by rw [World.size_setCell]; exact bD
 go_wp2_with fail
 refine (jaU ⟨dR, aE, aB, aD, cQ⟩ _ (by dsimp only; omega) (Jt.out.same ae)).mono ?_;rintro e w2 ⟨⟨tD, xw, ry, wM, wk⟩, rfl, jd, aT, hg, O1, hk⟩;have Rl := (show Hid (ry = aB) from aT);clear aT
 have F1 : ∀ b, Uu (FR.rows 1 ⟨tD, xw, ry, wM, wk⟩) b → w.heap.size + 1 + 1 < b := fun b hb => by have h := hg b hb; omega
 dsimp only [FR.v]
 have Fa : ∀ b, Uu (BS.rows ⟨5, some ⟨g0, 0, none⟩, ag.length, ag⟩) b → ¬ Uu (FR.rows 1 ⟨tD, xw, ry, wM, wk⟩) b := fun b hb e => by have h1 := O0.lt b hb; have h2 := hg b e; omega
 replace O0 : OwnL w2 (BS.rows ⟨5, some ⟨g0, 0, none⟩, ag.length, ag⟩) := O0.same hk;have ar : Same w w2 := ae.trans hk;replace b0 : Blk w2 (w.heap.size) 58 [V cq, V cj, V aW, V aU, .slice aI ag.length aJ, .slice aE aB aD] := b0.same hk;replace b1 : Blk w2 (w.heap.size + 1) 71 [V 0, V 0, V 0, V 0, V0, V0] := b1.same hk;replace b2 : Blk w2 (w.heap.size + 1 + 1) 71 [V cq, V cj, V aW, V aU, Q4 g0 ag.length ag.length, V0] := b2.same hk
 replace bD : w.heap.size + 1 + 1 + 1 ≤ w2.heap.size := by have := hk.size; omega
 clear hk hg;have xy : w2.cell? ⟨w.heap.size, 0, none⟩ = some (V cq) := b0.cell 0;have lM : w2.cell? ⟨w.heap.size + 1, 0, none⟩ = some (V 0) := b1.cell 0;have DU : w2.frozen? ⟨w.heap.size + 1, 0, none⟩ = false := b1.frozen 0;have wD : w2.cell? ⟨w.heap.size + 1 + 1, 0, none⟩ = some (V cq) := b2.cell 0;have E6 : w2.frozen? ⟨w.heap.size + 1 + 1, 0, none⟩ = false := b2.frozen 0;have xm : w2.cell? ⟨w.heap.size, 1, none⟩ = some (V cj) := b0.cell 1;have lD : w2.cell? ⟨w.heap.size + 1, 1, none⟩ = some (V 0) := b1.cell 1;have Fg : w2.frozen? ⟨w.heap.size + 1, 1, none⟩ = false := b1.frozen 1;have vd : w2.cell? ⟨w.heap.size + 1 + 1, 1, none⟩ = some (V cj) := b2.cell 1;have By : w2.frozen? ⟨w.heap.size + 1 + 1, 1, none⟩ = false := b2.frozen 1;have vH : w2.cell? ⟨w.heap.size, 2, none⟩ = some (V aW) := b0.cell 2;have lx : w2.cell? ⟨w.heap.size + 1, 2, none⟩ = some (V 0) := b1.cell 2;have Fb : w2.frozen? ⟨w.heap.size + 1, 2, none⟩ = false := b1.frozen 2;have sN : w2.cell? ⟨w.heap.size + 1 + 1, 2, none⟩ = some (V aW) := b2.cell 2;have Bz : w2.frozen? ⟨w.heap.size + 1 + 1, 2, none⟩ = false := b2.frozen 2;have vf : w2.cell? ⟨w.heap.size, 3, none⟩ = some (V aU) := b0.cell 3;have lB : w2.cell? ⟨w.heap.size + 1, 3, none⟩ = some (V 0) := b1.cell 3;have DT : w2.frozen? ⟨w.heap.size + 1, 3, none⟩ = false := b1.frozen 3;have wH : w2.cell? ⟨w.heap.size + 1 + 1, 3, none⟩ = some (V aU) := b2.cell 3;have Bh : w2.frozen? ⟨w.heap.size + 1 + 1, 3, none⟩ = false := b2.frozen 3;have xQ : w2.cell? ⟨w.heap.size, 4, none⟩ = some (.slice aI ag.length aJ) := b0.cell 4;have lK : w2.cell? ⟨w.heap.size + 1, 4, none⟩ = some (V0) := b1.cell 4;have Dx : w2.frozen? ⟨w.heap.size + 1, 4, none⟩ = false := b1.frozen 4;have uf : w2.cell? ⟨w.heap.size + 1 + 1, 4, none⟩ = some (Q4 g0 ag.length ag.length) := b2.cell 4;have C0 : w2.frozen? ⟨w.heap.size + 1 + 1, 4, none⟩ = false := b2.frozen 4;have xK : w2.cell? ⟨w.heap.size, 5, none⟩ = some (.slice aE aB aD) := b0.cell 5;have lS : w2.cell? ⟨w.heap.size + 1, 5, none⟩ = some (V0) := b1.cell 5;have Er : w2.frozen? ⟨w.heap.size + 1, 5, none⟩ = false := b1.frozen 5;have tA : w2.cell? ⟨w.heap.size + 1 + 1, 5, none⟩ = some (V0) := b2.cell 5;have Dp : w2.frozen? ⟨w.heap.size + 1 + 1, 5, none⟩ = false := b2.frozen 5;have KD := (show Hid (Same w w2) from ar);have bF := (show Hid (Blk w2 (w.heap.size + 1) 71 [V 0, V 0, V 0, V 0, V0, V0]) from b1);have iH := (show Hid (OwnL w2 (BS.rows ⟨5, some ⟨g0, 0, none⟩, ag.length, ag⟩)) from O0);have OD := (show Hid (∀ b, Uu (BS.rows ⟨5, some ⟨g0, 0, none⟩, ag.length, ag⟩) b → w.heap.size + 1 + 1 < b) from F0);have gY := (show Hid (OwnL w2 (FR.rows 1 ⟨tD, xw, ry, wM, wk⟩)) from O1);have oY := (show Hid (∀ b, Uu (FR.rows 1 ⟨tD, xw, ry, wM, wk⟩) b → w.heap.size + 1 + 1 < b) from F1);have C5 := (show Hid (∀ b, Uu (BS.rows ⟨5, some ⟨g0, 0, none⟩, ag.length, ag⟩) b → ¬ Uu (FR.rows 1 ⟨tD, xw, ry, wM, wk⟩) b) from Fa);clear b0 b1 b2 dx af ae ar O0 O1 F0 F1 Fa;go_wp2;refine bodyPost_ret (v := StStep.val ⟨cq, cj, aW, aU, ⟨5, some ⟨g0, 0, none⟩, ag.length, ag⟩, ⟨tD, xw, ry, wM, wk⟩⟩) (by simp [StStep.val, StStep.val, BS.v, FR.v, results, Tryz.results30, go_sem, lM, lD, lx, lB, lK, lS]) rfl ⟨⟨cq, cj, aW, aU, ⟨5, some ⟨g0, 0, none⟩, ag.length, ag⟩, ⟨tD, xw, ry, wM, wk⟩⟩, rfl, ?_, ?_, ?_, ?_, ?_⟩
 ·simp only [StStep.dat]; exact Prod.ext_iff.2 (by simp [jd])
 ·have z1 := Rl.out; simp only [StStep.szs]; omega
 ·exact fun b hb => ((Ud _ _ _).1 hb).elim (fun e0 => by have := OD.out b (e0); omega) (fun e0 => by have := oY.out b (e0); omega)
 ·refine OwnL.kept (R := fun b => b = w.heap.size + 1 ∨ b = w.heap.size + 1 + 1) (show OwnL _ (StStep.rows ⟨cq, cj, aW, aU, ⟨5, some ⟨g0, 0, none⟩, ag.length, ag⟩, ⟨tD, xw, ry, wM, wk⟩⟩) from (iH.out).append (gY.out) (fun b hb e => C5.out b hb e)) ?_ ?_
  ·exact (Kept.setCell (Kept.setCell (Kept.setCell (Kept.setCell (Kept.setCell (Kept.setCell (Kept.setCell (Kept.refl (fun b => b = w.heap.size + 1 ∨ b = w.heap.size + 1 + 1) _) (p := ⟨w.heap.size + 1 + 1, 5, none⟩) (.inr (.inr rfl)) _) (p := ⟨w.heap.size + 1, 0, none⟩) (.inr (.inl rfl)) _) (p := ⟨w.heap.size + 1, 1, none⟩) (.inr (.inl rfl)) _) (p := ⟨w.heap.size + 1, 2, none⟩) (.inr (.inl rfl)) _) (p := ⟨w.heap.size + 1, 3, none⟩) (.inr (.inl rfl)) _) (p := ⟨w.heap.size + 1, 4, none⟩) (.inr (.inl rfl)) _) (p := ⟨w.heap.size + 1, 5, none⟩) (.inr (.inl rfl)) _)
  ·exact fun b hb e => ((Ud _ _ _).1 hb).elim (fun e0 => by have := OD.out b (e0); omega) (fun e0 => by have := oY.out b (e0); omega)
 ·exact (Kept.setCell (Kept.setCell (Kept.setCell (Kept.setCell (Kept.setCell (Kept.setCell (Kept.setCell KD.out (p := ⟨w.heap.size + 1 + 1, 5, none⟩) (.inl (by simp only []; omega)) _) (p := ⟨w.heap.size + 1, 0, none⟩) (.inl (by simp only []; omega)) _) (p := ⟨w.heap.size + 1, 1, none⟩) (.inl (by simp only []; omega)) _) (p := ⟨w.heap.size + 1, 2, none⟩) (.inl (by simp only []; omega)) _) (p := ⟨w.heap.size + 1, 3, none⟩) (.inl (by simp only []; omega)) _) (p := ⟨w.heap.size + 1, 4, none⟩) (.inl (by simp only []; omega)) _) (p := ⟨w.heap.size + 1, 5, none⟩) (.inl (by simp only []; omega)) _)
def StStep.cells (x : StStep) : List Value := [V x.kd, V x.tx, V x.rid, V x.cnt, x.data.v, x.keep.v]
def kSp : RowK StStep := ⟨6, StStep.cells, fun _ => rfl, fun _ => V0, fun _ => []⟩
def zSp : StStep := ⟨0, 0, 0, 0, ⟨0, none, 0, []⟩, ⟨0, none, 0, 0, []⟩⟩
def Um (ps : List StStep) := ps.map StStep.dat
def ZP (ps : List StStep) := ps.map StStep.szs
def Uy (ps : List StStep) : List Row := ps.flatMap StStep.rows
theorem Ul (ps : List StStep) : (Um ps).length = ps.length := by simp [Um]
theorem jfM {ps qs : List StStep} (h : Um ps = Um qs) (k : Nat) (h1 : k < ps.length) (h2 : k < qs.length) : ps[k].dat = qs[k].dat := by
 have e : (Um ps)[k]'(by rw [Ul]; exact h1) = (Um qs)[k]'(by rw [Ul]; exact h2) := by simp only [h]
 simpa [Um] using e
theorem Xf (ps qs : List StStep) : Uy (ps ++ qs) = Uy ps ++ Uy qs := by simp [Uy]
theorem V6 (p : StStep) (ps : List StStep) : Uy (p :: ps) = p.rows ++ Uy ps := by simp [Uy]
theorem jah {ps : List StStep} {b : Nat} : Uu (Uy ps) b ↔ ∃ p ∈ ps, Uu p.rows b := by
 unfold Uu Uy;constructor
 ·rintro ⟨r, hr, hb⟩
  obtain ⟨p, hp, hr⟩ := List.mem_flatMap.1 hr;exact ⟨p, hp, r, hr, hb⟩
 ·rintro ⟨p, hp, r, hr, hb⟩
  exact ⟨r, List.mem_flatMap.2 ⟨p, hp, hr⟩, hb⟩
structure OwnSp (w : World) (v : Value) (ps : List StStep) : Prop where
 own : OwnR kSp 0 71 5 w v ps
 rows : OwnL w (Uy ps)
 out : ∀ b, v.ownBlock = some b → ¬ Uu (Uy ps) b
def Xg (v : Value) (ps : List StStep) (b : Nat) : Prop := v.ownBlock = some b ∨ Uu (Uy ps) b
structure RdSp (w : World) (v : Value) (ps : List StStep) : Prop where
 row : RdR kSp w v ps
 data : ∀ p ∈ ps, StStep.rd w p
theorem XZ {v : Value} {ps : List StStep} {b : Nat} (h : Uc kSp v ps b) : v.ownBlock = some b := by
 rcases h with h | ⟨p, _, h⟩
 ·exact h
 ·simp [kSp, Value.ownBlock] at h
theorem OwnSp.kept {R : Nat → Prop} {w w' : World} {v : Value} {ps : List StStep} (h : OwnSp w v ps) (hk : Kept R w w') (hr : ∀ b, Xg v ps b → ¬ R b) : OwnSp w' v ps :=
 ⟨h.own.kept hk (fun b hb => hr b (.inl (XZ hb))), h.rows.kept hk (fun b hb => hr b (.inr hb)), h.out⟩
theorem OwnSp.same {w w' : World} {v : Value} {ps : List StStep} (h : OwnSp w v ps) (hk : Same w w') : OwnSp w' v ps := h.kept hk (fun _ _ => id)
theorem OwnSp.lt {w : World} {v : Value} {ps : List StStep} (h : OwnSp w v ps) (b : Nat) (hb : Xg v ps b) : b < w.heap.size := by
 rcases hb with hb | hb
 ·exact (h.own.lt b (.inl hb)).2
 ·exact h.rows.lt b hb
theorem OwnL.memSp {w : World} {ps : List StStep} (h : OwnL w (Uy ps)) (p : StStep) (hp : p ∈ ps) : OwnL w p.rows := by
 obtain ⟨a, c, rfl⟩ := List.append_of_mem hp;rw [Xf, V6] at h;exact h.right.left
theorem OwnSp.rd {w : World} {v : Value} {ps : List StStep} (h : OwnSp w v ps) : RdSp w v ps := ⟨h.own.rd, fun p hp => StStep.own_rd (h.rows.memSp p hp)⟩
theorem RdSp.same {w w' : World} {v : Value} {ps : List StStep} (h : RdSp w v ps) (hk : Same w w') : RdSp w' v ps := ⟨h.row.same hk, fun p hp => (h.data p hp).same hk⟩
theorem RdSp.form {w : World} {v : Value} {ps : List StStep} (h : RdSp w v ps) : ∃ a c, v = .slice a ps.length c := h.row.form
def UZ : List StStep → Int
 | [] => 0
 | p :: ps => p.szs + UZ ps
theorem jaV (ps qs : List StStep) : UZ (ps ++ qs) = UZ ps + UZ qs := by
 induction ps with
 | nil => simp [UZ]
 | cons p ps ih => simp only [List.cons_append, UZ, ih]; omega
theorem jcn (ps : List StStep) (j : Nat) (h : j < ps.length) : UZ (ps.take (j + 1)) = UZ (ps.take j) + ps[j].szs := by
 rw [List.take_succ_eq_append_getElem h, jaV];simp [UZ]
theorem Yw (ps : List StStep) : 0 ≤ UZ ps := by
 induction ps with
 | nil => exact Int.le_refl _
 | cons p ps ih => have := p.szs_le; simp only [UZ]; omega
theorem YF (ps : List StStep) (p : StStep) (h : p ∈ ps) : p.szs ≤ UZ ps := by
 induction ps with
 | nil => simp at h
 | cons q ps ih =>
  have h1 := Yw ps;have h2 := q.szs_le
  rcases List.mem_cons.1 h with rfl | h
  ·simp only [UZ]; omega
  ·have := ih h; simp only [UZ]; omega
end Go.Proofs.YtljfcdkhicffcaaGreat
