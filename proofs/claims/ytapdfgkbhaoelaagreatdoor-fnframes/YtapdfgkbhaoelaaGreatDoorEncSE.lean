import Derived.Test.YtapdfgkbhaoelaaGreatDoorG22
namespace Go.Proofs.YtapdfgkbhaoelaaGreatDoor
set_option maxRecDepth 100000
set_option maxHeartbeats 4000000
set_option linter.unusedVariables false
set_option linter.unusedSimpArgs false
open Go.RowKit
theorem jeq (x : StLogRecord) (w : World) (hB : x.isB) (hn : x.szs ≤ 1073741824) (hv : StLogRecord.rd w x) (hk : x.kind = 7) (hz : O9 x.dat = 0) :
  Calls Tryz.prog 37 #[x.val] w fun e w' => ∃ aa nn cc, e = .returned (.slice aa nn cc) ∧ Own 0 5 .u8 w' (.slice aa nn cc) (Pe x.dat) ∧ (∀ b, (Value.slice aa nn cc).ownBlock = some b → w.heap.size ≤ b) ∧ Same w w' := by
 have hF := fun wx (h : Same w wx) => Qc x wx hB hn (StLogRecord.rd.same hv h);rw [hz] at hF;obtain ⟨kind, txn, prev, page, slot, ⟨bU, ⟨eS, ax, ay, aI⟩⟩, ⟨aU, ⟨eP, ao, al, aG⟩⟩, uN, nT, ⟨dI, aJ, ak, aK, bh⟩, ⟨dF, aM, aw, aH, bw⟩, ⟨eM, aF, aD, aL⟩⟩ := x;obtain ⟨cT, cN, dt, dw, df⟩ := hv;have fN : Hid (Rd .u8 w (.slice ax aI.length ay) aI) := cT;have gR : Hid (Rd .u8 w (.slice ao aG.length al) aG) := cN;have iS : Hid (Rd .u8 w (.slice aF aL.length aD) aL) := df;dsimp only at hk;subst hk;have hg := (show Pw 7 txn prev page slot bU aI aU aG uN nT bh bw aL = 0 from hz);obtain ⟨jG, jI, iX, gg, oa⟩ := VH hg
 have I7 : 0 ≤ txn ∧ txn ≤ 1 := by omega
 have wG : 0 ≤ prev ∧ prev ≤ 1 := by omega
 clear jG jI;have Jy := (show Hid (0 < ak → ∃ b off, aJ = some ⟨b, off, none⟩ ∧ ak ≤ aK ∧ ∀ i, i < ak * 4 → w.cell? ⟨b, off + i, none⟩ = some (Q1 (bh.getD i 0))) from fun h0 => dt.2.2.resolve_left (fun h => by dsimp only at h; omega));have kQ : Hid (0 < aw → ∃ b off, aM = some ⟨b, off, none⟩ ∧ aw ≤ aH ∧ ∀ i, i < aw * 2 → w.cell? ⟨b, off + i, none⟩ = some (Q1 (bw.getD i 0))) := fun h0 => dw.2.2.resolve_left (fun h => by dsimp only at h; omega)
 have e1 : bh.length / 4 = ak := by have := dt.2.1; dsimp only at this; omega
 have e2 : bw.length / 2 = aw := by have := dw.2.1; dsimp only at this; omega
 rw [e1] at gg;rw [e2] at oa;obtain ⟨kz, lw⟩ := Vq gg;obtain ⟨gm, ll⟩ := Vr oa;have su := (show Hid (∀ i, i < ak → _) from lw);have tD := (show Hid (∀ i, i < aw → _) from ll);have uA : Hid (bh.length / 4 = ak) := e1;have uB : Hid (bw.length / 2 = aw) := e2;clear e1 e2 lw ll gg oa;simp only [StLogRecord.szs, StPageRecord.szs] at hn;clear hz hB cT cN dt dw df hg;dsimp only [StLogRecord.val, StPageRecord.val, BS.v, FR.v, Pe, StLogRecord.dat, StPageRecord.dat, Pq] at hF ⊢;have b0 := Blk.newL w [Q1 7, Q1 txn, Q1 prev, Q1 page, Q1 slot, .bool bU, .slice ax aI.length ay, .bool aU, .slice ao aG.length al, Q1 uN, Q1 nT, .slice aJ ak aK, .slice aM aw aH, .slice aF aL.length aD] 28;have hF := hF _ (kZ0.alloc (.cells #[Q1 7, Q1 txn, Q1 prev, Q1 page, Q1 slot, .bool bU, .slice ax aI.length ay, .bool aU, .slice ao aG.length al, Q1 uN, Q1 nT, .slice aJ ak aK, .slice aM aw aH, .slice aF aL.length aD] 28));have cU := (show w.heap.size + 1 = (w.alloc (.cells #[Q1 7, Q1 txn, Q1 prev, Q1 page, Q1 slot, .bool bU, .slice ax aI.length ay, .bool aU, .slice ao aG.length al, Q1 uN, Q1 nT, .slice aJ ak aK, .slice aM aw aH, .slice aF aL.length aD] 28)).heap.size from by simp)
 go_enter Tryz.func37, Tryz.ntmps37
 go_wp2_with (go_at_call 7; refine hF.mono ?_; rintro e w1 ⟨rfl, ah⟩; have aN : Hid (Same (w.alloc (.cells #[Q1 7, Q1 txn, Q1 prev, Q1 page, Q1 slot, .bool bU, .slice ax aI.length ay, .bool aU, .slice ao aG.length al, Q1 uN, Q1 nT, .slice aJ ak aK, .slice aM aw aH, .slice aF aL.length aD] 28)) w1) := ah; have b1 := b0.same aN.out; clear ah)
 have pM := aN.out.size;have aO : Hid (Same (w.alloc (.cells #[Q1 7, Q1 txn, Q1 prev, Q1 page, Q1 slot, .bool bU, .slice ax aI.length ay, .bool aU, .slice ao aG.length al, Q1 uN, Q1 nT, .slice aJ ak aK, .slice aM aw aH, .slice aF aL.length aD] 28)) (w1.drew.alloc (.cells #[.int .u8 7] 5))) := aN.out.drew.alloc _;have cG : Hid (Own 0 5 .u8 (w1.drew.alloc (.cells #[.int .u8 7] 5)) (.slice (some ⟨w1.heap.size, 0, none⟩) 1 1) [7]) := (show Blk (w1.drew.alloc (.cells #[.int .u8 7] 5)) w1.heap.size 5 (vals .u8 [7]) from Blk.new w1.drew #[.int .u8 7] 5).own (by unfold maxLen; simp);have fl := (show Hid (∀ b, (Value.slice (some ⟨w1.heap.size, 0, none⟩) 1 1).ownBlock = some b → (w.alloc (.cells #[Q1 7, Q1 txn, Q1 prev, Q1 page, Q1 slot, .bool bU, .slice ax aI.length ay, .bool aU, .slice ao aG.length al, Q1 uN, Q1 nT, .slice aJ ak aK, .slice aM aw aH, .slice aF aL.length aD] 28)).heap.size ≤ b) from fun b hb => by have hb : w1.heap.size = b := Option.some.inj hb; omega);have b2 := b0.same aO.out
 have je : ([7] : List Int).length ≤ 1 := by simp
 let Y3 : World → Prop := fun wx => D0 wx w.heap.size 0 (Q1 7) ∧ D0 wx w.heap.size 1 (Q1 txn) ∧ D0 wx w.heap.size 2 (Q1 prev)
 have hS : Y3 w1.drew := by exact ⟨b1.cell 0, b1.cell 1, b1.cell 2⟩
 refine O0 Y3 99 11 ?_;refine tk 0 11 hS ?_;refine tk 1 12 hS ?_;refine tk 2 13 hS ?_;refine tk 4 15 hS ?_;refine tk 5 16 hS ?_;refine tk 7 18 hS ?_;refine tk 8 19 hS ?_;refine o1Q 3 (fun K hK => ?_);go_simp
 have hS : Y3 (w1.drew.alloc (.cells #[.int .u8 7] 5)) := by exact ⟨b2.cell 0, b2.cell 1, b2.cell 2⟩
 refine hK.out _ _ (fun _ => hS) ?_;clear hK K
 try simp only [Sp]
 refine o1Q 6 (fun K hK => ?_);go_simp;refine (Ph _ ([7]) (txn) 4 _ (by unfold IsI; omega) (by unfold IsI; omega) (by omega) cG.out).mono ?_;rintro e gG ⟨jS, kf, jQ, rfl, ag, hg⟩;have eU : Hid (Own 0 5 .u8 gG (.slice jS kf jQ) (([7]) ++ OW (txn) 4)) := ag;have cm := hid (hg.same aO.out fl.out);have dd := hid (hg.fresh aO.out fl.out);have eX := b0.same cm.out
 have jX : (([7]) ++ OW (txn) 4).length ≤ 9 := by rw [List.length_append]; have := O3 (txn) 4; omega
 clear ag hg
 have hS : Y3 gG := by exact ⟨eX.cell 0, eX.cell 1, eX.cell 2⟩
 refine hK.out _ _ (fun _ => hS) ?_;clear hK K
 try simp only [Sp]
 refine o1Q 9 (fun K hK => ?_);go_simp;refine (Ph _ (([7]) ++ OW (txn) 4) (prev) 8 _ (by unfold IsI; omega) (by unfold IsI; omega) (by omega) eU.out).mono ?_;rintro e fO ⟨kn, jU, jT, rfl, ag, hg⟩;have eW : Hid (Own 0 5 .u8 fO (.slice kn jU jT) ((([7]) ++ OW (txn) 4) ++ OW (prev) 8)) := ag;have cD := hid (hg.same cm.out dd.out);have dP := hid (hg.fresh cm.out dd.out);have cX := b0.same cD.out
 have j2 : ((([7]) ++ OW (txn) 4) ++ OW (prev) 8).length ≤ 17 := by rw [List.length_append]; have := O3 (prev) 8; omega
 clear ag hg
 have hS : Y3 fO := by exact ⟨cX.cell 0, cX.cell 1, cX.cell 2⟩
 refine hK.out _ _ (fun _ => hS) ?_;clear hK K
 try simp only [Sp]
 refine tk 10 3 hS ?_;refine OZ ?_;have gx := cX.c0
 go_wp2_with fail
 let Y4 : World → Prop := fun wx => D0 wx w.heap.size 10 (Q1 nT) ∧ D0 wx w.heap.size 11 (.slice aJ ak aK)
 have hS : Y4 fO.drew := by exact ⟨cX.cell 10, cX.cell 11⟩
 refine O0 Y4 99 9 ?_;refine tk 0 57 hS ?_;refine tk 1 58 hS ?_;refine tk 2 59 hS ?_;refine tk 4 61 hS ?_;refine tk 5 62 hS ?_;refine tk 6 63 hS ?_;refine o1Q 3 (fun K hK => ?_);go_simp;refine (Ph _ ((([7]) ++ OW (txn) 4) ++ OW (prev) 8) (nT) 4 _ (by unfold IsI; omega) (by unfold IsI; omega) (by omega) (eW.out.same kZ0.drew)).mono ?_;rintro e mw ⟨rr, rm, qN, rfl, ag, hg⟩;have jR : Hid (Own 0 5 .u8 mw (.slice rr rm qN) (((([7]) ++ OW (txn) 4) ++ OW (prev) 8) ++ OW (nT) 4)) := ag;have eH := hid (hg.same cD.out.drew dP.out);have gL := hid (hg.fresh cD.out.drew dP.out);have nG := b0.same eH.out
 have rJ : (((([7]) ++ OW (txn) 4) ++ OW (prev) 8) ++ OW (nT) 4).length ≤ 25 := by rw [List.length_append]; have := O3 (nT) 4; omega
 clear ag hg
 have hS : Y4 mw := by exact ⟨nG.cell 10, nG.cell 11⟩
 refine hK.out _ _ (fun _ => hS) ?_;clear hK K
 try simp only [Sp]
 refine o1Q 7 (fun K hK => ?_);go_simp;refine (Ph _ (((([7]) ++ OW (txn) 4) ++ OW (prev) 8) ++ OW (nT) 4) (ak) 1 _ (by unfold IsI; omega) (by unfold IsI; omega) (by omega) jR.out).mono ?_;rintro e ln ⟨tY, sf, rK, rfl, ag, hg⟩;have kv : Hid (Own 0 5 .u8 ln (.slice tY sf rK) ((((([7]) ++ OW (txn) 4) ++ OW (prev) 8) ++ OW (nT) 4) ++ OW (ak) 1)) := ag;have eY := hid (hg.same eH.out gL.out);have gP := hid (hg.fresh eH.out gL.out);have jk := b0.same eY.out
 have sX : ((((([7]) ++ OW (txn) 4) ++ OW (prev) 8) ++ OW (nT) 4) ++ OW (ak) 1).length ≤ 33 := by rw [List.length_append]; have := O3 (ak) 1; omega
 clear ag hg
 have hS : Y4 ln := by exact ⟨jk.cell 10, jk.cell 11⟩
 refine hK.out _ _ (fun _ => hS) ?_;clear hK K
 try simp only [Sp]
 refine tk 8 3 hS ?_;refine OZ ?_
 go_wp2_with fail
 go_loopw [3, 4, 5] (fun v i _ wr => ∃ (k : Nat) (a : Option Addr) (n c : Nat), k ≤ ak ∧ i = Q1 k ∧ v = .slice a n c ∧ Hid (Own 0 5 .u8 wr (.slice a n c) (((((([7]) ++ OW (txn) 4) ++ OW (prev) 8) ++ OW (nT) 4) ++ OW (ak) 1) ++ PI bh k)) ∧ Hid (∀ b, (Value.slice a n c).ownBlock = some b → (w.alloc (.cells #[Q1 7, Q1 txn, Q1 prev, Q1 page, Q1 slot, .bool bU, .slice ax aI.length ay, .bool aU, .slice ao aG.length al, Q1 uN, Q1 nT, .slice aJ ak aK, .slice aM aw aH, .slice aF aL.length aD] 28)).heap.size ≤ b) ∧ Hid (Same (w.alloc (.cells #[Q1 7, Q1 txn, Q1 prev, Q1 page, Q1 slot, .bool bU, .slice ax aI.length ay, .bool aU, .slice ao aG.length al, Q1 uN, Q1 nT, .slice aJ ak aK, .slice aM aw aH, .slice aF aL.length aD] 28)) wr)) (fun _ i _ _ => ak - (intOf i).toNat)
 case atStart => exact ⟨0, _, _, _, Nat.zero_le _, rfl, rfl, by rw [X5, List.append_nil]; exact kv, gP, eY⟩
 case round =>
  obtain ⟨k, ar, nr, cr, hk, rfl, rfl, HOr, iW, cJ⟩ := hrel;have br := b0.same cJ.out;have dr := br.c11
  by_cases bg : k < ak
  ·obtain ⟨tB, tO, rb, xV, jc⟩ := Jy.out (by omega)
   subst rb
   have q0 : wr.cell? ⟨tB, tO + k * 4, none⟩ = some (Q1 (bh.getD (k * 4) 0)) := by have h := ((kZ0.alloc _).trans cJ.out).cellOf (jc (k * 4) (by omega)) id; simpa only [Nat.add_assoc] using h
   have q1 : wr.cell? ⟨tB, tO + k * 4 + 1, none⟩ = some (Q1 (bh.getD (k * 4 + 1) 0)) := by have h := ((kZ0.alloc _).trans cJ.out).cellOf (jc (k * 4 + 1) (by omega)) id; simpa only [Nat.add_assoc] using h
   have q2 : wr.cell? ⟨tB, tO + k * 4 + 2, none⟩ = some (Q1 (bh.getD (k * 4 + 2) 0)) := by have h := ((kZ0.alloc _).trans cJ.out).cellOf (jc (k * 4 + 2) (by omega)) id; simpa only [Nat.add_assoc] using h
   have q3 : wr.cell? ⟨tB, tO + k * 4 + 3, none⟩ = some (Q1 (bh.getD (k * 4 + 3) 0)) := by have h := ((kZ0.alloc _).trans cJ.out).cellOf (jc (k * 4 + 3) (by omega)) id; simpa only [Nat.add_assoc] using h
   obtain ⟨Mu, Ad, As, JI⟩ := su.out k bg;have vF : Hid (txB bh k = ((OW (bh.getD (k * 4) 0) 4 ++ OW (bh.getD (k * 4 + 1) 0) 1) ++ OW (bh.getD (k * 4 + 2) 0) 8) ++ OW (bh.getD (k * 4 + 3) 0) 8) := rfl;clear jc;generalize bh.getD (k * 4) 0 = t0 at *;generalize bh.getD (k * 4 + 1) 0 = t1 at *;generalize bh.getD (k * 4 + 2) 0 = t2 at *;generalize bh.getD (k * 4 + 3) 0 = t3 at *
   have nA : (((((([7]) ++ OW (txn) 4) ++ OW (prev) 8) ++ OW (nT) 4) ++ OW (ak) 1) ++ PI bh k).length ≤ 289 := by rw [List.length_append]; have := R8 bh k; omega
   have be := br.alloc (.cells #[Q1 t0, Q1 t1, Q1 t2, Q1 t3] 79);have bt := Blk.new wr #[Q1 t0, Q1 t1, Q1 t2, Q1 t3] 79;have bt : Blk (wr.alloc (.cells #[Q1 t0, Q1 t1, Q1 t2, Q1 t3] 79)) wr.heap.size 79 [Q1 t0, Q1 t1, Q1 t2, Q1 t3] := bt;have zV := hid (cJ.out.alloc (.cells #[Q1 t0, Q1 t1, Q1 t2, Q1 t3] 79));have Nr := (show wr.heap.size + 1 = (wr.alloc (.cells #[Q1 t0, Q1 t1, Q1 t2, Q1 t3] 79)).heap.size from by simp);have OU := br.lt;have tM : Hid (¬ (Value.slice ar nr cr).ownBlock = some wr.heap.size) := fun e => by have := (HOr.out.lt _ e).2; omega
   go_wp2_with fail
   let Y1 : World → Prop := fun wx => D0 wx wr.heap.size 0 (Q1 t0) ∧ D0 wx wr.heap.size 1 (Q1 t1) ∧ D0 wx wr.heap.size 2 (Q1 t2) ∧ D0 wx wr.heap.size 3 (Q1 t3)
   have hS : Y1 (wr.alloc (.cells #[Q1 t0, Q1 t1, Q1 t2, Q1 t3] 79)).drew := by exact ⟨bt.cell 0, bt.cell 1, bt.cell 2, bt.cell 3⟩
   refine O0 Y1 99 14 ?_;refine tk 0 77 hS ?_;refine tk 1 78 hS ?_;refine tk 2 79 hS ?_;refine tk 4 81 hS ?_;refine tk 5 82 hS ?_;refine tk 7 84 hS ?_;refine tk 8 85 hS ?_;refine tk 10 87 hS ?_;refine tk 11 88 hS ?_;refine o1Q 3 (fun K hK => ?_);go_simp;refine (Ph _ (((((([7]) ++ OW (txn) 4) ++ OW (prev) 8) ++ OW (nT) 4) ++ OW (ak) 1) ++ PI bh k) (t0) 4 _ (by unfold IsI; omega) (by unfold IsI; omega) (by omega) (HOr.out.same ((kZ0.alloc _).drew))).mono ?_;rintro e xS ⟨wP, vC, zE, rfl, ag, hg⟩;have t4 := (bt.drew).kept hg.kept tM.out;have vt := (show Hid (¬ (Value.slice wP vC zE).ownBlock = some wr.heap.size) from fun e => (hg.own _ e).elim tM.out (fun h => by have h := Nat.lt_of_lt_of_le (bt.drew).lt h; omega));have xL : Hid (Own 0 5 .u8 xS (.slice wP vC zE) ((((((([7]) ++ OW (txn) 4) ++ OW (prev) 8) ++ OW (nT) 4) ++ OW (ak) 1) ++ PI bh k) ++ OW (t0) 4)) := ag;have ny := hid (hg.same zV.out.drew iW.out);have rE := hid (hg.fresh zV.out.drew iW.out);have Mm := b0.same ny.out
   have Ip : ((((((([7]) ++ OW (txn) 4) ++ OW (prev) 8) ++ OW (nT) 4) ++ OW (ak) 1) ++ PI bh k) ++ OW (t0) 4).length ≤ 297 := by rw [List.length_append]; have := O3 (t0) 4; omega
   clear ag hg
   have hS : Y1 xS := by exact ⟨t4.cell 0, t4.cell 1, t4.cell 2, t4.cell 3⟩
   refine hK.out _ _ (fun _ => hS) ?_;clear hK K
   try simp only [Sp]
   refine o1Q 6 (fun K hK => ?_);go_simp;refine (Ph _ ((((((([7]) ++ OW (txn) 4) ++ OW (prev) 8) ++ OW (nT) 4) ++ OW (ak) 1) ++ PI bh k) ++ OW (t0) 4) (t1) 1 _ (by unfold IsI; omega) (by unfold IsI; omega) (by omega) xL.out).mono ?_;rintro e zK ⟨vq, vd, zp, rfl, ag, hg⟩;have uM := (t4).kept hg.kept vt.out;have yR := (show Hid (¬ (Value.slice vq vd zp).ownBlock = some wr.heap.size) from fun e => (hg.own _ e).elim vt.out (fun h => by have h := Nat.lt_of_lt_of_le (t4).lt h; omega));have zn : Hid (Own 0 5 .u8 zK (.slice vq vd zp) (((((((([7]) ++ OW (txn) 4) ++ OW (prev) 8) ++ OW (nT) 4) ++ OW (ak) 1) ++ PI bh k) ++ OW (t0) 4) ++ OW (t1) 1)) := ag;have nH := hid (hg.same ny.out rE.out);have qW := hid (hg.fresh ny.out rE.out);have Km := b0.same nH.out
   have F6 : (((((((([7]) ++ OW (txn) 4) ++ OW (prev) 8) ++ OW (nT) 4) ++ OW (ak) 1) ++ PI bh k) ++ OW (t0) 4) ++ OW (t1) 1).length ≤ 305 := by rw [List.length_append]; have := O3 (t1) 1; omega
   clear ag hg
   have hS : Y1 zK := by exact ⟨uM.cell 0, uM.cell 1, uM.cell 2, uM.cell 3⟩
   refine hK.out _ _ (fun _ => hS) ?_;clear hK K
   try simp only [Sp]
   refine o1Q 9 (fun K hK => ?_);go_simp;refine (Ph _ (((((((([7]) ++ OW (txn) 4) ++ OW (prev) 8) ++ OW (nT) 4) ++ OW (ak) 1) ++ PI bh k) ++ OW (t0) 4) ++ OW (t1) 1) (t2) 8 _ (by unfold IsI; omega) (by unfold IsI; omega) (by omega) zn.out).mono ?_;rintro e wt ⟨vy, zm, yL, rfl, ag, hg⟩;have t6 := (uM).kept hg.kept yR.out;have vW := (show Hid (¬ (Value.slice vy zm yL).ownBlock = some wr.heap.size) from fun e => (hg.own _ e).elim yR.out (fun h => by have h := Nat.lt_of_lt_of_le (uM).lt h; omega));have vj : Hid (Own 0 5 .u8 wt (.slice vy zm yL) ((((((((([7]) ++ OW (txn) 4) ++ OW (prev) 8) ++ OW (nT) 4) ++ OW (ak) 1) ++ PI bh k) ++ OW (t0) 4) ++ OW (t1) 1) ++ OW (t2) 8)) := ag;have nJ := hid (hg.same nH.out qW.out);have rz := hid (hg.fresh nH.out qW.out);have KQ := b0.same nJ.out
   have GN : ((((((((([7]) ++ OW (txn) 4) ++ OW (prev) 8) ++ OW (nT) 4) ++ OW (ak) 1) ++ PI bh k) ++ OW (t0) 4) ++ OW (t1) 1) ++ OW (t2) 8).length ≤ 313 := by rw [List.length_append]; have := O3 (t2) 8; omega
   clear ag hg
   have hS : Y1 wt := by exact ⟨t6.cell 0, t6.cell 1, t6.cell 2, t6.cell 3⟩
   refine hK.out _ _ (fun _ => hS) ?_;clear hK K
   try simp only [Sp]
   refine o1Q 12 (fun K hK => ?_);go_simp;refine (Ph _ ((((((((([7]) ++ OW (txn) 4) ++ OW (prev) 8) ++ OW (nT) 4) ++ OW (ak) 1) ++ PI bh k) ++ OW (t0) 4) ++ OW (t1) 1) ++ OW (t2) 8) (t3) 8 _ (by unfold IsI; omega) (by unfold IsI; omega) (by omega) vj.out).mono ?_;rintro e yT ⟨yS, zA, zL, rfl, ag, hg⟩;have Ao := (t6).kept hg.kept vW.out;have MX := (show Hid (¬ (Value.slice yS zA zL).ownBlock = some wr.heap.size) from fun e => (hg.own _ e).elim vW.out (fun h => by have h := Nat.lt_of_lt_of_le (t6).lt h; omega));have wu : Hid (Own 0 5 .u8 yT (.slice yS zA zL) (((((((((([7]) ++ OW (txn) 4) ++ OW (prev) 8) ++ OW (nT) 4) ++ OW (ak) 1) ++ PI bh k) ++ OW (t0) 4) ++ OW (t1) 1) ++ OW (t2) 8) ++ OW (t3) 8)) := ag;have qT := hid (hg.same nJ.out rz.out);have wO := hid (hg.fresh nJ.out rz.out);have K2 := b0.same qT.out
   have Hu : (((((((((([7]) ++ OW (txn) 4) ++ OW (prev) 8) ++ OW (nT) 4) ++ OW (ak) 1) ++ PI bh k) ++ OW (t0) 4) ++ OW (t1) 1) ++ OW (t2) 8) ++ OW (t3) 8).length ≤ 321 := by rw [List.length_append]; have := O3 (t3) 8; omega
   clear ag hg
   have hS : Y1 yT := by exact ⟨Ao.cell 0, Ao.cell 1, Ao.cell 2, Ao.cell 3⟩
   refine hK.out _ _ (fun _ => hS) ?_;clear hK K
   try simp only [Sp]
   refine tk 13 3 hS ?_;refine OZ ?_;go_wp2;go_roundw
   case rel => exact ⟨k + 1, _, _, _, by omega, by go_num, rfl, by rw [Sg, vF.out]; simpa [Hid] using wu.out, wO, qT⟩
   case measure => simp [intOf]; omega
  ·obtain s6 : k = ak := by omega
   rw [s6] at HOr
   have nA : ((((((([7]) ++ OW (txn) 4) ++ OW (prev) 8) ++ OW (nT) 4) ++ OW (ak) 1) ++ PI bh ak)).length ≤ 289 := by rw [List.length_append]; have := R8 bh ak; omega
   have Ou := br.c12
   go_wp2_with fail
   refine (Ph _ ((((((([7]) ++ OW (txn) 4) ++ OW (prev) 8) ++ OW (nT) 4) ++ OW (ak) 1) ++ PI bh ak)) (aw) 1 _ (by unfold IsI; omega) (by unfold IsI; omega) (by omega) HOr.out).mono ?_;rintro e Fh ⟨CF, EW, EG, rfl, ag, hg⟩;have yU : Hid (Own 0 5 .u8 Fh (.slice CF EW EG) (((((((([7]) ++ OW (txn) 4) ++ OW (prev) 8) ++ OW (nT) 4) ++ OW (ak) 1) ++ PI bh ak)) ++ OW (aw) 1)) := ag;have rq := hid (hg.same cJ.out iW.out);have vY := hid (hg.fresh cJ.out iW.out);have JD := b0.same rq.out
   have FT : (((((((([7]) ++ OW (txn) 4) ++ OW (prev) 8) ++ OW (nT) 4) ++ OW (ak) 1) ++ PI bh ak)) ++ OW (aw) 1).length ≤ 297 := by rw [List.length_append]; have := O3 (aw) 1; omega
   clear ag hg;go_wp2
   go_loopw [3, 6] (fun v i wr => ∃ (k : Nat) (a : Option Addr) (n c : Nat), k ≤ aw ∧ i = Q1 k ∧ v = .slice a n c ∧ Hid (Own 0 5 .u8 wr (.slice a n c) ((((((((([7]) ++ OW (txn) 4) ++ OW (prev) 8) ++ OW (nT) 4) ++ OW (ak) 1) ++ PI bh ak)) ++ OW (aw) 1) ++ QK bw k)) ∧ Hid (∀ b, (Value.slice a n c).ownBlock = some b → (w.alloc (.cells #[Q1 7, Q1 txn, Q1 prev, Q1 page, Q1 slot, .bool bU, .slice ax aI.length ay, .bool aU, .slice ao aG.length al, Q1 uN, Q1 nT, .slice aJ ak aK, .slice aM aw aH, .slice aF aL.length aD] 28)).heap.size ≤ b) ∧ Hid (Same (w.alloc (.cells #[Q1 7, Q1 txn, Q1 prev, Q1 page, Q1 slot, .bool bU, .slice ax aI.length ay, .bool aU, .slice ao aG.length al, Q1 uN, Q1 nT, .slice aJ ak aK, .slice aM aw aH, .slice aF aL.length aD] 28)) wr)) (fun _ i _ => aw - (intOf i).toNat)
   case atStart => exact ⟨0, _, _, _, Nat.zero_le _, rfl, rfl, by rw [X6, List.append_nil]; exact yU, vY, rq⟩
   case round =>
    obtain ⟨ws, JB⟩ : ∃ ws, ws = wr := ⟨_, rfl⟩;subst JB;obtain ⟨k2, az, nz, cz, aj, rfl, rfl, EQ, Bh, vH⟩ := hrel;have bs := b0.same vH.out;have ds := bs.c12
    by_cases hlt2 : k2 < aw
    ·obtain ⟨yB, yo, JA, JZ, Ca⟩ := kQ.out (by omega)
     subst JA;obtain ⟨Mu, Ad⟩ := tD.out k2 hlt2;have KT : Hid (dyB bw k2 = OW (bw.getD (k2 * 2) 0) 2 ++ OW (bw.getD (k2 * 2 + 1) 0) 8) := rfl;have HQ := (show Hid (∀ wx, Same (w.alloc (.cells #[Q1 7, Q1 txn, Q1 prev, Q1 page, Q1 slot, .bool bU, .slice ax aI.length ay, .bool aU, .slice ao aG.length al, Q1 uN, Q1 nT, .slice aJ ak aK, .slice (some ⟨yB, yo, none⟩) aw aH, .slice aF aL.length aD] 28)) wx → D0 wx yB (yo + k2 * 2) (Q1 (bw.getD (k2 * 2) 0)) ∧ D0 wx yB (yo + k2 * 2 + 1) (Q1 (bw.getD (k2 * 2 + 1) 0))) from fun wx h => ⟨((kZ0.alloc _).trans h).cellOf (Ca (k2 * 2) (by omega)) id, by have h := ((kZ0.alloc _).trans h).cellOf (Ca (k2 * 2 + 1) (by omega)) id; simpa only [Nat.add_assoc] using h⟩);clear Ca;generalize bw.getD (k2 * 2) 0 = y0 at *;generalize bw.getD (k2 * 2 + 1) 0 = y1 at *
     have CZ : ((((((((([7]) ++ OW (txn) 4) ++ OW (prev) 8) ++ OW (nT) 4) ++ OW (ak) 1) ++ PI bh ak)) ++ OW (aw) 1) ++ QK bw k2).length ≤ 553 := by rw [List.length_append]; have := T9 bw k2; omega
     go_wp2_with fail
     let Y2 : World → Prop := fun wx => D0 wx w.heap.size 12 (.slice (some ⟨yB, yo, none⟩) aw aH) ∧ D0 wx yB (yo + k2 * 2) (Q1 y0) ∧ D0 wx yB (yo + k2 * 2 + 1) (Q1 y1)
     have hS : Y2 ws.drew := by exact ⟨bs.cell 12, HQ.out _ vH.out.drew⟩
     refine O0 Y2 99 16 ?_;refine tk 0 102 hS ?_;refine tk 1 103 hS ?_;refine tk 2 104 hS ?_;refine tk 3 105 hS ?_;refine tk 4 106 hS ?_;refine tk 5 107 hS ?_;refine tk 6 108 hS ?_;refine tk 8 110 hS ?_;refine tk 9 111 hS ?_;refine tk 10 112 hS ?_;refine tk 11 113 hS ?_;refine tk 12 114 hS ?_;refine tk 13 115 hS ?_;refine o1Q 7 (fun K hK => ?_);go_simp;refine (Ph _ ((((((((([7]) ++ OW (txn) 4) ++ OW (prev) 8) ++ OW (nT) 4) ++ OW (ak) 1) ++ PI bh ak)) ++ OW (aw) 1) ++ QK bw k2) (y0) 2 _ (by unfold IsI; omega) (by unfold IsI; omega) (by omega) (EQ.out.same kZ0.drew)).mono ?_;rintro e wX ⟨EE, EF, Du, rfl, ag, hg⟩;have wJ : Hid (Own 0 5 .u8 wX (.slice EE EF Du) (((((((((([7]) ++ OW (txn) 4) ++ OW (prev) 8) ++ OW (nT) 4) ++ OW (ak) 1) ++ PI bh ak)) ++ OW (aw) 1) ++ QK bw k2) ++ OW (y0) 2)) := ag;have jt := hid (hg.same vH.out.drew Bh.out);have qR := hid (hg.fresh vH.out.drew Bh.out);have MW := b0.same jt.out
     have Gy : (((((((((([7]) ++ OW (txn) 4) ++ OW (prev) 8) ++ OW (nT) 4) ++ OW (ak) 1) ++ PI bh ak)) ++ OW (aw) 1) ++ QK bw k2) ++ OW (y0) 2).length ≤ 561 := by rw [List.length_append]; have := O3 (y0) 2; omega
     clear ag hg
     have hS : Y2 wX := by exact ⟨(b0.same jt.out).cell 12, HQ.out _ jt.out⟩
     refine hK.out _ _ (fun _ => hS) ?_;clear hK K
     try simp only [Sp]
     refine o1Q 14 (fun K hK => ?_);go_simp;refine (Ph _ (((((((((([7]) ++ OW (txn) 4) ++ OW (prev) 8) ++ OW (nT) 4) ++ OW (ak) 1) ++ PI bh ak)) ++ OW (aw) 1) ++ QK bw k2) ++ OW (y0) 2) (y1) 8 _ (by unfold IsI; omega) (by unfold IsI; omega) (by omega) wJ.out).mono ?_;rintro e wh ⟨Ek, Dc, Cr, rfl, ag, hg⟩;have wv : Hid (Own 0 5 .u8 wh (.slice Ek Dc Cr) ((((((((((([7]) ++ OW (txn) 4) ++ OW (prev) 8) ++ OW (nT) 4) ++ OW (ak) 1) ++ PI bh ak)) ++ OW (aw) 1) ++ QK bw k2) ++ OW (y0) 2) ++ OW (y1) 8)) := ag;have kJ := hid (hg.same jt.out qR.out);have wA := hid (hg.fresh jt.out qR.out);have LW := b0.same kJ.out
     have GK : ((((((((((([7]) ++ OW (txn) 4) ++ OW (prev) 8) ++ OW (nT) 4) ++ OW (ak) 1) ++ PI bh ak)) ++ OW (aw) 1) ++ QK bw k2) ++ OW (y0) 2) ++ OW (y1) 8).length ≤ 569 := by rw [List.length_append]; have := O3 (y1) 8; omega
     clear ag hg
     have hS : Y2 wh := by exact ⟨(b0.same kJ.out).cell 12, HQ.out _ kJ.out⟩
     refine hK.out _ _ (fun _ => hS) ?_;clear hK K
     try simp only [Sp]
     refine tk 15 3 hS ?_;refine OZ ?_;go_wp2;go_roundw
     case rel => exact ⟨k2 + 1, _, _, _, by omega, by go_num, rfl, by rw [Si, KT.out]; simpa [Hid] using wv.out, wA, kJ⟩
     case measure => simp [intOf]; omega
    ·obtain ix : k2 = aw := by omega
     rw [ix] at EQ;go_wp2;go_ret;exact ⟨_, _, _, rfl, by have h := EQ.out; have e1 : ((bh.length : Int) / 4) = (ak : Int) := (by have := uA.out; omega); have e2 : ((bw.length : Int) / 2) = (aw : Int) := (by have := uB.out; omega); rw [uA.out, uB.out]; simpa [Pf, e1, e2] using h, fun b hb => by have := Bh.out b hb; simp at this; omega, (kZ0.alloc _).trans vH.out⟩
end Go.Proofs.YtapdfgkbhaoelaaGreatDoor
