import Derived.Test.YtapdfgkbhaoelaaGreatDoorG22
namespace Go.Proofs.YtapdfgkbhaoelaaGreatDoor
set_option maxRecDepth 100000
set_option maxHeartbeats 4000000
set_option linter.unusedVariables false
set_option linter.unusedSimpArgs false
open Go.RowKit
theorem jep (x : StLogRecord) (w : World) (hB : x.isB) (hn : x.szs ≤ 1073741824) (hv : StLogRecord.rd w x) (hk : x.kind = 8) (hz : O9 x.dat = 0) :
  Calls Tryz.prog 37 #[x.val] w fun e w' => ∃ aa nn cc, e = .returned (.slice aa nn cc) ∧ Own 0 5 .u8 w' (.slice aa nn cc) (Pe x.dat) ∧ (∀ b, (Value.slice aa nn cc).ownBlock = some b → w.heap.size ≤ b) ∧ Same w w' := by
 have hF := fun wx (h : Same w wx) => Qc x wx hB hn (StLogRecord.rd.same hv h);rw [hz] at hF;obtain ⟨kind, txn, prev, page, slot, ⟨bU, ⟨eS, ax, ay, aI⟩⟩, ⟨aU, ⟨eP, ao, al, aG⟩⟩, uN, nT, ⟨dI, aJ, ak, aK, bh⟩, ⟨dF, aM, aw, aH, bw⟩, ⟨eM, aF, aD, aL⟩⟩ := x;obtain ⟨cT, cN, dt, dw, df⟩ := hv;have fN : Hid (Rd .u8 w (.slice ax aI.length ay) aI) := cT;have gR : Hid (Rd .u8 w (.slice ao aG.length al) aG) := cN;have iS : Hid (Rd .u8 w (.slice aF aL.length aD) aL) := df;dsimp only at hk;subst hk;have hg := (show Pw 8 txn prev page slot bU aI aU aG uN nT bh bw aL = 0 from hz);obtain ⟨jG, jI, js, iK⟩ := VI hg;replace iK := Nat.le_of_eq iK
 have I7 : 0 ≤ txn ∧ txn ≤ 1 := by omega
 have wG : 0 ≤ prev ∧ prev ≤ 1 := by omega
 clear jG jI;simp only [StLogRecord.szs, StPageRecord.szs] at hn;clear hz hB cT cN dt dw df hg;dsimp only [StLogRecord.val, StPageRecord.val, BS.v, FR.v, Pe, StLogRecord.dat, StPageRecord.dat, Pq] at hF ⊢;have b0 := Blk.newL w [Q1 8, Q1 txn, Q1 prev, Q1 page, Q1 slot, .bool bU, .slice ax aI.length ay, .bool aU, .slice ao aG.length al, Q1 uN, Q1 nT, .slice aJ ak aK, .slice aM aw aH, .slice aF aL.length aD] 28;have hF := hF _ (kZ0.alloc (.cells #[Q1 8, Q1 txn, Q1 prev, Q1 page, Q1 slot, .bool bU, .slice ax aI.length ay, .bool aU, .slice ao aG.length al, Q1 uN, Q1 nT, .slice aJ ak aK, .slice aM aw aH, .slice aF aL.length aD] 28));have cU := (show w.heap.size + 1 = (w.alloc (.cells #[Q1 8, Q1 txn, Q1 prev, Q1 page, Q1 slot, .bool bU, .slice ax aI.length ay, .bool aU, .slice ao aG.length al, Q1 uN, Q1 nT, .slice aJ ak aK, .slice aM aw aH, .slice aF aL.length aD] 28)).heap.size from by simp)
 go_enter Tryz.func37, Tryz.ntmps37
 go_wp2_with (go_at_call 7; refine hF.mono ?_; rintro e w1 ⟨rfl, ah⟩; have aN : Hid (Same (w.alloc (.cells #[Q1 8, Q1 txn, Q1 prev, Q1 page, Q1 slot, .bool bU, .slice ax aI.length ay, .bool aU, .slice ao aG.length al, Q1 uN, Q1 nT, .slice aJ ak aK, .slice aM aw aH, .slice aF aL.length aD] 28)) w1) := ah; have b1 := b0.same aN.out; clear ah)
 have pM := aN.out.size;have aO : Hid (Same (w.alloc (.cells #[Q1 8, Q1 txn, Q1 prev, Q1 page, Q1 slot, .bool bU, .slice ax aI.length ay, .bool aU, .slice ao aG.length al, Q1 uN, Q1 nT, .slice aJ ak aK, .slice aM aw aH, .slice aF aL.length aD] 28)) (w1.drew.alloc (.cells #[.int .u8 8] 5))) := aN.out.drew.alloc _;have cG : Hid (Own 0 5 .u8 (w1.drew.alloc (.cells #[.int .u8 8] 5)) (.slice (some ⟨w1.heap.size, 0, none⟩) 1 1) [8]) := (show Blk (w1.drew.alloc (.cells #[.int .u8 8] 5)) w1.heap.size 5 (vals .u8 [8]) from Blk.new w1.drew #[.int .u8 8] 5).own (by unfold maxLen; simp);have fl := (show Hid (∀ b, (Value.slice (some ⟨w1.heap.size, 0, none⟩) 1 1).ownBlock = some b → (w.alloc (.cells #[Q1 8, Q1 txn, Q1 prev, Q1 page, Q1 slot, .bool bU, .slice ax aI.length ay, .bool aU, .slice ao aG.length al, Q1 uN, Q1 nT, .slice aJ ak aK, .slice aM aw aH, .slice aF aL.length aD] 28)).heap.size ≤ b) from fun b hb => by have hb : w1.heap.size = b := Option.some.inj hb; omega);have b2 := b0.same aO.out
 have je : ([8] : List Int).length ≤ 1 := by simp
 have hS : ((fun wx : World => D0 wx w.heap.size 0 (Q1 8) ∧ D0 wx w.heap.size 1 (Q1 txn) ∧ D0 wx w.heap.size 2 (Q1 prev))) w1.drew := by exact ⟨b1.cell 0, b1.cell 1, b1.cell 2⟩
 refine O0 ((fun wx : World => D0 wx w.heap.size 0 (Q1 8) ∧ D0 wx w.heap.size 1 (Q1 txn) ∧ D0 wx w.heap.size 2 (Q1 prev))) 99 11 ?_;refine tk 0 11 hS ?_;refine tk 1 12 hS ?_;refine tk 2 13 hS ?_;refine tk 4 15 hS ?_;refine tk 5 16 hS ?_;refine tk 7 18 hS ?_;refine tk 8 19 hS ?_;refine o1Q 3 (fun K hK => ?_);go_simp
 have hS : ((fun wx : World => D0 wx w.heap.size 0 (Q1 8) ∧ D0 wx w.heap.size 1 (Q1 txn) ∧ D0 wx w.heap.size 2 (Q1 prev))) (w1.drew.alloc (.cells #[.int .u8 8] 5)) := by exact ⟨b2.cell 0, b2.cell 1, b2.cell 2⟩
 refine hK.out _ _ (fun _ => hS) ?_;clear hK K
 try simp only [Sp]
 refine o1Q 6 (fun K hK => ?_);go_simp;refine (Ph _ ([8]) (txn) 4 _ (by unfold IsI; omega) (by unfold IsI; omega) (by omega) cG.out).mono ?_;rintro e gG ⟨jS, kf, jQ, rfl, ag, hg⟩;have eU : Hid (Own 0 5 .u8 gG (.slice jS kf jQ) (([8]) ++ OW (txn) 4)) := ag;have cm := hid (hg.same aO.out fl.out);have dd := hid (hg.fresh aO.out fl.out);have eX := b0.same cm.out
 have jX : (([8]) ++ OW (txn) 4).length ≤ 9 := by rw [List.length_append]; have := O3 (txn) 4; omega
 clear ag hg
 have hS : ((fun wx : World => D0 wx w.heap.size 0 (Q1 8) ∧ D0 wx w.heap.size 1 (Q1 txn) ∧ D0 wx w.heap.size 2 (Q1 prev))) gG := by exact ⟨eX.cell 0, eX.cell 1, eX.cell 2⟩
 refine hK.out _ _ (fun _ => hS) ?_;clear hK K
 try simp only [Sp]
 refine o1Q 9 (fun K hK => ?_);go_simp;refine (Ph _ (([8]) ++ OW (txn) 4) (prev) 8 _ (by unfold IsI; omega) (by unfold IsI; omega) (by omega) eU.out).mono ?_;rintro e fO ⟨kn, jU, jT, rfl, ag, hg⟩;have eW : Hid (Own 0 5 .u8 fO (.slice kn jU jT) ((([8]) ++ OW (txn) 4) ++ OW (prev) 8)) := ag;have cD := hid (hg.same cm.out dd.out);have dP := hid (hg.fresh cm.out dd.out);have cX := b0.same cD.out
 have j2 : ((([8]) ++ OW (txn) 4) ++ OW (prev) 8).length ≤ 17 := by rw [List.length_append]; have := O3 (prev) 8; omega
 clear ag hg
 have hS : ((fun wx : World => D0 wx w.heap.size 0 (Q1 8) ∧ D0 wx w.heap.size 1 (Q1 txn) ∧ D0 wx w.heap.size 2 (Q1 prev))) fO := by exact ⟨cX.cell 0, cX.cell 1, cX.cell 2⟩
 refine hK.out _ _ (fun _ => hS) ?_;clear hK K
 try simp only [Sp]
 refine tk 10 3 hS ?_;refine OZ ?_;have gx := cX.c0
 go_wp2_with fail
 have hS : ((fun wx : World => D0 wx w.heap.size 3 (Q1 page) ∧ D0 wx w.heap.size 13 (.slice aF aL.length aD))) fO.drew := by exact ⟨cX.cell 3, cX.cell 13⟩
 refine O0 ((fun wx : World => D0 wx w.heap.size 3 (Q1 page) ∧ D0 wx w.heap.size 13 (.slice aF aL.length aD))) 99 8 ?_;refine tk 0 119 hS ?_;refine tk 1 120 hS ?_;refine tk 2 121 hS ?_;refine tk 4 123 hS ?_;refine tk 5 124 hS ?_;refine o1Q 3 (fun K hK => ?_);go_simp;refine (Ph _ ((([8]) ++ OW (txn) 4) ++ OW (prev) 8) (page) 2 _ (by unfold IsI; omega) (by unfold IsI; omega) (by omega) (eW.out.same kZ0.drew)).mono ?_;rintro e mw ⟨rr, rm, qN, rfl, ag, hg⟩;have jR : Hid (Own 0 5 .u8 mw (.slice rr rm qN) (((([8]) ++ OW (txn) 4) ++ OW (prev) 8) ++ OW (page) 2)) := ag;have eH := hid (hg.same cD.out.drew dP.out);have gL := hid (hg.fresh cD.out.drew dP.out);have nG := b0.same eH.out
 have rJ : (((([8]) ++ OW (txn) 4) ++ OW (prev) 8) ++ OW (page) 2).length ≤ 25 := by rw [List.length_append]; have := O3 (page) 2; omega
 clear ag hg
 have hS : ((fun wx : World => D0 wx w.heap.size 3 (Q1 page) ∧ D0 wx w.heap.size 13 (.slice aF aL.length aD))) mw := by exact ⟨nG.cell 3, nG.cell 13⟩
 refine hK.out _ _ (fun _ => hS) ?_;clear hK K
 try simp only [Sp]
 refine o1Q 6 (fun K hK => ?_);refine Tk (by rfl) (.tmp 122) (.tmp 124) (by rfl) (.slice rr rm qN) (.slice aF aL.length aD) (((([8]) ++ OW (txn) 4) ++ OW (prev) 8) ++ OW (page) 2) aL (by rfl) (by rfl) jR.out ((iS.out.same (kZ0.alloc _)).same eH.out) (by omega) ?_;intro tY sf rK ln ag hg;have kv : Hid (Own 0 5 .u8 ln (.slice tY sf rK) ((((([8]) ++ OW (txn) 4) ++ OW (prev) 8) ++ OW (page) 2) ++ aL)) := ag;have eY := hid (hg.same eH.out gL.out);have gP := hid (hg.fresh eH.out gL.out);have jk := b0.same eY.out
 have sX : ((((([8]) ++ OW (txn) 4) ++ OW (prev) 8) ++ OW (page) 2) ++ aL).length ≤ 4121 := by rw [List.length_append]; skip; omega
 clear ag hg
 have hS : ((fun wx : World => D0 wx w.heap.size 3 (Q1 page) ∧ D0 wx w.heap.size 13 (.slice aF aL.length aD))) ln := by exact ⟨jk.cell 3, jk.cell 13⟩
 refine hK.out _ _ (fun _ => hS) ?_;clear hK K
 try simp only [Sp]
 refine tk 7 3 hS ?_;refine OZ ?_;go_wp2;go_ret;exact ⟨_, _, _, rfl, by simpa [Pf] using kv.out, fun b hb => by have := gP.out b hb; simp at this; omega, (kZ0.alloc _).trans eY.out⟩
end Go.Proofs.YtapdfgkbhaoelaaGreatDoor
