import Derived.Test.YtapdfgkbhaoelaaGreatDoorG22
namespace Go.Proofs.YtapdfgkbhaoelaaGreatDoor
set_option maxRecDepth 100000
set_option maxHeartbeats 4000000
set_option linter.unusedVariables false
set_option linter.unusedSimpArgs false
open Go.RowKit
theorem jel (x : StLogRecord) (w : World) (hB : x.isB) (hn : x.szs ≤ 1073741824) (hv : StLogRecord.rd w x) (hk : x.kind = 3) (hz : O9 x.dat = 0) :
  Calls Tryz.prog 37 #[x.val] w fun e w' => ∃ aa nn cc, e = .returned (.slice aa nn cc) ∧ Own 0 5 .u8 w' (.slice aa nn cc) (Pe x.dat) ∧ (∀ b, (Value.slice aa nn cc).ownBlock = some b → w.heap.size ≤ b) ∧ Same w w' := by
 have hF := fun wx (h : Same w wx) => Qc x wx hB hn (StLogRecord.rd.same hv h);rw [hz] at hF;obtain ⟨kind, txn, prev, page, slot, ⟨bU, ⟨eS, ax, ay, aI⟩⟩, ⟨aU, ⟨eP, ao, al, aG⟩⟩, uN, nT, ⟨dI, aJ, ak, aK, bh⟩, ⟨dF, aM, aw, aH, bw⟩, ⟨eM, aF, aD, aL⟩⟩ := x;obtain ⟨cT, cN, dt, dw, df⟩ := hv;have fN : Hid (Rd .u8 w (.slice ax aI.length ay) aI) := cT;have gR : Hid (Rd .u8 w (.slice ao aG.length al) aG) := cN;have iS : Hid (Rd .u8 w (.slice aF aL.length aD) aL) := df;dsimp only at hk;subst hk;have hg := (show Pw 3 txn prev page slot bU aI aU aG uN nT bh bw aL = 0 from hz);obtain ⟨iX, gg⟩ := ZA hg;simp only [StLogRecord.szs, StPageRecord.szs] at hn;clear hz hB cT cN dt dw df hg;dsimp only [StLogRecord.val, StPageRecord.val, BS.v, FR.v, Pe, StLogRecord.dat, StPageRecord.dat, Pq] at hF ⊢;have b0 := Blk.newL w [Q1 3, Q1 txn, Q1 prev, Q1 page, Q1 slot, .bool bU, .slice ax aI.length ay, .bool aU, .slice ao aG.length al, Q1 uN, Q1 nT, .slice aJ ak aK, .slice aM aw aH, .slice aF aL.length aD] 28;have hF := hF _ (kZ0.alloc (.cells #[Q1 3, Q1 txn, Q1 prev, Q1 page, Q1 slot, .bool bU, .slice ax aI.length ay, .bool aU, .slice ao aG.length al, Q1 uN, Q1 nT, .slice aJ ak aK, .slice aM aw aH, .slice aF aL.length aD] 28));have cU := (show w.heap.size + 1 = (w.alloc (.cells #[Q1 3, Q1 txn, Q1 prev, Q1 page, Q1 slot, .bool bU, .slice ax aI.length ay, .bool aU, .slice ao aG.length al, Q1 uN, Q1 nT, .slice aJ ak aK, .slice aM aw aH, .slice aF aL.length aD] 28)).heap.size from by simp)
 go_enter Tryz.func37, Tryz.ntmps37
 go_wp2_with (go_at_call 7; refine hF.mono ?_; rintro e w1 ⟨rfl, ah⟩; have aN : Hid (Same (w.alloc (.cells #[Q1 3, Q1 txn, Q1 prev, Q1 page, Q1 slot, .bool bU, .slice ax aI.length ay, .bool aU, .slice ao aG.length al, Q1 uN, Q1 nT, .slice aJ ak aK, .slice aM aw aH, .slice aF aL.length aD] 28)) w1) := ah; have b1 := b0.same aN.out; clear ah)
 have pM := aN.out.size;have aO : Hid (Same (w.alloc (.cells #[Q1 3, Q1 txn, Q1 prev, Q1 page, Q1 slot, .bool bU, .slice ax aI.length ay, .bool aU, .slice ao aG.length al, Q1 uN, Q1 nT, .slice aJ ak aK, .slice aM aw aH, .slice aF aL.length aD] 28)) (w1.drew.alloc (.cells #[.int .u8 3] 5))) := aN.out.drew.alloc _;have cG : Hid (Own 0 5 .u8 (w1.drew.alloc (.cells #[.int .u8 3] 5)) (.slice (some ⟨w1.heap.size, 0, none⟩) 1 1) [3]) := (show Blk (w1.drew.alloc (.cells #[.int .u8 3] 5)) w1.heap.size 5 (vals .u8 [3]) from Blk.new w1.drew #[.int .u8 3] 5).own (by unfold maxLen; simp);have fl := (show Hid (∀ b, (Value.slice (some ⟨w1.heap.size, 0, none⟩) 1 1).ownBlock = some b → (w.alloc (.cells #[Q1 3, Q1 txn, Q1 prev, Q1 page, Q1 slot, .bool bU, .slice ax aI.length ay, .bool aU, .slice ao aG.length al, Q1 uN, Q1 nT, .slice aJ ak aK, .slice aM aw aH, .slice aF aL.length aD] 28)).heap.size ≤ b) from fun b hb => by have hb : w1.heap.size = b := Option.some.inj hb; omega);have b2 := b0.same aO.out
 have je : ([3] : List Int).length ≤ 1 := by simp
 let Y1 : World → Prop := fun wx => D0 wx w.heap.size 0 (Q1 3) ∧ D0 wx w.heap.size 1 (Q1 txn) ∧ D0 wx w.heap.size 2 (Q1 prev)
 have hS : Y1 w1.drew := by exact ⟨b1.cell 0, b1.cell 1, b1.cell 2⟩
 refine O0 Y1 99 11 ?_;refine tk 0 11 hS ?_;refine tk 1 12 hS ?_;refine tk 2 13 hS ?_;refine tk 4 15 hS ?_;refine tk 5 16 hS ?_;refine tk 7 18 hS ?_;refine tk 8 19 hS ?_;refine o1Q 3 (fun K hK => ?_);go_simp
 have hS : Y1 (w1.drew.alloc (.cells #[.int .u8 3] 5)) := by exact ⟨b2.cell 0, b2.cell 1, b2.cell 2⟩
 refine hK.out _ _ (fun _ => hS) ?_;clear hK K
 try simp only [Sp]
 refine o1Q 6 (fun K hK => ?_);go_simp;refine (Ph _ ([3]) (txn) 4 _ (by unfold IsI; omega) (by unfold IsI; omega) (by omega) cG.out).mono ?_;rintro e gG ⟨jS, kf, jQ, rfl, ag, hg⟩;have eU : Hid (Own 0 5 .u8 gG (.slice jS kf jQ) (([3]) ++ OW (txn) 4)) := ag;have cm := hid (hg.same aO.out fl.out);have dd := hid (hg.fresh aO.out fl.out);have eX := b0.same cm.out
 have jX : (([3]) ++ OW (txn) 4).length ≤ 9 := by rw [List.length_append]; have := O3 (txn) 4; omega
 clear ag hg
 have hS : Y1 gG := by exact ⟨eX.cell 0, eX.cell 1, eX.cell 2⟩
 refine hK.out _ _ (fun _ => hS) ?_;clear hK K
 try simp only [Sp]
 refine o1Q 9 (fun K hK => ?_);go_simp;refine (Ph _ (([3]) ++ OW (txn) 4) (prev) 8 _ (by unfold IsI; omega) (by unfold IsI; omega) (by omega) eU.out).mono ?_;rintro e fO ⟨kn, jU, jT, rfl, ag, hg⟩;have eW : Hid (Own 0 5 .u8 fO (.slice kn jU jT) ((([3]) ++ OW (txn) 4) ++ OW (prev) 8)) := ag;have cD := hid (hg.same cm.out dd.out);have dP := hid (hg.fresh cm.out dd.out);have cX := b0.same cD.out
 have j2 : ((([3]) ++ OW (txn) 4) ++ OW (prev) 8).length ≤ 17 := by rw [List.length_append]; have := O3 (prev) 8; omega
 clear ag hg
 have hS : Y1 fO := by exact ⟨cX.cell 0, cX.cell 1, cX.cell 2⟩
 refine hK.out _ _ (fun _ => hS) ?_;clear hK K
 try simp only [Sp]
 refine tk 10 3 hS ?_;refine OZ ?_;have gx := cX.c0;go_wp2;go_ret;exact ⟨_, _, _, rfl, by simpa [Pf] using eW.out, fun b hb => by have := dP.out b hb; simp at this; omega, (kZ0.alloc _).trans cD.out⟩
theorem jem (x : StLogRecord) (w : World) (hB : x.isB) (hn : x.szs ≤ 1073741824) (hv : StLogRecord.rd w x) (hk : x.kind = 4) (hz : O9 x.dat = 0) :
  Calls Tryz.prog 37 #[x.val] w fun e w' => ∃ aa nn cc, e = .returned (.slice aa nn cc) ∧ Own 0 5 .u8 w' (.slice aa nn cc) (Pe x.dat) ∧ (∀ b, (Value.slice aa nn cc).ownBlock = some b → w.heap.size ≤ b) ∧ Same w w' := by
 have hF := fun wx (h : Same w wx) => Qc x wx hB hn (StLogRecord.rd.same hv h);rw [hz] at hF;obtain ⟨kind, txn, prev, page, slot, ⟨bU, ⟨eS, ax, ay, aI⟩⟩, ⟨aU, ⟨eP, ao, al, aG⟩⟩, uN, nT, ⟨dI, aJ, ak, aK, bh⟩, ⟨dF, aM, aw, aH, bw⟩, ⟨eM, aF, aD, aL⟩⟩ := x;obtain ⟨cT, cN, dt, dw, df⟩ := hv;have fN : Hid (Rd .u8 w (.slice ax aI.length ay) aI) := cT;have gR : Hid (Rd .u8 w (.slice ao aG.length al) aG) := cN;have iS : Hid (Rd .u8 w (.slice aF aL.length aD) aL) := df;dsimp only at hk;subst hk;have hg := (show Pw 4 txn prev page slot bU aI aU aG uN nT bh bw aL = 0 from hz);obtain ⟨iX, gg⟩ := ZB hg;simp only [StLogRecord.szs, StPageRecord.szs] at hn;clear hz hB cT cN dt dw df hg;dsimp only [StLogRecord.val, StPageRecord.val, BS.v, FR.v, Pe, StLogRecord.dat, StPageRecord.dat, Pq] at hF ⊢;have b0 := Blk.newL w [Q1 4, Q1 txn, Q1 prev, Q1 page, Q1 slot, .bool bU, .slice ax aI.length ay, .bool aU, .slice ao aG.length al, Q1 uN, Q1 nT, .slice aJ ak aK, .slice aM aw aH, .slice aF aL.length aD] 28;have hF := hF _ (kZ0.alloc (.cells #[Q1 4, Q1 txn, Q1 prev, Q1 page, Q1 slot, .bool bU, .slice ax aI.length ay, .bool aU, .slice ao aG.length al, Q1 uN, Q1 nT, .slice aJ ak aK, .slice aM aw aH, .slice aF aL.length aD] 28));have cU := (show w.heap.size + 1 = (w.alloc (.cells #[Q1 4, Q1 txn, Q1 prev, Q1 page, Q1 slot, .bool bU, .slice ax aI.length ay, .bool aU, .slice ao aG.length al, Q1 uN, Q1 nT, .slice aJ ak aK, .slice aM aw aH, .slice aF aL.length aD] 28)).heap.size from by simp)
 go_enter Tryz.func37, Tryz.ntmps37
 go_wp2_with (go_at_call 7; refine hF.mono ?_; rintro e w1 ⟨rfl, ah⟩; have aN : Hid (Same (w.alloc (.cells #[Q1 4, Q1 txn, Q1 prev, Q1 page, Q1 slot, .bool bU, .slice ax aI.length ay, .bool aU, .slice ao aG.length al, Q1 uN, Q1 nT, .slice aJ ak aK, .slice aM aw aH, .slice aF aL.length aD] 28)) w1) := ah; have b1 := b0.same aN.out; clear ah)
 have pM := aN.out.size;have aO : Hid (Same (w.alloc (.cells #[Q1 4, Q1 txn, Q1 prev, Q1 page, Q1 slot, .bool bU, .slice ax aI.length ay, .bool aU, .slice ao aG.length al, Q1 uN, Q1 nT, .slice aJ ak aK, .slice aM aw aH, .slice aF aL.length aD] 28)) (w1.drew.alloc (.cells #[.int .u8 4] 5))) := aN.out.drew.alloc _;have cG : Hid (Own 0 5 .u8 (w1.drew.alloc (.cells #[.int .u8 4] 5)) (.slice (some ⟨w1.heap.size, 0, none⟩) 1 1) [4]) := (show Blk (w1.drew.alloc (.cells #[.int .u8 4] 5)) w1.heap.size 5 (vals .u8 [4]) from Blk.new w1.drew #[.int .u8 4] 5).own (by unfold maxLen; simp);have fl := (show Hid (∀ b, (Value.slice (some ⟨w1.heap.size, 0, none⟩) 1 1).ownBlock = some b → (w.alloc (.cells #[Q1 4, Q1 txn, Q1 prev, Q1 page, Q1 slot, .bool bU, .slice ax aI.length ay, .bool aU, .slice ao aG.length al, Q1 uN, Q1 nT, .slice aJ ak aK, .slice aM aw aH, .slice aF aL.length aD] 28)).heap.size ≤ b) from fun b hb => by have hb : w1.heap.size = b := Option.some.inj hb; omega);have b2 := b0.same aO.out
 have je : ([4] : List Int).length ≤ 1 := by simp
 let Y1 : World → Prop := fun wx => D0 wx w.heap.size 0 (Q1 4) ∧ D0 wx w.heap.size 1 (Q1 txn) ∧ D0 wx w.heap.size 2 (Q1 prev)
 have hS : Y1 w1.drew := by exact ⟨b1.cell 0, b1.cell 1, b1.cell 2⟩
 refine O0 Y1 99 11 ?_;refine tk 0 11 hS ?_;refine tk 1 12 hS ?_;refine tk 2 13 hS ?_;refine tk 4 15 hS ?_;refine tk 5 16 hS ?_;refine tk 7 18 hS ?_;refine tk 8 19 hS ?_;refine o1Q 3 (fun K hK => ?_);go_simp
 have hS : Y1 (w1.drew.alloc (.cells #[.int .u8 4] 5)) := by exact ⟨b2.cell 0, b2.cell 1, b2.cell 2⟩
 refine hK.out _ _ (fun _ => hS) ?_;clear hK K
 try simp only [Sp]
 refine o1Q 6 (fun K hK => ?_);go_simp;refine (Ph _ ([4]) (txn) 4 _ (by unfold IsI; omega) (by unfold IsI; omega) (by omega) cG.out).mono ?_;rintro e gG ⟨jS, kf, jQ, rfl, ag, hg⟩;have eU : Hid (Own 0 5 .u8 gG (.slice jS kf jQ) (([4]) ++ OW (txn) 4)) := ag;have cm := hid (hg.same aO.out fl.out);have dd := hid (hg.fresh aO.out fl.out);have eX := b0.same cm.out
 have jX : (([4]) ++ OW (txn) 4).length ≤ 9 := by rw [List.length_append]; have := O3 (txn) 4; omega
 clear ag hg
 have hS : Y1 gG := by exact ⟨eX.cell 0, eX.cell 1, eX.cell 2⟩
 refine hK.out _ _ (fun _ => hS) ?_;clear hK K
 try simp only [Sp]
 refine o1Q 9 (fun K hK => ?_);go_simp;refine (Ph _ (([4]) ++ OW (txn) 4) (prev) 8 _ (by unfold IsI; omega) (by unfold IsI; omega) (by omega) eU.out).mono ?_;rintro e fO ⟨kn, jU, jT, rfl, ag, hg⟩;have eW : Hid (Own 0 5 .u8 fO (.slice kn jU jT) ((([4]) ++ OW (txn) 4) ++ OW (prev) 8)) := ag;have cD := hid (hg.same cm.out dd.out);have dP := hid (hg.fresh cm.out dd.out);have cX := b0.same cD.out
 have j2 : ((([4]) ++ OW (txn) 4) ++ OW (prev) 8).length ≤ 17 := by rw [List.length_append]; have := O3 (prev) 8; omega
 clear ag hg
 have hS : Y1 fO := by exact ⟨cX.cell 0, cX.cell 1, cX.cell 2⟩
 refine hK.out _ _ (fun _ => hS) ?_;clear hK K
 try simp only [Sp]
 refine tk 10 3 hS ?_;refine OZ ?_;have gx := cX.c0;go_wp2;go_ret;exact ⟨_, _, _, rfl, by simpa [Pf] using eW.out, fun b hb => by have := dP.out b hb; simp at this; omega, (kZ0.alloc _).trans cD.out⟩
theorem jen (x : StLogRecord) (w : World) (hB : x.isB) (hn : x.szs ≤ 1073741824) (hv : StLogRecord.rd w x) (hk : x.kind = 5) (hz : O9 x.dat = 0) :
  Calls Tryz.prog 37 #[x.val] w fun e w' => ∃ aa nn cc, e = .returned (.slice aa nn cc) ∧ Own 0 5 .u8 w' (.slice aa nn cc) (Pe x.dat) ∧ (∀ b, (Value.slice aa nn cc).ownBlock = some b → w.heap.size ≤ b) ∧ Same w w' := by
 have hF := fun wx (h : Same w wx) => Qc x wx hB hn (StLogRecord.rd.same hv h);rw [hz] at hF;obtain ⟨kind, txn, prev, page, slot, ⟨bU, ⟨eS, ax, ay, aI⟩⟩, ⟨aU, ⟨eP, ao, al, aG⟩⟩, uN, nT, ⟨dI, aJ, ak, aK, bh⟩, ⟨dF, aM, aw, aH, bw⟩, ⟨eM, aF, aD, aL⟩⟩ := x;obtain ⟨cT, cN, dt, dw, df⟩ := hv;have fN : Hid (Rd .u8 w (.slice ax aI.length ay) aI) := cT;have gR : Hid (Rd .u8 w (.slice ao aG.length al) aG) := cN;have iS : Hid (Rd .u8 w (.slice aF aL.length aD) aL) := df;dsimp only at hk;subst hk;have hg := (show Pw 5 txn prev page slot bU aI aU aG uN nT bh bw aL = 0 from hz);obtain ⟨iX, gg⟩ := ZC hg;simp only [StLogRecord.szs, StPageRecord.szs] at hn;clear hz hB cT cN dt dw df hg;dsimp only [StLogRecord.val, StPageRecord.val, BS.v, FR.v, Pe, StLogRecord.dat, StPageRecord.dat, Pq] at hF ⊢;have b0 := Blk.newL w [Q1 5, Q1 txn, Q1 prev, Q1 page, Q1 slot, .bool bU, .slice ax aI.length ay, .bool aU, .slice ao aG.length al, Q1 uN, Q1 nT, .slice aJ ak aK, .slice aM aw aH, .slice aF aL.length aD] 28;have hF := hF _ (kZ0.alloc (.cells #[Q1 5, Q1 txn, Q1 prev, Q1 page, Q1 slot, .bool bU, .slice ax aI.length ay, .bool aU, .slice ao aG.length al, Q1 uN, Q1 nT, .slice aJ ak aK, .slice aM aw aH, .slice aF aL.length aD] 28));have cU := (show w.heap.size + 1 = (w.alloc (.cells #[Q1 5, Q1 txn, Q1 prev, Q1 page, Q1 slot, .bool bU, .slice ax aI.length ay, .bool aU, .slice ao aG.length al, Q1 uN, Q1 nT, .slice aJ ak aK, .slice aM aw aH, .slice aF aL.length aD] 28)).heap.size from by simp)
 go_enter Tryz.func37, Tryz.ntmps37
 go_wp2_with (go_at_call 7; refine hF.mono ?_; rintro e w1 ⟨rfl, ah⟩; have aN : Hid (Same (w.alloc (.cells #[Q1 5, Q1 txn, Q1 prev, Q1 page, Q1 slot, .bool bU, .slice ax aI.length ay, .bool aU, .slice ao aG.length al, Q1 uN, Q1 nT, .slice aJ ak aK, .slice aM aw aH, .slice aF aL.length aD] 28)) w1) := ah; have b1 := b0.same aN.out; clear ah)
 have pM := aN.out.size;have aO : Hid (Same (w.alloc (.cells #[Q1 5, Q1 txn, Q1 prev, Q1 page, Q1 slot, .bool bU, .slice ax aI.length ay, .bool aU, .slice ao aG.length al, Q1 uN, Q1 nT, .slice aJ ak aK, .slice aM aw aH, .slice aF aL.length aD] 28)) (w1.drew.alloc (.cells #[.int .u8 5] 5))) := aN.out.drew.alloc _;have cG : Hid (Own 0 5 .u8 (w1.drew.alloc (.cells #[.int .u8 5] 5)) (.slice (some ⟨w1.heap.size, 0, none⟩) 1 1) [5]) := (show Blk (w1.drew.alloc (.cells #[.int .u8 5] 5)) w1.heap.size 5 (vals .u8 [5]) from Blk.new w1.drew #[.int .u8 5] 5).own (by unfold maxLen; simp);have fl := (show Hid (∀ b, (Value.slice (some ⟨w1.heap.size, 0, none⟩) 1 1).ownBlock = some b → (w.alloc (.cells #[Q1 5, Q1 txn, Q1 prev, Q1 page, Q1 slot, .bool bU, .slice ax aI.length ay, .bool aU, .slice ao aG.length al, Q1 uN, Q1 nT, .slice aJ ak aK, .slice aM aw aH, .slice aF aL.length aD] 28)).heap.size ≤ b) from fun b hb => by have hb : w1.heap.size = b := Option.some.inj hb; omega);have b2 := b0.same aO.out
 have je : ([5] : List Int).length ≤ 1 := by simp
 let Y1 : World → Prop := fun wx => D0 wx w.heap.size 0 (Q1 5) ∧ D0 wx w.heap.size 1 (Q1 txn) ∧ D0 wx w.heap.size 2 (Q1 prev)
 have hS : Y1 w1.drew := by exact ⟨b1.cell 0, b1.cell 1, b1.cell 2⟩
 refine O0 Y1 99 11 ?_;refine tk 0 11 hS ?_;refine tk 1 12 hS ?_;refine tk 2 13 hS ?_;refine tk 4 15 hS ?_;refine tk 5 16 hS ?_;refine tk 7 18 hS ?_;refine tk 8 19 hS ?_;refine o1Q 3 (fun K hK => ?_);go_simp
 have hS : Y1 (w1.drew.alloc (.cells #[.int .u8 5] 5)) := by exact ⟨b2.cell 0, b2.cell 1, b2.cell 2⟩
 refine hK.out _ _ (fun _ => hS) ?_;clear hK K
 try simp only [Sp]
 refine o1Q 6 (fun K hK => ?_);go_simp;refine (Ph _ ([5]) (txn) 4 _ (by unfold IsI; omega) (by unfold IsI; omega) (by omega) cG.out).mono ?_;rintro e gG ⟨jS, kf, jQ, rfl, ag, hg⟩;have eU : Hid (Own 0 5 .u8 gG (.slice jS kf jQ) (([5]) ++ OW (txn) 4)) := ag;have cm := hid (hg.same aO.out fl.out);have dd := hid (hg.fresh aO.out fl.out);have eX := b0.same cm.out
 have jX : (([5]) ++ OW (txn) 4).length ≤ 9 := by rw [List.length_append]; have := O3 (txn) 4; omega
 clear ag hg
 have hS : Y1 gG := by exact ⟨eX.cell 0, eX.cell 1, eX.cell 2⟩
 refine hK.out _ _ (fun _ => hS) ?_;clear hK K
 try simp only [Sp]
 refine o1Q 9 (fun K hK => ?_);go_simp;refine (Ph _ (([5]) ++ OW (txn) 4) (prev) 8 _ (by unfold IsI; omega) (by unfold IsI; omega) (by omega) eU.out).mono ?_;rintro e fO ⟨kn, jU, jT, rfl, ag, hg⟩;have eW : Hid (Own 0 5 .u8 fO (.slice kn jU jT) ((([5]) ++ OW (txn) 4) ++ OW (prev) 8)) := ag;have cD := hid (hg.same cm.out dd.out);have dP := hid (hg.fresh cm.out dd.out);have cX := b0.same cD.out
 have j2 : ((([5]) ++ OW (txn) 4) ++ OW (prev) 8).length ≤ 17 := by rw [List.length_append]; have := O3 (prev) 8; omega
 clear ag hg
 have hS : Y1 fO := by exact ⟨cX.cell 0, cX.cell 1, cX.cell 2⟩
 refine hK.out _ _ (fun _ => hS) ?_;clear hK K
 try simp only [Sp]
 refine tk 10 3 hS ?_;refine OZ ?_;have gx := cX.c0;go_wp2;go_ret;exact ⟨_, _, _, rfl, by simpa [Pf] using eW.out, fun b hb => by have := dP.out b hb; simp at this; omega, (kZ0.alloc _).trans cD.out⟩
theorem jeo (x : StLogRecord) (w : World) (hB : x.isB) (hn : x.szs ≤ 1073741824) (hv : StLogRecord.rd w x) (hk : x.kind = 6) (hz : O9 x.dat = 0) :
  Calls Tryz.prog 37 #[x.val] w fun e w' => ∃ aa nn cc, e = .returned (.slice aa nn cc) ∧ Own 0 5 .u8 w' (.slice aa nn cc) (Pe x.dat) ∧ (∀ b, (Value.slice aa nn cc).ownBlock = some b → w.heap.size ≤ b) ∧ Same w w' := by
 have hF := fun wx (h : Same w wx) => Qc x wx hB hn (StLogRecord.rd.same hv h);rw [hz] at hF;obtain ⟨kind, txn, prev, page, slot, ⟨bU, ⟨eS, ax, ay, aI⟩⟩, ⟨aU, ⟨eP, ao, al, aG⟩⟩, uN, nT, ⟨dI, aJ, ak, aK, bh⟩, ⟨dF, aM, aw, aH, bw⟩, ⟨eM, aF, aD, aL⟩⟩ := x;obtain ⟨cT, cN, dt, dw, df⟩ := hv;have fN : Hid (Rd .u8 w (.slice ax aI.length ay) aI) := cT;have gR : Hid (Rd .u8 w (.slice ao aG.length al) aG) := cN;have iS : Hid (Rd .u8 w (.slice aF aL.length aD) aL) := df;dsimp only at hk;subst hk;have hg := (show Pw 6 txn prev page slot bU aI aU aG uN nT bh bw aL = 0 from hz);obtain ⟨jG, jI⟩ := ZE hg
 have I7 : 0 ≤ txn ∧ txn ≤ 1 := by omega
 have wG : 0 ≤ prev ∧ prev ≤ 1 := by omega
 clear jG jI;simp only [StLogRecord.szs, StPageRecord.szs] at hn;clear hz hB cT cN dt dw df hg;dsimp only [StLogRecord.val, StPageRecord.val, BS.v, FR.v, Pe, StLogRecord.dat, StPageRecord.dat, Pq] at hF ⊢;have b0 := Blk.newL w [Q1 6, Q1 txn, Q1 prev, Q1 page, Q1 slot, .bool bU, .slice ax aI.length ay, .bool aU, .slice ao aG.length al, Q1 uN, Q1 nT, .slice aJ ak aK, .slice aM aw aH, .slice aF aL.length aD] 28;have hF := hF _ (kZ0.alloc (.cells #[Q1 6, Q1 txn, Q1 prev, Q1 page, Q1 slot, .bool bU, .slice ax aI.length ay, .bool aU, .slice ao aG.length al, Q1 uN, Q1 nT, .slice aJ ak aK, .slice aM aw aH, .slice aF aL.length aD] 28));have cU := (show w.heap.size + 1 = (w.alloc (.cells #[Q1 6, Q1 txn, Q1 prev, Q1 page, Q1 slot, .bool bU, .slice ax aI.length ay, .bool aU, .slice ao aG.length al, Q1 uN, Q1 nT, .slice aJ ak aK, .slice aM aw aH, .slice aF aL.length aD] 28)).heap.size from by simp)
 go_enter Tryz.func37, Tryz.ntmps37
 go_wp2_with (go_at_call 7; refine hF.mono ?_; rintro e w1 ⟨rfl, ah⟩; have aN : Hid (Same (w.alloc (.cells #[Q1 6, Q1 txn, Q1 prev, Q1 page, Q1 slot, .bool bU, .slice ax aI.length ay, .bool aU, .slice ao aG.length al, Q1 uN, Q1 nT, .slice aJ ak aK, .slice aM aw aH, .slice aF aL.length aD] 28)) w1) := ah; have b1 := b0.same aN.out; clear ah)
 have pM := aN.out.size;have aO : Hid (Same (w.alloc (.cells #[Q1 6, Q1 txn, Q1 prev, Q1 page, Q1 slot, .bool bU, .slice ax aI.length ay, .bool aU, .slice ao aG.length al, Q1 uN, Q1 nT, .slice aJ ak aK, .slice aM aw aH, .slice aF aL.length aD] 28)) (w1.drew.alloc (.cells #[.int .u8 6] 5))) := aN.out.drew.alloc _;have cG : Hid (Own 0 5 .u8 (w1.drew.alloc (.cells #[.int .u8 6] 5)) (.slice (some ⟨w1.heap.size, 0, none⟩) 1 1) [6]) := (show Blk (w1.drew.alloc (.cells #[.int .u8 6] 5)) w1.heap.size 5 (vals .u8 [6]) from Blk.new w1.drew #[.int .u8 6] 5).own (by unfold maxLen; simp);have fl := (show Hid (∀ b, (Value.slice (some ⟨w1.heap.size, 0, none⟩) 1 1).ownBlock = some b → (w.alloc (.cells #[Q1 6, Q1 txn, Q1 prev, Q1 page, Q1 slot, .bool bU, .slice ax aI.length ay, .bool aU, .slice ao aG.length al, Q1 uN, Q1 nT, .slice aJ ak aK, .slice aM aw aH, .slice aF aL.length aD] 28)).heap.size ≤ b) from fun b hb => by have hb : w1.heap.size = b := Option.some.inj hb; omega);have b2 := b0.same aO.out
 have je : ([6] : List Int).length ≤ 1 := by simp
 let Y1 : World → Prop := fun wx => D0 wx w.heap.size 0 (Q1 6) ∧ D0 wx w.heap.size 1 (Q1 txn) ∧ D0 wx w.heap.size 2 (Q1 prev)
 have hS : Y1 w1.drew := by exact ⟨b1.cell 0, b1.cell 1, b1.cell 2⟩
 refine O0 Y1 99 11 ?_;refine tk 0 11 hS ?_;refine tk 1 12 hS ?_;refine tk 2 13 hS ?_;refine tk 4 15 hS ?_;refine tk 5 16 hS ?_;refine tk 7 18 hS ?_;refine tk 8 19 hS ?_;refine o1Q 3 (fun K hK => ?_);go_simp
 have hS : Y1 (w1.drew.alloc (.cells #[.int .u8 6] 5)) := by exact ⟨b2.cell 0, b2.cell 1, b2.cell 2⟩
 refine hK.out _ _ (fun _ => hS) ?_;clear hK K
 try simp only [Sp]
 refine o1Q 6 (fun K hK => ?_);go_simp;refine (Ph _ ([6]) (txn) 4 _ (by unfold IsI; omega) (by unfold IsI; omega) (by omega) cG.out).mono ?_;rintro e gG ⟨jS, kf, jQ, rfl, ag, hg⟩;have eU : Hid (Own 0 5 .u8 gG (.slice jS kf jQ) (([6]) ++ OW (txn) 4)) := ag;have cm := hid (hg.same aO.out fl.out);have dd := hid (hg.fresh aO.out fl.out);have eX := b0.same cm.out
 have jX : (([6]) ++ OW (txn) 4).length ≤ 9 := by rw [List.length_append]; have := O3 (txn) 4; omega
 clear ag hg
 have hS : Y1 gG := by exact ⟨eX.cell 0, eX.cell 1, eX.cell 2⟩
 refine hK.out _ _ (fun _ => hS) ?_;clear hK K
 try simp only [Sp]
 refine o1Q 9 (fun K hK => ?_);go_simp;refine (Ph _ (([6]) ++ OW (txn) 4) (prev) 8 _ (by unfold IsI; omega) (by unfold IsI; omega) (by omega) eU.out).mono ?_;rintro e fO ⟨kn, jU, jT, rfl, ag, hg⟩;have eW : Hid (Own 0 5 .u8 fO (.slice kn jU jT) ((([6]) ++ OW (txn) 4) ++ OW (prev) 8)) := ag;have cD := hid (hg.same cm.out dd.out);have dP := hid (hg.fresh cm.out dd.out);have cX := b0.same cD.out
 have j2 : ((([6]) ++ OW (txn) 4) ++ OW (prev) 8).length ≤ 17 := by rw [List.length_append]; have := O3 (prev) 8; omega
 clear ag hg
 have hS : Y1 fO := by exact ⟨cX.cell 0, cX.cell 1, cX.cell 2⟩
 refine hK.out _ _ (fun _ => hS) ?_;clear hK K
 try simp only [Sp]
 refine tk 10 3 hS ?_;refine OZ ?_;have gx := cX.c0;go_wp2;go_ret;exact ⟨_, _, _, rfl, by simpa [Pf] using eW.out, fun b hb => by have := dP.out b hb; simp at this; omega, (kZ0.alloc _).trans cD.out⟩
end Go.Proofs.YtapdfgkbhaoelaaGreatDoor
