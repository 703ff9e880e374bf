import Derived.Test.YtaojjcnmififoaaGreatG19
namespace Go.Proofs.YtaojjcnmififoaaGreat
set_option maxRecDepth 100000
set_option maxHeartbeats 4000000
set_option linter.unusedVariables false
set_option linter.unusedSimpArgs false
open Go.RowKit
theorem jff (x : StLogRecord) (w : World) (hB : x.isB) (hn : x.szs ≤ 1073741824) (hv : StLogRecord.rd w x) (hk : x.kind = 3) (hz : RJ x.dat = 0) :
  Calls Tryz.prog 66 #[x.val] w fun e w' => ∃ aa nn cc, e = .returned (.slice aa nn cc) ∧ Own 0 5 .u8 w' (.slice aa nn cc) (RD x.dat) ∧ (∀ b, (Value.slice aa nn cc).ownBlock = some b → w.heap.size ≤ b) ∧ Same w w' := by
 have hF := fun wx (h : Same w wx) => SA x wx hB hn (StLogRecord.rd.same hv h)
 rw [hz] at hF
 obtain ⟨kind, txn, prev, page, slot, ⟨bU, ⟨rO, bp, bq, aZ⟩⟩, ⟨aU, ⟨qn, bj, bk, aV⟩⟩, uN, nT, ⟨fZ, bT, aR, bV, cn⟩, ⟨fY, bX, a9, bW, dF⟩, ⟨rr, bw, bD, bd⟩⟩ := x
 obtain ⟨iS, ig, kZ, kO, jp⟩ := hv
 have pL := (show Hid (Rd .u8 w (.slice bp aZ.length bq) aZ) from iS)
 have np := (show Hid (Rd .u8 w (.slice bj aV.length bk) aV) from ig)
 have pX := (show Hid (Rd .u8 w (.slice bw bd.length bD) bd) from jp)
 dsimp only at hk
 subst hk
 have hg := (show RV 3 txn prev page slot bU aZ aU aV uN nT cn dF bd = 0 from hz)
 obtain ⟨nV, lm⟩ := jdK hg
 simp only [StLogRecord.szs, StPageRecord.szs] at hn
 clear hz hB iS ig kZ kO jp hg
 dsimp only [StLogRecord.val, StPageRecord.val, BS.v, FR.v, RD, StLogRecord.dat, StPageRecord.dat, RO] at hF ⊢
 have b0 := Blk.newL w [.int .i64 3, .int .i64 txn, .int .i64 prev, .int .i64 page, .int .i64 slot, .bool bU, .slice bp aZ.length bq, .bool aU, .slice bj aV.length bk, .int .i64 uN, .int .i64 nT, .slice bT aR bV, .slice bX a9 bW, .slice bw bd.length bD] 50
 have hF := hF _ (kZ0.alloc (.cells #[.int .i64 3, .int .i64 txn, .int .i64 prev, .int .i64 page, .int .i64 slot, .bool bU, .slice bp aZ.length bq, .bool aU, .slice bj aV.length bk, .int .i64 uN, .int .i64 nT, .slice bT aR bV, .slice bX a9 bW, .slice bw bd.length bD] 50))
 have jh := (show w.heap.size + 1 = (w.alloc (.cells #[.int .i64 3, .int .i64 txn, .int .i64 prev, .int .i64 page, .int .i64 slot, .bool bU, .slice bp aZ.length bq, .bool aU, .slice bj aV.length bk, .int .i64 uN, .int .i64 nT, .slice bT aR bV, .slice bX a9 bW, .slice bw bd.length bD] 50)).heap.size from by simp)
 go_enter Tryz.func66, Tryz.ntmps66
 go_wp2_with (go_at_call 64; refine hF.mono ?_; rintro e w1 ⟨rfl, aH⟩; have aM := (show Hid (Same (w.alloc (.cells #[.int .i64 3, .int .i64 txn, .int .i64 prev, .int .i64 page, .int .i64 slot, .bool bU, .slice bp aZ.length bq, .bool aU, .slice bj aV.length bk, .int .i64 uN, .int .i64 nT, .slice bT aR bV, .slice bX a9 bW, .slice bw bd.length bD] 50)) w1) from aH); have b1 := b0.same aM.out; clear aH)
 have vY := aM.out.size
 have aY := (show Hid (Same (w.alloc (.cells #[.int .i64 3, .int .i64 txn, .int .i64 prev, .int .i64 page, .int .i64 slot, .bool bU, .slice bp aZ.length bq, .bool aU, .slice bj aV.length bk, .int .i64 uN, .int .i64 nT, .slice bT aR bV, .slice bX a9 bW, .slice bw bd.length bD] 50)) (w1.drew.alloc (.cells #[.int .u8 3] 5))) from aM.out.drew.alloc _)
 have eF := (show Hid (Own 0 5 .u8 (w1.drew.alloc (.cells #[.int .u8 3] 5)) (.slice (some ⟨w1.heap.size, 0, none⟩) 1 1) [3]) from (show Blk (w1.drew.alloc (.cells #[.int .u8 3] 5)) w1.heap.size 5 (vals .u8 [3]) from Blk.new w1.drew #[.int .u8 3] 5).own (by unfold maxLen; simp))
 have gV := (show Hid (∀ b, (Value.slice (some ⟨w1.heap.size, 0, none⟩) 1 1).ownBlock = some b → (w.alloc (.cells #[.int .i64 3, .int .i64 txn, .int .i64 prev, .int .i64 page, .int .i64 slot, .bool bU, .slice bp aZ.length bq, .bool aU, .slice bj aV.length bk, .int .i64 uN, .int .i64 nT, .slice bT aR bV, .slice bX a9 bW, .slice bw bd.length bD] 50)).heap.size ≤ b) from fun b hb => by have hb : w1.heap.size = b := Option.some.inj hb; omega)
 have b2 := b0.same aY.out
 have nN : ([3] : List Int).length ≤ 1 := by simp
 let Y1 : World → Prop := fun wx : World => wx.cell? ⟨w.heap.size, 0, none⟩ = some (.int .i64 3) ∧ wx.cell? ⟨w.heap.size, 1, none⟩ = some (.int .i64 txn) ∧ wx.cell? ⟨w.heap.size, 2, none⟩ = some (.int .i64 prev)
 have hS : Y1 w1.drew := by exact ⟨b1.cell 0, b1.cell 1, b1.cell 2⟩
 refine Q9 Y1 99 11 rfl (by kernel_rfl) ?_
 refine tk 0 11 hS ?_
 refine tk 1 12 hS ?_
 refine tk 2 13 hS ?_
 refine tk 4 15 hS ?_
 refine tk 5 16 hS ?_
 refine tk 7 18 hS ?_
 refine tk 8 19 hS ?_
 refine o1Q 3 (fun K hK => ?_)
 go_simp
 have hS : Y1 (w1.drew.alloc (.cells #[.int .u8 3] 5)) := by exact ⟨b2.cell 0, b2.cell 1, b2.cell 2⟩
 refine hK.out _ _ (fun _ => hS) ?_
 clear hK K
 try simp only [Act.put, sA, s0, sS]
 refine o1Q 6 (fun K hK => ?_)
 go_simp
 refine (Rk _ ([3]) (txn) 4 _ (by unfold IsI; omega) (by unfold IsI; omega) (by omega) eF.out).mono ?_
 rintro e eu ⟨mb, lL, lF, rfl, aw, hg⟩
 have gI := (show Hid (Own 0 5 .u8 eu (.slice mb lL lF) (([3]) ++ Q6 (txn) 4)) from aw)
 have ey := hid (hg.same aY.out gV.out)
 have eZ := hid (hg.fresh aY.out gV.out)
 have gJ := b0.same ey.out
 have mo : (([3]) ++ Q6 (txn) 4).length ≤ 9 := by rw [List.length_append]; have := Ra (txn) 4; omega
 clear aw hg
 have hS : Y1 eu := by exact ⟨gJ.cell 0, gJ.cell 1, gJ.cell 2⟩
 refine hK.out _ _ (fun _ => hS) ?_
 clear hK K
 try simp only [Act.put, sA, s0, sS]
 refine o1Q 9 (fun K hK => ?_)
 go_simp
 refine (Rk _ (([3]) ++ Q6 (txn) 4) (prev) 8 _ (by unfold IsI; omega) (by unfold IsI; omega) (by omega) gI.out).mono ?_
 rintro e eV ⟨lB, mc, lD, rfl, aw, hg⟩
 have gO := (show Hid (Own 0 5 .u8 eV (.slice lB mc lD) ((([3]) ++ Q6 (txn) 4) ++ Q6 (prev) 8)) from aw)
 have eK := hid (hg.same ey.out eZ.out)
 have fJ := hid (hg.fresh ey.out eZ.out)
 have eY := b0.same eK.out
 have lA : ((([3]) ++ Q6 (txn) 4) ++ Q6 (prev) 8).length ≤ 17 := by rw [List.length_append]; have := Ra (prev) 8; omega
 clear aw hg
 have hS : Y1 eV := by exact ⟨eY.cell 0, eY.cell 1, eY.cell 2⟩
 refine hK.out _ _ (fun _ => hS) ?_
 clear hK K
 try simp only [Act.put, sA, s0, sS]
 refine tk 10 3 hS ?_
 refine Q8 (by kernel_rfl) ?_
 have jw := eY.c0
 go_wp2
 go_ret
 exact ⟨_, _, _, rfl, by simpa [Rv] using gO.out, fun b hb => by have := fJ.out b hb; simp at this; omega, (kZ0.alloc _).trans eK.out⟩
theorem jfg (x : StLogRecord) (w : World) (hB : x.isB) (hn : x.szs ≤ 1073741824) (hv : StLogRecord.rd w x) (hk : x.kind = 4) (hz : RJ x.dat = 0) :
  Calls Tryz.prog 66 #[x.val] w fun e w' => ∃ aa nn cc, e = .returned (.slice aa nn cc) ∧ Own 0 5 .u8 w' (.slice aa nn cc) (RD x.dat) ∧ (∀ b, (Value.slice aa nn cc).ownBlock = some b → w.heap.size ≤ b) ∧ Same w w' := by
 have hF := fun wx (h : Same w wx) => SA x wx hB hn (StLogRecord.rd.same hv h)
 rw [hz] at hF
 obtain ⟨kind, txn, prev, page, slot, ⟨bU, ⟨rO, bp, bq, aZ⟩⟩, ⟨aU, ⟨qn, bj, bk, aV⟩⟩, uN, nT, ⟨fZ, bT, aR, bV, cn⟩, ⟨fY, bX, a9, bW, dF⟩, ⟨rr, bw, bD, bd⟩⟩ := x
 obtain ⟨iS, ig, kZ, kO, jp⟩ := hv
 have pL := (show Hid (Rd .u8 w (.slice bp aZ.length bq) aZ) from iS)
 have np := (show Hid (Rd .u8 w (.slice bj aV.length bk) aV) from ig)
 have pX := (show Hid (Rd .u8 w (.slice bw bd.length bD) bd) from jp)
 dsimp only at hk
 subst hk
 have hg := (show RV 4 txn prev page slot bU aZ aU aV uN nT cn dF bd = 0 from hz)
 obtain ⟨nV, lm⟩ := jdL hg
 simp only [StLogRecord.szs, StPageRecord.szs] at hn
 clear hz hB iS ig kZ kO jp hg
 dsimp only [StLogRecord.val, StPageRecord.val, BS.v, FR.v, RD, StLogRecord.dat, StPageRecord.dat, RO] at hF ⊢
 have b0 := Blk.newL w [.int .i64 4, .int .i64 txn, .int .i64 prev, .int .i64 page, .int .i64 slot, .bool bU, .slice bp aZ.length bq, .bool aU, .slice bj aV.length bk, .int .i64 uN, .int .i64 nT, .slice bT aR bV, .slice bX a9 bW, .slice bw bd.length bD] 50
 have hF := hF _ (kZ0.alloc (.cells #[.int .i64 4, .int .i64 txn, .int .i64 prev, .int .i64 page, .int .i64 slot, .bool bU, .slice bp aZ.length bq, .bool aU, .slice bj aV.length bk, .int .i64 uN, .int .i64 nT, .slice bT aR bV, .slice bX a9 bW, .slice bw bd.length bD] 50))
 have jh := (show w.heap.size + 1 = (w.alloc (.cells #[.int .i64 4, .int .i64 txn, .int .i64 prev, .int .i64 page, .int .i64 slot, .bool bU, .slice bp aZ.length bq, .bool aU, .slice bj aV.length bk, .int .i64 uN, .int .i64 nT, .slice bT aR bV, .slice bX a9 bW, .slice bw bd.length bD] 50)).heap.size from by simp)
 go_enter Tryz.func66, Tryz.ntmps66
 go_wp2_with (go_at_call 64; refine hF.mono ?_; rintro e w1 ⟨rfl, aH⟩; have aM := (show Hid (Same (w.alloc (.cells #[.int .i64 4, .int .i64 txn, .int .i64 prev, .int .i64 page, .int .i64 slot, .bool bU, .slice bp aZ.length bq, .bool aU, .slice bj aV.length bk, .int .i64 uN, .int .i64 nT, .slice bT aR bV, .slice bX a9 bW, .slice bw bd.length bD] 50)) w1) from aH); have b1 := b0.same aM.out; clear aH)
 have vY := aM.out.size
 have aY := (show Hid (Same (w.alloc (.cells #[.int .i64 4, .int .i64 txn, .int .i64 prev, .int .i64 page, .int .i64 slot, .bool bU, .slice bp aZ.length bq, .bool aU, .slice bj aV.length bk, .int .i64 uN, .int .i64 nT, .slice bT aR bV, .slice bX a9 bW, .slice bw bd.length bD] 50)) (w1.drew.alloc (.cells #[.int .u8 4] 5))) from aM.out.drew.alloc _)
 have eF := (show Hid (Own 0 5 .u8 (w1.drew.alloc (.cells #[.int .u8 4] 5)) (.slice (some ⟨w1.heap.size, 0, none⟩) 1 1) [4]) from (show Blk (w1.drew.alloc (.cells #[.int .u8 4] 5)) w1.heap.size 5 (vals .u8 [4]) from Blk.new w1.drew #[.int .u8 4] 5).own (by unfold maxLen; simp))
 have gV := (show Hid (∀ b, (Value.slice (some ⟨w1.heap.size, 0, none⟩) 1 1).ownBlock = some b → (w.alloc (.cells #[.int .i64 4, .int .i64 txn, .int .i64 prev, .int .i64 page, .int .i64 slot, .bool bU, .slice bp aZ.length bq, .bool aU, .slice bj aV.length bk, .int .i64 uN, .int .i64 nT, .slice bT aR bV, .slice bX a9 bW, .slice bw bd.length bD] 50)).heap.size ≤ b) from fun b hb => by have hb : w1.heap.size = b := Option.some.inj hb; omega)
 have b2 := b0.same aY.out
 have nN : ([4] : List Int).length ≤ 1 := by simp
 let Y1 : World → Prop := fun wx : World => wx.cell? ⟨w.heap.size, 0, none⟩ = some (.int .i64 4) ∧ wx.cell? ⟨w.heap.size, 1, none⟩ = some (.int .i64 txn) ∧ wx.cell? ⟨w.heap.size, 2, none⟩ = some (.int .i64 prev)
 have hS : Y1 w1.drew := by exact ⟨b1.cell 0, b1.cell 1, b1.cell 2⟩
 refine Q9 Y1 99 11 rfl (by kernel_rfl) ?_
 refine tk 0 11 hS ?_
 refine tk 1 12 hS ?_
 refine tk 2 13 hS ?_
 refine tk 4 15 hS ?_
 refine tk 5 16 hS ?_
 refine tk 7 18 hS ?_
 refine tk 8 19 hS ?_
 refine o1Q 3 (fun K hK => ?_)
 go_simp
 have hS : Y1 (w1.drew.alloc (.cells #[.int .u8 4] 5)) := by exact ⟨b2.cell 0, b2.cell 1, b2.cell 2⟩
 refine hK.out _ _ (fun _ => hS) ?_
 clear hK K
 try simp only [Act.put, sA, s0, sS]
 refine o1Q 6 (fun K hK => ?_)
 go_simp
 refine (Rk _ ([4]) (txn) 4 _ (by unfold IsI; omega) (by unfold IsI; omega) (by omega) eF.out).mono ?_
 rintro e eu ⟨mb, lL, lF, rfl, aw, hg⟩
 have gI := (show Hid (Own 0 5 .u8 eu (.slice mb lL lF) (([4]) ++ Q6 (txn) 4)) from aw)
 have ey := hid (hg.same aY.out gV.out)
 have eZ := hid (hg.fresh aY.out gV.out)
 have gJ := b0.same ey.out
 have mo : (([4]) ++ Q6 (txn) 4).length ≤ 9 := by rw [List.length_append]; have := Ra (txn) 4; omega
 clear aw hg
 have hS : Y1 eu := by exact ⟨gJ.cell 0, gJ.cell 1, gJ.cell 2⟩
 refine hK.out _ _ (fun _ => hS) ?_
 clear hK K
 try simp only [Act.put, sA, s0, sS]
 refine o1Q 9 (fun K hK => ?_)
 go_simp
 refine (Rk _ (([4]) ++ Q6 (txn) 4) (prev) 8 _ (by unfold IsI; omega) (by unfold IsI; omega) (by omega) gI.out).mono ?_
 rintro e eV ⟨lB, mc, lD, rfl, aw, hg⟩
 have gO := (show Hid (Own 0 5 .u8 eV (.slice lB mc lD) ((([4]) ++ Q6 (txn) 4) ++ Q6 (prev) 8)) from aw)
 have eK := hid (hg.same ey.out eZ.out)
 have fJ := hid (hg.fresh ey.out eZ.out)
 have eY := b0.same eK.out
 have lA : ((([4]) ++ Q6 (txn) 4) ++ Q6 (prev) 8).length ≤ 17 := by rw [List.length_append]; have := Ra (prev) 8; omega
 clear aw hg
 have hS : Y1 eV := by exact ⟨eY.cell 0, eY.cell 1, eY.cell 2⟩
 refine hK.out _ _ (fun _ => hS) ?_
 clear hK K
 try simp only [Act.put, sA, s0, sS]
 refine tk 10 3 hS ?_
 refine Q8 (by kernel_rfl) ?_
 have jw := eY.c0
 go_wp2
 go_ret
 exact ⟨_, _, _, rfl, by simpa [Rv] using gO.out, fun b hb => by have := fJ.out b hb; simp at this; omega, (kZ0.alloc _).trans eK.out⟩
theorem jfh (x : StLogRecord) (w : World) (hB : x.isB) (hn : x.szs ≤ 1073741824) (hv : StLogRecord.rd w x) (hk : x.kind = 5) (hz : RJ x.dat = 0) :
  Calls Tryz.prog 66 #[x.val] w fun e w' => ∃ aa nn cc, e = .returned (.slice aa nn cc) ∧ Own 0 5 .u8 w' (.slice aa nn cc) (RD x.dat) ∧ (∀ b, (Value.slice aa nn cc).ownBlock = some b → w.heap.size ≤ b) ∧ Same w w' := by
 have hF := fun wx (h : Same w wx) => SA x wx hB hn (StLogRecord.rd.same hv h)
 rw [hz] at hF
 obtain ⟨kind, txn, prev, page, slot, ⟨bU, ⟨rO, bp, bq, aZ⟩⟩, ⟨aU, ⟨qn, bj, bk, aV⟩⟩, uN, nT, ⟨fZ, bT, aR, bV, cn⟩, ⟨fY, bX, a9, bW, dF⟩, ⟨rr, bw, bD, bd⟩⟩ := x
 obtain ⟨iS, ig, kZ, kO, jp⟩ := hv
 have pL := (show Hid (Rd .u8 w (.slice bp aZ.length bq) aZ) from iS)
 have np := (show Hid (Rd .u8 w (.slice bj aV.length bk) aV) from ig)
 have pX := (show Hid (Rd .u8 w (.slice bw bd.length bD) bd) from jp)
 dsimp only at hk
 subst hk
 have hg := (show RV 5 txn prev page slot bU aZ aU aV uN nT cn dF bd = 0 from hz)
 obtain ⟨nV, lm⟩ := jdM hg
 simp only [StLogRecord.szs, StPageRecord.szs] at hn
 clear hz hB iS ig kZ kO jp hg
 dsimp only [StLogRecord.val, StPageRecord.val, BS.v, FR.v, RD, StLogRecord.dat, StPageRecord.dat, RO] at hF ⊢
 have b0 := Blk.newL w [.int .i64 5, .int .i64 txn, .int .i64 prev, .int .i64 page, .int .i64 slot, .bool bU, .slice bp aZ.length bq, .bool aU, .slice bj aV.length bk, .int .i64 uN, .int .i64 nT, .slice bT aR bV, .slice bX a9 bW, .slice bw bd.length bD] 50
 have hF := hF _ (kZ0.alloc (.cells #[.int .i64 5, .int .i64 txn, .int .i64 prev, .int .i64 page, .int .i64 slot, .bool bU, .slice bp aZ.length bq, .bool aU, .slice bj aV.length bk, .int .i64 uN, .int .i64 nT, .slice bT aR bV, .slice bX a9 bW, .slice bw bd.length bD] 50))
 have jh := (show w.heap.size + 1 = (w.alloc (.cells #[.int .i64 5, .int .i64 txn, .int .i64 prev, .int .i64 page, .int .i64 slot, .bool bU, .slice bp aZ.length bq, .bool aU, .slice bj aV.length bk, .int .i64 uN, .int .i64 nT, .slice bT aR bV, .slice bX a9 bW, .slice bw bd.length bD] 50)).heap.size from by simp)
 go_enter Tryz.func66, Tryz.ntmps66
 go_wp2_with (go_at_call 64; refine hF.mono ?_; rintro e w1 ⟨rfl, aH⟩; have aM := (show Hid (Same (w.alloc (.cells #[.int .i64 5, .int .i64 txn, .int .i64 prev, .int .i64 page, .int .i64 slot, .bool bU, .slice bp aZ.length bq, .bool aU, .slice bj aV.length bk, .int .i64 uN, .int .i64 nT, .slice bT aR bV, .slice bX a9 bW, .slice bw bd.length bD] 50)) w1) from aH); have b1 := b0.same aM.out; clear aH)
 have vY := aM.out.size
 have aY := (show Hid (Same (w.alloc (.cells #[.int .i64 5, .int .i64 txn, .int .i64 prev, .int .i64 page, .int .i64 slot, .bool bU, .slice bp aZ.length bq, .bool aU, .slice bj aV.length bk, .int .i64 uN, .int .i64 nT, .slice bT aR bV, .slice bX a9 bW, .slice bw bd.length bD] 50)) (w1.drew.alloc (.cells #[.int .u8 5] 5))) from aM.out.drew.alloc _)
 have eF := (show Hid (Own 0 5 .u8 (w1.drew.alloc (.cells #[.int .u8 5] 5)) (.slice (some ⟨w1.heap.size, 0, none⟩) 1 1) [5]) from (show Blk (w1.drew.alloc (.cells #[.int .u8 5] 5)) w1.heap.size 5 (vals .u8 [5]) from Blk.new w1.drew #[.int .u8 5] 5).own (by unfold maxLen; simp))
 have gV := (show Hid (∀ b, (Value.slice (some ⟨w1.heap.size, 0, none⟩) 1 1).ownBlock = some b → (w.alloc (.cells #[.int .i64 5, .int .i64 txn, .int .i64 prev, .int .i64 page, .int .i64 slot, .bool bU, .slice bp aZ.length bq, .bool aU, .slice bj aV.length bk, .int .i64 uN, .int .i64 nT, .slice bT aR bV, .slice bX a9 bW, .slice bw bd.length bD] 50)).heap.size ≤ b) from fun b hb => by have hb : w1.heap.size = b := Option.some.inj hb; omega)
 have b2 := b0.same aY.out
 have nN : ([5] : List Int).length ≤ 1 := by simp
 let Y1 : World → Prop := fun wx : World => wx.cell? ⟨w.heap.size, 0, none⟩ = some (.int .i64 5) ∧ wx.cell? ⟨w.heap.size, 1, none⟩ = some (.int .i64 txn) ∧ wx.cell? ⟨w.heap.size, 2, none⟩ = some (.int .i64 prev)
 have hS : Y1 w1.drew := by exact ⟨b1.cell 0, b1.cell 1, b1.cell 2⟩
 refine Q9 Y1 99 11 rfl (by kernel_rfl) ?_
 refine tk 0 11 hS ?_
 refine tk 1 12 hS ?_
 refine tk 2 13 hS ?_
 refine tk 4 15 hS ?_
 refine tk 5 16 hS ?_
 refine tk 7 18 hS ?_
 refine tk 8 19 hS ?_
 refine o1Q 3 (fun K hK => ?_)
 go_simp
 have hS : Y1 (w1.drew.alloc (.cells #[.int .u8 5] 5)) := by exact ⟨b2.cell 0, b2.cell 1, b2.cell 2⟩
 refine hK.out _ _ (fun _ => hS) ?_
 clear hK K
 try simp only [Act.put, sA, s0, sS]
 refine o1Q 6 (fun K hK => ?_)
 go_simp
 refine (Rk _ ([5]) (txn) 4 _ (by unfold IsI; omega) (by unfold IsI; omega) (by omega) eF.out).mono ?_
 rintro e eu ⟨mb, lL, lF, rfl, aw, hg⟩
 have gI := (show Hid (Own 0 5 .u8 eu (.slice mb lL lF) (([5]) ++ Q6 (txn) 4)) from aw)
 have ey := hid (hg.same aY.out gV.out)
 have eZ := hid (hg.fresh aY.out gV.out)
 have gJ := b0.same ey.out
 have mo : (([5]) ++ Q6 (txn) 4).length ≤ 9 := by rw [List.length_append]; have := Ra (txn) 4; omega
 clear aw hg
 have hS : Y1 eu := by exact ⟨gJ.cell 0, gJ.cell 1, gJ.cell 2⟩
 refine hK.out _ _ (fun _ => hS) ?_
 clear hK K
 try simp only [Act.put, sA, s0, sS]
 refine o1Q 9 (fun K hK => ?_)
 go_simp
 refine (Rk _ (([5]) ++ Q6 (txn) 4) (prev) 8 _ (by unfold IsI; omega) (by unfold IsI; omega) (by omega) gI.out).mono ?_
 rintro e eV ⟨lB, mc, lD, rfl, aw, hg⟩
 have gO := (show Hid (Own 0 5 .u8 eV (.slice lB mc lD) ((([5]) ++ Q6 (txn) 4) ++ Q6 (prev) 8)) from aw)
 have eK := hid (hg.same ey.out eZ.out)
 have fJ := hid (hg.fresh ey.out eZ.out)
 have eY := b0.same eK.out
 have lA : ((([5]) ++ Q6 (txn) 4) ++ Q6 (prev) 8).length ≤ 17 := by rw [List.length_append]; have := Ra (prev) 8; omega
 clear aw hg
 have hS : Y1 eV := by exact ⟨eY.cell 0, eY.cell 1, eY.cell 2⟩
 refine hK.out _ _ (fun _ => hS) ?_
 clear hK K
 try simp only [Act.put, sA, s0, sS]
 refine tk 10 3 hS ?_
 refine Q8 (by kernel_rfl) ?_
 have jw := eY.c0
 go_wp2
 go_ret
 exact ⟨_, _, _, rfl, by simpa [Rv] using gO.out, fun b hb => by have := fJ.out b hb; simp at this; omega, (kZ0.alloc _).trans eK.out⟩
theorem jfi (x : StLogRecord) (w : World) (hB : x.isB) (hn : x.szs ≤ 1073741824) (hv : StLogRecord.rd w x) (hk : x.kind = 6) (hz : RJ x.dat = 0) :
  Calls Tryz.prog 66 #[x.val] w fun e w' => ∃ aa nn cc, e = .returned (.slice aa nn cc) ∧ Own 0 5 .u8 w' (.slice aa nn cc) (RD x.dat) ∧ (∀ b, (Value.slice aa nn cc).ownBlock = some b → w.heap.size ≤ b) ∧ Same w w' := by
 have hF := fun wx (h : Same w wx) => SA x wx hB hn (StLogRecord.rd.same hv h)
 rw [hz] at hF
 obtain ⟨kind, txn, prev, page, slot, ⟨bU, ⟨rO, bp, bq, aZ⟩⟩, ⟨aU, ⟨qn, bj, bk, aV⟩⟩, uN, nT, ⟨fZ, bT, aR, bV, cn⟩, ⟨fY, bX, a9, bW, dF⟩, ⟨rr, bw, bD, bd⟩⟩ := x
 obtain ⟨iS, ig, kZ, kO, jp⟩ := hv
 have pL := (show Hid (Rd .u8 w (.slice bp aZ.length bq) aZ) from iS)
 have np := (show Hid (Rd .u8 w (.slice bj aV.length bk) aV) from ig)
 have pX := (show Hid (Rd .u8 w (.slice bw bd.length bD) bd) from jp)
 dsimp only at hk
 subst hk
 have hg := (show RV 6 txn prev page slot bU aZ aU aV uN nT cn dF bd = 0 from hz)
 obtain ⟨uA, pS⟩ := jdN hg
 have JJ : 0 ≤ txn ∧ txn ≤ 1 := by omega
 have xq : 0 ≤ prev ∧ prev ≤ 1 := by omega
 clear uA pS
 simp only [StLogRecord.szs, StPageRecord.szs] at hn
 clear hz hB iS ig kZ kO jp hg
 dsimp only [StLogRecord.val, StPageRecord.val, BS.v, FR.v, RD, StLogRecord.dat, StPageRecord.dat, RO] at hF ⊢
 have b0 := Blk.newL w [.int .i64 6, .int .i64 txn, .int .i64 prev, .int .i64 page, .int .i64 slot, .bool bU, .slice bp aZ.length bq, .bool aU, .slice bj aV.length bk, .int .i64 uN, .int .i64 nT, .slice bT aR bV, .slice bX a9 bW, .slice bw bd.length bD] 50
 have hF := hF _ (kZ0.alloc (.cells #[.int .i64 6, .int .i64 txn, .int .i64 prev, .int .i64 page, .int .i64 slot, .bool bU, .slice bp aZ.length bq, .bool aU, .slice bj aV.length bk, .int .i64 uN, .int .i64 nT, .slice bT aR bV, .slice bX a9 bW, .slice bw bd.length bD] 50))
 have jh := (show w.heap.size + 1 = (w.alloc (.cells #[.int .i64 6, .int .i64 txn, .int .i64 prev, .int .i64 page, .int .i64 slot, .bool bU, .slice bp aZ.length bq, .bool aU, .slice bj aV.length bk, .int .i64 uN, .int .i64 nT, .slice bT aR bV, .slice bX a9 bW, .slice bw bd.length bD] 50)).heap.size from by simp)
 go_enter Tryz.func66, Tryz.ntmps66
 go_wp2_with (go_at_call 64; refine hF.mono ?_; rintro e w1 ⟨rfl, aH⟩; have aM := (show Hid (Same (w.alloc (.cells #[.int .i64 6, .int .i64 txn, .int .i64 prev, .int .i64 page, .int .i64 slot, .bool bU, .slice bp aZ.length bq, .bool aU, .slice bj aV.length bk, .int .i64 uN, .int .i64 nT, .slice bT aR bV, .slice bX a9 bW, .slice bw bd.length bD] 50)) w1) from aH); have b1 := b0.same aM.out; clear aH)
 have vY := aM.out.size
 have aY := (show Hid (Same (w.alloc (.cells #[.int .i64 6, .int .i64 txn, .int .i64 prev, .int .i64 page, .int .i64 slot, .bool bU, .slice bp aZ.length bq, .bool aU, .slice bj aV.length bk, .int .i64 uN, .int .i64 nT, .slice bT aR bV, .slice bX a9 bW, .slice bw bd.length bD] 50)) (w1.drew.alloc (.cells #[.int .u8 6] 5))) from aM.out.drew.alloc _)
 have eF := (show Hid (Own 0 5 .u8 (w1.drew.alloc (.cells #[.int .u8 6] 5)) (.slice (some ⟨w1.heap.size, 0, none⟩) 1 1) [6]) from (show Blk (w1.drew.alloc (.cells #[.int .u8 6] 5)) w1.heap.size 5 (vals .u8 [6]) from Blk.new w1.drew #[.int .u8 6] 5).own (by unfold maxLen; simp))
 have gV := (show Hid (∀ b, (Value.slice (some ⟨w1.heap.size, 0, none⟩) 1 1).ownBlock = some b → (w.alloc (.cells #[.int .i64 6, .int .i64 txn, .int .i64 prev, .int .i64 page, .int .i64 slot, .bool bU, .slice bp aZ.length bq, .bool aU, .slice bj aV.length bk, .int .i64 uN, .int .i64 nT, .slice bT aR bV, .slice bX a9 bW, .slice bw bd.length bD] 50)).heap.size ≤ b) from fun b hb => by have hb : w1.heap.size = b := Option.some.inj hb; omega)
 have b2 := b0.same aY.out
 have nN : ([6] : List Int).length ≤ 1 := by simp
 let Y1 : World → Prop := fun wx : World => wx.cell? ⟨w.heap.size, 0, none⟩ = some (.int .i64 6) ∧ wx.cell? ⟨w.heap.size, 1, none⟩ = some (.int .i64 txn) ∧ wx.cell? ⟨w.heap.size, 2, none⟩ = some (.int .i64 prev)
 have hS : Y1 w1.drew := by exact ⟨b1.cell 0, b1.cell 1, b1.cell 2⟩
 refine Q9 Y1 99 11 rfl (by kernel_rfl) ?_
 refine tk 0 11 hS ?_
 refine tk 1 12 hS ?_
 refine tk 2 13 hS ?_
 refine tk 4 15 hS ?_
 refine tk 5 16 hS ?_
 refine tk 7 18 hS ?_
 refine tk 8 19 hS ?_
 refine o1Q 3 (fun K hK => ?_)
 go_simp
 have hS : Y1 (w1.drew.alloc (.cells #[.int .u8 6] 5)) := by exact ⟨b2.cell 0, b2.cell 1, b2.cell 2⟩
 refine hK.out _ _ (fun _ => hS) ?_
 clear hK K
 try simp only [Act.put, sA, s0, sS]
 refine o1Q 6 (fun K hK => ?_)
 go_simp
 refine (Rk _ ([6]) (txn) 4 _ (by unfold IsI; omega) (by unfold IsI; omega) (by omega) eF.out).mono ?_
 rintro e eu ⟨mb, lL, lF, rfl, aw, hg⟩
 have gI := (show Hid (Own 0 5 .u8 eu (.slice mb lL lF) (([6]) ++ Q6 (txn) 4)) from aw)
 have ey := hid (hg.same aY.out gV.out)
 have eZ := hid (hg.fresh aY.out gV.out)
 have gJ := b0.same ey.out
 have mo : (([6]) ++ Q6 (txn) 4).length ≤ 9 := by rw [List.length_append]; have := Ra (txn) 4; omega
 clear aw hg
 have hS : Y1 eu := by exact ⟨gJ.cell 0, gJ.cell 1, gJ.cell 2⟩
 refine hK.out _ _ (fun _ => hS) ?_
 clear hK K
 try simp only [Act.put, sA, s0, sS]
 refine o1Q 9 (fun K hK => ?_)
 go_simp
 refine (Rk _ (([6]) ++ Q6 (txn) 4) (prev) 8 _ (by unfold IsI; omega) (by unfold IsI; omega) (by omega) gI.out).mono ?_
 rintro e eV ⟨lB, mc, lD, rfl, aw, hg⟩
 have gO := (show Hid (Own 0 5 .u8 eV (.slice lB mc lD) ((([6]) ++ Q6 (txn) 4) ++ Q6 (prev) 8)) from aw)
 have eK := hid (hg.same ey.out eZ.out)
 have fJ := hid (hg.fresh ey.out eZ.out)
 have eY := b0.same eK.out
 have lA : ((([6]) ++ Q6 (txn) 4) ++ Q6 (prev) 8).length ≤ 17 := by rw [List.length_append]; have := Ra (prev) 8; omega
 clear aw hg
 have hS : Y1 eV := by exact ⟨eY.cell 0, eY.cell 1, eY.cell 2⟩
 refine hK.out _ _ (fun _ => hS) ?_
 clear hK K
 try simp only [Act.put, sA, s0, sS]
 refine tk 10 3 hS ?_
 refine Q8 (by kernel_rfl) ?_
 have jw := eY.c0
 go_wp2
 go_ret
 exact ⟨_, _, _, rfl, by simpa [Rv] using gO.out, fun b hb => by have := fJ.out b hb; simp at this; omega, (kZ0.alloc _).trans eK.out⟩
end Go.Proofs.YtaojjcnmififoaaGreat
