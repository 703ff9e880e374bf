import Derived.Test.YtaojjcnmififoaaGreatG19
namespace Go.Proofs.YtaojjcnmififoaaGreat
set_option maxRecDepth 100000
set_option maxHeartbeats 4000000
set_option linter.unusedVariables false
set_option linter.unusedSimpArgs false
open Go.RowKit
theorem jfe (x : StLogRecord) (w : World) (hB : x.isB) (hn : x.szs ≤ 1073741824) (hv : StLogRecord.rd w x) (hk : x.kind = 2) (hz : RJ x.dat = 0) :
  Calls Tryz.prog 66 #[x.val] w fun e w' => ∃ aa nn cc, e = .returned (.slice aa nn cc) ∧ Own 0 5 .u8 w' (.slice aa nn cc) (RD x.dat) ∧ (∀ b, (Value.slice aa nn cc).ownBlock = some b → w.heap.size ≤ b) ∧ Same w w' := by
 have hF := fun wx (h : Same w wx) => SA x wx hB hn (StLogRecord.rd.same hv h)
 rw [hz] at hF
 obtain ⟨kind, txn, prev, page, slot, ⟨bU, ⟨rO, bp, bq, aZ⟩⟩, ⟨aU, ⟨qn, bj, bk, aV⟩⟩, uN, nT, ⟨fZ, bT, aR, bV, cn⟩, ⟨fY, bX, a9, bW, dF⟩, ⟨rr, bw, bD, bd⟩⟩ := x
 obtain ⟨iS, ig, kZ, kO, jp⟩ := hv
 have pL := (show Hid (Rd .u8 w (.slice bp aZ.length bq) aZ) from iS)
 have np := (show Hid (Rd .u8 w (.slice bj aV.length bk) aV) from ig)
 have pX := (show Hid (Rd .u8 w (.slice bw bd.length bD) bd) from jp)
 dsimp only at hk
 subst hk
 have hg := (show RV 2 txn prev page slot bU aZ aU aV uN nT cn dF bd = 0 from hz)
 obtain ⟨⟨nV, lm⟩, ⟨xr, pN⟩, cN, dL⟩ := jdJ hg
 simp only [StLogRecord.szs, StPageRecord.szs] at hn
 clear hz hB iS ig kZ kO jp hg
 dsimp only [StLogRecord.val, StPageRecord.val, BS.v, FR.v, RD, StLogRecord.dat, StPageRecord.dat, RO] at hF ⊢
 have b0 := Blk.newL w [.int .i64 2, .int .i64 txn, .int .i64 prev, .int .i64 page, .int .i64 slot, .bool bU, .slice bp aZ.length bq, .bool aU, .slice bj aV.length bk, .int .i64 uN, .int .i64 nT, .slice bT aR bV, .slice bX a9 bW, .slice bw bd.length bD] 50
 have hF := hF _ (kZ0.alloc (.cells #[.int .i64 2, .int .i64 txn, .int .i64 prev, .int .i64 page, .int .i64 slot, .bool bU, .slice bp aZ.length bq, .bool aU, .slice bj aV.length bk, .int .i64 uN, .int .i64 nT, .slice bT aR bV, .slice bX a9 bW, .slice bw bd.length bD] 50))
 have jh := (show w.heap.size + 1 = (w.alloc (.cells #[.int .i64 2, .int .i64 txn, .int .i64 prev, .int .i64 page, .int .i64 slot, .bool bU, .slice bp aZ.length bq, .bool aU, .slice bj aV.length bk, .int .i64 uN, .int .i64 nT, .slice bT aR bV, .slice bX a9 bW, .slice bw bd.length bD] 50)).heap.size from by simp)
 go_enter Tryz.func66, Tryz.ntmps66
 go_wp2_with (go_at_call 64; refine hF.mono ?_; rintro e w1 ⟨rfl, aH⟩; have aM := (show Hid (Same (w.alloc (.cells #[.int .i64 2, .int .i64 txn, .int .i64 prev, .int .i64 page, .int .i64 slot, .bool bU, .slice bp aZ.length bq, .bool aU, .slice bj aV.length bk, .int .i64 uN, .int .i64 nT, .slice bT aR bV, .slice bX a9 bW, .slice bw bd.length bD] 50)) w1) from aH); have b1 := b0.same aM.out; clear aH)
 have vY := aM.out.size
 have aY := (show Hid (Same (w.alloc (.cells #[.int .i64 2, .int .i64 txn, .int .i64 prev, .int .i64 page, .int .i64 slot, .bool bU, .slice bp aZ.length bq, .bool aU, .slice bj aV.length bk, .int .i64 uN, .int .i64 nT, .slice bT aR bV, .slice bX a9 bW, .slice bw bd.length bD] 50)) (w1.drew.alloc (.cells #[.int .u8 2] 5))) from aM.out.drew.alloc _)
 have eF := (show Hid (Own 0 5 .u8 (w1.drew.alloc (.cells #[.int .u8 2] 5)) (.slice (some ⟨w1.heap.size, 0, none⟩) 1 1) [2]) from (show Blk (w1.drew.alloc (.cells #[.int .u8 2] 5)) w1.heap.size 5 (vals .u8 [2]) from Blk.new w1.drew #[.int .u8 2] 5).own (by unfold maxLen; simp))
 have gV := (show Hid (∀ b, (Value.slice (some ⟨w1.heap.size, 0, none⟩) 1 1).ownBlock = some b → (w.alloc (.cells #[.int .i64 2, .int .i64 txn, .int .i64 prev, .int .i64 page, .int .i64 slot, .bool bU, .slice bp aZ.length bq, .bool aU, .slice bj aV.length bk, .int .i64 uN, .int .i64 nT, .slice bT aR bV, .slice bX a9 bW, .slice bw bd.length bD] 50)).heap.size ≤ b) from fun b hb => by have hb : w1.heap.size = b := Option.some.inj hb; omega)
 have b2 := b0.same aY.out
 have nN : ([2] : List Int).length ≤ 1 := by simp
 let Y2 : World → Prop := fun wx : World => wx.cell? ⟨w.heap.size, 0, none⟩ = some (.int .i64 2) ∧ wx.cell? ⟨w.heap.size, 1, none⟩ = some (.int .i64 txn) ∧ wx.cell? ⟨w.heap.size, 2, none⟩ = some (.int .i64 prev)
 have hS : Y2 w1.drew := by exact ⟨b1.cell 0, b1.cell 1, b1.cell 2⟩
 refine Q9 Y2 99 11 rfl (by kernel_rfl) ?_
 refine tk 0 11 hS ?_
 refine tk 1 12 hS ?_
 refine tk 2 13 hS ?_
 refine tk 4 15 hS ?_
 refine tk 5 16 hS ?_
 refine tk 7 18 hS ?_
 refine tk 8 19 hS ?_
 refine o1Q 3 (fun K hK => ?_)
 go_simp
 have hS : Y2 (w1.drew.alloc (.cells #[.int .u8 2] 5)) := by exact ⟨b2.cell 0, b2.cell 1, b2.cell 2⟩
 refine hK.out _ _ (fun _ => hS) ?_
 clear hK K
 try simp only [Act.put, sA, s0, sS]
 refine o1Q 6 (fun K hK => ?_)
 go_simp
 refine (Rk _ ([2]) (txn) 4 _ (by unfold IsI; omega) (by unfold IsI; omega) (by omega) eF.out).mono ?_
 rintro e eu ⟨mb, lL, lF, rfl, aw, hg⟩
 have gI := (show Hid (Own 0 5 .u8 eu (.slice mb lL lF) (([2]) ++ Q6 (txn) 4)) from aw)
 have ey := hid (hg.same aY.out gV.out)
 have eZ := hid (hg.fresh aY.out gV.out)
 have gJ := b0.same ey.out
 have mo : (([2]) ++ Q6 (txn) 4).length ≤ 9 := by rw [List.length_append]; have := Ra (txn) 4; omega
 clear aw hg
 have hS : Y2 eu := by exact ⟨gJ.cell 0, gJ.cell 1, gJ.cell 2⟩
 refine hK.out _ _ (fun _ => hS) ?_
 clear hK K
 try simp only [Act.put, sA, s0, sS]
 refine o1Q 9 (fun K hK => ?_)
 go_simp
 refine (Rk _ (([2]) ++ Q6 (txn) 4) (prev) 8 _ (by unfold IsI; omega) (by unfold IsI; omega) (by omega) gI.out).mono ?_
 rintro e eV ⟨lB, mc, lD, rfl, aw, hg⟩
 have gO := (show Hid (Own 0 5 .u8 eV (.slice lB mc lD) ((([2]) ++ Q6 (txn) 4) ++ Q6 (prev) 8)) from aw)
 have eK := hid (hg.same ey.out eZ.out)
 have fJ := hid (hg.fresh ey.out eZ.out)
 have eY := b0.same eK.out
 have lA : ((([2]) ++ Q6 (txn) 4) ++ Q6 (prev) 8).length ≤ 17 := by rw [List.length_append]; have := Ra (prev) 8; omega
 clear aw hg
 have hS : Y2 eV := by exact ⟨eY.cell 0, eY.cell 1, eY.cell 2⟩
 refine hK.out _ _ (fun _ => hS) ?_
 clear hK K
 try simp only [Act.put, sA, s0, sS]
 refine tk 10 3 hS ?_
 refine Q8 (by kernel_rfl) ?_
 have jw := eY.c0
 go_wp2_with fail
 let Y3 : World → Prop := fun wx : World => wx.cell? ⟨w.heap.size, 3, none⟩ = some (.int .i64 page) ∧ wx.cell? ⟨w.heap.size, 4, none⟩ = some (.int .i64 slot)
 have hS : Y3 eV.drew := by exact ⟨eY.cell 3, eY.cell 4⟩
 refine Q9 Y3 99 8 rfl (by kernel_rfl) ?_
 refine tk 0 41 hS ?_
 refine tk 1 42 hS ?_
 refine tk 2 43 hS ?_
 refine tk 4 45 hS ?_
 refine tk 5 46 hS ?_
 refine o1Q 3 (fun K hK => ?_)
 go_simp
 refine (Rk _ ((([2]) ++ Q6 (txn) 4) ++ Q6 (prev) 8) (page) 2 _ (by unfold IsI; omega) (by unfold IsI; omega) (by omega) (gO.out.same kZ0.drew)).mono ?_
 rintro e jz ⟨ti, sL, sK, rfl, aw, hg⟩
 have lO := (show Hid (Own 0 5 .u8 jz (.slice ti sL sK) (((([2]) ++ Q6 (txn) 4) ++ Q6 (prev) 8) ++ Q6 (page) 2)) from aw)
 have gB := hid (hg.same eK.out.drew fJ.out)
 have jt := hid (hg.fresh eK.out.drew fJ.out)
 have oR := b0.same gB.out
 have uU : (((([2]) ++ Q6 (txn) 4) ++ Q6 (prev) 8) ++ Q6 (page) 2).length ≤ 25 := by rw [List.length_append]; have := Ra (page) 2; omega
 clear aw hg
 have hS : Y3 jz := by exact ⟨oR.cell 3, oR.cell 4⟩
 refine hK.out _ _ (fun _ => hS) ?_
 clear hK K
 try simp only [Act.put, sA, s0, sS]
 refine o1Q 6 (fun K hK => ?_)
 go_simp
 refine (Rk _ (((([2]) ++ Q6 (txn) 4) ++ Q6 (prev) 8) ++ Q6 (page) 2) (slot) 2 _ (by unfold IsI; omega) (by unfold IsI; omega) (by omega) lO.out).mono ?_
 rintro e nv ⟨uM, vE, uq, rfl, aw, hg⟩
 have mn := (show Hid (Own 0 5 .u8 nv (.slice uM vE uq) ((((([2]) ++ Q6 (txn) 4) ++ Q6 (prev) 8) ++ Q6 (page) 2) ++ Q6 (slot) 2)) from aw)
 have gM := hid (hg.same gB.out jt.out)
 have jk := hid (hg.fresh gB.out jt.out)
 have kv := b0.same gM.out
 have uh : ((((([2]) ++ Q6 (txn) 4) ++ Q6 (prev) 8) ++ Q6 (page) 2) ++ Q6 (slot) 2).length ≤ 33 := by rw [List.length_append]; have := Ra (slot) 2; omega
 clear aw hg
 have hS : Y3 nv := by exact ⟨kv.cell 3, kv.cell 4⟩
 refine hK.out _ _ (fun _ => hS) ?_
 clear hK K
 try simp only [Act.put, sA, s0, sS]
 refine tk 7 3 hS ?_
 refine Q8 (by kernel_rfl) ?_
 go_wp2_with fail
 let Y1 : World → Prop := fun wx : World => wx.cell? ⟨w.heap.size, 7, none⟩ = some (.bool aU) ∧ wx.cell? ⟨w.heap.size, 8, none⟩ = some (.slice bj aV.length bk) ∧ wx.cell? ⟨w.heap.size, 9, none⟩ = some (.int .i64 uN)
 have hS : Y1 nv.drew := by exact ⟨kv.cell 7, kv.cell 8, kv.cell 9⟩
 refine Q9 Y1 99 8 rfl (by kernel_rfl) ?_
 refine tk 0 48 hS ?_
 refine tk 1 49 hS ?_
 refine tk 2 50 hS ?_
 refine tk 4 52 hS ?_
 refine tk 5 53 hS ?_
 refine o1Q 3 (fun K hK => ?_)
 go_simp
 refine (U4 _ ((((([2]) ++ Q6 (txn) 4) ++ Q6 (prev) 8) ++ Q6 (page) 2) ++ Q6 (slot) 2) aU (.slice bj aV.length bk) (aV) _ (by omega) (by omega) (fun wx dG => (fun h => (np.out.same (kZ0.alloc _)).same h) (gM.out.drew.next dG (fun i hi e => by have := jk.out i e; omega))) (mn.out.same kZ0.drew)).mono ?_
 rintro e Aw ⟨FG, GH, Eh, rfl, aw, hg⟩
 have ub := (show Hid (Own 0 5 .u8 Aw (.slice FG GH Eh) (((((([2]) ++ Q6 (txn) 4) ++ Q6 (prev) 8) ++ Q6 (page) 2) ++ Q6 (slot) 2) ++ Ry aU (aV))) from aw)
 have kT := hid (hg.same gM.out.drew jk.out)
 have nA := hid (hg.fresh gM.out.drew jk.out)
 have tu := b0.same kT.out
 have DL : (((((([2]) ++ Q6 (txn) 4) ++ Q6 (prev) 8) ++ Q6 (page) 2) ++ Q6 (slot) 2) ++ Ry aU (aV)).length ≤ 1133 := by rw [List.length_append]; have := TF aU (aV); omega
 clear aw hg
 have hS : Y1 Aw := by exact ⟨tu.cell 7, tu.cell 8, tu.cell 9⟩
 refine hK.out _ _ (fun _ => hS) ?_
 clear hK K
 try simp only [Act.put, sA, s0, sS]
 refine o1Q 6 (fun K hK => ?_)
 go_simp
 refine (Rk _ (((((([2]) ++ Q6 (txn) 4) ++ Q6 (prev) 8) ++ Q6 (page) 2) ++ Q6 (slot) 2) ++ Ry aU (aV)) (uN) 8 _ (by unfold IsI; omega) (by unfold IsI; omega) (by omega) ub.out).mono ?_
 rintro e yD ⟨B7, Ff, C9, rfl, aw, hg⟩
 have vJ := (show Hid (Own 0 5 .u8 yD (.slice B7 Ff C9) ((((((([2]) ++ Q6 (txn) 4) ++ Q6 (prev) 8) ++ Q6 (page) 2) ++ Q6 (slot) 2) ++ Ry aU (aV)) ++ Q6 (uN) 8)) from aw)
 have oW := hid (hg.same kT.out nA.out)
 have vu := hid (hg.fresh kT.out nA.out)
 have tg := b0.same oW.out
 have DI : ((((((([2]) ++ Q6 (txn) 4) ++ Q6 (prev) 8) ++ Q6 (page) 2) ++ Q6 (slot) 2) ++ Ry aU (aV)) ++ Q6 (uN) 8).length ≤ 1141 := by rw [List.length_append]; have := Ra (uN) 8; omega
 clear aw hg
 have hS : Y1 yD := by exact ⟨tg.cell 7, tg.cell 8, tg.cell 9⟩
 refine hK.out _ _ (fun _ => hS) ?_
 clear hK K
 try simp only [Act.put, sA, s0, sS]
 refine tk 7 3 hS ?_
 refine Q8 (by kernel_rfl) ?_
 go_wp2
 go_ret
 exact ⟨_, _, _, rfl, by simpa [Rv] using vJ.out, fun b hb => by have := vu.out b hb; simp at this; omega, (kZ0.alloc _).trans oW.out⟩
end Go.Proofs.YtaojjcnmififoaaGreat
