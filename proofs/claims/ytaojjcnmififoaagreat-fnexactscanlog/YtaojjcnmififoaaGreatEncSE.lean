import Derived.Test.YtaojjcnmififoaaGreatG19
namespace Go.Proofs.YtaojjcnmififoaaGreat
set_option maxRecDepth 100000
set_option maxHeartbeats 4000000
set_option linter.unusedVariables false
set_option linter.unusedSimpArgs false
open Go.RowKit
theorem jfk (x : StLogRecord) (w : World) (hB : x.isB) (hn : x.szs ≤ 1073741824) (hv : StLogRecord.rd w x) (hk : x.kind = 7) (hz : RJ x.dat = 0) :
  Calls Tryz.prog 66 #[x.val] w fun e w' => ∃ aa nn cc, e = .returned (.slice aa nn cc) ∧ Own 0 5 .u8 w' (.slice aa nn cc) (RD x.dat) ∧ (∀ b, (Value.slice aa nn cc).ownBlock = some b → w.heap.size ≤ b) ∧ Same w w' := by
 have hF := fun wx (h : Same w wx) => SA x wx hB hn (StLogRecord.rd.same hv h)
 rw [hz] at hF
 obtain ⟨kind, txn, prev, page, slot, ⟨bU, ⟨rO, bp, bq, aZ⟩⟩, ⟨aU, ⟨qn, bj, bk, aV⟩⟩, uN, nT, ⟨fZ, bT, aR, bV, cn⟩, ⟨fY, bX, a9, bW, dF⟩, ⟨rr, bw, bD, bd⟩⟩ := x
 obtain ⟨iS, ig, kZ, kO, jp⟩ := hv
 have pL := (show Hid (Rd .u8 w (.slice bp aZ.length bq) aZ) from iS)
 have np := (show Hid (Rd .u8 w (.slice bj aV.length bk) aV) from ig)
 have pX := (show Hid (Rd .u8 w (.slice bw bd.length bD) bd) from jp)
 dsimp only at hk
 subst hk
 have hg := (show RV 7 txn prev page slot bU aZ aU aV uN nT cn dF bd = 0 from hz)
 obtain ⟨uA, pS, nV, lm, wH⟩ := jaX hg
 have JJ : 0 ≤ txn ∧ txn ≤ 1 := by omega
 have xq : 0 ≤ prev ∧ prev ≤ 1 := by omega
 clear uA pS
 have Pg := (show Hid (0 < aR → ∃ b off, bT = some ⟨b, off, none⟩ ∧ aR ≤ bV ∧ ∀ i, i < aR * 4 → w.cell? ⟨b, off + i, none⟩ = some (.int .i64 (cn.getD i 0))) from fun h0 => kZ.2.2.resolve_left (fun h => by dsimp only at h; omega))
 have m2 := (show Hid (0 < a9 → ∃ b off, bX = some ⟨b, off, none⟩ ∧ a9 ≤ bW ∧ ∀ i, i < a9 * 2 → w.cell? ⟨b, off + i, none⟩ = some (.int .i64 (dF.getD i 0))) from fun h0 => kO.2.2.resolve_left (fun h => by dsimp only at h; omega))
 have e1 : cn.length / 4 = aR := by have := kZ.2.1; dsimp only at this; omega
 have e2 : dF.length / 2 = a9 := by have := kO.2.1; dsimp only at this; omega
 rw [e1] at lm
 rw [e2] at wH
 obtain ⟨ql, pK⟩ := jb5 lm
 obtain ⟨ky, pP⟩ := jb6 wH
 have An := (show Hid (∀ i, i < aR → _) from pK)
 have uE := (show Hid (∀ i, i < a9 → _) from pP)
 have BJ := (show Hid (cn.length / 4 = aR) from e1)
 have Bu := (show Hid (dF.length / 2 = a9) from e2)
 clear e1 e2 pK pP lm wH
 simp only [StLogRecord.szs, StPageRecord.szs] at hn
 clear hz hB iS ig kZ kO jp hg
 dsimp only [StLogRecord.val, StPageRecord.val, BS.v, FR.v, RD, StLogRecord.dat, StPageRecord.dat, RO] at hF ⊢
 have b0 := Blk.newL w [.int .i64 7, .int .i64 txn, .int .i64 prev, .int .i64 page, .int .i64 slot, .bool bU, .slice bp aZ.length bq, .bool aU, .slice bj aV.length bk, .int .i64 uN, .int .i64 nT, .slice bT aR bV, .slice bX a9 bW, .slice bw bd.length bD] 50
 have hF := hF _ (kZ0.alloc (.cells #[.int .i64 7, .int .i64 txn, .int .i64 prev, .int .i64 page, .int .i64 slot, .bool bU, .slice bp aZ.length bq, .bool aU, .slice bj aV.length bk, .int .i64 uN, .int .i64 nT, .slice bT aR bV, .slice bX a9 bW, .slice bw bd.length bD] 50))
 have jh := (show w.heap.size + 1 = (w.alloc (.cells #[.int .i64 7, .int .i64 txn, .int .i64 prev, .int .i64 page, .int .i64 slot, .bool bU, .slice bp aZ.length bq, .bool aU, .slice bj aV.length bk, .int .i64 uN, .int .i64 nT, .slice bT aR bV, .slice bX a9 bW, .slice bw bd.length bD] 50)).heap.size from by simp)
 go_enter Tryz.func66, Tryz.ntmps66
 go_wp2_with (go_at_call 64; refine hF.mono ?_; rintro e w1 ⟨rfl, aH⟩; have aM := (show Hid (Same (w.alloc (.cells #[.int .i64 7, .int .i64 txn, .int .i64 prev, .int .i64 page, .int .i64 slot, .bool bU, .slice bp aZ.length bq, .bool aU, .slice bj aV.length bk, .int .i64 uN, .int .i64 nT, .slice bT aR bV, .slice bX a9 bW, .slice bw bd.length bD] 50)) w1) from aH); have b1 := b0.same aM.out; clear aH)
 have vY := aM.out.size
 have aY := (show Hid (Same (w.alloc (.cells #[.int .i64 7, .int .i64 txn, .int .i64 prev, .int .i64 page, .int .i64 slot, .bool bU, .slice bp aZ.length bq, .bool aU, .slice bj aV.length bk, .int .i64 uN, .int .i64 nT, .slice bT aR bV, .slice bX a9 bW, .slice bw bd.length bD] 50)) (w1.drew.alloc (.cells #[.int .u8 7] 5))) from aM.out.drew.alloc _)
 have eF := (show Hid (Own 0 5 .u8 (w1.drew.alloc (.cells #[.int .u8 7] 5)) (.slice (some ⟨w1.heap.size, 0, none⟩) 1 1) [7]) from (show Blk (w1.drew.alloc (.cells #[.int .u8 7] 5)) w1.heap.size 5 (vals .u8 [7]) from Blk.new w1.drew #[.int .u8 7] 5).own (by unfold maxLen; simp))
 have gV := (show Hid (∀ b, (Value.slice (some ⟨w1.heap.size, 0, none⟩) 1 1).ownBlock = some b → (w.alloc (.cells #[.int .i64 7, .int .i64 txn, .int .i64 prev, .int .i64 page, .int .i64 slot, .bool bU, .slice bp aZ.length bq, .bool aU, .slice bj aV.length bk, .int .i64 uN, .int .i64 nT, .slice bT aR bV, .slice bX a9 bW, .slice bw bd.length bD] 50)).heap.size ≤ b) from fun b hb => by have hb : w1.heap.size = b := Option.some.inj hb; omega)
 have b2 := b0.same aY.out
 have nN : ([7] : List Int).length ≤ 1 := by simp
 let Y3 : World → Prop := fun wx : World => wx.cell? ⟨w.heap.size, 0, none⟩ = some (.int .i64 7) ∧ wx.cell? ⟨w.heap.size, 1, none⟩ = some (.int .i64 txn) ∧ wx.cell? ⟨w.heap.size, 2, none⟩ = some (.int .i64 prev)
 have hS : Y3 w1.drew := by exact ⟨b1.cell 0, b1.cell 1, b1.cell 2⟩
 refine Q9 Y3 99 11 rfl (by kernel_rfl) ?_
 refine tk 0 11 hS ?_
 refine tk 1 12 hS ?_
 refine tk 2 13 hS ?_
 refine tk 4 15 hS ?_
 refine tk 5 16 hS ?_
 refine tk 7 18 hS ?_
 refine tk 8 19 hS ?_
 refine o1Q 3 (fun K hK => ?_)
 go_simp
 have hS : Y3 (w1.drew.alloc (.cells #[.int .u8 7] 5)) := by exact ⟨b2.cell 0, b2.cell 1, b2.cell 2⟩
 refine hK.out _ _ (fun _ => hS) ?_
 clear hK K
 try simp only [Act.put, sA, s0, sS]
 refine o1Q 6 (fun K hK => ?_)
 go_simp
 refine (Rk _ ([7]) (txn) 4 _ (by unfold IsI; omega) (by unfold IsI; omega) (by omega) eF.out).mono ?_
 rintro e eu ⟨mb, lL, lF, rfl, aw, hg⟩
 have gI := (show Hid (Own 0 5 .u8 eu (.slice mb lL lF) (([7]) ++ Q6 (txn) 4)) from aw)
 have ey := hid (hg.same aY.out gV.out)
 have eZ := hid (hg.fresh aY.out gV.out)
 have gJ := b0.same ey.out
 have mo : (([7]) ++ Q6 (txn) 4).length ≤ 9 := by rw [List.length_append]; have := Ra (txn) 4; omega
 clear aw hg
 have hS : Y3 eu := by exact ⟨gJ.cell 0, gJ.cell 1, gJ.cell 2⟩
 refine hK.out _ _ (fun _ => hS) ?_
 clear hK K
 try simp only [Act.put, sA, s0, sS]
 refine o1Q 9 (fun K hK => ?_)
 go_simp
 refine (Rk _ (([7]) ++ Q6 (txn) 4) (prev) 8 _ (by unfold IsI; omega) (by unfold IsI; omega) (by omega) gI.out).mono ?_
 rintro e eV ⟨lB, mc, lD, rfl, aw, hg⟩
 have gO := (show Hid (Own 0 5 .u8 eV (.slice lB mc lD) ((([7]) ++ Q6 (txn) 4) ++ Q6 (prev) 8)) from aw)
 have eK := hid (hg.same ey.out eZ.out)
 have fJ := hid (hg.fresh ey.out eZ.out)
 have eY := b0.same eK.out
 have lA : ((([7]) ++ Q6 (txn) 4) ++ Q6 (prev) 8).length ≤ 17 := by rw [List.length_append]; have := Ra (prev) 8; omega
 clear aw hg
 have hS : Y3 eV := by exact ⟨eY.cell 0, eY.cell 1, eY.cell 2⟩
 refine hK.out _ _ (fun _ => hS) ?_
 clear hK K
 try simp only [Act.put, sA, s0, sS]
 refine tk 10 3 hS ?_
 refine Q8 (by kernel_rfl) ?_
 have jw := eY.c0
 go_wp2_with fail
 let Y4 : World → Prop := fun wx : World => wx.cell? ⟨w.heap.size, 10, none⟩ = some (.int .i64 nT) ∧ wx.cell? ⟨w.heap.size, 11, none⟩ = some (.slice bT aR bV)
 have hS : Y4 eV.drew := by exact ⟨eY.cell 10, eY.cell 11⟩
 refine Q9 Y4 99 9 rfl (by kernel_rfl) ?_
 refine tk 0 57 hS ?_
 refine tk 1 58 hS ?_
 refine tk 2 59 hS ?_
 refine tk 4 61 hS ?_
 refine tk 5 62 hS ?_
 refine tk 6 63 hS ?_
 refine o1Q 3 (fun K hK => ?_)
 go_simp
 refine (Rk _ ((([7]) ++ Q6 (txn) 4) ++ Q6 (prev) 8) (nT) 4 _ (by unfold IsI; omega) (by unfold IsI; omega) (by omega) (gO.out.same kZ0.drew)).mono ?_
 rintro e jz ⟨ti, sL, sK, rfl, aw, hg⟩
 have lO := (show Hid (Own 0 5 .u8 jz (.slice ti sL sK) (((([7]) ++ Q6 (txn) 4) ++ Q6 (prev) 8) ++ Q6 (nT) 4)) from aw)
 have gB := hid (hg.same eK.out.drew fJ.out)
 have jt := hid (hg.fresh eK.out.drew fJ.out)
 have oR := b0.same gB.out
 have uU : (((([7]) ++ Q6 (txn) 4) ++ Q6 (prev) 8) ++ Q6 (nT) 4).length ≤ 25 := by rw [List.length_append]; have := Ra (nT) 4; omega
 clear aw hg
 have hS : Y4 jz := by exact ⟨oR.cell 10, oR.cell 11⟩
 refine hK.out _ _ (fun _ => hS) ?_
 clear hK K
 try simp only [Act.put, sA, s0, sS]
 refine o1Q 7 (fun K hK => ?_)
 go_simp
 refine (Rk _ (((([7]) ++ Q6 (txn) 4) ++ Q6 (prev) 8) ++ Q6 (nT) 4) (aR) 1 _ (by unfold IsI; omega) (by unfold IsI; omega) (by omega) lO.out).mono ?_
 rintro e nv ⟨uM, vE, uq, rfl, aw, hg⟩
 have mn := (show Hid (Own 0 5 .u8 nv (.slice uM vE uq) ((((([7]) ++ Q6 (txn) 4) ++ Q6 (prev) 8) ++ Q6 (nT) 4) ++ Q6 (aR) 1)) from aw)
 have gM := hid (hg.same gB.out jt.out)
 have jk := hid (hg.fresh gB.out jt.out)
 have kv := b0.same gM.out
 have uh : ((((([7]) ++ Q6 (txn) 4) ++ Q6 (prev) 8) ++ Q6 (nT) 4) ++ Q6 (aR) 1).length ≤ 33 := by rw [List.length_append]; have := Ra (aR) 1; omega
 clear aw hg
 have hS : Y4 nv := by exact ⟨kv.cell 10, kv.cell 11⟩
 refine hK.out _ _ (fun _ => hS) ?_
 clear hK K
 try simp only [Act.put, sA, s0, sS]
 refine tk 8 3 hS ?_
 refine Q8 (by kernel_rfl) ?_
 go_wp2_with fail
 go_loopw [3, 4, 5] (fun v i _ wr => ∃ (k : Nat) (a : Option Addr) (n c : Nat), k ≤ aR ∧ i = .int .i64 k ∧ v = .slice a n c ∧ Hid (Own 0 5 .u8 wr (.slice a n c) (((((([7]) ++ Q6 (txn) 4) ++ Q6 (prev) 8) ++ Q6 (nT) 4) ++ Q6 (aR) 1) ++ RG cn k)) ∧ Hid (∀ b, (Value.slice a n c).ownBlock = some b → (w.alloc (.cells #[.int .i64 7, .int .i64 txn, .int .i64 prev, .int .i64 page, .int .i64 slot, .bool bU, .slice bp aZ.length bq, .bool aU, .slice bj aV.length bk, .int .i64 uN, .int .i64 nT, .slice bT aR bV, .slice bX a9 bW, .slice bw bd.length bD] 50)).heap.size ≤ b) ∧ Hid (Same (w.alloc (.cells #[.int .i64 7, .int .i64 txn, .int .i64 prev, .int .i64 page, .int .i64 slot, .bool bU, .slice bp aZ.length bq, .bool aU, .slice bj aV.length bk, .int .i64 uN, .int .i64 nT, .slice bT aR bV, .slice bX a9 bW, .slice bw bd.length bD] 50)) wr)) (fun _ i _ _ => aR - (intOf i).toNat)
 case atStart => exact ⟨0, _, _, _, Nat.zero_le _, rfl, rfl, by rw [ZC, List.append_nil]; exact mn, jk, gM⟩
 case round =>
  obtain ⟨k, ar, nr, cr, hk, rfl, rfl, HOr, BV, dO⟩ := hrel
  have br := b0.same dO.out
  have dr := br.c11
  by_cases bH : k < aR
  ·obtain ⟨tB, tO, s7, zQ, kn⟩ := Pg.out (by omega)
   subst s7
   have q0 : wr.cell? ⟨tB, tO + k * 4, none⟩ = some (.int .i64 (cn.getD (k * 4) 0)) := by have h := ((kZ0.alloc _).trans dO.out).cellOf (kn (k * 4) (by omega)) id; simpa only [Nat.add_assoc] using h
   have q1 : wr.cell? ⟨tB, tO + k * 4 + 1, none⟩ = some (.int .i64 (cn.getD (k * 4 + 1) 0)) := by have h := ((kZ0.alloc _).trans dO.out).cellOf (kn (k * 4 + 1) (by omega)) id; simpa only [Nat.add_assoc] using h
   have q2 : wr.cell? ⟨tB, tO + k * 4 + 2, none⟩ = some (.int .i64 (cn.getD (k * 4 + 2) 0)) := by have h := ((kZ0.alloc _).trans dO.out).cellOf (kn (k * 4 + 2) (by omega)) id; simpa only [Nat.add_assoc] using h
   have q3 : wr.cell? ⟨tB, tO + k * 4 + 3, none⟩ = some (.int .i64 (cn.getD (k * 4 + 3) 0)) := by have h := ((kZ0.alloc _).trans dO.out).cellOf (kn (k * 4 + 3) (by omega)) id; simpa only [Nat.add_assoc] using h
   obtain ⟨Jz, Lm, P7, Fh⟩ := An.out k bH
   have zc := (show Hid (txB cn k = ((Q6 (cn.getD (k * 4) 0) 4 ++ Q6 (cn.getD (k * 4 + 1) 0) 1) ++ Q6 (cn.getD (k * 4 + 2) 0) 8) ++ Q6 (cn.getD (k * 4 + 3) 0) 8) from rfl)
   clear kn
   generalize cn.getD (k * 4) 0 = t0 at *
   generalize cn.getD (k * 4 + 1) 0 = t1 at *
   generalize cn.getD (k * 4 + 2) 0 = t2 at *
   generalize cn.getD (k * 4 + 3) 0 = t3 at *
   have ol : (((((([7]) ++ Q6 (txn) 4) ++ Q6 (prev) 8) ++ Q6 (nT) 4) ++ Q6 (aR) 1) ++ RG cn k).length ≤ 289 := by rw [List.length_append]; have := UX cn k; omega
   have be := br.alloc (.cells #[.int .i64 t0, .int .i64 t1, .int .i64 t2, .int .i64 t3] 96)
   have bt := Blk.new wr #[.int .i64 t0, .int .i64 t1, .int .i64 t2, .int .i64 t3] 96
   have bt : Blk (wr.alloc (.cells #[.int .i64 t0, .int .i64 t1, .int .i64 t2, .int .i64 t3] 96)) wr.heap.size 96 [.int .i64 t0, .int .i64 t1, .int .i64 t2, .int .i64 t3] := bt
   have BU := hid (dO.out.alloc (.cells #[.int .i64 t0, .int .i64 t1, .int .i64 t2, .int .i64 t3] 96))
   have QO := (show wr.heap.size + 1 = (wr.alloc (.cells #[.int .i64 t0, .int .i64 t1, .int .i64 t2, .int .i64 t3] 96)).heap.size from by simp)
   have Pt := br.lt
   have uo := (show Hid (¬ (Value.slice ar nr cr).ownBlock = some wr.heap.size) from fun e => by have := (HOr.out.lt _ e).2; omega)
   go_wp2_with fail
   let Y1 : World → Prop := fun wx : World => wx.cell? ⟨wr.heap.size, 0, none⟩ = some (.int .i64 t0) ∧ wx.cell? ⟨wr.heap.size, 1, none⟩ = some (.int .i64 t1) ∧ wx.cell? ⟨wr.heap.size, 2, none⟩ = some (.int .i64 t2) ∧ wx.cell? ⟨wr.heap.size, 3, none⟩ = some (.int .i64 t3)
   have hS : Y1 (wr.alloc (.cells #[.int .i64 t0, .int .i64 t1, .int .i64 t2, .int .i64 t3] 96)).drew := by exact ⟨bt.cell 0, bt.cell 1, bt.cell 2, bt.cell 3⟩
   refine Q9 Y1 99 14 rfl (by kernel_rfl) ?_
   refine tk 0 77 hS ?_
   refine tk 1 78 hS ?_
   refine tk 2 79 hS ?_
   refine tk 4 81 hS ?_
   refine tk 5 82 hS ?_
   refine tk 7 84 hS ?_
   refine tk 8 85 hS ?_
   refine tk 10 87 hS ?_
   refine tk 11 88 hS ?_
   refine o1Q 3 (fun K hK => ?_)
   go_simp
   refine (Rk _ (((((([7]) ++ Q6 (txn) 4) ++ Q6 (prev) 8) ++ Q6 (nT) 4) ++ Q6 (aR) 1) ++ RG cn k) (t0) 4 _ (by unfold IsI; omega) (by unfold IsI; omega) (by omega) (HOr.out.same ((kZ0.alloc _).drew))).mono ?_
   rintro e xO ⟨zM, yv, xY, rfl, aw, hg⟩
   have wS := (bt.drew).kept hg.kept uo.out
   have yN := (show Hid (¬ (Value.slice zM yv xY).ownBlock = some wr.heap.size) from fun e => (hg.own _ e).elim uo.out (fun h => by have h := Nat.lt_of_lt_of_le (bt.drew).lt h; omega))
   have xD := (show Hid (Own 0 5 .u8 xO (.slice zM yv xY) ((((((([7]) ++ Q6 (txn) 4) ++ Q6 (prev) 8) ++ Q6 (nT) 4) ++ Q6 (aR) 1) ++ RG cn k) ++ Q6 (t0) 4)) from aw)
   have oe := hid (hg.same BU.out.drew BV.out)
   have tj := hid (hg.fresh BU.out.drew BV.out)
   have NK := b0.same oe.out
   have KX : ((((((([7]) ++ Q6 (txn) 4) ++ Q6 (prev) 8) ++ Q6 (nT) 4) ++ Q6 (aR) 1) ++ RG cn k) ++ Q6 (t0) 4).length ≤ 297 := by rw [List.length_append]; have := Ra (t0) 4; omega
   clear aw hg
   have hS : Y1 xO := by exact ⟨wS.cell 0, wS.cell 1, wS.cell 2, wS.cell 3⟩
   refine hK.out _ _ (fun _ => hS) ?_
   clear hK K
   try simp only [Act.put, sA, s0, sS]
   refine o1Q 6 (fun K hK => ?_)
   go_simp
   refine (Rk _ ((((((([7]) ++ Q6 (txn) 4) ++ Q6 (prev) 8) ++ Q6 (nT) 4) ++ Q6 (aR) 1) ++ RG cn k) ++ Q6 (t0) 4) (t1) 1 _ (by unfold IsI; omega) (by unfold IsI; omega) (by omega) xD.out).mono ?_
   rintro e AJ ⟨yg, zN, AI, rfl, aw, hg⟩
   have wY := (wS).kept hg.kept yN.out
   have AQ := (show Hid (¬ (Value.slice yg zN AI).ownBlock = some wr.heap.size) from fun e => (hg.own _ e).elim yN.out (fun h => by have h := Nat.lt_of_lt_of_le (wS).lt h; omega))
   have xl := (show Hid (Own 0 5 .u8 AJ (.slice yg zN AI) (((((((([7]) ++ Q6 (txn) 4) ++ Q6 (prev) 8) ++ Q6 (nT) 4) ++ Q6 (aR) 1) ++ RG cn k) ++ Q6 (t0) 4) ++ Q6 (t1) 1)) from aw)
   have oB := hid (hg.same oe.out tj.out)
   have tl := hid (hg.fresh oe.out tj.out)
   have Nu := b0.same oB.out
   have J8 : (((((((([7]) ++ Q6 (txn) 4) ++ Q6 (prev) 8) ++ Q6 (nT) 4) ++ Q6 (aR) 1) ++ RG cn k) ++ Q6 (t0) 4) ++ Q6 (t1) 1).length ≤ 305 := by rw [List.length_append]; have := Ra (t1) 1; omega
   clear aw hg
   have hS : Y1 AJ := by exact ⟨wY.cell 0, wY.cell 1, wY.cell 2, wY.cell 3⟩
   refine hK.out _ _ (fun _ => hS) ?_
   clear hK K
   try simp only [Act.put, sA, s0, sS]
   refine o1Q 9 (fun K hK => ?_)
   go_simp
   refine (Rk _ (((((((([7]) ++ Q6 (txn) 4) ++ Q6 (prev) 8) ++ Q6 (nT) 4) ++ Q6 (aR) 1) ++ RG cn k) ++ Q6 (t0) 4) ++ Q6 (t1) 1) (t2) 8 _ (by unfold IsI; omega) (by unfold IsI; omega) (by omega) xl.out).mono ?_
   rintro e xj ⟨Aq, zp, zH, rfl, aw, hg⟩
   have wI := (wY).kept hg.kept AQ.out
   have yQ := (show Hid (¬ (Value.slice Aq zp zH).ownBlock = some wr.heap.size) from fun e => (hg.own _ e).elim AQ.out (fun h => by have h := Nat.lt_of_lt_of_le (wY).lt h; omega))
   have Ay := (show Hid (Own 0 5 .u8 xj (.slice Aq zp zH) ((((((((([7]) ++ Q6 (txn) 4) ++ Q6 (prev) 8) ++ Q6 (nT) 4) ++ Q6 (aR) 1) ++ RG cn k) ++ Q6 (t0) 4) ++ Q6 (t1) 1) ++ Q6 (t2) 8)) from aw)
   have om := hid (hg.same oB.out tl.out)
   have sC := hid (hg.fresh oB.out tl.out)
   have N4 := b0.same om.out
   have Jd : ((((((((([7]) ++ Q6 (txn) 4) ++ Q6 (prev) 8) ++ Q6 (nT) 4) ++ Q6 (aR) 1) ++ RG cn k) ++ Q6 (t0) 4) ++ Q6 (t1) 1) ++ Q6 (t2) 8).length ≤ 313 := by rw [List.length_append]; have := Ra (t2) 8; omega
   clear aw hg
   have hS : Y1 xj := by exact ⟨wI.cell 0, wI.cell 1, wI.cell 2, wI.cell 3⟩
   refine hK.out _ _ (fun _ => hS) ?_
   clear hK K
   try simp only [Act.put, sA, s0, sS]
   refine o1Q 12 (fun K hK => ?_)
   go_simp
   refine (Rk _ ((((((((([7]) ++ Q6 (txn) 4) ++ Q6 (prev) 8) ++ Q6 (nT) 4) ++ Q6 (aR) 1) ++ RG cn k) ++ Q6 (t0) 4) ++ Q6 (t1) 1) ++ Q6 (t2) 8) (t3) 8 _ (by unfold IsI; omega) (by unfold IsI; omega) (by omega) Ay.out).mono ?_
   rintro e yE ⟨Ad, xd, AC, rfl, aw, hg⟩
   have AZ := (wI).kept hg.kept yQ.out
   have M7 := (show Hid (¬ (Value.slice Ad xd AC).ownBlock = some wr.heap.size) from fun e => (hg.own _ e).elim yQ.out (fun h => by have h := Nat.lt_of_lt_of_le (wI).lt h; omega))
   have xQ := (show Hid (Own 0 5 .u8 yE (.slice Ad xd AC) (((((((((([7]) ++ Q6 (txn) 4) ++ Q6 (prev) 8) ++ Q6 (nT) 4) ++ Q6 (aR) 1) ++ RG cn k) ++ Q6 (t0) 4) ++ Q6 (t1) 1) ++ Q6 (t2) 8) ++ Q6 (t3) 8)) from aw)
   have sx := hid (hg.same om.out sC.out)
   have zI := hid (hg.fresh om.out sC.out)
   have NW := b0.same sx.out
   have IA : (((((((((([7]) ++ Q6 (txn) 4) ++ Q6 (prev) 8) ++ Q6 (nT) 4) ++ Q6 (aR) 1) ++ RG cn k) ++ Q6 (t0) 4) ++ Q6 (t1) 1) ++ Q6 (t2) 8) ++ Q6 (t3) 8).length ≤ 321 := by rw [List.length_append]; have := Ra (t3) 8; omega
   clear aw hg
   have hS : Y1 yE := by exact ⟨AZ.cell 0, AZ.cell 1, AZ.cell 2, AZ.cell 3⟩
   refine hK.out _ _ (fun _ => hS) ?_
   clear hK K
   try simp only [Act.put, sA, s0, sS]
   refine tk 13 3 hS ?_
   refine Q8 (by kernel_rfl) ?_
   go_wp2
   go_roundw
   case rel => exact ⟨k + 1, _, _, _, by omega, by go_num, rfl, by rw [UC, zc.out]; simpa [Hid] using xQ.out, zI, sx⟩
   case measure => simp [intOf]; omega
  ·obtain yG : k = aR := by omega
   rw [yG] at HOr
   have ol : ((((((([7]) ++ Q6 (txn) 4) ++ Q6 (prev) 8) ++ Q6 (nT) 4) ++ Q6 (aR) 1) ++ RG cn aR)).length ≤ 289 := by rw [List.length_append]; have := UX cn aR; omega
   have PG := br.c12
   go_wp2_with fail
   refine (Rk _ ((((((([7]) ++ Q6 (txn) 4) ++ Q6 (prev) 8) ++ Q6 (nT) 4) ++ Q6 (aR) 1) ++ RG cn aR)) (a9) 1 _ (by unfold IsI; omega) (by unfold IsI; omega) (by omega) HOr.out).mono ?_
   rintro e Ca ⟨Eu, FD, B5, rfl, aw, hg⟩
   have yk := (show Hid (Own 0 5 .u8 Ca (.slice Eu FD B5) (((((((([7]) ++ Q6 (txn) 4) ++ Q6 (prev) 8) ++ Q6 (nT) 4) ++ Q6 (aR) 1) ++ RG cn aR)) ++ Q6 (a9) 1)) from aw)
   have sO := hid (hg.same dO.out BV.out)
   have zP := hid (hg.fresh dO.out BV.out)
   have NB := b0.same sO.out
   have Ki : (((((((([7]) ++ Q6 (txn) 4) ++ Q6 (prev) 8) ++ Q6 (nT) 4) ++ Q6 (aR) 1) ++ RG cn aR)) ++ Q6 (a9) 1).length ≤ 297 := by rw [List.length_append]; have := Ra (a9) 1; omega
   clear aw hg
   go_wp2
   go_loopw [3, 6] (fun v i wr => ∃ (k : Nat) (a : Option Addr) (n c : Nat), k ≤ a9 ∧ i = .int .i64 k ∧ v = .slice a n c ∧ Hid (Own 0 5 .u8 wr (.slice a n c) ((((((((([7]) ++ Q6 (txn) 4) ++ Q6 (prev) 8) ++ Q6 (nT) 4) ++ Q6 (aR) 1) ++ RG cn aR)) ++ Q6 (a9) 1) ++ Tg dF k)) ∧ Hid (∀ b, (Value.slice a n c).ownBlock = some b → (w.alloc (.cells #[.int .i64 7, .int .i64 txn, .int .i64 prev, .int .i64 page, .int .i64 slot, .bool bU, .slice bp aZ.length bq, .bool aU, .slice bj aV.length bk, .int .i64 uN, .int .i64 nT, .slice bT aR bV, .slice bX a9 bW, .slice bw bd.length bD] 50)).heap.size ≤ b) ∧ Hid (Same (w.alloc (.cells #[.int .i64 7, .int .i64 txn, .int .i64 prev, .int .i64 page, .int .i64 slot, .bool bU, .slice bp aZ.length bq, .bool aU, .slice bj aV.length bk, .int .i64 uN, .int .i64 nT, .slice bT aR bV, .slice bX a9 bW, .slice bw bd.length bD] 50)) wr)) (fun _ i _ => a9 - (intOf i).toNat)
   case atStart => exact ⟨0, _, _, _, Nat.zero_le _, rfl, rfl, by rw [ZE, List.append_nil]; exact yk, zP, sO⟩
   case round =>
    obtain ⟨ws, OD⟩ : ∃ ws, ws = wr := ⟨_, rfl⟩
    subst OD
    obtain ⟨k2, az, nz, cz, aN, rfl, rfl, Gd, Gr, AH⟩ := hrel
    have bs := b0.same AH.out
    have ds := bs.c12
    by_cases hlt2 : k2 < a9
    ·obtain ⟨yB, yo, Lr, L4, oN⟩ := m2.out (by omega)
     subst Lr
     obtain ⟨Jz, Lm⟩ := uE.out k2 hlt2
     have lg := (show Hid (dyB dF k2 = Q6 (dF.getD (k2 * 2) 0) 2 ++ Q6 (dF.getD (k2 * 2 + 1) 0) 8) from rfl)
     have HQ := (show Hid (∀ wx, Same (w.alloc (.cells #[.int .i64 7, .int .i64 txn, .int .i64 prev, .int .i64 page, .int .i64 slot, .bool bU, .slice bp aZ.length bq, .bool aU, .slice bj aV.length bk, .int .i64 uN, .int .i64 nT, .slice bT aR bV, .slice (some ⟨yB, yo, none⟩) a9 bW, .slice bw bd.length bD] 50)) wx → wx.cell? ⟨yB, yo + k2 * 2, none⟩ = some (.int .i64 (dF.getD (k2 * 2) 0)) ∧ wx.cell? ⟨yB, yo + k2 * 2 + 1, none⟩ = some (.int .i64 (dF.getD (k2 * 2 + 1) 0))) from fun wx h => ⟨((kZ0.alloc _).trans h).cellOf (oN (k2 * 2) (by omega)) id, by have h := ((kZ0.alloc _).trans h).cellOf (oN (k2 * 2 + 1) (by omega)) id; simpa only [Nat.add_assoc] using h⟩)
     clear oN
     generalize dF.getD (k2 * 2) 0 = y0 at *
     generalize dF.getD (k2 * 2 + 1) 0 = y1 at *
     have Gs : ((((((((([7]) ++ Q6 (txn) 4) ++ Q6 (prev) 8) ++ Q6 (nT) 4) ++ Q6 (aR) 1) ++ RG cn aR)) ++ Q6 (a9) 1) ++ Tg dF k2).length ≤ 553 := by rw [List.length_append]; have := XC dF k2; omega
     go_wp2_with fail
     let Y2 : World → Prop := fun wx : World => wx.cell? ⟨w.heap.size, 12, none⟩ = some (.slice (some ⟨yB, yo, none⟩) a9 bW) ∧ wx.cell? ⟨yB, yo + k2 * 2, none⟩ = some (.int .i64 y0) ∧ wx.cell? ⟨yB, yo + k2 * 2 + 1, none⟩ = some (.int .i64 y1)
     have hS : Y2 ws.drew := by exact ⟨bs.cell 12, HQ.out _ AH.out.drew⟩
     refine Q9 Y2 99 16 rfl (by kernel_rfl) ?_
     refine tk 0 102 hS ?_
     refine tk 1 103 hS ?_
     refine tk 2 104 hS ?_
     refine tk 3 105 hS ?_
     refine tk 4 106 hS ?_
     refine tk 5 107 hS ?_
     refine tk 6 108 hS ?_
     refine tk 8 110 hS ?_
     refine tk 9 111 hS ?_
     refine tk 10 112 hS ?_
     refine tk 11 113 hS ?_
     refine tk 12 114 hS ?_
     refine tk 13 115 hS ?_
     refine o1Q 7 (fun K hK => ?_)
     go_simp
     refine (Rk _ ((((((((([7]) ++ Q6 (txn) 4) ++ Q6 (prev) 8) ++ Q6 (nT) 4) ++ Q6 (aR) 1) ++ RG cn aR)) ++ Q6 (a9) 1) ++ Tg dF k2) (y0) 2 _ (by unfold IsI; omega) (by unfold IsI; omega) (by omega) (Gd.out.same kZ0.drew)).mono ?_
     rintro e zx ⟨CC, Fa, CJ, rfl, aw, hg⟩
     have xE := (show Hid (Own 0 5 .u8 zx (.slice CC Fa CJ) (((((((((([7]) ++ Q6 (txn) 4) ++ Q6 (prev) 8) ++ Q6 (nT) 4) ++ Q6 (aR) 1) ++ RG cn aR)) ++ Q6 (a9) 1) ++ Tg dF k2) ++ Q6 (y0) 2)) from aw)
     have kW := hid (hg.same AH.out.drew Gr.out)
     have si := hid (hg.fresh AH.out.drew Gr.out)
     have OA := b0.same kW.out
     have Hk : (((((((((([7]) ++ Q6 (txn) 4) ++ Q6 (prev) 8) ++ Q6 (nT) 4) ++ Q6 (aR) 1) ++ RG cn aR)) ++ Q6 (a9) 1) ++ Tg dF k2) ++ Q6 (y0) 2).length ≤ 561 := by rw [List.length_append]; have := Ra (y0) 2; omega
     clear aw hg
     have hS : Y2 zx := by exact ⟨(b0.same kW.out).cell 12, HQ.out _ kW.out⟩
     refine hK.out _ _ (fun _ => hS) ?_
     clear hK K
     try simp only [Act.put, sA, s0, sS]
     refine o1Q 14 (fun K hK => ?_)
     go_simp
     refine (Rk _ (((((((((([7]) ++ Q6 (txn) 4) ++ Q6 (prev) 8) ++ Q6 (nT) 4) ++ Q6 (aR) 1) ++ RG cn aR)) ++ Q6 (a9) 1) ++ Tg dF k2) ++ Q6 (y0) 2) (y1) 8 _ (by unfold IsI; omega) (by unfold IsI; omega) (by omega) xE.out).mono ?_
     rintro e wZ ⟨Cm, Gb, GV, rfl, aw, hg⟩
     have xZ := (show Hid (Own 0 5 .u8 wZ (.slice Cm Gb GV) ((((((((((([7]) ++ Q6 (txn) 4) ++ Q6 (prev) 8) ++ Q6 (nT) 4) ++ Q6 (aR) 1) ++ RG cn aR)) ++ Q6 (a9) 1) ++ Tg dF k2) ++ Q6 (y0) 2) ++ Q6 (y1) 8)) from aw)
     have mZ := hid (hg.same kW.out si.out)
     have xT := hid (hg.fresh kW.out si.out)
     have MR := b0.same mZ.out
     have IP : ((((((((((([7]) ++ Q6 (txn) 4) ++ Q6 (prev) 8) ++ Q6 (nT) 4) ++ Q6 (aR) 1) ++ RG cn aR)) ++ Q6 (a9) 1) ++ Tg dF k2) ++ Q6 (y0) 2) ++ Q6 (y1) 8).length ≤ 569 := by rw [List.length_append]; have := Ra (y1) 8; omega
     clear aw hg
     have hS : Y2 wZ := by exact ⟨(b0.same mZ.out).cell 12, HQ.out _ mZ.out⟩
     refine hK.out _ _ (fun _ => hS) ?_
     clear hK K
     try simp only [Act.put, sA, s0, sS]
     refine tk 15 3 hS ?_
     refine Q8 (by kernel_rfl) ?_
     go_wp2
     go_roundw
     case rel => exact ⟨k2 + 1, _, _, _, by omega, by go_num, rfl, by rw [UD, lg.out]; simpa [Hid] using xZ.out, xT, mZ⟩
     case measure => simp [intOf]; omega
    ·obtain tS : k2 = a9 := by omega
     rw [tS] at Gd
     go_wp2
     go_ret
     exact ⟨_, _, _, rfl, by have h := Gd.out; have e1 : ((cn.length : Int) / 4) = (aR : Int) := (by have := BJ.out; omega); have e2 : ((dF.length : Int) / 2) = (a9 : Int) := (by have := Bu.out; omega); rw [BJ.out, Bu.out]; simpa [Rv, e1, e2] using h, fun b hb => by have := Gr.out b hb; simp at this; omega, (kZ0.alloc _).trans AH.out⟩
end Go.Proofs.YtaojjcnmififoaaGreat
