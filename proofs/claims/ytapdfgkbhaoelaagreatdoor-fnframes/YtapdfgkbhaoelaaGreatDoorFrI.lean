import Derived.Test.YtapdfgkbhaoelaaGreatDoorDecImp
namespace Go.Proofs.YtapdfgkbhaoelaaGreatDoor
set_option maxRecDepth 100000
set_option maxHeartbeats 8000000
set_option linter.unusedVariables false
set_option linter.unusedSimpArgs false
open Go.RowKit
def jfE (v : Value) (bs : List Int) (e : Ending) : Prop := (Xc bs ∧ ∃ vb off c, v = .slice (some ⟨vb, off, none⟩) bs.length c ∧ bs.length ≤ c ∧ e = .returned (.slice (some ⟨vb, off, none⟩) (Ps (bs.take 4)).toNat c)) ∨ (¬ Xc bs ∧ e = .returned (Q4))
theorem Yt (v : Value) (bs : List Int) (w : World) (hB : IsB bs) (hl : bs.length ≤ 1099511627776) (hv : Rd .u8 w v bs) : Calls Tryz.prog 55 #[v] w fun e w' => jfE v bs e ∧ Same w w' := by
 have HV := hid hv;obtain ⟨va, vc, rfl⟩ := hv.form;clear hv
 by_cases Cy : bs.length < 20
 ·have KJ : (bs.length : Int) < 20 := by omega
  have tj : Hid (¬ Xc bs) := by unfold Hid Xc; omega
  go_enter Tryz.func55, Tryz.ntmps55
  go_wp2;go_ret;exact ⟨.inr ⟨tj.out, rfl⟩, kZ0⟩
 have GU := hid (HV.out.2)
 rcases GU.out with ⟨rfl, _⟩ | ⟨vb, off, NC, DL, ji, hx⟩
 ·simp at Cy
 injection DL with cN _ hvc
 subst cN;obtain ⟨c, rfl⟩ : ∃ x, x = vc := ⟨_, rfl⟩;subst hvc;have Au : bs.length ≤ maxLen := HV.out.1;unfold maxLen at Au;have k0 := Rw (.slice (some ⟨vb, off, none⟩) 4 c) (bs.take 4) w (hB.tk 4) (by simp; omega) (Rd.part hx 0 4 (by omega) rfl (by omega) (by unfold maxLen; omega));clear hx GU;obtain ⟨sz, fQ⟩ : ∃ x, Ps (bs.take 4) = x := ⟨_, rfl⟩;rw [fQ] at k0;have xM := hid fQ;have uq := (show Hid (Xc bs ↔ (33 ≤ sz ∧ sz ≤ 4131 ∧ sz ≤ bs.length)) from by unfold Hid Xc; rw [fQ]; omega);clear fQ
 by_cases hq : 33 ≤ sz ∧ sz ≤ 4131 ∧ sz ≤ bs.length
 ·have tj : Hid (Xc bs) := uq.out.2 hq
  obtain ⟨s, rfl⟩ : ∃ s : Nat, sz = (s : Int) := ⟨sz.toNat, by omega⟩
  have s1 : ¬ (s : Int) < 33 := by omega
  have s2 : ¬ (4131 : Int) < (s : Int) := by omega
  have s3 : ¬ (bs.length : Int) < (s : Int) := by omega
  have Mt : s ≤ c := by omega
  clear hq uq
  go_enter Tryz.func55, Tryz.ntmps55
  go_wp2_with fail
  refine k0.mono ?_;rintro e w1 ⟨rfl, ah⟩;have aN : Hid (Same w w1) := ah;clear ah k0;go_wp2;go_ret;exact ⟨.inl ⟨tj.out, vb, off, c, rfl, ji, by rw [xM.out, Int.toNat_natCast]; rfl⟩, aN.out⟩
 ·have tj : Hid (¬ Xc bs) := fun h => hq (uq.out.1 h)
  go_enter Tryz.func55, Tryz.ntmps55
  go_wp2_with fail
  refine k0.mono ?_;rintro e w1 ⟨rfl, ah⟩;have aN : Hid (Same w w1) := ah;clear ah k0
  by_cases s1 : sz < 33
  ·go_wp2
   go_ret;exact ⟨.inr ⟨tj.out, rfl⟩, aN.out⟩
  by_cases s2 : 4131 < sz
  ·go_wp2
   go_ret;exact ⟨.inr ⟨tj.out, rfl⟩, aN.out⟩
  have s3 : (bs.length : Int) < sz := by omega
  go_wp2;go_ret;exact ⟨.inr ⟨tj.out, rfl⟩, aN.out⟩
theorem jam (v : Value) (bs : List Int) (lsn least most : Int) (w : World) (hB : IsB bs) (Gn : IsI lsn) (hl : bs.length ≤ 1099511627776) (hv : Rd .u8 w v bs) : Calls Tryz.prog 19 #[v, Q1 lsn, Q1 least, Q1 most] w fun e w' => ∃ y : StFrameResult, e = .returned y.val ∧ y.dat = QT bs lsn least most ∧ (∀ b, O6 y.rows b → w.heap.size ≤ b) ∧ OwnL w' y.rows ∧ Same w w' := by
 have aP : Hid (Same w (w.alloc (.cells #[Q1 0, Q1 0, Q1 0, Q1 0, Q1 0, Q1 0, Q1 0, Q1 0, .bool false, Q4, .bool false, Q4, Q1 0, Q1 0, Q4, Q4, Q4] 50))) := kZ0.alloc _;have fv : Hid (Blk (w.alloc (.cells #[Q1 0, Q1 0, Q1 0, Q1 0, Q1 0, Q1 0, Q1 0, Q1 0, .bool false, Q4, .bool false, Q4, Q1 0, Q1 0, Q4, Q4, Q4] 50)) w.heap.size 50 [Q1 0, Q1 0, Q1 0, Q1 0, Q1 0, Q1 0, Q1 0, Q1 0, .bool false, Q4, .bool false, Q4, Q1 0, Q1 0, Q4, Q4, Q4]) := Blk.newL w [Q1 0, Q1 0, Q1 0, Q1 0, Q1 0, Q1 0, Q1 0, Q1 0, .bool false, Q4, .bool false, Q4, Q1 0, Q1 0, Q4, Q4, Q4] 50;have HV := hid hv;obtain ⟨va, vc, rfl⟩ := hv.form;clear hv
 go_enter Tryz.func19, Tryz.ntmps19
 go_upto_region 1 with fail
 generalize w.alloc (.cells #[Q1 0, Q1 0, Q1 0, Q1 0, Q1 0, Q1 0, Q1 0, Q1 0, .bool false, Q4, .bool false, Q4, Q1 0, Q1 0, Q4, Q4, Q4] 50) = w0 at aP fv ⊢;obtain ⟨Z, hZ⟩ : ∃ Z, w.heap.size = Z := ⟨_, rfl⟩;rw [hZ] at fv ⊢;have kX := hid hZ;have E5 : Hid (Same w0 w0) := kZ0;have Om := aP.out.size;have Ks := fv.out.lt;clear hZ
 go_wp2_with fail
 refine (Yt _ bs _ hB hl (HV.out.same aP.out)).mono ?_;rintro e w1 ⟨LZ, ah⟩;have aN : Hid (Same w0 w1) := ah;clear ah
 rcases LZ with ⟨bj, vb, off, c, DL, ji, rfl⟩ | ⟨bj, rfl⟩
 ·skip
  injection DL with cN _ hvc
  subst cN;have DX : c = vc := hvc.symm;subst DX;have wH := bj;unfold Xc at wH;obtain ⟨Cy, o1, o2, o3⟩ := wH;obtain ⟨s, hs⟩ : ∃ s : Nat, Ps (bs.take 4) = (s : Int) := ⟨(Ps (bs.take 4)).toNat, by omega⟩;have Ab := (show Hid (QT bs lsn least most = ZU bs s lsn least most) from by unfold Hid QT; rw [if_pos bj, hs, Int.toNat_natCast]);rw [hs] at o1 o2 o3 ⊢;rw [Int.toNat_natCast]
  have fi : 33 ≤ s := by omega
  have eL : s ≤ 4131 := by omega
  have iP : s ≤ bs.length := by omega
  have Au : bs.length ≤ maxLen := HV.out.1;unfold maxLen at Au;clear bj hs o1 o2 o3 Cy
  have HC := (show Hid (∀ wx, Same w wx → ∀ i, i < bs.length → D0 wx vb (off + i) (.int .u8 (bs.getD i 0))) from fun wx hk => by
   rcases (HV.out.same hk).2 with ⟨h0, _⟩ | ⟨b', nx, c', he, _, hc⟩
   ·exfalso; rw [h0] at iP; simp at iP; omega
   ·injection he with h1 _ _
    injection h1 with h1
    injection h1 with h1 h2
    subst h1 h2
    exact hc)
  have Lf : ((s : Int) == 0) = false := by simp; omega
  have Mt : s ≤ c := by omega
  have OT : (8 : Int) ≤ (s : Int) := by omega
  have MR : (20 : Int) ≤ (s : Int) := by omega
  have Oz : 8 ≤ s := by omega
  have MV : 16 ≤ s := by omega
  have LH : 20 ≤ s := by omega
  have e4 : ¬ c = 4 := by omega
  have e8 : ¬ c = 8 := by omega
  have MU : ¬ c = 16 := by omega
  have N1 : ¬ c = 20 := by omega
  have HP := (show Hid (∀ wx, Same w0 wx → ∀ lo m, lo + m ≤ bs.length → Rd .u8 wx (.slice (some ⟨vb, off + lo, none⟩) m (c - lo)) ((bs.drop lo).take m)) from fun wx hk lo m h => Rd.part (HC.out wx (aP.out.trans hk)) lo m h rfl (by omega) (by unfold maxLen; omega));have Ix := Rw _ ((bs.drop 16).take 4) w1 ((hB.dropI 16).tk 4) (by simp; omega) (HP.out _ aN.out 16 4 (by omega))
  go_wp2_with fail
  refine Ix.mono ?_;rintro e w2 ⟨rfl, aj⟩;have aO := hid (aN.out.trans aj);obtain ⟨ep, Dr⟩ : ∃ x, Ps ((bs.drop 16).take 4) = x := ⟨_, rfl⟩;rw [Dr];have DF := hid Dr;clear Dr aj Ix aN
  go_upto_region 5 with fail
  obtain ⟨g4, ot⟩ : ∃ x, Ps ((bs.drop 4).take 4) = x := ⟨_, rfl⟩;obtain ⟨cr, mO⟩ : ∃ x, Pp 0 ((bs.drop 8).take (s - 8)) = x := ⟨_, rfl⟩;have qE := hid ot;have ru := hid mO;have l9 := (show Hid (∀ wx, Same w0 wx → _) from fun wx (hk : Same w0 wx) => ot ▸ Rw _ ((bs.drop 4).take 4) wx ((hB.dropI 4).tk 4) (by simp; omega) (HP.out wx hk 4 4 (by omega)));have Mf := (show Hid (∀ wx, Same w0 wx → _) from fun wx (hk : Same w0 wx) => mO ▸ TU _ ((bs.drop 8).take (s - 8)) wx ((hB.dropI 8).tk _) (by simp; omega) (HP.out wx hk 8 (s - 8) (by omega)));clear ot mO
  go_cut [21] (fun v wx => v = .bool (g4 != cr) ∧ Hid (Same w0 wx))
  case first =>
   have hS : (fun wx : World => Same w0 wx) w2.drew := aO.out.next ((Kept.refl (fun _ => False) w2).drew) (fun _ _ e => e.elim);refine O0 (fun wx : World => Same w0 wx) 99 8 ?_;refine tk 0 22 hS ?_;refine tkV 1 23 (.slice (some ⟨vb, off + 4, none⟩) 4 (c - 4)) hS ?_;refine tk 3 25 hS ?_;refine tkV 4 26 (.slice (some ⟨vb, off + 8, none⟩) (s - 8) (c - 8)) hS ?_;refine o1Q 2 (fun Kc hK => ?_);go_simp;refine (l9.out _ hS).mono ?_;rintro e w3 ⟨rfl, aj⟩;have hS : (fun wx : World => Same w0 wx) w3 := Kept.trans hS aj;refine hK.out _ _ (fun _ => hS) ?_;clear hK Kc
   try simp only [Sp]
   refine o1Q 5 (fun Kc hK => ?_);go_simp;refine (Mf.out _ hS).mono ?_;rintro e w4 ⟨rfl, aZ⟩;have hS : (fun wx : World => Same w0 wx) w4 := Kept.trans hS aZ;refine hK.out _ _ (fun _ => hS) ?_;clear hK Kc
   try simp only [Sp]
   refine tk 6 28 hS ?_;refine tk 7 21 hS ?_;refine OZ ?_
   try simp only [Sp]
   go_wp2
   go_meet
   case rel => exact ⟨rfl, hS⟩
  case rest =>
   obtain ⟨hu, bp⟩ := hcut
   by_cases er : g4 = cr
   ·have mJ : (g4 != cr) = false := by simp [er]
    have rh : _ = Value.bool false := hu.trans (by rw [mJ]);clear hu mJ;subst rh;have sr := hid er;clear er
    go_upto_region 7 with fail
    obtain ⟨eq, heq⟩ : ∃ x, decide ((bs.drop 8).take 8 = OW lsn 8) = x := ⟨_, rfl⟩;have IA := (show Hid (eq = decide (¬ (Ps ((bs.drop 8).take 8) ≠ lsn ∨ lsn < 0))) from by unfold Hid; rw [← heq]; exact decide_eq_decide.2 (jbR ((hB.dropI 8).tk 8) (take_len (by omega)) Gn));have fp := (show Hid (∀ (PV : Value) (wx : World), Same w0 wx → Rd .u8 wx PV (OW lsn 8) → _) from fun PV wx (hk : Same w0 wx) hr => heq ▸ SH _ PV ((bs.drop 8).take 8) (OW lsn 8) wx ((hB.dropI 8).tk 8) (PU _ _) (HP.out wx hk 8 8 (by omega)) hr);clear heq
    go_cut [30] (fun v wx => v = .bool (!eq) ∧ Hid (Same w0 wx))
    case first =>
     have hS : (fun wx : World => Same w0 wx) wc.drew := bp.out.next ((Kept.refl (fun _ => False) wc).drew) (fun _ _ e => e.elim);refine O0 (fun wx : World => Same w0 wx) 99 7 ?_;refine tk 0 31 hS ?_;refine tkV 1 32 (.slice (some ⟨vb, off + 8, none⟩) 8 (c - 8)) hS ?_;refine tk 2 33 hS ?_;refine o1Q 3 (fun Kc hK => ?_);go_simp;refine (Qw lsn 8 _ Gn (by unfold IsI; omega)).mono ?_;rintro e w5 ⟨pa, pc, rfl, Jz, Gr, aj⟩;have hS : (fun wx : World => Same w0 wx) w5 := Kept.trans hS aj;have GV := hid Gr;generalize Value.slice pa (OW lsn 8).length pc = PV at GV ⊢;refine hK.out _ _ (fun _ => hS) ?_;clear hK Kc Jz Gr
     try simp only [Sp]
     refine o1Q 4 (fun Kc hK => ?_);go_simp;refine (fp.out PV _ hS GV.out.rd).mono ?_;rintro e w6 ⟨rfl, aZ⟩;have hS : (fun wx : World => Same w0 wx) w6 := Kept.trans hS aZ;refine hK.out _ _ (fun _ => hS) ?_;clear hK Kc
     try simp only [Sp]
     refine tk 5 36 hS ?_;refine tk 6 30 hS ?_;refine OZ ?_
     try simp only [Sp]
     go_wp2
     go_meet
     case rel => exact ⟨rfl, hS⟩
    case rest =>
     obtain ⟨hu, bR⟩ := hcut
     by_cases rp : Ps ((bs.drop 8).take 8) ≠ lsn ∨ lsn < 0
     ·obtain rfl : eq = false := by rw [IA.out]; exact decide_eq_false (fun h => h rp)
      have rh : _ = Value.bool true := hu.trans rfl;clear hu;subst rh;have vR := hid rp;clear rp;have nh := hid ((fv.out.same bR.out).there 0 17 (by decide));have cM : Hid (Blk (wc.setCells Z 0 (cZ 3)) Z 50 (cZ 3)) := R4 (fv.out.same bR.out) (cZ 3) rfl;have cx : Hid (Same w (wc.setCells Z 0 (cZ 3))) := Kept.setCells (.inl (Nat.le_of_eq kX.out)) _ _ (aP.out.trans bR.out);have bO : Hid (QT bs lsn least most = Q9 3) := by unfold Hid; rw [Ab.out]; unfold ZU; rw [if_neg (by rw [qE.out, ru.out, sr.out]; simp), if_pos vR.out]
      go_upto_region 8 with fail
      refine Yk 37 50 _ _ Z (cZ 3).toArray rfl rfl rfl rfl rfl rfl (fun wx => by kernel_rfl) rfl rfl nh.out RU (by simp [cZ, Value.oneCell']) ?_;generalize wc.setCells Z 0 (cZ 3).toArray.toList = W9 at cM cx ⊢;go_wp2;refine bodyPost_ret (v := .agg (cZ 3).toArray) ?_ rfl ?_
      ·exact jaN Tryz.results19 rfl cM.out.rangeAll Tryz.underlying50 rfl RU
      ·exact ⟨⟨3, 0, 0, recZ⟩, rfl, bO.out.symm, fun b hb => (Sm hb).elim, Tn _, cx.out⟩
     obtain rfl : eq = true := by rw [IA.out]; exact decide_eq_true rp
     have rh : _ = Value.bool false := hu.trans rfl;clear hu;subst rh;have vR := hid rp;clear rp
     by_cases hq16 : ep < least ∨ most < ep
     ·have sk := hid hq16
      have qV : Hid (QT bs lsn least most = Q9 4) := by unfold Hid; rw [Ab.out]; unfold ZU; rw [if_neg (by rw [qE.out, ru.out, sr.out]; simp), if_neg vR.out, if_pos (by rw [DF.out]; exact sk.out)]
      by_cases q3 : ep < least
      ·clear hq16
       have nh := hid ((fv.out.same bR.out).there 0 17 (by decide));have cM : Hid (Blk (wc.setCells Z 0 (cZ 4)) Z 50 (cZ 4)) := R4 (fv.out.same bR.out) (cZ 4) rfl;have cx : Hid (Same w (wc.setCells Z 0 (cZ 4))) := Kept.setCells (.inl (Nat.le_of_eq kX.out)) _ _ (aP.out.trans bR.out);have bO : Hid (QT bs lsn least most = Q9 4) := by exact qV.out
       go_upto_region 10 with fail
       refine Yk 47 50 _ _ Z (cZ 4).toArray rfl rfl rfl rfl rfl rfl (fun wx => by kernel_rfl) rfl rfl nh.out RU (by simp [cZ, Value.oneCell']) ?_;generalize wc.setCells Z 0 (cZ 4).toArray.toList = W9 at cM cx ⊢;go_wp2;refine bodyPost_ret (v := .agg (cZ 4).toArray) ?_ rfl ?_
       ·exact jaN Tryz.results19 rfl cM.out.rangeAll Tryz.underlying50 rfl RU
       ·exact ⟨⟨4, 0, 0, recZ⟩, rfl, bO.out.symm, fun b hb => (Sm hb).elim, Tn _, cx.out⟩
      ·have q4 : most < ep := by omega
       clear hq16;have nh := hid ((fv.out.same bR.out).there 0 17 (by decide));have cM : Hid (Blk (wc.setCells Z 0 (cZ 4)) Z 50 (cZ 4)) := R4 (fv.out.same bR.out) (cZ 4) rfl;have cx : Hid (Same w (wc.setCells Z 0 (cZ 4))) := Kept.setCells (.inl (Nat.le_of_eq kX.out)) _ _ (aP.out.trans bR.out);have bO : Hid (QT bs lsn least most = Q9 4) := by exact qV.out
       go_upto_region 10 with fail
       refine Yk 47 50 _ _ Z (cZ 4).toArray rfl rfl rfl rfl rfl rfl (fun wx => by kernel_rfl) rfl rfl nh.out RU (by simp [cZ, Value.oneCell']) ?_;generalize wc.setCells Z 0 (cZ 4).toArray.toList = W9 at cM cx ⊢;go_wp2;refine bodyPost_ret (v := .agg (cZ 4).toArray) ?_ rfl ?_
       ·exact jaN Tryz.results19 rfl cM.out.rangeAll Tryz.underlying50 rfl RU
       ·exact ⟨⟨4, 0, 0, recZ⟩, rfl, bO.out.symm, fun b hb => (Sm hb).elim, Tn _, cx.out⟩
     have sk := hid hq16
     have q3 : ¬ ep < least := by omega
     have q4 : ¬ most < ep := by omega
     have FA := Vz (.slice (some ⟨vb, off + 20, none⟩) (s - 20) (c - 20)) ((bs.drop 20).take (s - 20)) wc ((hB.dropI 20).tk _) (by simp; omega) (HP.out _ bR.out 20 (s - 20) (by omega));clear hq16
     go_wp2_with fail
     refine FA.mono ?_;rintro e w8 ⟨⟨g, z⟩, rfl, hd, hf, ho, dX⟩;have dG := hid (bR.out.trans dX);have HD : Hid ((g, z.dat) = QU ((bs.drop 20).take (s - 20))) := hd;have HF : Hid (∀ b, O6 z.rows b → wc.heap.size ≤ b) := hf;have HO : Hid (OwnL w8 z.rows) := ho;have rF := bR.out.size;have Aq := dG.out.size;have GD := (show Hid (QT bs lsn least most = if g = true then (0, (s : Int), ep, z.dat) else Q9 5) from by unfold Hid; rw [Ab.out]; unfold ZU; rw [if_neg (by rw [qE.out, ru.out, sr.out]; simp), if_neg vR.out, if_neg (by rw [DF.out]; exact sk.out), ← HD.out, DF.out]);dsimp only [StRecordResult.val, BS.v, FR.v];have HX : Hid (Blk (w8.alloc (.cells #[.bool g, Q1 z.kind, Q1 z.txn, Q1 z.prev, Q1 z.page, Q1 z.slot, .bool z.before.used, .slice z.before.data.a z.before.data.bs.length z.before.data.c, .bool z.after.used, .slice z.after.data.a z.after.data.bs.length z.after.data.c, Q1 z.uN, Q1 z.nT, .slice z.txns.a z.txns.n z.txns.c, .slice z.dirty.a z.dirty.n z.dirty.c, .slice z.image.a z.image.bs.length z.image.c] 33)) w8.heap.size 33 [.bool g, Q1 z.kind, Q1 z.txn, Q1 z.prev, Q1 z.page, Q1 z.slot, .bool z.before.used, .slice z.before.data.a z.before.data.bs.length z.before.data.c, .bool z.after.used, .slice z.after.data.a z.after.data.bs.length z.after.data.c, Q1 z.uN, Q1 z.nT, .slice z.txns.a z.txns.n z.txns.c, .slice z.dirty.a z.dirty.n z.dirty.c, .slice z.image.a z.image.bs.length z.image.c]) := Blk.newL w8 [.bool g, Q1 z.kind, Q1 z.txn, Q1 z.prev, Q1 z.page, Q1 z.slot, .bool z.before.used, .slice z.before.data.a z.before.data.bs.length z.before.data.c, .bool z.after.used, .slice z.after.data.a z.after.data.bs.length z.after.data.c, Q1 z.uN, Q1 z.nT, .slice z.txns.a z.txns.n z.txns.c, .slice z.dirty.a z.dirty.n z.dirty.c, .slice z.image.a z.image.bs.length z.image.c] 33;have dD : Hid (Same w0 (w8.alloc (.cells #[.bool g, Q1 z.kind, Q1 z.txn, Q1 z.prev, Q1 z.page, Q1 z.slot, .bool z.before.used, .slice z.before.data.a z.before.data.bs.length z.before.data.c, .bool z.after.used, .slice z.after.data.a z.after.data.bs.length z.after.data.c, Q1 z.uN, Q1 z.nT, .slice z.txns.a z.txns.n z.txns.c, .slice z.dirty.a z.dirty.n z.dirty.c, .slice z.image.a z.image.bs.length z.image.c] 33))) := dG.out.alloc _;have gh : Hid (OwnL (w8.alloc (.cells #[.bool g, Q1 z.kind, Q1 z.txn, Q1 z.prev, Q1 z.page, Q1 z.slot, .bool z.before.used, .slice z.before.data.a z.before.data.bs.length z.before.data.c, .bool z.after.used, .slice z.after.data.a z.after.data.bs.length z.after.data.c, Q1 z.uN, Q1 z.nT, .slice z.txns.a z.txns.n z.txns.c, .slice z.dirty.a z.dirty.n z.dirty.c, .slice z.image.a z.image.bs.length z.image.c] 33)) z.rows) := HO.out.same (kZ0.alloc _);clear hd hf ho dX FA HO dG
     go_upto_region 12 with fail
     generalize w8.alloc (.cells #[.bool g, Q1 z.kind, Q1 z.txn, Q1 z.prev, Q1 z.page, Q1 z.slot, .bool z.before.used, .slice z.before.data.a z.before.data.bs.length z.before.data.c, .bool z.after.used, .slice z.after.data.a z.after.data.bs.length z.after.data.c, Q1 z.uN, Q1 z.nT, .slice z.txns.a z.txns.n z.txns.c, .slice z.dirty.a z.dirty.n z.dirty.c, .slice z.image.a z.image.bs.length z.image.c] 33) = w7 at HX dD gh ⊢;obtain ⟨X, hX⟩ : ∃ X, w8.heap.size = X := ⟨_, rfl⟩;rw [hX] at HX Aq ⊢;clear hX
     cases g with
     | false =>
      obtain ⟨x0, x1, x2, x3, x4, x5, x6, x7, x8, x9, GI, Gi, IQ, FV, JX⟩ := HX.out.all15;have xO := (show Hid (QT bs lsn least most = Q9 5) from by unfold Hid; rw [GD.out]; rfl);have nh := hid ((fv.out.same dD.out).there 0 17 (by decide));have cM : Hid (Blk (w7.setCells Z 0 (cZ 5)) Z 50 (cZ 5)) := R4 (fv.out.same dD.out) (cZ 5) rfl;have cx : Hid (Same w (w7.setCells Z 0 (cZ 5))) := Kept.setCells (.inl (Nat.le_of_eq kX.out)) _ _ (aP.out.trans dD.out);have bO : Hid (QT bs lsn least most = Q9 5) := by exact xO.out
      go_upto_region 13 with fail
      refine Yk 54 50 _ _ Z (cZ 5).toArray rfl rfl rfl rfl rfl rfl (fun wx => by kernel_rfl) rfl rfl nh.out RU (by simp [cZ, Value.oneCell']) ?_;generalize w7.setCells Z 0 (cZ 5).toArray.toList = W9 at cM cx ⊢;go_wp2;refine bodyPost_ret (v := .agg (cZ 5).toArray) ?_ rfl ?_
      ·exact jaN Tryz.results19 rfl cM.out.rangeAll Tryz.underlying50 rfl RU
      ·exact ⟨⟨5, 0, 0, recZ⟩, rfl, bO.out.symm, fun b hb => (Sm hb).elim, Tn _, cx.out⟩
     | true =>
      obtain ⟨x0, x1, x2, x3, x4, x5, x6, x7, x8, x9, GI, Gi, IQ, FV, JX⟩ := HX.out.all15;have se := HX.out.lt;have vk := (show Hid (QT bs lsn least most = (0, (s : Int), ep, z.dat)) from by unfold Hid; rw [GD.out]; rfl);obtain ⟨z0, z1, z2, z3, z4, z5, z6, z7, z8, z9, bV, bW, bX, bY, gj, Ae, AB⟩ := (fv.out.same dD.out).all17;have fz := (fv.out.same dD.out).frozen;have tQ := (fv.out.same dD.out).lt;obtain ⟨W9, zP⟩ : ∃ x, (((((((((((((((((w7.setCell ⟨Z, 0, none⟩ (Q1 0)).setCell ⟨Z, 1, none⟩ (Q1 (s : Int))).setCell ⟨Z, 2, none⟩ (Q1 ep)).setCell ⟨Z, 3, none⟩ (Q1 z.kind)).setCell ⟨Z, 4, none⟩ (Q1 z.txn)).setCell ⟨Z, 5, none⟩ (Q1 z.prev)).setCell ⟨Z, 6, none⟩ (Q1 z.page)).setCell ⟨Z, 7, none⟩ (Q1 z.slot)).setCell ⟨Z, 8, none⟩ (.bool z.before.used)).setCell ⟨Z, 9, none⟩ (.slice z.before.data.a z.before.data.bs.length z.before.data.c)).setCell ⟨Z, 10, none⟩ (.bool z.after.used)).setCell ⟨Z, 11, none⟩ (.slice z.after.data.a z.after.data.bs.length z.after.data.c)).setCell ⟨Z, 12, none⟩ (Q1 z.uN)).setCell ⟨Z, 13, none⟩ (Q1 z.nT)).setCell ⟨Z, 14, none⟩ (.slice z.txns.a z.txns.n z.txns.c)).setCell ⟨Z, 15, none⟩ (.slice z.dirty.a z.dirty.n z.dirty.c)).setCell ⟨Z, 16, none⟩ (.slice z.image.a z.image.bs.length z.image.c)) = x := ⟨_, rfl⟩;have cM : Hid (Blk W9 Z 50 [Q1 0, Q1 (s : Int), Q1 ep, Q1 z.kind, Q1 z.txn, Q1 z.prev, Q1 z.page, Q1 z.slot, .bool z.before.used, .slice z.before.data.a z.before.data.bs.length z.before.data.c, .bool z.after.used, .slice z.after.data.a z.after.data.bs.length z.after.data.c, Q1 z.uN, Q1 z.nT, .slice z.txns.a z.txns.n z.txns.c, .slice z.dirty.a z.dirty.n z.dirty.c, .slice z.image.a z.image.bs.length z.image.c]) := zP ▸ (show Blk (((((((((((((((((w7.setCell ⟨Z, 0, none⟩ (Q1 0)).setCell ⟨Z, 1, none⟩ (Q1 (s : Int))).setCell ⟨Z, 2, none⟩ (Q1 ep)).setCell ⟨Z, 3, none⟩ (Q1 z.kind)).setCell ⟨Z, 4, none⟩ (Q1 z.txn)).setCell ⟨Z, 5, none⟩ (Q1 z.prev)).setCell ⟨Z, 6, none⟩ (Q1 z.page)).setCell ⟨Z, 7, none⟩ (Q1 z.slot)).setCell ⟨Z, 8, none⟩ (.bool z.before.used)).setCell ⟨Z, 9, none⟩ (.slice z.before.data.a z.before.data.bs.length z.before.data.c)).setCell ⟨Z, 10, none⟩ (.bool z.after.used)).setCell ⟨Z, 11, none⟩ (.slice z.after.data.a z.after.data.bs.length z.after.data.c)).setCell ⟨Z, 12, none⟩ (Q1 z.uN)).setCell ⟨Z, 13, none⟩ (Q1 z.nT)).setCell ⟨Z, 14, none⟩ (.slice z.txns.a z.txns.n z.txns.c)).setCell ⟨Z, 15, none⟩ (.slice z.dirty.a z.dirty.n z.dirty.c)).setCell ⟨Z, 16, none⟩ (.slice z.image.a z.image.bs.length z.image.c)) Z 50 [Q1 0, Q1 (s : Int), Q1 ep, Q1 z.kind, Q1 z.txn, Q1 z.prev, Q1 z.page, Q1 z.slot, .bool z.before.used, .slice z.before.data.a z.before.data.bs.length z.before.data.c, .bool z.after.used, .slice z.after.data.a z.after.data.bs.length z.after.data.c, Q1 z.uN, Q1 z.nT, .slice z.txns.a z.txns.n z.txns.c, .slice z.dirty.a z.dirty.n z.dirty.c, .slice z.image.a z.image.bs.length z.image.c] from ((((((((((((((((((fv.out.same dD.out).stored 0 _).stored 1 _).stored 2 _).stored 3 _).stored 4 _).stored 5 _).stored 6 _).stored 7 _).stored 8 _).stored 9 _).stored 10 _).stored 11 _).stored 12 _).stored 13 _).stored 14 _).stored 15 _).stored 16 _))
      have cx : Hid (Same w W9) := zP ▸ jfx (aP.out.trans dD.out) (Nat.le_of_eq kX.out) (Q1 0) (Q1 (s : Int)) (Q1 ep) (Q1 z.kind) (Q1 z.txn) (Q1 z.prev) (Q1 z.page) (Q1 z.slot) (.bool z.before.used) (.slice z.before.data.a z.before.data.bs.length z.before.data.c) (.bool z.after.used) (.slice z.after.data.a z.after.data.bs.length z.after.data.c) (Q1 z.uN) (Q1 z.nT) (.slice z.txns.a z.txns.n z.txns.c) (.slice z.dirty.a z.dirty.n z.dirty.c) (.slice z.image.a z.image.bs.length z.image.c);have GH := hid zP;clear zP;have jw : Hid (OwnL W9 z.rows) := gh.out.kept (R := fun b => b = Z) (GH.out ▸ jeV _ _ (Q1 0) (Q1 (s : Int)) (Q1 ep) (Q1 z.kind) (Q1 z.txn) (Q1 z.prev) (Q1 z.page) (Q1 z.slot) (.bool z.before.used) (.slice z.before.data.a z.before.data.bs.length z.before.data.c) (.bool z.after.used) (.slice z.after.data.a z.after.data.bs.length z.after.data.c) (Q1 z.uN) (Q1 z.nT) (.slice z.txns.a z.txns.n z.txns.c) (.slice z.dirty.a z.dirty.n z.dirty.c) (.slice z.image.a z.image.bs.length z.image.c)) (fun b hb e => by have := HF.out b hb; omega);go_wp2;rw [GH.out];refine bodyPost_ret (v := .agg #[Q1 0, Q1 (s : Int), Q1 ep, Q1 z.kind, Q1 z.txn, Q1 z.prev, Q1 z.page, Q1 z.slot, .bool z.before.used, .slice z.before.data.a z.before.data.bs.length z.before.data.c, .bool z.after.used, .slice z.after.data.a z.after.data.bs.length z.after.data.c, Q1 z.uN, Q1 z.nT, .slice z.txns.a z.txns.n z.txns.c, .slice z.dirty.a z.dirty.n z.dirty.c, .slice z.image.a z.image.bs.length z.image.c]) ?_ rfl ?_
      ·exact jaN (cs := [Q1 0, Q1 (s : Int), Q1 ep, Q1 z.kind, Q1 z.txn, Q1 z.prev, Q1 z.page, Q1 z.slot, .bool z.before.used, .slice z.before.data.a z.before.data.bs.length z.before.data.c, .bool z.after.used, .slice z.after.data.a z.after.data.bs.length z.after.data.c, Q1 z.uN, Q1 z.nT, .slice z.txns.a z.txns.n z.txns.c, .slice z.dirty.a z.dirty.n z.dirty.c, .slice z.image.a z.image.bs.length z.image.c]) Tryz.results19 rfl cM.out.rangeAll Tryz.underlying50 rfl RU
      ·exact ⟨⟨0, (s : Int), ep, z⟩, rfl, vk.out.symm, fun b hb => by have := HF.out b hb; have := kX.out; have := aP.out.size; omega, jw.out, cx.out⟩
   ·have mJ : (g4 != cr) = true := by simp [er]
    have rh : _ = Value.bool true := hu.trans (by rw [mJ]);clear hu mJ;subst rh;have sr := hid er;clear er;have nh := hid ((fv.out.same bp.out).there 0 17 (by decide));have cM : Hid (Blk (wc.setCells Z 0 (cZ 2)) Z 50 (cZ 2)) := R4 (fv.out.same bp.out) (cZ 2) rfl;have cx : Hid (Same w (wc.setCells Z 0 (cZ 2))) := Kept.setCells (.inl (Nat.le_of_eq kX.out)) _ _ (aP.out.trans bp.out);have bO : Hid (QT bs lsn least most = Q9 2) := by unfold Hid; rw [Ab.out]; unfold ZU; rw [if_pos (by rw [qE.out, ru.out]; exact sr.out)]
    go_upto_region 6 with fail
    refine Yk 29 50 _ _ Z (cZ 2).toArray rfl rfl rfl rfl rfl rfl (fun wx => by kernel_rfl) rfl rfl nh.out RU (by simp [cZ, Value.oneCell']) ?_;generalize wc.setCells Z 0 (cZ 2).toArray.toList = W9 at cM cx ⊢;go_wp2;refine bodyPost_ret (v := .agg (cZ 2).toArray) ?_ rfl ?_
    ·exact jaN Tryz.results19 rfl cM.out.rangeAll Tryz.underlying50 rfl RU
    ·exact ⟨⟨2, 0, 0, recZ⟩, rfl, bO.out.symm, fun b hb => (Sm hb).elim, Tn _, cx.out⟩
 ·have MD := hid bj
  clear bj;have nh := hid ((fv.out.same aN.out).there 0 17 (by decide));have cM : Hid (Blk (w1.setCells Z 0 (cZ 1)) Z 50 (cZ 1)) := R4 (fv.out.same aN.out) (cZ 1) rfl;have cx : Hid (Same w (w1.setCells Z 0 (cZ 1))) := Kept.setCells (.inl (Nat.le_of_eq kX.out)) _ _ (aP.out.trans aN.out);have bO : Hid (QT bs lsn least most = Q9 1) := by unfold Hid QT; rw [if_neg MD.out]
  go_upto_region 3 with fail
  refine Yk 17 50 _ _ Z (cZ 1).toArray rfl rfl rfl rfl rfl rfl (fun wx => by kernel_rfl) rfl rfl nh.out RU (by simp [cZ, Value.oneCell']) ?_;generalize w1.setCells Z 0 (cZ 1).toArray.toList = W9 at cM cx ⊢;go_wp2;refine bodyPost_ret (v := .agg (cZ 1).toArray) ?_ rfl ?_
  ·exact jaN Tryz.results19 rfl cM.out.rangeAll Tryz.underlying50 rfl RU
  ·exact ⟨⟨1, 0, 0, recZ⟩, rfl, bO.out.symm, fun b hb => (Sm hb).elim, Tn _, cx.out⟩
end Go.Proofs.YtapdfgkbhaoelaaGreatDoor
