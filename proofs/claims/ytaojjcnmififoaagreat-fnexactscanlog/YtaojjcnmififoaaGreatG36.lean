import Derived.Test.YtaojjcnmififoaaGreatG28
import Derived.Test.YtaojjcnmififoaaGreatG01
import Derived.Test.YtaojjcnmififoaaGreatG08
import Derived.Test.YtaojjcnmififoaaGreatG12
import Derived.Deep.DeepCutAuto
import Derived.Laws.AppendOwnNone
namespace Go.Proofs.YtaojjcnmififoaaGreat
set_option maxRecDepth 100000
set_option maxHeartbeats 8000000
set_option linter.unusedVariables false
set_option linter.unusedSimpArgs false
open Go.RowKit
def nlB : BS := ⟨5, none, 0, []⟩
def nlF (e : TypeId) : FR := ⟨e, none, 0, 0, []⟩
def Ro (k t p : Int) : StLogRecord := ⟨k, t, p, 0, 0, ⟨false, nlB⟩, ⟨false, nlB⟩, 0, 0, nlF 96, nlF 98, nlB⟩
theorem SI (w : World) : Rd .u8 w nlB.v nlB.bs := (Own.nil 0 5 .u8 w).rd
theorem TM (m : Nat) (e : TypeId) (w : World) : RdF m w (nlF e) := FR.own_rd (Uc m e w)
def tyV (y : StLogRecord) : Value :=
 if y.kind = 1 then .iface 144 (.agg #[.int .i64 y.txn, .int .i64 y.prev, .int .i64 y.page, .int .i64 y.slot, .bool y.before.used, y.before.data.v, .bool y.after.used, y.after.data.v])
 else if y.kind = 2 then .iface 146 (.agg #[.int .i64 y.txn, .int .i64 y.prev, .int .i64 y.page, .int .i64 y.slot, .bool y.after.used, y.after.data.v, .int .i64 y.uN])
 else if y.kind = 3 then .iface 148 (.agg #[.int .i64 y.txn, .int .i64 y.prev])
 else if y.kind = 4 then .iface 149 (.agg #[.int .i64 y.txn, .int .i64 y.prev])
 else if y.kind = 5 then .iface 150 (.agg #[.int .i64 y.txn, .int .i64 y.prev])
 else if y.kind = 6 then .iface 151 (.agg #[.int .i64 0, .int .i64 0])
 else if y.kind = 7 then .iface 155 (.agg #[.int .i64 0, .int .i64 0, .int .i64 y.nT, y.txns.v, y.dirty.v])
 else if y.kind = 8 then .iface 158 (.agg #[.int .i64 0, .int .i64 0, .int .i64 y.page, y.image.v])
 else .nilIface
def Typed (y : StLogRecord) : Prop := (∃ (t p g s : Int) (q1 q2 : StPageRecord), y = { Ro 1 t p with page := g, slot := s, before := q1, after := q2 }) ∨ (∃ (t p g s u : Int) (q : StPageRecord), y = { Ro 2 t p with page := g, slot := s, after := q, uN := u }) ∨ (∃ (t p : Int), y = Ro 3 t p) ∨ (∃ (t p : Int), y = Ro 4 t p) ∨ (∃ (t p : Int), y = Ro 5 t p) ∨ (y = Ro 6 0 0) ∨ (∃ (u : Int) (tx dy : FR), y = { Ro 7 0 0 with nT := u, txns := tx, dirty := dy }) ∨ (∃ (g : Int) (im : BS), y = { Ro 8 0 0 with page := g, image := im }) ∨ (∃ k t p : Int, ¬ (1 ≤ k ∧ k ≤ 8) ∧ y = Ro k t p)
theorem Typed.k1 (t p g s : Int) (q1 q2 : StPageRecord) : Typed ({ Ro 1 t p with page := g, slot := s, before := q1, after := q2 }) := .inl ⟨t, p, g, s, q1, q2, rfl⟩
theorem Typed.k2 (t p g s u : Int) (q : StPageRecord) : Typed ({ Ro 2 t p with page := g, slot := s, after := q, uN := u }) := .inr (.inl ⟨t, p, g, s, u, q, rfl⟩)
theorem Typed.k3 (t p : Int) : Typed (Ro 3 t p) := .inr (.inr (.inl ⟨t, p, rfl⟩))
theorem Typed.k4 (t p : Int) : Typed (Ro 4 t p) := .inr (.inr (.inr (.inl ⟨t, p, rfl⟩)))
theorem Typed.k5 (t p : Int) : Typed (Ro 5 t p) := .inr (.inr (.inr (.inr (.inl ⟨t, p, rfl⟩))))
theorem Typed.k6  : Typed (Ro 6 0 0) := .inr (.inr (.inr (.inr (.inr (.inl rfl)))))
theorem Typed.k7 (u : Int) (tx dy : FR) : Typed ({ Ro 7 0 0 with nT := u, txns := tx, dirty := dy }) := .inr (.inr (.inr (.inr (.inr (.inr (.inl ⟨u, tx, dy, rfl⟩))))))
theorem Typed.k8 (g : Int) (im : BS) : Typed ({ Ro 8 0 0 with page := g, image := im }) := .inr (.inr (.inr (.inr (.inr (.inr (.inr (.inl ⟨g, im, rfl⟩)))))))
theorem Typed.k0 (k t p : Int) (h : ¬ (1 ≤ k ∧ k ≤ 8)) : Typed (Ro k t p) := .inr (.inr (.inr (.inr (.inr (.inr (.inr (.inr ⟨k, t, p, h, rfl⟩)))))))
def jgb (bs : List Int) (w : World) (e : Ending) (w' : World) : Prop := ∃ y : StLogRecord, e = .returned (tyV y) ∧ y.dat = UK bs ∧ Typed y ∧ StLogRecord.rd w' y ∧ Same w w'
theorem jbk (v : Value) (bs : List Int) (w : World) (hB : IsB bs) (hl : bs.length ≤ 1099511627776) (hv : Rd .u8 w v bs) : Calls Tryz.prog 69 #[v] w fun e w' => jgb bs w e w' := by
 obtain ⟨va, vc, rfl⟩ := hv.form
 have HV := hid (fun wy (h : Kept (fun b => w.heap.size ≤ b) w wy) => hv.old h)
 have aJ := (show Hid (Same w (w.alloc (.cells #[.slice va bs.length vc] 136))) from kZ0.alloc _)
 have A8 := (show Hid (Blk (w.alloc (.cells #[.slice va bs.length vc] 136)) w.heap.size 136 [.slice va bs.length vc]) from Blk.newL w [.slice va bs.length vc] 136)
 have eL : (w.alloc (.cells #[.slice va bs.length vc] 136)).heap.size = w.heap.size + 1 := by simp
 clear hv
 go_enter Tryz.func69, Tryz.ntmps69
 go_upto_region 2 with fail
 generalize w.alloc (.cells #[.slice va bs.length vc] 136) = w1 at aJ A8 eL ⊢
 generalize Value.slice va bs.length vc = v at HV A8 ⊢
 have fU := (show Hid (RI w1 w.heap.size w.heap.size bs) from ⟨⟨v, A8.out, fun wy h => HV.out wy ((aJ.out.mono (fun _ _ e => e.elim)).trans h)⟩, Nat.le_refl _⟩)
 have aM := aJ
 have qR : w.heap.size ≤ w1.heap.size := by omega
 clear A8 HV aJ eL
 obtain ⟨P, hP⟩ : ∃ P, w.heap.size = P := ⟨_, rfl⟩
 rw [hP] at fU qR ⊢
 have mL := hid hP
 clear hP
 go_wp2_with fail
 refine (RX 1 (by omega) (hB) (hl) fU.out).mono ?_
 rintro e w2 ⟨rfl, b9, aN⟩
 obtain ⟨k, hk⟩ : ∃ x, nI (bs) 1 = x := ⟨_, rfl⟩
 rw [hk]
 have jD := hid b9
 have aY := hid (aM.out.next aN (fun i hi e => by have := mL.out; omega))
 have EH : P ≤ w2.heap.size := by have := aN.size; omega
 clear b9 aN fU aM qR
 go_wp2_with fail
 refine (RX 4 (by omega) (hB.dropI _) (by simp only [List.length_drop]; omega) jD.out).mono ?_
 rintro e w3 ⟨rfl, b9, aN⟩
 obtain ⟨t, ht⟩ : ∃ x, nI (bs.drop 1) 4 = x := ⟨_, rfl⟩
 rw [ht]
 have vk := hid b9
 have dt := hid (aY.out.next aN (fun i hi e => by have := mL.out; omega))
 have Fx : P ≤ w3.heap.size := by have := aN.size; omega
 clear b9 aN jD aY EH
 go_wp2_with fail
 refine (RX 8 (by omega) ((hB.dropI _).dropI _) (by simp only [List.length_drop]; omega) vk.out).mono ?_
 rintro e w4 ⟨rfl, b9, aN⟩
 obtain ⟨p, hp⟩ : ∃ x, nI ((bs.drop 1).drop 4) 8 = x := ⟨_, rfl⟩
 rw [hp]
 have kb := hid b9
 have cu := hid (dt.out.next aN (fun i hi e => by have := mL.out; omega))
 have Gt : P ≤ w4.heap.size := by have := aN.size; omega
 clear b9 aN vk dt Fx
 have nF := (show Hid (UK bs = Ru nI (fun rs n => rs.take n) k (if k ≤ 5 then t else 0) (if k ≤ 5 then p else 0) (bs.drop 13)) from by
  unfold Hid UK
  rw [hk, ht]
  simp only [List.drop_drop] at hp
  rw [hp])
 have t6 := (show Hid (RI w4 P P (bs.drop 13)) from by have h := kb.out; simp only [List.drop_drop] at h; exact h)
 obtain ⟨r, hr⟩ : ∃ r, bs.drop 13 = r := ⟨_, rfl⟩
 have nY : IsB r := hr ▸ hB.dropI 13
 have ol : r.length ≤ 1099511627776 := by rw [← hr, List.length_drop]; omega
 rw [hr] at t6 nF
 have rX := (show Hid (Blk (w4.alloc (.cells #[.int .i64 t, .int .i64 p] 138)) w4.heap.size 138 [.int .i64 t, .int .i64 p]) from Blk.newL w4 [.int .i64 t, .int .i64 p] 138)
 have lW := hid (t6.out.same (kZ0.alloc (.cells #[.int .i64 t, .int .i64 p] 138)))
 have dp := (show Hid (Same w (w4.alloc (.cells #[.int .i64 t, .int .i64 p] 138))) from cu.out.alloc _)
 have Fb := kb.out.lt
 have uV : P ≤ (w4.alloc (.cells #[.int .i64 t, .int .i64 p] 138)).heap.size := by simp; omega
 clear kb t6 cu hr hk ht hp
 go_upto_region 4 with fail
 generalize w4.alloc (.cells #[.int .i64 t, .int .i64 p] 138) = w5 at rX lW dp uV ⊢
 obtain ⟨X, hX⟩ : ∃ X, w4.heap.size = X := ⟨_, rfl⟩
 rw [hX] at rX Fb Gt ⊢
 clear hX
 have QY : P ≠ X := by omega
 have BE := rX.out.lt
 by_cases k1 : k = 1
 ·subst k1
  focus
   go_upto_region 6 with fail
   have ul := hid (dp.out.next ((Kept.refl (fun _ => False) w5).drew) (fun _ _ e => e.elim))
   have oa := hid (rX.out.same kZ0.drew)
   have vj := hid (lW.out.same kZ0.drew)
   have xU : P ≤ w5.drew.heap.size := Nat.le_trans uV ((Kept.refl (fun _ => False) w5).drew).size
   let Y1 : World → Prop := fun wx : World => wx.cell? ⟨X, 0, none⟩ = some (.int .i64 t) ∧ wx.cell? ⟨X, 1, none⟩ = some (.int .i64 p)
   have hS : Y1 (w5.drew) := oa.out.all2
   refine Q9 Y1 99 10 rfl (by kernel_rfl) ?_
   refine tk 0 19 hS ?_
   refine tk 1 20 hS ?_
   refine tk 3 22 hS ?_
   refine tk 5 24 hS ?_
   refine o1Q 2 (fun Kc hK => ?_)
   go_simp
   refine (ja7 nY ol vj.out).mono ?_
   rintro e w6 ⟨rfl, b9, aN⟩
   have oQ := hid (oa.out.kept aN (by omega))
   have kU := hid b9
   have iN := hid (ul.out.next aN (fun i hi e => by have := mL.out; omega))
   have ow : P ≤ w6.heap.size := by have := aN.size; omega
   obtain ⟨g, hg⟩ : ∃ x, nI r 2 = x := ⟨_, rfl⟩
   obtain ⟨s, hs⟩ : ∃ x, nI (r.drop 2) 2 = x := ⟨_, rfl⟩
   rw [hg, hs]
   have HG := hid hg
   have vf := hid hs
   clear hg hs
   clear b9 aN
   have hS : Y1 w6 := oQ.out.all2
   refine hK.out _ _ (fun _ => hS) ?_
   clear hK Kc
   try simp only [Act.put, sA, s0, sS]
   refine o1Q 4 (fun Kc hK => ?_)
   go_simp
   refine (jam (nY.dropI 4) (by simp only [List.length_drop]; omega) (by omega) kU.out).mono ?_
   rintro e w7 ⟨⟨bu, be, ba, bc, bb⟩, rfl, qe, pW, b9, aN⟩
   have pG := hid (oQ.out.kept aN (by omega))
   have ni := hid b9
   have j8 := hid (iN.out.next aN (fun i hi e => by have := mL.out; omega))
   have oO : P ≤ w7.heap.size := by have := aN.size; omega
   have ts := hid qe
   have yu := hid pW
   dsimp only [StPageRecord.val, BS.v]
   clear qe pW
   clear b9 aN
   have hS : Y1 w7 := pG.out.all2
   refine hK.out _ _ (fun _ => hS) ?_
   clear hK Kc
   try simp only [Act.put, sA, s0, sS]
   refine o1Q 6 (fun Kc hK => ?_)
   go_simp
   refine (jam (Xo (nY.dropI 4)).2.1 (by have := (Xo (nY.dropI 4)).2.2.2; simp only [List.length_drop] at this; omega) (by omega) ni.out).mono ?_
   rintro e w8 ⟨⟨au, ae, aa, ac, ab⟩, rfl, qe, pW, b9, aN⟩
   have wd := hid (pG.out.kept aN (by omega))
   have xJ := hid b9
   have jK := hid (j8.out.next aN (fun i hi e => by have := mL.out; omega))
   have sX : P ≤ w8.heap.size := by have := aN.size; omega
   have wO := hid qe
   have LM := hid pW
   have Ey := hid (yu.out.keep aN (fun b _ e => by omega))
   dsimp only [StPageRecord.val, BS.v]
   clear qe pW
   clear b9 aN
   have hS : Y1 w8 := wd.out.all2
   refine hK.out _ _ (fun _ => hS) ?_
   clear hK Kc
   try simp only [Act.put, sA, s0, sS]
   refine o1Q 7 (fun Kc hK => ?_)
   go_simp
   refine hK.out _ _ (fun _ => hS) ?_
   clear hK Kc
   try simp only [Act.put, sA, s0, sS]
   refine o1Q 8 (fun Kc hK => ?_)
   go_simp
   refine hK.out _ _ (fun _ => hS) ?_
   clear hK Kc
   try simp only [Act.put, sA, s0, sS]
   refine o1Q 9 (fun Kc hK => ?_)
   go_simp
   refine hK.out _ _ (fun _ => hS) ?_
   clear hK Kc
   try simp only [Act.put, sA, s0, sS]
   refine Q8 (by kernel_rfl) ?_
   try simp only [Act.put, sA, s0, sS]
   have HT := (show Hid (StLogRecord.dat { Ro 1 t p with page := g, slot := s, before := ⟨bu, be, ba, bc, bb⟩, after := ⟨au, ae, aa, ac, ab⟩ } = UK bs) from by
    unfold Hid
    rw [nF.out]
    unfold Ru
    rw [if_pos rfl, HG.out, vf.out]
    have e1 : StPageRecord.dat ⟨bu, be, ba, bc, bb⟩ = (Sz nI (fun rs n => rs.take n) (r.drop 4)).1 := ts.out
    have e2 : StPageRecord.dat ⟨au, ae, aa, ac, ab⟩ = (Sz nI (fun rs n => rs.take n) (Sz nI (fun rs n => rs.take n) (r.drop 4)).2).1 := wO.out
    rw [← e1, ← e2]
    rfl)
   go_wp2
   go_ret
   exact ⟨{ Ro 1 t p with page := g, slot := s, before := ⟨bu, be, ba, bc, bb⟩, after := ⟨au, ae, aa, ac, ab⟩ }, rfl, HT.out, Typed.k1 _ _ _ _ _ _, ⟨Ey.out.rd, LM.out.rd, TM 4 _ _, TM 2 _ _, SI _⟩, jK.out⟩
 have e1 : (k == 1) = false := by simp [k1]
 by_cases k2 : k = 2
 ·subst k2
  focus
   go_upto_region 8 with fail
   have ul := hid (dp.out.next ((Kept.refl (fun _ => False) w5).drew) (fun _ _ e => e.elim))
   have oa := hid (rX.out.same kZ0.drew)
   have vj := hid (lW.out.same kZ0.drew)
   have xU : P ≤ w5.drew.heap.size := Nat.le_trans uV ((Kept.refl (fun _ => False) w5).drew).size
   let Y2 : World → Prop := fun wx : World => wx.cell? ⟨X, 0, none⟩ = some (.int .i64 t) ∧ wx.cell? ⟨X, 1, none⟩ = some (.int .i64 p)
   have hS : Y2 (w5.drew) := oa.out.all2
   refine Q9 Y2 99 10 rfl (by kernel_rfl) ?_
   refine tk 0 30 hS ?_
   refine tk 1 31 hS ?_
   refine tk 3 33 hS ?_
   refine tk 5 35 hS ?_
   refine o1Q 2 (fun Kc hK => ?_)
   go_simp
   refine (ja7 nY ol vj.out).mono ?_
   rintro e w6 ⟨rfl, b9, aN⟩
   have oQ := hid (oa.out.kept aN (by omega))
   have kU := hid b9
   have iN := hid (ul.out.next aN (fun i hi e => by have := mL.out; omega))
   have ow : P ≤ w6.heap.size := by have := aN.size; omega
   obtain ⟨g, hg⟩ : ∃ x, nI r 2 = x := ⟨_, rfl⟩
   obtain ⟨s, hs⟩ : ∃ x, nI (r.drop 2) 2 = x := ⟨_, rfl⟩
   rw [hg, hs]
   have HG := hid hg
   have vf := hid hs
   clear hg hs
   clear b9 aN
   have hS : Y2 w6 := oQ.out.all2
   refine hK.out _ _ (fun _ => hS) ?_
   clear hK Kc
   try simp only [Act.put, sA, s0, sS]
   refine o1Q 4 (fun Kc hK => ?_)
   go_simp
   refine (jam (nY.dropI 4) (by simp only [List.length_drop]; omega) (by omega) kU.out).mono ?_
   rintro e w7 ⟨⟨bu, be, ba, bc, bb⟩, rfl, qe, pW, b9, aN⟩
   have pG := hid (oQ.out.kept aN (by omega))
   have ni := hid b9
   have j8 := hid (iN.out.next aN (fun i hi e => by have := mL.out; omega))
   have oO : P ≤ w7.heap.size := by have := aN.size; omega
   have ts := hid qe
   have yu := hid pW
   dsimp only [StPageRecord.val, BS.v]
   clear qe pW
   clear b9 aN
   have hS : Y2 w7 := pG.out.all2
   refine hK.out _ _ (fun _ => hS) ?_
   clear hK Kc
   try simp only [Act.put, sA, s0, sS]
   refine o1Q 6 (fun Kc hK => ?_)
   go_simp
   refine (RX 8 (by omega) (Xo (nY.dropI 4)).2.1 (by have := (Xo (nY.dropI 4)).2.2.2; simp only [List.length_drop] at this; omega) ni.out).mono ?_
   rintro e w8 ⟨rfl, b9, aN⟩
   have wd := hid (pG.out.kept aN (by omega))
   have xJ := hid b9
   have jK := hid (j8.out.next aN (fun i hi e => by have := mL.out; omega))
   have sX : P ≤ w8.heap.size := by have := aN.size; omega
   obtain ⟨u, hu⟩ : ∃ x, nI (slI (r.drop 4)).2 8 = x := ⟨_, rfl⟩
   rw [hu]
   have HU := hid hu
   have Ey := hid (yu.out.keep aN (fun b _ e => by omega))
   clear hu
   clear b9 aN
   have hS : Y2 w8 := wd.out.all2
   refine hK.out _ _ (fun _ => hS) ?_
   clear hK Kc
   try simp only [Act.put, sA, s0, sS]
   refine o1Q 7 (fun Kc hK => ?_)
   go_simp
   refine hK.out _ _ (fun _ => hS) ?_
   clear hK Kc
   try simp only [Act.put, sA, s0, sS]
   refine o1Q 8 (fun Kc hK => ?_)
   go_simp
   refine hK.out _ _ (fun _ => hS) ?_
   clear hK Kc
   try simp only [Act.put, sA, s0, sS]
   refine o1Q 9 (fun Kc hK => ?_)
   go_simp
   refine hK.out _ _ (fun _ => hS) ?_
   clear hK Kc
   try simp only [Act.put, sA, s0, sS]
   refine Q8 (by kernel_rfl) ?_
   try simp only [Act.put, sA, s0, sS]
   have HT := (show Hid (StLogRecord.dat { Ro 2 t p with page := g, slot := s, after := ⟨bu, be, ba, bc, bb⟩, uN := u } = UK bs) from by
    unfold Hid
    rw [nF.out]
    unfold Ru
    rw [if_neg (by decide), if_pos rfl, HG.out, vf.out]
    have e1 : StPageRecord.dat ⟨bu, be, ba, bc, bb⟩ = (Sz nI (fun rs n => rs.take n) (r.drop 4)).1 := ts.out
    have e2 : nI (Sz nI (fun rs n => rs.take n) (r.drop 4)).2 8 = u := HU.out
    rw [← e1, e2]
    rfl)
   go_wp2
   go_ret
   exact ⟨{ Ro 2 t p with page := g, slot := s, after := ⟨bu, be, ba, bc, bb⟩, uN := u }, rfl, HT.out, Typed.k2 _ _ _ _ _ _, ⟨SI _, Ey.out.rd, TM 4 _ _, TM 2 _ _, SI _⟩, jK.out⟩
 have e2 : (k == 2) = false := by simp [k2]
 by_cases k3 : k = 3
 ·subst k3
  focus
   obtain ⟨c0, c1⟩ := rX.out.all2
   have HT := (show Hid (StLogRecord.dat (Ro 3 t p) = UK bs) from by
    unfold Hid
    rw [nF.out]
    unfold Ru
    rfl)
   go_wp2
   go_ret
   exact ⟨(Ro 3 t p), rfl, HT.out, Typed.k3 _ _, ⟨SI _, SI _, TM 4 _ _, TM 2 _ _, SI _⟩, dp.out⟩
 have e3 : (k == 3) = false := by simp [k3]
 by_cases k4 : k = 4
 ·subst k4
  focus
   obtain ⟨c0, c1⟩ := rX.out.all2
   have HT := (show Hid (StLogRecord.dat (Ro 4 t p) = UK bs) from by
    unfold Hid
    rw [nF.out]
    unfold Ru
    rfl)
   go_wp2
   go_ret
   exact ⟨(Ro 4 t p), rfl, HT.out, Typed.k4 _ _, ⟨SI _, SI _, TM 4 _ _, TM 2 _ _, SI _⟩, dp.out⟩
 have e4 : (k == 4) = false := by simp [k4]
 by_cases k5 : k = 5
 ·subst k5
  focus
   obtain ⟨c0, c1⟩ := rX.out.all2
   have HT := (show Hid (StLogRecord.dat (Ro 5 t p) = UK bs) from by
    unfold Hid
    rw [nF.out]
    unfold Ru
    rfl)
   go_wp2
   go_ret
   exact ⟨(Ro 5 t p), rfl, HT.out, Typed.k5 _ _, ⟨SI _, SI _, TM 4 _ _, TM 2 _ _, SI _⟩, dp.out⟩
 have e5 : (k == 5) = false := by simp [k5]
 by_cases k6 : k = 6
 ·subst k6
  focus
   obtain ⟨c0, c1⟩ := rX.out.all2
   have HT := (show Hid (StLogRecord.dat (Ro 6 0 0) = UK bs) from by
    unfold Hid
    rw [nF.out]
    unfold Ru
    rfl)
   go_wp2
   go_ret
   exact ⟨(Ro 6 0 0), rfl, HT.out, Typed.k6, ⟨SI _, SI _, TM 4 _ _, TM 2 _ _, SI _⟩, dp.out⟩
 have e6 : (k == 6) = false := by simp [k6]
 by_cases k7 : k = 7
 ·subst k7
  focus
   go_wp2_with fail
   refine (RX 4 (by omega) nY ol lW.out).mono ?_
   rintro e w6 ⟨rfl, b9, aN⟩
   have kU := hid b9
   have iN := hid (dp.out.next aN (fun i hi e => by have := mL.out; omega))
   have ow : P ≤ w6.heap.size := by have := aN.size; omega
   obtain ⟨u, hu⟩ : ∃ x, nI r 4 = x := ⟨_, rfl⟩
   rw [hu]
   have HU := hid hu
   clear hu b9 aN
   go_wp2_with fail
   refine (jeR (nY.dropI 4) (by simp only [List.length_drop]; omega) (by omega) kU.out).mono ?_
   rintro e w7 ⟨ta, tn, tc, rfl, Jq, JB, ID, b9, aN⟩
   have ni := hid b9
   have j8 := hid (iN.out.next aN (fun i hi e => by have := mL.out; omega))
   have oO : P ≤ w7.heap.size := by have := aN.size; omega
   have BJ := hid Jq
   have NJ := hid JB
   have r9 := hid ID
   have P6 := kU.out.lt
   clear Jq JB ID b9 aN
   go_wp2_with fail
   refine (jdR (((nY.dropI 4).dropI 1).dropI _) (by simp only [List.length_drop]; omega) (by omega) ni.out).mono ?_
   rintro e w8 ⟨da, dn, dc, rfl, IL, BL, Nw, b9, aN⟩
   have xJ := hid b9
   have jK := hid (j8.out.next aN (fun i hi e => by have := mL.out; omega))
   have sX : P ≤ w8.heap.size := by have := aN.size; omega
   have Bu := hid IL
   have Ls := hid BL
   have B6 := hid (NJ.out.kept aN (fun b hb e => by have := r9.out b ((Rw _ _).1 hb); omega))
   clear IL BL Nw b9 aN
   have HT := (show Hid (StLogRecord.dat { Ro 7 0 0 with nT := u, txns := ⟨96, ta, tn, tc, txL nI ((r.drop 4).drop 1) tn⟩, dirty := ⟨98, da, dn, dc, dyL nI (((((r.drop 4).drop 1).drop (21 * tn)).drop 1)) dn⟩ } = UK bs) from by
    unfold Hid
    rw [nF.out]
    unfold Ru
    rw [if_neg (by decide), if_neg (by decide), if_pos rfl, if_neg (by decide), if_neg (by decide), HU.out, ← BJ.out]
    have e1 := Bu.out
    simp only [List.drop_drop] at e1 ⊢
    simp only [Nat.reduceAdd] at e1 ⊢
    rw [← e1]
    unfold StLogRecord.dat
    rfl)
   go_wp2
   go_ret
   exact ⟨{ Ro 7 0 0 with nT := u, txns := ⟨96, ta, tn, tc, txL nI ((r.drop 4).drop 1) tn⟩, dirty := ⟨98, da, dn, dc, dyL nI (((((r.drop 4).drop 1).drop (21 * tn)).drop 1)) dn⟩ }, rfl, HT.out, Typed.k7 _ _ _, ⟨SI _, SI _, FR.own_rd B6.out, FR.own_rd Ls.out, SI _⟩, jK.out⟩
 have e7 : (k == 7) = false := by simp [k7]
 by_cases k8 : k = 8
 ·subst k8
  focus
   go_wp2_with fail
   refine (RX 2 (by omega) nY ol lW.out).mono ?_
   rintro e w6 ⟨rfl, b9, aN⟩
   have kU := hid b9
   have iN := hid (dp.out.next aN (fun i hi e => by have := mL.out; omega))
   have ow : P ≤ w6.heap.size := by have := aN.size; omega
   obtain ⟨g, hg⟩ : ∃ x, nI r 2 = x := ⟨_, rfl⟩
   rw [hg]
   have HG := hid hg
   clear hg b9 aN
   go_wp2_with fail
   refine (jak 4096 (by omega) (by simp only [List.length_drop]; omega) kU.out).mono ?_
   rintro e w7 ⟨ia, ic, rfl, hv, b9, aN⟩
   have ni := hid b9
   have j8 := hid (iN.out.next aN (fun i hi e => by have := mL.out; omega))
   have oO : P ≤ w7.heap.size := by have := aN.size; omega
   obtain ⟨im, qk⟩ : ∃ x, (r.drop 2).take (4096 : Int).toNat = x := ⟨_, rfl⟩
   rw [qk] at hv ⊢
   have NP := hid qk
   have yu := hid hv
   clear hv b9 aN qk
   have HT := (show Hid (StLogRecord.dat { Ro 8 0 0 with page := g, image := ⟨5, ia, ic, im⟩ } = UK bs) from by
    unfold Hid
    rw [nF.out]
    unfold Ru
    rw [if_neg (by decide), if_neg (by decide), if_neg (by decide), if_pos rfl, if_neg (by decide), if_neg (by decide), HG.out]
    rw [← NP.out]
    rfl)
   go_wp2
   go_ret
   exact ⟨{ Ro 8 0 0 with page := g, image := ⟨5, ia, ic, im⟩ }, rfl, HT.out, Typed.k8 _ _, ⟨SI _, SI _, TM 4 _ _, TM 2 _ _, yu.out _ kZ0⟩, j8.out⟩
 have e8 : (k == 8) = false := by simp [k8]
 have HT := (show Hid (StLogRecord.dat (Ro k (if k ≤ 5 then t else 0) (if k ≤ 5 then p else 0)) = UK bs) from by
  unfold Hid
  rw [nF.out]
  unfold Ru
  rw [if_neg k1, if_neg k2, if_neg k7, if_neg k8]
  rfl)
 have HN := (show Hid (tyV (Ro k (if k ≤ 5 then t else 0) (if k ≤ 5 then p else 0)) = .nilIface) from by
  unfold Hid tyV Ro
  dsimp only
  rw [if_neg k1, if_neg k2, if_neg k3, if_neg k4, if_neg k5, if_neg k6, if_neg k7, if_neg k8])
 have O2 := (show Hid (Typed (Ro k (if k ≤ 5 then t else 0) (if k ≤ 5 then p else 0))) from Typed.k0 _ _ _ (by omega))
 clear k1 k2 k3 k4 k5 k6 k7 k8
 go_wp2
 go_ret
 exact ⟨_, by rw [HN.out]; rfl, HT.out, O2.out, ⟨SI _, SI _, TM 4 _ _, TM 2 _ _, SI _⟩, dp.out⟩
theorem Own.sizedR {base : Nat} {e : TypeId} {k : IntKind} {w : World} {aa : Option Addr} {nn cc : Nat} {bs : List Int} (h : Own base e k w (.slice aa nn cc) bs) : nn = bs.length := by
 obtain ⟨_, _, h'⟩ := h.rd.form; injection h' with _ h' _
theorem ZV {e : TypeId} {g n c m : Nat} {bs : List Int} {b : Nat} (h : Rf (FR.rows m ⟨e, some ⟨g, 0, none⟩, n, c, bs⟩) b) : g = b := by
 have h := (Rw _ _).1 h
 simpa [FR.v, Value.ownBlock] using h
theorem ZW {w : World} {b off : Nat} {bs : List Int} (hc : ∀ i, i < bs.length → w.cell? ⟨b, off + i, none⟩ = some (.int .i64 (bs.getD i 0))) (j : Nat) (u : Value) (h : (vals .i64 bs)[j]? = some u) : w.cell? ((⟨b, off, none⟩ : Addr).add j) = some u := by
 have hj : j < bs.length := by have := (List.getElem?_eq_some_iff.1 h).1; rwa [Rb] at this
 rw [SK _ _ _ hj] at h
 rw [Addr.add_lit, hc j hj]
 exact h
theorem jci {e : TypeId} {w : World} {v : Value} {n base : Nat} {bs : List Int} (h : w.ownsRow base e 4 v n (vals .i64 bs)) : ∃ a c, v = .slice a n c ∧ OwnL w (FR.rows 4 ⟨e, a, n, c, bs⟩) ∧ (∀ b, Rf (FR.rows 4 ⟨e, a, n, c, bs⟩) b → base ≤ b) := by
 have h0 : w.ownsRow 0 e 4 v n (vals .i64 bs) := ⟨h.1, by
  rcases h.2 with h | ⟨g, cap, cur, h1, hb, h3⟩
  ·exact .inl h
  ·exact .inr ⟨g, cap, cur, h1, Nat.zero_le _, h3⟩⟩
 rcases h.2 with ⟨rfl, h2⟩ | ⟨g, cap, cur, rfl, hb, nO, hc, hm, hs, ht⟩
 ·obtain rfl : n = 0 := by
   have := h.1; rw [h2] at this; simp at this; omega
  exact ⟨none, 0, rfl, ⟨fun r hr => by rw [List.mem_singleton.1 hr]; exact h0, List.pairwise_singleton _ _⟩, fun b hb => by have := (Rw _ _).1 hb; simp [FR.v, Value.ownBlock] at this⟩
 ·exact ⟨some ⟨g, 0, none⟩, cap, rfl, ⟨fun r hr => by rw [List.mem_singleton.1 hr]; exact h0, List.pairwise_singleton _ _⟩, fun b iq => by have := ZV iq; omega⟩
theorem jcj (x : FR) (w : World) (hn : x.n ≤ 1048576) (hv : RdF 4 w x) :
  Calls Tryz.prog 90 #[x.v] w fun e w' => ∃ a c, e = .returned (.slice a x.n c) ∧ OwnL w' (FR.rows 4 ⟨96, a, x.n, c, x.bs⟩) ∧ (∀ b, Rf (FR.rows 4 ⟨96, a, x.n, c, x.bs⟩) b → w.heap.size ≤ b) ∧ Same w w' := by
 obtain ⟨i0, hi, eL, eT, fM⟩ := info_parts ja8
 have kR := fun (wx : World) (a : Option Addr) (n c : Nat) => Lib.run_eql_slice_nil (P := Tryz.prog) wx 47 96 a n c 0 0 Tryz.underlying47
 obtain ⟨xe, xa, n, xc, bs⟩ := x
 dsimp only [FR.v] at hn ⊢
 have hl : bs.length = n * 4 := hv.2.1
 cases xa with
 | none =>
  obtain rfl : n = 0 := by
   rcases hv.2.2 with h | ⟨b, off, h, _⟩
   ·exact h
   ·cases h
  obtain rfl : bs = [] := List.length_eq_zero_iff.1 (by omega)
  clear hv hn hl
  go_enter Tryz.func90, Tryz.ntmps90
  go_wp2
  go_ret
  exact ⟨_, _, rfl, Uc _ _ _, fun b hb => by have := (Rw _ _).1 hb; simp [FR.v, Value.ownBlock] at this, kZ0⟩
 | some ad =>
  obtain ⟨b0, mq, vw⟩ := ad
  have EF : Hid (∀ j u, (vals .i64 bs)[j]? = some u → (w.alloc (.cells #[] 96)).cell? ((⟨b0, mq, vw⟩ : Addr).add j) = some u) := by
   rcases hv.2.2 with h | ⟨b, off, h, _, hc⟩
   ·dsimp only at h
    subst h
    obtain rfl : bs = [] := List.length_eq_zero_iff.1 (by omega)
    intro j u hj
    simp [vals] at hj
   ·dsimp only at h hc
    injection h with h
    injection h with h1 h2 h3
    subst h1 h2 h3
    have sj : ∀ i, i < bs.length → (w.alloc (.cells #[] 96)).cell? ⟨b0, mq + i, none⟩ = some (.int .i64 (bs.getD i 0)) := fun i hi => ((Kept.refl (fun _ => False) w).alloc _).cellOf (hc i (by omega)) (fun h => h)
    exact ZW sj
  clear hv
  go_enter Tryz.func90, Tryz.ntmps90
  go_wp2_with (at_builtin; refine wpList_append_own _ rfl (.tmp 5) (.tmp 6) 47 rfl w.heap.size 96 i0 _ 4 32 Tryz.underlying47 hi eL eT fM rfl (by decide) (.slice (some ⟨w.heap.size, 0, none⟩) 0 0) 0 [] rfl (World.ownsRow_made w #[] 0 (Nat.le_refl _) (by simp) (by simp)) ⟨b0, mq, vw⟩ n xc (vals .i64 bs) rfl (by rw [Rb]; exact hl) EF.out TN (by unfold maxLen; omega) (by omega) (by simp) ?_; intro v' w1 cy bS _; have HF := (show Hid (w1.ownsRow w.heap.size 96 4 v' n (vals .i64 bs)) from (by simpa [Hid] using cy)); have HK : Hid (Same w w1) := (kZ0.alloc _).grown bS (fun k e => .inl (by simp [Value.ownBlock] at e; omega)); obtain ⟨aa, ca, rfl, ho, hb⟩ := jci HF.out; have HO := hid ho; have HB := hid hb; clear cy bS ho hb)
  go_ret
  exact ⟨_, _, rfl, HO.out, HB.out, HK.out⟩
theorem jck {e : TypeId} {w : World} {v : Value} {n base : Nat} {bs : List Int} (h : w.ownsRow base e 2 v n (vals .i64 bs)) : ∃ a c, v = .slice a n c ∧ OwnL w (FR.rows 2 ⟨e, a, n, c, bs⟩) ∧ (∀ b, Rf (FR.rows 2 ⟨e, a, n, c, bs⟩) b → base ≤ b) := by
 have h0 : w.ownsRow 0 e 2 v n (vals .i64 bs) := ⟨h.1, by
  rcases h.2 with h | ⟨g, cap, cur, h1, hb, h3⟩
  ·exact .inl h
  ·exact .inr ⟨g, cap, cur, h1, Nat.zero_le _, h3⟩⟩
 rcases h.2 with ⟨rfl, h2⟩ | ⟨g, cap, cur, rfl, hb, nO, hc, hm, hs, ht⟩
 ·obtain rfl : n = 0 := by
   have := h.1; rw [h2] at this; simp at this; omega
  exact ⟨none, 0, rfl, ⟨fun r hr => by rw [List.mem_singleton.1 hr]; exact h0, List.pairwise_singleton _ _⟩, fun b hb => by have := (Rw _ _).1 hb; simp [FR.v, Value.ownBlock] at this⟩
 ·exact ⟨some ⟨g, 0, none⟩, cap, rfl, ⟨fun r hr => by rw [List.mem_singleton.1 hr]; exact h0, List.pairwise_singleton _ _⟩, fun b iq => by have := ZV iq; omega⟩
theorem jcl (x : FR) (w : World) (hn : x.n ≤ 1048576) (hv : RdF 2 w x) :
  Calls Tryz.prog 91 #[x.v] w fun e w' => ∃ a c, e = .returned (.slice a x.n c) ∧ OwnL w' (FR.rows 2 ⟨98, a, x.n, c, x.bs⟩) ∧ (∀ b, Rf (FR.rows 2 ⟨98, a, x.n, c, x.bs⟩) b → w.heap.size ≤ b) ∧ Same w w' := by
 obtain ⟨i0, hi, eL, eT, fM⟩ := info_parts Yq
 have kR := fun (wx : World) (a : Option Addr) (n c : Nat) => Lib.run_eql_slice_nil (P := Tryz.prog) wx 48 98 a n c 0 0 Tryz.underlying48
 obtain ⟨xe, xa, n, xc, bs⟩ := x
 dsimp only [FR.v] at hn ⊢
 have hl : bs.length = n * 2 := hv.2.1
 cases xa with
 | none =>
  obtain rfl : n = 0 := by
   rcases hv.2.2 with h | ⟨b, off, h, _⟩
   ·exact h
   ·cases h
  obtain rfl : bs = [] := List.length_eq_zero_iff.1 (by omega)
  clear hv hn hl
  go_enter Tryz.func91, Tryz.ntmps91
  go_wp2
  go_ret
  exact ⟨_, _, rfl, Uc _ _ _, fun b hb => by have := (Rw _ _).1 hb; simp [FR.v, Value.ownBlock] at this, kZ0⟩
 | some ad =>
  obtain ⟨b0, mq, vw⟩ := ad
  have EF : Hid (∀ j u, (vals .i64 bs)[j]? = some u → (w.alloc (.cells #[] 98)).cell? ((⟨b0, mq, vw⟩ : Addr).add j) = some u) := by
   rcases hv.2.2 with h | ⟨b, off, h, _, hc⟩
   ·dsimp only at h
    subst h
    obtain rfl : bs = [] := List.length_eq_zero_iff.1 (by omega)
    intro j u hj
    simp [vals] at hj
   ·dsimp only at h hc
    injection h with h
    injection h with h1 h2 h3
    subst h1 h2 h3
    have sj : ∀ i, i < bs.length → (w.alloc (.cells #[] 98)).cell? ⟨b0, mq + i, none⟩ = some (.int .i64 (bs.getD i 0)) := fun i hi => ((Kept.refl (fun _ => False) w).alloc _).cellOf (hc i (by omega)) (fun h => h)
    exact ZW sj
  clear hv
  go_enter Tryz.func91, Tryz.ntmps91
  go_wp2_with (at_builtin; refine wpList_append_own _ rfl (.tmp 5) (.tmp 6) 48 rfl w.heap.size 98 i0 _ 2 16 Tryz.underlying48 hi eL eT fM rfl (by decide) (.slice (some ⟨w.heap.size, 0, none⟩) 0 0) 0 [] rfl (World.ownsRow_made w #[] 0 (Nat.le_refl _) (by simp) (by simp)) ⟨b0, mq, vw⟩ n xc (vals .i64 bs) rfl (by rw [Rb]; exact hl) EF.out TN (by unfold maxLen; omega) (by omega) (by simp) ?_; intro v' w1 cy bS _; have HF := (show Hid (w1.ownsRow w.heap.size 98 2 v' n (vals .i64 bs)) from (by simpa [Hid] using cy)); have HK : Hid (Same w w1) := (kZ0.alloc _).grown bS (fun k e => .inl (by simp [Value.ownBlock] at e; omega)); obtain ⟨aa, ca, rfl, ho, hb⟩ := jck HF.out; have HO := hid ho; have HB := hid hb; clear cy bS ho hb)
  go_ret
  exact ⟨_, _, rfl, HO.out, HB.out, HK.out⟩
structure OwI (w wx : World) (A B : Nat) (cs : List Value) (L : List Row) : Prop where
 box : Blk wx A 50 cs
 res : Blk wx B 50 [.int .i64 0, .int .i64 0, .int .i64 0, .int .i64 0, .int .i64 0, .bool false, .slice none 0 0, .bool false, .slice none 0 0, .int .i64 0, .int .i64 0, .slice none 0 0, .slice none 0 0, .slice none 0 0]
 kept : Same w wx
 own : OwnL wx L
 foot : ∀ b, Rf L b → w.heap.size ≤ b ∧ b ≠ A ∧ b ≠ B
 pl : w.heap.size ≤ A ∧ w.heap.size ≤ B ∧ A ≠ B
theorem OwI.step {w wx wy : World} {A B : Nat} {cs Jb : List Value} {L q : List Row} (h : OwI w wx A B cs L) (hk : Same wx wy) (ho : OwnL wy q) (hf : ∀ b, Rf q b → wx.heap.size ≤ b) (j : Nat) (v : Value) (hc : Jb = cs.set j v) : OwI w (wy.setCell ⟨A, j, none⟩ v) A B Jb (L ++ q) := by
 have hs : Kept (fun b => b = A) wy (wy.setCell ⟨A, j, none⟩ v) := (Kept.refl (fun b => b = A) wy).setCell (p := ⟨A, j, none⟩) (.inr rfl) _
 have e1 := h.box.lt
 have e2 := h.res.lt
 have e3 := h.kept.size
 have e4 := h.pl
 subst hc
 refine ⟨(h.box.same hk).stored j v, (h.res.same hk).kept hs (fun e => e4.2.2 e.symm), (h.kept.trans hk).next hs (fun i hi e => by omega), ((h.own.same hk).append ho (fun b h1 h2 => by have := h.own.lt b h1; have := hf b h2; omega)).kept hs (fun b hb e => ?_), fun b hb => ?_, e4⟩
 ·rcases (Q7 _ _ _).1 hb with h1 | h1
  ·exact (h.foot b h1).2.1 e
  ·have := hf b h1; omega
 ·rcases (Q7 _ _ _).1 hb with h1 | h1
  ·exact h.foot b h1
  ·have := hf b h1; omega
theorem jbl (y : StLogRecord) (w : World) (hn : y.before.data.bs.length ≤ 1099511627776 ∧ y.after.data.bs.length ≤ 1099511627776 ∧ y.txns.n ≤ 1048576 ∧ y.dirty.n ≤ 1048576 ∧ y.image.bs.length ≤ 1099511627776) (hv : StLogRecord.rd w y) :
  Calls Tryz.prog 71 #[y.val] w fun e w' => ∃ z : StLogRecord, e = .returned z.val ∧ z.dat = y.dat ∧ (∀ b, Rf z.rows b → w.heap.size ≤ b) ∧ OwnL w' z.rows ∧ Same w w' := by
 obtain ⟨k, t, p, g, s, ⟨bu, ⟨be, ba, bc, bb⟩⟩, ⟨au, ⟨ae, aa, ac, ab⟩⟩, u, nt, ⟨te, ta, tn, tc, tb⟩, ⟨de, da, dn, dc, db⟩, ⟨ie, ia, ic, ib⟩⟩ := y
 obtain ⟨n1, n2, n3, n4, n5⟩ := hn
 have HV := hid hv
 dsimp only [StLogRecord.val, StPageRecord.val, BS.v, FR.v] at n1 n2 n3 n4 n5 ⊢
 obtain ⟨aJ, mQ, bm⟩ := new2 w [.int .i64 k, .int .i64 t, .int .i64 p, .int .i64 g, .int .i64 s, .bool bu, .slice ba bb.length bc, .bool au, .slice aa ab.length ac, .int .i64 u, .int .i64 nt, .slice ta tn tc, .slice da dn dc, .slice ia ib.length ic] 50 [.int .i64 0, .int .i64 0, .int .i64 0, .int .i64 0, .int .i64 0, .bool false, .slice none 0 0, .bool false, .slice none 0 0, .int .i64 0, .int .i64 0, .slice none 0 0, .slice none 0 0, .slice none 0 0] 50
 have rm := (show Hid (OwI w ((w.alloc (.cells #[.int .i64 k, .int .i64 t, .int .i64 p, .int .i64 g, .int .i64 s, .bool bu, .slice ba bb.length bc, .bool au, .slice aa ab.length ac, .int .i64 u, .int .i64 nt, .slice ta tn tc, .slice da dn dc, .slice ia ib.length ic] 50)).alloc (.cells #[.int .i64 0, .int .i64 0, .int .i64 0, .int .i64 0, .int .i64 0, .bool false, .slice none 0 0, .bool false, .slice none 0 0, .int .i64 0, .int .i64 0, .slice none 0 0, .slice none 0 0, .slice none 0 0] 50)) w.heap.size (w.heap.size + 1) [.int .i64 k, .int .i64 t, .int .i64 p, .int .i64 g, .int .i64 s, .bool bu, .slice ba bb.length bc, .bool au, .slice aa ab.length ac, .int .i64 u, .int .i64 nt, .slice ta tn tc, .slice da dn dc, .slice ia ib.length ic] []) from ⟨mQ.out, bm.out, aJ.out, ⟨fun r hr => by simp at hr, List.Pairwise.nil⟩, fun b hb => by obtain ⟨r, hr, _⟩ := hb; simp at hr, Nat.le_refl _, by omega, by omega⟩)
 clear aJ mQ bm hv
 go_enter Tryz.func71, Tryz.ntmps71
 go_upto_region 1 with fail
 generalize (w.alloc (.cells #[.int .i64 k, .int .i64 t, .int .i64 p, .int .i64 g, .int .i64 s, .bool bu, .slice ba bb.length bc, .bool au, .slice aa ab.length ac, .int .i64 u, .int .i64 nt, .slice ta tn tc, .slice da dn dc, .slice ia ib.length ic] 50)).alloc (.cells #[.int .i64 0, .int .i64 0, .int .i64 0, .int .i64 0, .int .i64 0, .bool false, .slice none 0 0, .bool false, .slice none 0 0, .int .i64 0, .int .i64 0, .slice none 0 0, .slice none 0 0, .slice none 0 0] 50) = w0 at rm ⊢
 obtain ⟨A, hA⟩ : ∃ A, w.heap.size = A := ⟨_, rfl⟩
 have rm := (show Hid (OwI w w0 A (A + 1) [.int .i64 k, .int .i64 t, .int .i64 p, .int .i64 g, .int .i64 s, .bool bu, .slice ba bb.length bc, .bool au, .slice aa ab.length ac, .int .i64 u, .int .i64 nt, .slice ta tn tc, .slice da dn dc, .slice ia ib.length ic] []) from by have h := rm.out; rw [hA] at h; exact h)
 rw [hA]
 have OX := hid hA
 clear hA
 have cc : w0.cell? ⟨A, 6, none⟩ = some (.slice ba bb.length bc) := rm.out.box.cell 6
 go_wp2_with fail
 refine (Xi _ bb _ n1 (HV.out.1.same rm.out.kept)).mono ?_
 rintro e v1 ⟨a1, PY, c1, rfl, aw, hf, hk⟩
 obtain rfl := aw.sizedR
 have fU := (show Hid (OwnL v1 (BS.rows ⟨5, a1, c1, bb⟩)) from OwnL.one aw)
 have fa := (rm.out.box.same hk).frozen
 have ca : v1.cell? ⟨A, 6, none⟩ = some (.slice ba bb.length bc) := (rm.out.box.same hk).cell 6
 have jX := (show Hid (OwI w (v1.setCell ⟨A, 6, none⟩ (.slice a1 bb.length c1)) A (A + 1) _ _) from rm.out.step hk fU.out (fun b hb => hf b ((RF _ _ _ _ _).1 hb)) 6 (.slice a1 bb.length c1) rfl)
 dsimp only [List.set_cons_succ, List.set_cons_zero] at jX
 clear aw hf hk fU rm
 clear cc
 go_upto_region 2 with fail
 generalize v1.setCell ⟨A, 6, none⟩ (.slice a1 bb.length c1) = w1 at jX ⊢
 clear fa ca
 have cc : w1.cell? ⟨A, 8, none⟩ = some (.slice aa ab.length ac) := jX.out.box.cell 8
 go_wp2_with fail
 refine (Xi _ ab _ n2 (HV.out.2.1.same jX.out.kept)).mono ?_
 rintro e v2 ⟨a2, Pz, c2, rfl, aw, hf, hk⟩
 obtain rfl := aw.sizedR
 have jD := (show Hid (OwnL v2 (BS.rows ⟨5, a2, c2, ab⟩)) from OwnL.one aw)
 have fa := (jX.out.box.same hk).frozen
 have ca : v2.cell? ⟨A, 8, none⟩ = some (.slice aa ab.length ac) := (jX.out.box.same hk).cell 8
 have iL := (show Hid (OwI w (v2.setCell ⟨A, 8, none⟩ (.slice a2 ab.length c2)) A (A + 1) _ _) from jX.out.step hk jD.out (fun b hb => hf b ((RF _ _ _ _ _).1 hb)) 8 (.slice a2 ab.length c2) rfl)
 dsimp only [List.set_cons_succ, List.set_cons_zero] at iL
 clear aw hf hk jD jX
 clear cc
 go_upto_region 3 with fail
 generalize v2.setCell ⟨A, 8, none⟩ (.slice a2 ab.length c2) = w2 at iL ⊢
 clear fa ca
 have cc : w2.cell? ⟨A, 11, none⟩ = some (.slice ta tn tc) := iL.out.box.cell 11
 go_wp2_with fail
 refine (jcj ⟨te, ta, tn, tc, tb⟩ _ n3 (HV.out.2.2.1.same iL.out.kept)).mono ?_
 rintro e v3 ⟨a3, c3, rfl, aw, hf, hk⟩
 have fa := (iL.out.box.same hk).frozen
 have ca : v3.cell? ⟨A, 11, none⟩ = some (.slice ta tn tc) := (iL.out.box.same hk).cell 11
 have lh := (show Hid (OwI w (v3.setCell ⟨A, 11, none⟩ (.slice a3 tn c3)) A (A + 1) _ _) from iL.out.step hk aw hf 11 (.slice a3 tn c3) rfl)
 dsimp only [List.set_cons_succ, List.set_cons_zero] at lh
 clear aw hf hk iL
 clear cc
 go_upto_region 4 with fail
 generalize v3.setCell ⟨A, 11, none⟩ (.slice a3 tn c3) = w3 at lh ⊢
 clear fa ca
 have cc : w3.cell? ⟨A, 12, none⟩ = some (.slice da dn dc) := lh.out.box.cell 12
 go_wp2_with fail
 refine (jcl ⟨de, da, dn, dc, db⟩ _ n4 (HV.out.2.2.2.1.same lh.out.kept)).mono ?_
 rintro e v4 ⟨a4, c4, rfl, aw, hf, hk⟩
 have fa := (lh.out.box.same hk).frozen
 have ca : v4.cell? ⟨A, 12, none⟩ = some (.slice da dn dc) := (lh.out.box.same hk).cell 12
 have jP := (show Hid (OwI w (v4.setCell ⟨A, 12, none⟩ (.slice a4 dn c4)) A (A + 1) _ _) from lh.out.step hk aw hf 12 (.slice a4 dn c4) rfl)
 dsimp only [List.set_cons_succ, List.set_cons_zero] at jP
 clear aw hf hk lh
 clear cc
 go_upto_region 5 with fail
 generalize v4.setCell ⟨A, 12, none⟩ (.slice a4 dn c4) = w4 at jP ⊢
 clear fa ca
 have cc : w4.cell? ⟨A, 13, none⟩ = some (.slice ia ib.length ic) := jP.out.box.cell 13
 go_wp2_with fail
 refine (Xi _ ib _ n5 (HV.out.2.2.2.2.same jP.out.kept)).mono ?_
 rintro e v5 ⟨a5, PN, c5, rfl, aw, hf, hk⟩
 obtain rfl := aw.sizedR
 have lW := (show Hid (OwnL v5 (BS.rows ⟨5, a5, c5, ib⟩)) from OwnL.one aw)
 have fa := (jP.out.box.same hk).frozen
 have ca : v5.cell? ⟨A, 13, none⟩ = some (.slice ia ib.length ic) := (jP.out.box.same hk).cell 13
 have ix := (show Hid (OwI w (v5.setCell ⟨A, 13, none⟩ (.slice a5 ib.length c5)) A (A + 1) _ _) from jP.out.step hk lW.out (fun b hb => hf b ((RF _ _ _ _ _).1 hb)) 13 (.slice a5 ib.length c5) rfl)
 dsimp only [List.set_cons_succ, List.set_cons_zero] at ix
 clear aw hf hk lW jP
 clear cc
 go_upto_region 6 with fail
 generalize v5.setCell ⟨A, 13, none⟩ (.slice a5 ib.length c5) = w5 at ix ⊢
 clear fa ca
 obtain ⟨q0, q1, q2, q3, q4, q5, q6, q7, q8, q9, yX, zC, zg, zB⟩ := (show Blk w5 A 50 [.int .i64 k, .int .i64 t, .int .i64 p, .int .i64 g, .int .i64 s, .bool bu, .slice a1 bb.length c1, .bool au, .slice a2 ab.length c2, .int .i64 u, .int .i64 nt, .slice a3 tn c3, .slice a4 dn c4, .slice a5 ib.length c5] from ix.out.box).all14
 have fz := ix.out.res.frozen
 have lv := ix.out.box.lt
 have vI := ix.out.res.lt
 have z0 := ix.out.res.cell 0
 have z1 := ix.out.res.cell 1
 have z2 := ix.out.res.cell 2
 have z3 := ix.out.res.cell 3
 have z4 := ix.out.res.cell 4
 have z5 := ix.out.res.cell 5
 have z6 := ix.out.res.cell 6
 have z7 := ix.out.res.cell 7
 have z8 := ix.out.res.cell 8
 have z9 := ix.out.res.cell 9
 have ip := ix.out.res.cell 10
 have iw := ix.out.res.cell 11
 have ir := ix.out.res.cell 12
 have gY := ix.out.res.cell 13
 simp only [List.getElem?_cons_zero, List.getElem?_cons_succ] at z0 z1 z2 z3 z4 z5 z6 z7 z8 z9 ip iw ir gY
 have HS := (show Hid (Kept (fun b => b = A + 1) w5 ((((((((((((((w5.setCell ⟨A + 1, 0, none⟩ (.int .i64 k)).setCell ⟨A + 1, 1, none⟩ (.int .i64 t)).setCell ⟨A + 1, 2, none⟩ (.int .i64 p)).setCell ⟨A + 1, 3, none⟩ (.int .i64 g)).setCell ⟨A + 1, 4, none⟩ (.int .i64 s)).setCell ⟨A + 1, 5, none⟩ (.bool bu)).setCell ⟨A + 1, 6, none⟩ (.slice a1 bb.length c1)).setCell ⟨A + 1, 7, none⟩ (.bool au)).setCell ⟨A + 1, 8, none⟩ (.slice a2 ab.length c2)).setCell ⟨A + 1, 9, none⟩ (.int .i64 u)).setCell ⟨A + 1, 10, none⟩ (.int .i64 nt)).setCell ⟨A + 1, 11, none⟩ (.slice a3 tn c3)).setCell ⟨A + 1, 12, none⟩ (.slice a4 dn c4)).setCell ⟨A + 1, 13, none⟩ (.slice a5 ib.length c5))) from ((((((((((((((Kept.refl (fun b => b = A + 1) w5).setCell (p := ⟨A + 1, 0, none⟩) (.inr rfl) _).setCell (p := ⟨A + 1, 1, none⟩) (.inr rfl) _).setCell (p := ⟨A + 1, 2, none⟩) (.inr rfl) _).setCell (p := ⟨A + 1, 3, none⟩) (.inr rfl) _).setCell (p := ⟨A + 1, 4, none⟩) (.inr rfl) _).setCell (p := ⟨A + 1, 5, none⟩) (.inr rfl) _).setCell (p := ⟨A + 1, 6, none⟩) (.inr rfl) _).setCell (p := ⟨A + 1, 7, none⟩) (.inr rfl) _).setCell (p := ⟨A + 1, 8, none⟩) (.inr rfl) _).setCell (p := ⟨A + 1, 9, none⟩) (.inr rfl) _).setCell (p := ⟨A + 1, 10, none⟩) (.inr rfl) _).setCell (p := ⟨A + 1, 11, none⟩) (.inr rfl) _).setCell (p := ⟨A + 1, 12, none⟩) (.inr rfl) _).setCell (p := ⟨A + 1, 13, none⟩) (.inr rfl) _)
 have HO := hid (ix.out.own.kept HS.out (fun b hb e => (ix.out.foot b hb).2.2 e))
 go_wp2
 refine bodyPost_ret (v := .agg #[.int .i64 k, .int .i64 t, .int .i64 p, .int .i64 g, .int .i64 s, .bool bu, .slice a1 bb.length c1, .bool au, .slice a2 ab.length c2, .int .i64 u, .int .i64 nt, .slice a3 tn c3, .slice a4 dn c4, .slice a5 ib.length c5]) (by simp [results, Tryz.results71, go_sem, z0, z1, z2, z3, z4, z5, z6, z7, z8, z9, ip, iw, ir, gY]) rfl ⟨⟨k, t, p, g, s, ⟨bu, ⟨5, a1, c1, bb⟩⟩, ⟨au, ⟨5, a2, c2, ab⟩⟩, u, nt, ⟨96, a3, tn, c3, tb⟩, ⟨98, a4, dn, c4, db⟩, ⟨5, a5, c5, ib⟩⟩, rfl, rfl, fun b hb => ?_, ?_, ?_⟩
 ·refine (ix.out.foot b ?_).1
  simp only [List.nil_append, List.append_assoc]
  exact hb
 ·have h := HO.out
  simp only [List.nil_append, List.append_assoc] at h
  exact h
 ·exact ix.out.kept.next HS.out (fun i hi e => by have := OX.out; omega)
end Go.Proofs.YtaojjcnmififoaaGreat
