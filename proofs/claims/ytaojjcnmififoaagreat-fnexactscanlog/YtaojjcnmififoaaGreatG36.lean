import Derived.Test.YtaojjcnmififoaaGreatG28
import Derived.Test.YtaojjcnmififoaaGreatG01
import Derived.Test.YtaojjcnmififoaaGreatG08
import Derived.Test.YtaojjcnmififoaaGreatG12
import Derived.Deep.DeepCutAuto
import Derived.Laws.AppendOwnNone
namespace Go.Proofs.YtaojjcnmififoaaGreat
set_option maxRecDepth 100000
set_option maxHeartbeats 8000000
set_option linter.unusedVariables false
set_option linter.unusedSimpArgs false
open Go.RowKit
def nlB : BS := ⟨5, none, 0, []⟩
def nlF (e : TypeId) : FR := ⟨e, none, 0, 0, []⟩
def recK (k t p : Int) : StLogRecord := ⟨k, t, p, 0, 0, ⟨false, nlB⟩, ⟨false, nlB⟩, 0, 0, nlF 96, nlF 98, nlB⟩
theorem rd_nlB (w : World) : Rd .u8 w nlB.v nlB.bs := (Own.nil 0 5 .u8 w).rd
theorem rd_nlF (m : Nat) (e : TypeId) (w : World) : RdF m w (nlF e) := FR.own_rd (own_nilR m e w)
def tyV (y : StLogRecord) : Value :=
 if y.kind = 1 then .iface 144 (.agg #[.int .i64 y.txn, .int .i64 y.prev, .int .i64 y.page, .int .i64 y.slot, .bool y.before.used, y.before.data.v, .bool y.after.used, y.after.data.v])
 else if y.kind = 2 then .iface 146 (.agg #[.int .i64 y.txn, .int .i64 y.prev, .int .i64 y.page, .int .i64 y.slot, .bool y.after.used, y.after.data.v, .int .i64 y.uN])
 else if y.kind = 3 then .iface 148 (.agg #[.int .i64 y.txn, .int .i64 y.prev])
 else if y.kind = 4 then .iface 149 (.agg #[.int .i64 y.txn, .int .i64 y.prev])
 else if y.kind = 5 then .iface 150 (.agg #[.int .i64 y.txn, .int .i64 y.prev])
 else if y.kind = 6 then .iface 151 (.agg #[.int .i64 0, .int .i64 0])
 else if y.kind = 7 then .iface 155 (.agg #[.int .i64 0, .int .i64 0, .int .i64 y.nT, y.txns.v, y.dirty.v])
 else if y.kind = 8 then .iface 158 (.agg #[.int .i64 0, .int .i64 0, .int .i64 y.page, y.image.v])
 else .nilIface
def Typed (y : StLogRecord) : Prop := (∃ (t p g s : Int) (q1 q2 : StPageRecord), y = { recK 1 t p with page := g, slot := s, before := q1, after := q2 }) ∨ (∃ (t p g s u : Int) (q : StPageRecord), y = { recK 2 t p with page := g, slot := s, after := q, uN := u }) ∨ (∃ (t p : Int), y = recK 3 t p) ∨ (∃ (t p : Int), y = recK 4 t p) ∨ (∃ (t p : Int), y = recK 5 t p) ∨ (y = recK 6 0 0) ∨ (∃ (u : Int) (tx dy : FR), y = { recK 7 0 0 with nT := u, txns := tx, dirty := dy }) ∨ (∃ (g : Int) (im : BS), y = { recK 8 0 0 with page := g, image := im }) ∨ (∃ k t p : Int, ¬ (1 ≤ k ∧ k ≤ 8) ∧ y = recK k t p)
theorem Typed.k1 (t p g s : Int) (q1 q2 : StPageRecord) : Typed ({ recK 1 t p with page := g, slot := s, before := q1, after := q2 }) := .inl ⟨t, p, g, s, q1, q2, rfl⟩
theorem Typed.k2 (t p g s u : Int) (q : StPageRecord) : Typed ({ recK 2 t p with page := g, slot := s, after := q, uN := u }) := .inr (.inl ⟨t, p, g, s, u, q, rfl⟩)
theorem Typed.k3 (t p : Int) : Typed (recK 3 t p) := .inr (.inr (.inl ⟨t, p, rfl⟩))
theorem Typed.k4 (t p : Int) : Typed (recK 4 t p) := .inr (.inr (.inr (.inl ⟨t, p, rfl⟩)))
theorem Typed.k5 (t p : Int) : Typed (recK 5 t p) := .inr (.inr (.inr (.inr (.inl ⟨t, p, rfl⟩))))
theorem Typed.k6  : Typed (recK 6 0 0) := .inr (.inr (.inr (.inr (.inr (.inl rfl)))))
theorem Typed.k7 (u : Int) (tx dy : FR) : Typed ({ recK 7 0 0 with nT := u, txns := tx, dirty := dy }) := .inr (.inr (.inr (.inr (.inr (.inr (.inl ⟨u, tx, dy, rfl⟩))))))
theorem Typed.k8 (g : Int) (im : BS) : Typed ({ recK 8 0 0 with page := g, image := im }) := .inr (.inr (.inr (.inr (.inr (.inr (.inr (.inl ⟨g, im, rfl⟩)))))))
theorem Typed.k0 (k t p : Int) (h : ¬ (1 ≤ k ∧ k ≤ 8)) : Typed (recK k t p) := .inr (.inr (.inr (.inr (.inr (.inr (.inr (.inr ⟨k, t, p, h, rfl⟩)))))))
def RdRec (bs : List Int) (w : World) (e : Ending) (w' : World) : Prop := ∃ y : StLogRecord, e = .returned (tyV y) ∧ y.dat = parI bs ∧ Typed y ∧ StLogRecord.rd w' y ∧ Same w w'
theorem readRec_any (v : Value) (bs : List Int) (w : World) (hB : IsB bs) (hl : bs.length ≤ 1099511627776) (hv : Rd .u8 w v bs) : Calls Tryz.prog 69 #[v] w fun e w' => RdRec bs w e w' := by
 obtain ⟨va, vc, rfl⟩ := hv.form
 have HV := hid (fun wy (h : Kept (fun b => w.heap.size ≤ b) w wy) => hv.old h)
 have HK0 := (show Hid (Same w (w.alloc (.cells #[.slice va bs.length vc] 136))) from (Kept.refl _ _).alloc _)
 have HP0 := (show Hid (Blk (w.alloc (.cells #[.slice va bs.length vc] 136)) w.heap.size 136 [.slice va bs.length vc]) from Blk.newL w [.slice va bs.length vc] 136)
 have hz0 : (w.alloc (.cells #[.slice va bs.length vc] 136)).heap.size = w.heap.size + 1 := by simp
 clear hv
 go_enter Tryz.func69, Tryz.ntmps69
 go_upto_region 2 with fail
 generalize w.alloc (.cells #[.slice va bs.length vc] 136) = w1 at HK0 HP0 hz0 ⊢
 generalize Value.slice va bs.length vc = v at HV HP0 ⊢
 have HR1 := (show Hid (RI w1 w.heap.size w.heap.size bs) from ⟨⟨v, HP0.out, fun wy h => HV.out wy ((HK0.out.mono (fun _ _ e => e.elim)).trans h)⟩, Nat.le_refl _⟩)
 have HK1 := HK0
 have hsz1 : w.heap.size ≤ w1.heap.size := by omega
 clear HP0 HV HK0 hz0
 obtain ⟨P, hP⟩ : ∃ P, w.heap.size = P := ⟨_, rfl⟩
 rw [hP] at HR1 hsz1 ⊢
 have HPP := hid hP
 clear hP
 go_wp2_with fail
 refine (number_ri 1 (by omega) (hB) (hl) HR1.out).mono ?_
 rintro e w2 ⟨rfl, hr2, hk2⟩
 obtain ⟨k, hk⟩ : ∃ x, nI (bs) 1 = x := ⟨_, rfl⟩
 rw [hk]
 have HR2 := hid hr2
 have HK2 := (show Hid (Same w w2) from HK1.out.next hk2 (fun i hi e => by have := HPP.out; omega))
 have hsz2 : P ≤ w2.heap.size := by have := hk2.size; omega
 clear hr2 hk2 HR1 HK1 hsz1
 go_wp2_with fail
 refine (number_ri 4 (by omega) (hB.dropI _) (by simp only [List.length_drop]; omega) HR2.out).mono ?_
 rintro e w3 ⟨rfl, hr2, hk2⟩
 obtain ⟨t, ht⟩ : ∃ x, nI (bs.drop 1) 4 = x := ⟨_, rfl⟩
 rw [ht]
 have HR3 := hid hr2
 have HK3 := (show Hid (Same w w3) from HK2.out.next hk2 (fun i hi e => by have := HPP.out; omega))
 have hsz3 : P ≤ w3.heap.size := by have := hk2.size; omega
 clear hr2 hk2 HR2 HK2 hsz2
 go_wp2_with fail
 refine (number_ri 8 (by omega) ((hB.dropI _).dropI _) (by simp only [List.length_drop]; omega) HR3.out).mono ?_
 rintro e w4 ⟨rfl, hr2, hk2⟩
 obtain ⟨p, hp⟩ : ∃ x, nI ((bs.drop 1).drop 4) 8 = x := ⟨_, rfl⟩
 rw [hp]
 have HR4 := hid hr2
 have HK4 := (show Hid (Same w w4) from HK3.out.next hk2 (fun i hi e => by have := HPP.out; omega))
 have hsz4 : P ≤ w4.heap.size := by have := hk2.size; omega
 clear hr2 hk2 HR3 HK3 hsz3
 have HDD := (show Hid (parI bs = rdBody nI (fun rs n => rs.take n) k (if k ≤ 5 then t else 0) (if k ≤ 5 then p else 0) (bs.drop 13)) from by
  unfold Hid parI
  rw [hk, ht]
  simp only [List.drop_drop] at hp
  rw [hp])
 have HR4' := (show Hid (RI w4 P P (bs.drop 13)) from by have h := HR4.out; simp only [List.drop_drop] at h; exact h)
 obtain ⟨r, hr⟩ : ∃ r, bs.drop 13 = r := ⟨_, rfl⟩
 have hBr : IsB r := hr ▸ hB.dropI 13
 have hlr : r.length ≤ 1099511627776 := by rw [← hr, List.length_drop]; omega
 rw [hr] at HR4' HDD
 have HH5 := (show Hid (Blk (w4.alloc (.cells #[.int .i64 t, .int .i64 p] 138)) w4.heap.size 138 [.int .i64 t, .int .i64 p]) from Blk.newL w4 [.int .i64 t, .int .i64 p] 138)
 have HR5 := (show Hid (RI (w4.alloc (.cells #[.int .i64 t, .int .i64 p] 138)) P P r) from HR4'.out.same ((Kept.refl _ _).alloc _))
 have HK5 := (show Hid (Same w (w4.alloc (.cells #[.int .i64 t, .int .i64 p] 138))) from HK4.out.alloc _)
 have hPl4 := HR4.out.lt
 have hsz5 : P ≤ (w4.alloc (.cells #[.int .i64 t, .int .i64 p] 138)).heap.size := by simp; omega
 clear HR4 HR4' HK4 hr hk ht hp
 go_upto_region 4 with fail
 generalize w4.alloc (.cells #[.int .i64 t, .int .i64 p] 138) = w5 at HH5 HR5 HK5 hsz5 ⊢
 obtain ⟨X, hX⟩ : ∃ X, w4.heap.size = X := ⟨_, rfl⟩
 rw [hX] at HH5 hPl4 hsz4 ⊢
 clear hX
 have hPX : P ≠ X := by omega
 have hXl := HH5.out.lt
 by_cases k1 : k = 1
 ·subst k1
  focus
   go_upto_region 6 with fail
   have HK5d := (show Hid (Same w w5.drew) from HK5.out.next ((Kept.refl (fun _ => False) w5).drew) (fun _ _ e => e.elim))
   have HHw5 := (show Hid (Blk w5.drew X 138 [.int .i64 t, .int .i64 p]) from HH5.out.same (Kept.refl _ _).drew)
   have HRw5 := (show Hid (RI w5.drew P P r) from HR5.out.same (Kept.refl _ _).drew)
   have hszw5 : P ≤ w5.drew.heap.size := Nat.le_trans hsz5 ((Kept.refl (fun _ => False) w5).drew).size
   let Y1 : World → Prop := fun wx : World => wx.cell? ⟨X, 0, none⟩ = some (.int .i64 t) ∧ wx.cell? ⟨X, 1, none⟩ = some (.int .i64 p)
   have hS : Y1 (w5.drew) := HHw5.out.all2
   refine wp_region_V Y1 99 10 rfl (by kernel_rfl) ?_
   refine tk 0 19 hS ?_
   refine tk 1 20 hS ?_
   refine tk 3 22 hS ?_
   refine tk 5 24 hS ?_
   refine wpAnyV_one (i := 2) (by kernel_rfl) rfl (fun Kc hK => ?_)
   go_simp
   refine (place_ri hBr hlr HRw5.out).mono ?_
   rintro e w6 ⟨rfl, hr2, hk2⟩
   have HHw6 := (show Hid (Blk w6 X 138 [.int .i64 t, .int .i64 p]) from HHw5.out.kept hk2 (by omega))
   have HRw6 := hid hr2
   have HKw6 := (show Hid (Same w w6) from HK5d.out.next hk2 (fun i hi e => by have := HPP.out; omega))
   have hszw6 : P ≤ w6.heap.size := by have := hk2.size; omega
   obtain ⟨g, hg⟩ : ∃ x, nI r 2 = x := ⟨_, rfl⟩
   obtain ⟨s, hs⟩ : ∃ x, nI (r.drop 2) 2 = x := ⟨_, rfl⟩
   rw [hg, hs]
   have HG := hid hg
   have HSl := hid hs
   clear hg hs
   clear hr2 hk2
   have hS : Y1 w6 := HHw6.out.all2
   refine hK.out _ _ (fun _ => hS) ?_
   clear hK Kc
   try simp only [Act.put, sA, s0, sS]
   refine wpAnyV_one (i := 4) (by kernel_rfl) rfl (fun Kc hK => ?_)
   go_simp
   refine (slot_ri (hBr.dropI 4) (by simp only [List.length_drop]; omega) (by omega) HRw6.out).mono ?_
   rintro e w7 ⟨⟨bu, be, ba, bc, bb⟩, rfl, hd1, hv1, hr2, hk2⟩
   have HHw7 := (show Hid (Blk w7 X 138 [.int .i64 t, .int .i64 p]) from HHw6.out.kept hk2 (by omega))
   have HRw7 := hid hr2
   have HKw7 := (show Hid (Same w w7) from HKw6.out.next hk2 (fun i hi e => by have := HPP.out; omega))
   have hszw7 : P ≤ w7.heap.size := by have := hk2.size; omega
   have HD1 := hid hd1
   have HV1 := hid hv1
   dsimp only [StPageRecord.val, BS.v]
   clear hd1 hv1
   clear hr2 hk2
   have hS : Y1 w7 := HHw7.out.all2
   refine hK.out _ _ (fun _ => hS) ?_
   clear hK Kc
   try simp only [Act.put, sA, s0, sS]
   refine wpAnyV_one (i := 6) (by kernel_rfl) rfl (fun Kc hK => ?_)
   go_simp
   refine (slot_ri (slI_ok (hBr.dropI 4)).2.1 (by have := (slI_ok (hBr.dropI 4)).2.2.2; simp only [List.length_drop] at this; omega) (by omega) HRw7.out).mono ?_
   rintro e w8 ⟨⟨au, ae, aa, ac, ab⟩, rfl, hd1, hv1, hr2, hk2⟩
   have HHw8 := (show Hid (Blk w8 X 138 [.int .i64 t, .int .i64 p]) from HHw7.out.kept hk2 (by omega))
   have HRw8 := hid hr2
   have HKw8 := (show Hid (Same w w8) from HKw7.out.next hk2 (fun i hi e => by have := HPP.out; omega))
   have hszw8 : P ≤ w8.heap.size := by have := hk2.size; omega
   have HD2 := hid hd1
   have HV2 := hid hv1
   have HW1 := hid (HV1.out.keep hk2 (fun b _ e => by omega))
   dsimp only [StPageRecord.val, BS.v]
   clear hd1 hv1
   clear hr2 hk2
   have hS : Y1 w8 := HHw8.out.all2
   refine hK.out _ _ (fun _ => hS) ?_
   clear hK Kc
   try simp only [Act.put, sA, s0, sS]
   refine wpAnyV_one (i := 7) (by kernel_rfl) rfl (fun Kc hK => ?_)
   go_simp
   refine hK.out _ _ (fun _ => hS) ?_
   clear hK Kc
   try simp only [Act.put, sA, s0, sS]
   refine wpAnyV_one (i := 8) (by kernel_rfl) rfl (fun Kc hK => ?_)
   go_simp
   refine hK.out _ _ (fun _ => hS) ?_
   clear hK Kc
   try simp only [Act.put, sA, s0, sS]
   refine wpAnyV_one (i := 9) (by kernel_rfl) rfl (fun Kc hK => ?_)
   go_simp
   refine hK.out _ _ (fun _ => hS) ?_
   clear hK Kc
   try simp only [Act.put, sA, s0, sS]
   refine wpAnyV_done (by kernel_rfl) ?_
   try simp only [Act.put, sA, s0, sS]
   have HT := (show Hid (StLogRecord.dat { recK 1 t p with page := g, slot := s, before := ⟨bu, be, ba, bc, bb⟩, after := ⟨au, ae, aa, ac, ab⟩ } = parI bs) from by
    unfold Hid
    rw [HDD.out]
    unfold rdBody
    rw [if_pos rfl, HG.out, HSl.out]
    have e1 : StPageRecord.dat ⟨bu, be, ba, bc, bb⟩ = (rdSlot nI (fun rs n => rs.take n) (r.drop 4)).1 := HD1.out
    have e2 : StPageRecord.dat ⟨au, ae, aa, ac, ab⟩ = (rdSlot nI (fun rs n => rs.take n) (rdSlot nI (fun rs n => rs.take n) (r.drop 4)).2).1 := HD2.out
    rw [← e1, ← e2]
    rfl)
   go_wp2
   go_ret
   exact ⟨{ recK 1 t p with page := g, slot := s, before := ⟨bu, be, ba, bc, bb⟩, after := ⟨au, ae, aa, ac, ab⟩ }, rfl, HT.out, Typed.k1 _ _ _ _ _ _, ⟨HW1.out.rd, HV2.out.rd, rd_nlF 4 _ _, rd_nlF 2 _ _, rd_nlB _⟩, HKw8.out⟩
 have e1 : (k == 1) = false := by simp [k1]
 by_cases k2 : k = 2
 ·subst k2
  focus
   go_upto_region 8 with fail
   have HK5d := (show Hid (Same w w5.drew) from HK5.out.next ((Kept.refl (fun _ => False) w5).drew) (fun _ _ e => e.elim))
   have HHw5 := (show Hid (Blk w5.drew X 138 [.int .i64 t, .int .i64 p]) from HH5.out.same (Kept.refl _ _).drew)
   have HRw5 := (show Hid (RI w5.drew P P r) from HR5.out.same (Kept.refl _ _).drew)
   have hszw5 : P ≤ w5.drew.heap.size := Nat.le_trans hsz5 ((Kept.refl (fun _ => False) w5).drew).size
   let Y2 : World → Prop := fun wx : World => wx.cell? ⟨X, 0, none⟩ = some (.int .i64 t) ∧ wx.cell? ⟨X, 1, none⟩ = some (.int .i64 p)
   have hS : Y2 (w5.drew) := HHw5.out.all2
   refine wp_region_V Y2 99 10 rfl (by kernel_rfl) ?_
   refine tk 0 30 hS ?_
   refine tk 1 31 hS ?_
   refine tk 3 33 hS ?_
   refine tk 5 35 hS ?_
   refine wpAnyV_one (i := 2) (by kernel_rfl) rfl (fun Kc hK => ?_)
   go_simp
   refine (place_ri hBr hlr HRw5.out).mono ?_
   rintro e w6 ⟨rfl, hr2, hk2⟩
   have HHw6 := (show Hid (Blk w6 X 138 [.int .i64 t, .int .i64 p]) from HHw5.out.kept hk2 (by omega))
   have HRw6 := hid hr2
   have HKw6 := (show Hid (Same w w6) from HK5d.out.next hk2 (fun i hi e => by have := HPP.out; omega))
   have hszw6 : P ≤ w6.heap.size := by have := hk2.size; omega
   obtain ⟨g, hg⟩ : ∃ x, nI r 2 = x := ⟨_, rfl⟩
   obtain ⟨s, hs⟩ : ∃ x, nI (r.drop 2) 2 = x := ⟨_, rfl⟩
   rw [hg, hs]
   have HG := hid hg
   have HSl := hid hs
   clear hg hs
   clear hr2 hk2
   have hS : Y2 w6 := HHw6.out.all2
   refine hK.out _ _ (fun _ => hS) ?_
   clear hK Kc
   try simp only [Act.put, sA, s0, sS]
   refine wpAnyV_one (i := 4) (by kernel_rfl) rfl (fun Kc hK => ?_)
   go_simp
   refine (slot_ri (hBr.dropI 4) (by simp only [List.length_drop]; omega) (by omega) HRw6.out).mono ?_
   rintro e w7 ⟨⟨bu, be, ba, bc, bb⟩, rfl, hd1, hv1, hr2, hk2⟩
   have HHw7 := (show Hid (Blk w7 X 138 [.int .i64 t, .int .i64 p]) from HHw6.out.kept hk2 (by omega))
   have HRw7 := hid hr2
   have HKw7 := (show Hid (Same w w7) from HKw6.out.next hk2 (fun i hi e => by have := HPP.out; omega))
   have hszw7 : P ≤ w7.heap.size := by have := hk2.size; omega
   have HD1 := hid hd1
   have HV1 := hid hv1
   dsimp only [StPageRecord.val, BS.v]
   clear hd1 hv1
   clear hr2 hk2
   have hS : Y2 w7 := HHw7.out.all2
   refine hK.out _ _ (fun _ => hS) ?_
   clear hK Kc
   try simp only [Act.put, sA, s0, sS]
   refine wpAnyV_one (i := 6) (by kernel_rfl) rfl (fun Kc hK => ?_)
   go_simp
   refine (number_ri 8 (by omega) (slI_ok (hBr.dropI 4)).2.1 (by have := (slI_ok (hBr.dropI 4)).2.2.2; simp only [List.length_drop] at this; omega) HRw7.out).mono ?_
   rintro e w8 ⟨rfl, hr2, hk2⟩
   have HHw8 := (show Hid (Blk w8 X 138 [.int .i64 t, .int .i64 p]) from HHw7.out.kept hk2 (by omega))
   have HRw8 := hid hr2
   have HKw8 := (show Hid (Same w w8) from HKw7.out.next hk2 (fun i hi e => by have := HPP.out; omega))
   have hszw8 : P ≤ w8.heap.size := by have := hk2.size; omega
   obtain ⟨u, hu⟩ : ∃ x, nI (slI (r.drop 4)).2 8 = x := ⟨_, rfl⟩
   rw [hu]
   have HU := hid hu
   have HW1 := hid (HV1.out.keep hk2 (fun b _ e => by omega))
   clear hu
   clear hr2 hk2
   have hS : Y2 w8 := HHw8.out.all2
   refine hK.out _ _ (fun _ => hS) ?_
   clear hK Kc
   try simp only [Act.put, sA, s0, sS]
   refine wpAnyV_one (i := 7) (by kernel_rfl) rfl (fun Kc hK => ?_)
   go_simp
   refine hK.out _ _ (fun _ => hS) ?_
   clear hK Kc
   try simp only [Act.put, sA, s0, sS]
   refine wpAnyV_one (i := 8) (by kernel_rfl) rfl (fun Kc hK => ?_)
   go_simp
   refine hK.out _ _ (fun _ => hS) ?_
   clear hK Kc
   try simp only [Act.put, sA, s0, sS]
   refine wpAnyV_one (i := 9) (by kernel_rfl) rfl (fun Kc hK => ?_)
   go_simp
   refine hK.out _ _ (fun _ => hS) ?_
   clear hK Kc
   try simp only [Act.put, sA, s0, sS]
   refine wpAnyV_done (by kernel_rfl) ?_
   try simp only [Act.put, sA, s0, sS]
   have HT := (show Hid (StLogRecord.dat { recK 2 t p with page := g, slot := s, after := ⟨bu, be, ba, bc, bb⟩, uN := u } = parI bs) from by
    unfold Hid
    rw [HDD.out]
    unfold rdBody
    rw [if_neg (by decide), if_pos rfl, HG.out, HSl.out]
    have e1 : StPageRecord.dat ⟨bu, be, ba, bc, bb⟩ = (rdSlot nI (fun rs n => rs.take n) (r.drop 4)).1 := HD1.out
    have e2 : nI (rdSlot nI (fun rs n => rs.take n) (r.drop 4)).2 8 = u := HU.out
    rw [← e1, e2]
    rfl)
   go_wp2
   go_ret
   exact ⟨{ recK 2 t p with page := g, slot := s, after := ⟨bu, be, ba, bc, bb⟩, uN := u }, rfl, HT.out, Typed.k2 _ _ _ _ _ _, ⟨rd_nlB _, HW1.out.rd, rd_nlF 4 _ _, rd_nlF 2 _ _, rd_nlB _⟩, HKw8.out⟩
 have e2 : (k == 2) = false := by simp [k2]
 by_cases k3 : k = 3
 ·subst k3
  focus
   obtain ⟨c0, c1⟩ := HH5.out.all2
   have HT := (show Hid (StLogRecord.dat (recK 3 t p) = parI bs) from by
    unfold Hid
    rw [HDD.out]
    unfold rdBody
    rfl)
   go_wp2
   go_ret
   exact ⟨(recK 3 t p), rfl, HT.out, Typed.k3 _ _, ⟨rd_nlB _, rd_nlB _, rd_nlF 4 _ _, rd_nlF 2 _ _, rd_nlB _⟩, HK5.out⟩
 have e3 : (k == 3) = false := by simp [k3]
 by_cases k4 : k = 4
 ·subst k4
  focus
   obtain ⟨c0, c1⟩ := HH5.out.all2
   have HT := (show Hid (StLogRecord.dat (recK 4 t p) = parI bs) from by
    unfold Hid
    rw [HDD.out]
    unfold rdBody
    rfl)
   go_wp2
   go_ret
   exact ⟨(recK 4 t p), rfl, HT.out, Typed.k4 _ _, ⟨rd_nlB _, rd_nlB _, rd_nlF 4 _ _, rd_nlF 2 _ _, rd_nlB _⟩, HK5.out⟩
 have e4 : (k == 4) = false := by simp [k4]
 by_cases k5 : k = 5
 ·subst k5
  focus
   obtain ⟨c0, c1⟩ := HH5.out.all2
   have HT := (show Hid (StLogRecord.dat (recK 5 t p) = parI bs) from by
    unfold Hid
    rw [HDD.out]
    unfold rdBody
    rfl)
   go_wp2
   go_ret
   exact ⟨(recK 5 t p), rfl, HT.out, Typed.k5 _ _, ⟨rd_nlB _, rd_nlB _, rd_nlF 4 _ _, rd_nlF 2 _ _, rd_nlB _⟩, HK5.out⟩
 have e5 : (k == 5) = false := by simp [k5]
 by_cases k6 : k = 6
 ·subst k6
  focus
   obtain ⟨c0, c1⟩ := HH5.out.all2
   have HT := (show Hid (StLogRecord.dat (recK 6 0 0) = parI bs) from by
    unfold Hid
    rw [HDD.out]
    unfold rdBody
    rfl)
   go_wp2
   go_ret
   exact ⟨(recK 6 0 0), rfl, HT.out, Typed.k6, ⟨rd_nlB _, rd_nlB _, rd_nlF 4 _ _, rd_nlF 2 _ _, rd_nlB _⟩, HK5.out⟩
 have e6 : (k == 6) = false := by simp [k6]
 by_cases k7 : k = 7
 ·subst k7
  focus
   go_wp2_with fail
   refine (number_ri 4 (by omega) hBr hlr HR5.out).mono ?_
   rintro e w6 ⟨rfl, hr2, hk2⟩
   have HRw6 := hid hr2
   have HKw6 := (show Hid (Same w w6) from HK5.out.next hk2 (fun i hi e => by have := HPP.out; omega))
   have hszw6 : P ≤ w6.heap.size := by have := hk2.size; omega
   obtain ⟨u, hu⟩ : ∃ x, nI r 4 = x := ⟨_, rfl⟩
   rw [hu]
   have HU := hid hu
   clear hu hr2 hk2
   go_wp2_with fail
   refine (txns_ri (hBr.dropI 4) (by simp only [List.length_drop]; omega) (by omega) HRw6.out).mono ?_
   rintro e w7 ⟨ta, tn, tc, rfl, htn, hto, htf, hr2, hk2⟩
   have HRw7 := hid hr2
   have HKw7 := (show Hid (Same w w7) from HKw6.out.next hk2 (fun i hi e => by have := HPP.out; omega))
   have hszw7 : P ≤ w7.heap.size := by have := hk2.size; omega
   have HTN := hid htn
   have HTO := hid hto
   have HTF := hid htf
   have hP6 := HRw6.out.lt
   clear htn hto htf hr2 hk2
   go_wp2_with fail
   refine (dirty_ri (((hBr.dropI 4).dropI 1).dropI _) (by simp only [List.length_drop]; omega) (by omega) HRw7.out).mono ?_
   rintro e w8 ⟨da, dn, dc, rfl, hdn, hdo, hdf, hr2, hk2⟩
   have HRw8 := hid hr2
   have HKw8 := (show Hid (Same w w8) from HKw7.out.next hk2 (fun i hi e => by have := HPP.out; omega))
   have hszw8 : P ≤ w8.heap.size := by have := hk2.size; omega
   have HDN := hid hdn
   have HDO := hid hdo
   have HTO2 := hid (HTO.out.kept hk2 (fun b hb e => by have := HTF.out b ((FootL_one _ _).1 hb); omega))
   clear hdn hdo hdf hr2 hk2
   have HT := (show Hid (StLogRecord.dat { recK 7 0 0 with nT := u, txns := ⟨96, ta, tn, tc, txL nI ((r.drop 4).drop 1) tn⟩, dirty := ⟨98, da, dn, dc, dyL nI (((((r.drop 4).drop 1).drop (21 * tn)).drop 1)) dn⟩ } = parI bs) from by
    unfold Hid
    rw [HDD.out]
    unfold rdBody
    rw [if_neg (by decide), if_neg (by decide), if_pos rfl, if_neg (by decide), if_neg (by decide), HU.out, ← HTN.out]
    have e1 := HDN.out
    simp only [List.drop_drop] at e1 ⊢
    simp only [Nat.reduceAdd] at e1 ⊢
    rw [← e1]
    unfold StLogRecord.dat
    rfl)
   go_wp2
   go_ret
   exact ⟨{ recK 7 0 0 with nT := u, txns := ⟨96, ta, tn, tc, txL nI ((r.drop 4).drop 1) tn⟩, dirty := ⟨98, da, dn, dc, dyL nI (((((r.drop 4).drop 1).drop (21 * tn)).drop 1)) dn⟩ }, rfl, HT.out, Typed.k7 _ _ _, ⟨rd_nlB _, rd_nlB _, FR.own_rd HTO2.out, FR.own_rd HDO.out, rd_nlB _⟩, HKw8.out⟩
 have e7 : (k == 7) = false := by simp [k7]
 by_cases k8 : k = 8
 ·subst k8
  focus
   go_wp2_with fail
   refine (number_ri 2 (by omega) hBr hlr HR5.out).mono ?_
   rintro e w6 ⟨rfl, hr2, hk2⟩
   have HRw6 := hid hr2
   have HKw6 := (show Hid (Same w w6) from HK5.out.next hk2 (fun i hi e => by have := HPP.out; omega))
   have hszw6 : P ≤ w6.heap.size := by have := hk2.size; omega
   obtain ⟨g, hg⟩ : ∃ x, nI r 2 = x := ⟨_, rfl⟩
   rw [hg]
   have HG := hid hg
   clear hg hr2 hk2
   go_wp2_with fail
   refine (take_ri 4096 (by omega) (by simp only [List.length_drop]; omega) HRw6.out).mono ?_
   rintro e w7 ⟨ia, ic, rfl, hv, hr2, hk2⟩
   have HRw7 := hid hr2
   have HKw7 := (show Hid (Same w w7) from HKw6.out.next hk2 (fun i hi e => by have := HPP.out; omega))
   have hszw7 : P ≤ w7.heap.size := by have := hk2.size; omega
   obtain ⟨im, him⟩ : ∃ x, (r.drop 2).take (4096 : Int).toNat = x := ⟨_, rfl⟩
   rw [him] at hv ⊢
   have HIM := hid him
   have HV1 := hid hv
   clear hv hr2 hk2 him
   have HT := (show Hid (StLogRecord.dat { recK 8 0 0 with page := g, image := ⟨5, ia, ic, im⟩ } = parI bs) from by
    unfold Hid
    rw [HDD.out]
    unfold rdBody
    rw [if_neg (by decide), if_neg (by decide), if_neg (by decide), if_pos rfl, if_neg (by decide), if_neg (by decide), HG.out]
    rw [← HIM.out]
    rfl)
   go_wp2
   go_ret
   exact ⟨{ recK 8 0 0 with page := g, image := ⟨5, ia, ic, im⟩ }, rfl, HT.out, Typed.k8 _ _, ⟨rd_nlB _, rd_nlB _, rd_nlF 4 _ _, rd_nlF 2 _ _, HV1.out _ (Kept.refl _ _)⟩, HKw7.out⟩
 have e8 : (k == 8) = false := by simp [k8]
 have HT := (show Hid (StLogRecord.dat (recK k (if k ≤ 5 then t else 0) (if k ≤ 5 then p else 0)) = parI bs) from by
  unfold Hid
  rw [HDD.out]
  unfold rdBody
  rw [if_neg k1, if_neg k2, if_neg k7, if_neg k8]
  rfl)
 have HN := (show Hid (tyV (recK k (if k ≤ 5 then t else 0) (if k ≤ 5 then p else 0)) = .nilIface) from by
  unfold Hid tyV recK
  dsimp only
  rw [if_neg k1, if_neg k2, if_neg k3, if_neg k4, if_neg k5, if_neg k6, if_neg k7, if_neg k8])
 have HTY := (show Hid (Typed (recK k (if k ≤ 5 then t else 0) (if k ≤ 5 then p else 0))) from Typed.k0 _ _ _ (by omega))
 clear k1 k2 k3 k4 k5 k6 k7 k8
 go_wp2
 go_ret
 exact ⟨_, by rw [HN.out]; rfl, HT.out, HTY.out, ⟨rd_nlB _, rd_nlB _, rd_nlF 4 _ _, rd_nlF 2 _ _, rd_nlB _⟩, HK5.out⟩
theorem Own.sizedR {base : Nat} {e : TypeId} {k : IntKind} {w : World} {aa : Option Addr} {nn cc : Nat} {bs : List Int} (h : Own base e k w (.slice aa nn cc) bs) : nn = bs.length := by
 obtain ⟨_, _, h'⟩ := h.rd.form; injection h' with _ h' _
theorem FootL_frR {e : TypeId} {g n c m : Nat} {bs : List Int} {b : Nat} (h : FootL (FR.rows m ⟨e, some ⟨g, 0, none⟩, n, c, bs⟩) b) : g = b := by
 have h := (FootL_one _ _).1 h
 simpa [FR.v, Value.ownBlock] using h
theorem news_i64R {w : World} {b off : Nat} {bs : List Int} (hc : ∀ i, i < bs.length → w.cell? ⟨b, off + i, none⟩ = some (.int .i64 (bs.getD i 0))) (j : Nat) (u : Value) (h : (vals .i64 bs)[j]? = some u) : w.cell? ((⟨b, off, none⟩ : Addr).add j) = some u := by
 have hj : j < bs.length := by have := (List.getElem?_eq_some_iff.1 h).1; rwa [vals_length] at this
 rw [vals_at _ _ _ hj] at h
 rw [Addr.add_lit, hc j hj]
 exact h
theorem fr_of_ownT {e : TypeId} {w : World} {v : Value} {n base : Nat} {bs : List Int} (h : w.ownsRow base e 4 v n (vals .i64 bs)) : ∃ a c, v = .slice a n c ∧ OwnL w (FR.rows 4 ⟨e, a, n, c, bs⟩) ∧ (∀ b, FootL (FR.rows 4 ⟨e, a, n, c, bs⟩) b → base ≤ b) := by
 have h0 : w.ownsRow 0 e 4 v n (vals .i64 bs) := ⟨h.1, by
  rcases h.2 with h | ⟨g, cap, cur, h1, hb, h3⟩
  ·exact .inl h
  ·exact .inr ⟨g, cap, cur, h1, Nat.zero_le _, h3⟩⟩
 rcases h.2 with ⟨rfl, h2⟩ | ⟨g, cap, cur, rfl, hb, hgg, hc, hm, hs, ht⟩
 ·obtain rfl : n = 0 := by
   have := h.1; rw [h2] at this; simp at this; omega
  exact ⟨none, 0, rfl, ⟨fun r hr => by rw [List.mem_singleton.1 hr]; exact h0, List.pairwise_singleton _ _⟩, fun b hb => by have := (FootL_one _ _).1 hb; simp [FR.v, Value.ownBlock] at this⟩
 ·exact ⟨some ⟨g, 0, none⟩, cap, rfl, ⟨fun r hr => by rw [List.mem_singleton.1 hr]; exact h0, List.pairwise_singleton _ _⟩, fun b hb' => by have := FootL_frR hb'; omega⟩
theorem cloneT_any (x : FR) (w : World) (hn : x.n ≤ 1048576) (hv : RdF 4 w x) :
  Calls Tryz.prog 90 #[x.v] w fun e w' => ∃ a c, e = .returned (.slice a x.n c) ∧ OwnL w' (FR.rows 4 ⟨96, a, x.n, c, x.bs⟩) ∧ (∀ b, FootL (FR.rows 4 ⟨96, a, x.n, c, x.bs⟩) b → w.heap.size ≤ b) ∧ Same w w' := by
 obtain ⟨i0, hi, hz0, hz1, hz2⟩ := info_parts infoTxnI
 have hnil := fun (wx : World) (a : Option Addr) (n c : Nat) => Lib.run_eql_slice_nil (P := Tryz.prog) wx 47 96 a n c 0 0 Tryz.underlying47
 obtain ⟨xe, xa, n, xc, bs⟩ := x
 dsimp only [FR.v] at hn ⊢
 have hl : bs.length = n * 4 := hv.2.1
 cases xa with
 | none =>
  obtain rfl : n = 0 := by
   rcases hv.2.2 with h | ⟨b, off, h, _⟩
   ·exact h
   ·cases h
  obtain rfl : bs = [] := List.length_eq_zero_iff.1 (by omega)
  clear hv hn hl
  go_enter Tryz.func90, Tryz.ntmps90
  go_wp2
  go_ret
  exact ⟨_, _, rfl, own_nilR _ _ _, fun b hb => by have := (FootL_one _ _).1 hb; simp [FR.v, Value.ownBlock] at this, Kept.refl _ _⟩
 | some ad =>
  obtain ⟨b0, off0, vw⟩ := ad
  have HNW : Hid (∀ j u, (vals .i64 bs)[j]? = some u → (w.alloc (.cells #[] 96)).cell? ((⟨b0, off0, vw⟩ : Addr).add j) = some u) := by
   rcases hv.2.2 with h | ⟨b, off, h, _, hc⟩
   ·dsimp only at h
    subst h
    obtain rfl : bs = [] := List.length_eq_zero_iff.1 (by omega)
    intro j u hj
    simp [vals] at hj
   ·dsimp only at h hc
    injection h with h
    injection h with h1 h2 h3
    subst h1 h2 h3
    have hc2 : ∀ i, i < bs.length → (w.alloc (.cells #[] 96)).cell? ⟨b0, off0 + i, none⟩ = some (.int .i64 (bs.getD i 0)) := fun i hi => ((Kept.refl (fun _ => False) w).alloc _).cellOf (hc i (by omega)) (fun h => h)
    exact news_i64R hc2
  clear hv
  go_enter Tryz.func90, Tryz.ntmps90
  go_wp2_with (at_builtin; refine wpList_append_own _ rfl (.tmp 5) (.tmp 6) 47 rfl w.heap.size 96 i0 _ 4 32 Tryz.underlying47 hi hz0 hz1 hz2 rfl (by decide) (.slice (some ⟨w.heap.size, 0, none⟩) 0 0) 0 [] rfl (World.ownsRow_made w #[] 0 (Nat.le_refl _) (by simp) (by simp)) ⟨b0, off0, vw⟩ n xc (vals .i64 bs) rfl (by rw [vals_length]; exact hl) HNW.out vals_one (by unfold maxLen; omega) (by omega) (by simp) ?_; intro v' w1 hown1 hgrow1 _; have HF := (show Hid (w1.ownsRow w.heap.size 96 4 v' n (vals .i64 bs)) from (by simpa [Hid] using hown1)); have HK : Hid (Same w w1) := ((Kept.refl _ _).alloc _).grown hgrow1 (fun k e => .inl (by simp [Value.ownBlock] at e; omega)); obtain ⟨aa, ca, rfl, ho, hb⟩ := fr_of_ownT HF.out; have HO := hid ho; have HB := hid hb; clear hown1 hgrow1 ho hb)
  go_ret
  exact ⟨_, _, rfl, HO.out, HB.out, HK.out⟩
theorem fr_of_ownD {e : TypeId} {w : World} {v : Value} {n base : Nat} {bs : List Int} (h : w.ownsRow base e 2 v n (vals .i64 bs)) : ∃ a c, v = .slice a n c ∧ OwnL w (FR.rows 2 ⟨e, a, n, c, bs⟩) ∧ (∀ b, FootL (FR.rows 2 ⟨e, a, n, c, bs⟩) b → base ≤ b) := by
 have h0 : w.ownsRow 0 e 2 v n (vals .i64 bs) := ⟨h.1, by
  rcases h.2 with h | ⟨g, cap, cur, h1, hb, h3⟩
  ·exact .inl h
  ·exact .inr ⟨g, cap, cur, h1, Nat.zero_le _, h3⟩⟩
 rcases h.2 with ⟨rfl, h2⟩ | ⟨g, cap, cur, rfl, hb, hgg, hc, hm, hs, ht⟩
 ·obtain rfl : n = 0 := by
   have := h.1; rw [h2] at this; simp at this; omega
  exact ⟨none, 0, rfl, ⟨fun r hr => by rw [List.mem_singleton.1 hr]; exact h0, List.pairwise_singleton _ _⟩, fun b hb => by have := (FootL_one _ _).1 hb; simp [FR.v, Value.ownBlock] at this⟩
 ·exact ⟨some ⟨g, 0, none⟩, cap, rfl, ⟨fun r hr => by rw [List.mem_singleton.1 hr]; exact h0, List.pairwise_singleton _ _⟩, fun b hb' => by have := FootL_frR hb'; omega⟩
theorem cloneD_any (x : FR) (w : World) (hn : x.n ≤ 1048576) (hv : RdF 2 w x) :
  Calls Tryz.prog 91 #[x.v] w fun e w' => ∃ a c, e = .returned (.slice a x.n c) ∧ OwnL w' (FR.rows 2 ⟨98, a, x.n, c, x.bs⟩) ∧ (∀ b, FootL (FR.rows 2 ⟨98, a, x.n, c, x.bs⟩) b → w.heap.size ≤ b) ∧ Same w w' := by
 obtain ⟨i0, hi, hz0, hz1, hz2⟩ := info_parts infoDirtyI
 have hnil := fun (wx : World) (a : Option Addr) (n c : Nat) => Lib.run_eql_slice_nil (P := Tryz.prog) wx 48 98 a n c 0 0 Tryz.underlying48
 obtain ⟨xe, xa, n, xc, bs⟩ := x
 dsimp only [FR.v] at hn ⊢
 have hl : bs.length = n * 2 := hv.2.1
 cases xa with
 | none =>
  obtain rfl : n = 0 := by
   rcases hv.2.2 with h | ⟨b, off, h, _⟩
   ·exact h
   ·cases h
  obtain rfl : bs = [] := List.length_eq_zero_iff.1 (by omega)
  clear hv hn hl
  go_enter Tryz.func91, Tryz.ntmps91
  go_wp2
  go_ret
  exact ⟨_, _, rfl, own_nilR _ _ _, fun b hb => by have := (FootL_one _ _).1 hb; simp [FR.v, Value.ownBlock] at this, Kept.refl _ _⟩
 | some ad =>
  obtain ⟨b0, off0, vw⟩ := ad
  have HNW : Hid (∀ j u, (vals .i64 bs)[j]? = some u → (w.alloc (.cells #[] 98)).cell? ((⟨b0, off0, vw⟩ : Addr).add j) = some u) := by
   rcases hv.2.2 with h | ⟨b, off, h, _, hc⟩
   ·dsimp only at h
    subst h
    obtain rfl : bs = [] := List.length_eq_zero_iff.1 (by omega)
    intro j u hj
    simp [vals] at hj
   ·dsimp only at h hc
    injection h with h
    injection h with h1 h2 h3
    subst h1 h2 h3
    have hc2 : ∀ i, i < bs.length → (w.alloc (.cells #[] 98)).cell? ⟨b0, off0 + i, none⟩ = some (.int .i64 (bs.getD i 0)) := fun i hi => ((Kept.refl (fun _ => False) w).alloc _).cellOf (hc i (by omega)) (fun h => h)
    exact news_i64R hc2
  clear hv
  go_enter Tryz.func91, Tryz.ntmps91
  go_wp2_with (at_builtin; refine wpList_append_own _ rfl (.tmp 5) (.tmp 6) 48 rfl w.heap.size 98 i0 _ 2 16 Tryz.underlying48 hi hz0 hz1 hz2 rfl (by decide) (.slice (some ⟨w.heap.size, 0, none⟩) 0 0) 0 [] rfl (World.ownsRow_made w #[] 0 (Nat.le_refl _) (by simp) (by simp)) ⟨b0, off0, vw⟩ n xc (vals .i64 bs) rfl (by rw [vals_length]; exact hl) HNW.out vals_one (by unfold maxLen; omega) (by omega) (by simp) ?_; intro v' w1 hown1 hgrow1 _; have HF := (show Hid (w1.ownsRow w.heap.size 98 2 v' n (vals .i64 bs)) from (by simpa [Hid] using hown1)); have HK : Hid (Same w w1) := ((Kept.refl _ _).alloc _).grown hgrow1 (fun k e => .inl (by simp [Value.ownBlock] at e; omega)); obtain ⟨aa, ca, rfl, ho, hb⟩ := fr_of_ownD HF.out; have HO := hid ho; have HB := hid hb; clear hown1 hgrow1 ho hb)
  go_ret
  exact ⟨_, _, rfl, HO.out, HB.out, HK.out⟩
structure OwI (w wx : World) (A B : Nat) (cs : List Value) (L : List Row) : Prop where
 box : Blk wx A 50 cs
 res : Blk wx B 50 [.int .i64 0, .int .i64 0, .int .i64 0, .int .i64 0, .int .i64 0, .bool false, .slice none 0 0, .bool false, .slice none 0 0, .int .i64 0, .int .i64 0, .slice none 0 0, .slice none 0 0, .slice none 0 0]
 kept : Same w wx
 own : OwnL wx L
 foot : ∀ b, FootL L b → w.heap.size ≤ b ∧ b ≠ A ∧ b ≠ B
 pl : w.heap.size ≤ A ∧ w.heap.size ≤ B ∧ A ≠ B
theorem OwI.step {w wx wy : World} {A B : Nat} {cs cs' : List Value} {L q : List Row} (h : OwI w wx A B cs L) (hk : Same wx wy) (ho : OwnL wy q) (hf : ∀ b, FootL q b → wx.heap.size ≤ b) (j : Nat) (v : Value) (hc : cs' = cs.set j v) : OwI w (wy.setCell ⟨A, j, none⟩ v) A B cs' (L ++ q) := by
 have hs : Kept (fun b => b = A) wy (wy.setCell ⟨A, j, none⟩ v) := (Kept.refl (fun b => b = A) wy).setCell (p := ⟨A, j, none⟩) (.inr rfl) _
 have e1 := h.box.lt
 have e2 := h.res.lt
 have e3 := h.kept.size
 have e4 := h.pl
 subst hc
 refine ⟨(h.box.same hk).stored j v, (h.res.same hk).kept hs (fun e => e4.2.2 e.symm), (h.kept.trans hk).next hs (fun i hi e => by omega), ((h.own.same hk).append ho (fun b h1 h2 => by have := h.own.lt b h1; have := hf b h2; omega)).kept hs (fun b hb e => ?_), fun b hb => ?_, e4⟩
 ·rcases (FootL_append _ _ _).1 hb with h1 | h1
  ·exact (h.foot b h1).2.1 e
  ·have := hf b h1; omega
 ·rcases (FootL_append _ _ _).1 hb with h1 | h1
  ·exact h.foot b h1
  ·have := hf b h1; omega
theorem ownRecA_any (y : StLogRecord) (w : World) (hn : y.before.data.bs.length ≤ 1099511627776 ∧ y.after.data.bs.length ≤ 1099511627776 ∧ y.txns.n ≤ 1048576 ∧ y.dirty.n ≤ 1048576 ∧ y.image.bs.length ≤ 1099511627776) (hv : StLogRecord.rd w y) :
  Calls Tryz.prog 71 #[y.val] w fun e w' => ∃ z : StLogRecord, e = .returned z.val ∧ z.dat = y.dat ∧ (∀ b, FootL z.rows b → w.heap.size ≤ b) ∧ OwnL w' z.rows ∧ Same w w' := by
 obtain ⟨k, t, p, g, s, ⟨bu, ⟨be, ba, bc, bb⟩⟩, ⟨au, ⟨ae, aa, ac, ab⟩⟩, u, nt, ⟨te, ta, tn, tc, tb⟩, ⟨de, da, dn, dc, db⟩, ⟨ie, ia, ic, ib⟩⟩ := y
 obtain ⟨n1, n2, n3, n4, n5⟩ := hn
 have HV := hid hv
 dsimp only [StLogRecord.val, StPageRecord.val, BS.v, FR.v] at n1 n2 n3 n4 n5 ⊢
 obtain ⟨HK0, HA0, HB0⟩ := new2 w [.int .i64 k, .int .i64 t, .int .i64 p, .int .i64 g, .int .i64 s, .bool bu, .slice ba bb.length bc, .bool au, .slice aa ab.length ac, .int .i64 u, .int .i64 nt, .slice ta tn tc, .slice da dn dc, .slice ia ib.length ic] 50 [.int .i64 0, .int .i64 0, .int .i64 0, .int .i64 0, .int .i64 0, .bool false, .slice none 0 0, .bool false, .slice none 0 0, .int .i64 0, .int .i64 0, .slice none 0 0, .slice none 0 0, .slice none 0 0] 50
 have HI0 := (show Hid (OwI w ((w.alloc (.cells #[.int .i64 k, .int .i64 t, .int .i64 p, .int .i64 g, .int .i64 s, .bool bu, .slice ba bb.length bc, .bool au, .slice aa ab.length ac, .int .i64 u, .int .i64 nt, .slice ta tn tc, .slice da dn dc, .slice ia ib.length ic] 50)).alloc (.cells #[.int .i64 0, .int .i64 0, .int .i64 0, .int .i64 0, .int .i64 0, .bool false, .slice none 0 0, .bool false, .slice none 0 0, .int .i64 0, .int .i64 0, .slice none 0 0, .slice none 0 0, .slice none 0 0] 50)) w.heap.size (w.heap.size + 1) [.int .i64 k, .int .i64 t, .int .i64 p, .int .i64 g, .int .i64 s, .bool bu, .slice ba bb.length bc, .bool au, .slice aa ab.length ac, .int .i64 u, .int .i64 nt, .slice ta tn tc, .slice da dn dc, .slice ia ib.length ic] []) from ⟨HA0.out, HB0.out, HK0.out, ⟨fun r hr => by simp at hr, List.Pairwise.nil⟩, fun b hb => by obtain ⟨r, hr, _⟩ := hb; simp at hr, Nat.le_refl _, by omega, by omega⟩)
 clear HK0 HA0 HB0 hv
 go_enter Tryz.func71, Tryz.ntmps71
 go_upto_region 1 with fail
 generalize (w.alloc (.cells #[.int .i64 k, .int .i64 t, .int .i64 p, .int .i64 g, .int .i64 s, .bool bu, .slice ba bb.length bc, .bool au, .slice aa ab.length ac, .int .i64 u, .int .i64 nt, .slice ta tn tc, .slice da dn dc, .slice ia ib.length ic] 50)).alloc (.cells #[.int .i64 0, .int .i64 0, .int .i64 0, .int .i64 0, .int .i64 0, .bool false, .slice none 0 0, .bool false, .slice none 0 0, .int .i64 0, .int .i64 0, .slice none 0 0, .slice none 0 0, .slice none 0 0] 50) = w0 at HI0 ⊢
 obtain ⟨A, hA⟩ : ∃ A, w.heap.size = A := ⟨_, rfl⟩
 have HI0 := (show Hid (OwI w w0 A (A + 1) [.int .i64 k, .int .i64 t, .int .i64 p, .int .i64 g, .int .i64 s, .bool bu, .slice ba bb.length bc, .bool au, .slice aa ab.length ac, .int .i64 u, .int .i64 nt, .slice ta tn tc, .slice da dn dc, .slice ia ib.length ic] []) from by have h := HI0.out; rw [hA] at h; exact h)
 rw [hA]
 have HAA := hid hA
 clear hA
 have cc : w0.cell? ⟨A, 6, none⟩ = some (.slice ba bb.length bc) := HI0.out.box.cell 6
 go_wp2_with fail
 refine (clone_any _ bb _ n1 (HV.out.1.same HI0.out.kept)).mono ?_
 rintro e v1 ⟨a1, n1', c1, rfl, hown, hf, hk⟩
 obtain rfl := hown.sizedR
 have HR1 := (show Hid (OwnL v1 (BS.rows ⟨5, a1, c1, bb⟩)) from OwnL.one hown)
 have fa := (HI0.out.box.same hk).frozen
 have ca : v1.cell? ⟨A, 6, none⟩ = some (.slice ba bb.length bc) := (HI0.out.box.same hk).cell 6
 have HI1 := (show Hid (OwI w (v1.setCell ⟨A, 6, none⟩ (.slice a1 bb.length c1)) A (A + 1) _ _) from HI0.out.step hk HR1.out (fun b hb => hf b ((footL_ints _ _ _ _ _).1 hb)) 6 (.slice a1 bb.length c1) rfl)
 dsimp only [List.set_cons_succ, List.set_cons_zero] at HI1
 clear hown hf hk HR1 HI0
 clear cc
 go_upto_region 2 with fail
 generalize v1.setCell ⟨A, 6, none⟩ (.slice a1 bb.length c1) = w1 at HI1 ⊢
 clear fa ca
 have cc : w1.cell? ⟨A, 8, none⟩ = some (.slice aa ab.length ac) := HI1.out.box.cell 8
 go_wp2_with fail
 refine (clone_any _ ab _ n2 (HV.out.2.1.same HI1.out.kept)).mono ?_
 rintro e v2 ⟨a2, n2', c2, rfl, hown, hf, hk⟩
 obtain rfl := hown.sizedR
 have HR2 := (show Hid (OwnL v2 (BS.rows ⟨5, a2, c2, ab⟩)) from OwnL.one hown)
 have fa := (HI1.out.box.same hk).frozen
 have ca : v2.cell? ⟨A, 8, none⟩ = some (.slice aa ab.length ac) := (HI1.out.box.same hk).cell 8
 have HI2 := (show Hid (OwI w (v2.setCell ⟨A, 8, none⟩ (.slice a2 ab.length c2)) A (A + 1) _ _) from HI1.out.step hk HR2.out (fun b hb => hf b ((footL_ints _ _ _ _ _).1 hb)) 8 (.slice a2 ab.length c2) rfl)
 dsimp only [List.set_cons_succ, List.set_cons_zero] at HI2
 clear hown hf hk HR2 HI1
 clear cc
 go_upto_region 3 with fail
 generalize v2.setCell ⟨A, 8, none⟩ (.slice a2 ab.length c2) = w2 at HI2 ⊢
 clear fa ca
 have cc : w2.cell? ⟨A, 11, none⟩ = some (.slice ta tn tc) := HI2.out.box.cell 11
 go_wp2_with fail
 refine (cloneT_any ⟨te, ta, tn, tc, tb⟩ _ n3 (HV.out.2.2.1.same HI2.out.kept)).mono ?_
 rintro e v3 ⟨a3, c3, rfl, hown, hf, hk⟩
 have fa := (HI2.out.box.same hk).frozen
 have ca : v3.cell? ⟨A, 11, none⟩ = some (.slice ta tn tc) := (HI2.out.box.same hk).cell 11
 have HI3 := (show Hid (OwI w (v3.setCell ⟨A, 11, none⟩ (.slice a3 tn c3)) A (A + 1) _ _) from HI2.out.step hk hown hf 11 (.slice a3 tn c3) rfl)
 dsimp only [List.set_cons_succ, List.set_cons_zero] at HI3
 clear hown hf hk HI2
 clear cc
 go_upto_region 4 with fail
 generalize v3.setCell ⟨A, 11, none⟩ (.slice a3 tn c3) = w3 at HI3 ⊢
 clear fa ca
 have cc : w3.cell? ⟨A, 12, none⟩ = some (.slice da dn dc) := HI3.out.box.cell 12
 go_wp2_with fail
 refine (cloneD_any ⟨de, da, dn, dc, db⟩ _ n4 (HV.out.2.2.2.1.same HI3.out.kept)).mono ?_
 rintro e v4 ⟨a4, c4, rfl, hown, hf, hk⟩
 have fa := (HI3.out.box.same hk).frozen
 have ca : v4.cell? ⟨A, 12, none⟩ = some (.slice da dn dc) := (HI3.out.box.same hk).cell 12
 have HI4 := (show Hid (OwI w (v4.setCell ⟨A, 12, none⟩ (.slice a4 dn c4)) A (A + 1) _ _) from HI3.out.step hk hown hf 12 (.slice a4 dn c4) rfl)
 dsimp only [List.set_cons_succ, List.set_cons_zero] at HI4
 clear hown hf hk HI3
 clear cc
 go_upto_region 5 with fail
 generalize v4.setCell ⟨A, 12, none⟩ (.slice a4 dn c4) = w4 at HI4 ⊢
 clear fa ca
 have cc : w4.cell? ⟨A, 13, none⟩ = some (.slice ia ib.length ic) := HI4.out.box.cell 13
 go_wp2_with fail
 refine (clone_any _ ib _ n5 (HV.out.2.2.2.2.same HI4.out.kept)).mono ?_
 rintro e v5 ⟨a5, n5', c5, rfl, hown, hf, hk⟩
 obtain rfl := hown.sizedR
 have HR5 := (show Hid (OwnL v5 (BS.rows ⟨5, a5, c5, ib⟩)) from OwnL.one hown)
 have fa := (HI4.out.box.same hk).frozen
 have ca : v5.cell? ⟨A, 13, none⟩ = some (.slice ia ib.length ic) := (HI4.out.box.same hk).cell 13
 have HI5 := (show Hid (OwI w (v5.setCell ⟨A, 13, none⟩ (.slice a5 ib.length c5)) A (A + 1) _ _) from HI4.out.step hk HR5.out (fun b hb => hf b ((footL_ints _ _ _ _ _).1 hb)) 13 (.slice a5 ib.length c5) rfl)
 dsimp only [List.set_cons_succ, List.set_cons_zero] at HI5
 clear hown hf hk HR5 HI4
 clear cc
 go_upto_region 6 with fail
 generalize v5.setCell ⟨A, 13, none⟩ (.slice a5 ib.length c5) = w5 at HI5 ⊢
 clear fa ca
 obtain ⟨q0, q1, q2, q3, q4, q5, q6, q7, q8, q9, q10, q11, q12, q13⟩ := (show Blk w5 A 50 [.int .i64 k, .int .i64 t, .int .i64 p, .int .i64 g, .int .i64 s, .bool bu, .slice a1 bb.length c1, .bool au, .slice a2 ab.length c2, .int .i64 u, .int .i64 nt, .slice a3 tn c3, .slice a4 dn c4, .slice a5 ib.length c5] from HI5.out.box).all14
 have fz := HI5.out.res.frozen
 have hs1 := HI5.out.box.lt
 have hs2 := HI5.out.res.lt
 have z0 := HI5.out.res.cell 0
 have z1 := HI5.out.res.cell 1
 have z2 := HI5.out.res.cell 2
 have z3 := HI5.out.res.cell 3
 have z4 := HI5.out.res.cell 4
 have z5 := HI5.out.res.cell 5
 have z6 := HI5.out.res.cell 6
 have z7 := HI5.out.res.cell 7
 have z8 := HI5.out.res.cell 8
 have z9 := HI5.out.res.cell 9
 have z10 := HI5.out.res.cell 10
 have z11 := HI5.out.res.cell 11
 have z12 := HI5.out.res.cell 12
 have z13 := HI5.out.res.cell 13
 simp only [List.getElem?_cons_zero, List.getElem?_cons_succ] at z0 z1 z2 z3 z4 z5 z6 z7 z8 z9 z10 z11 z12 z13
 have HS := (show Hid (Kept (fun b => b = A + 1) w5 ((((((((((((((w5.setCell ⟨A + 1, 0, none⟩ (.int .i64 k)).setCell ⟨A + 1, 1, none⟩ (.int .i64 t)).setCell ⟨A + 1, 2, none⟩ (.int .i64 p)).setCell ⟨A + 1, 3, none⟩ (.int .i64 g)).setCell ⟨A + 1, 4, none⟩ (.int .i64 s)).setCell ⟨A + 1, 5, none⟩ (.bool bu)).setCell ⟨A + 1, 6, none⟩ (.slice a1 bb.length c1)).setCell ⟨A + 1, 7, none⟩ (.bool au)).setCell ⟨A + 1, 8, none⟩ (.slice a2 ab.length c2)).setCell ⟨A + 1, 9, none⟩ (.int .i64 u)).setCell ⟨A + 1, 10, none⟩ (.int .i64 nt)).setCell ⟨A + 1, 11, none⟩ (.slice a3 tn c3)).setCell ⟨A + 1, 12, none⟩ (.slice a4 dn c4)).setCell ⟨A + 1, 13, none⟩ (.slice a5 ib.length c5))) from ((((((((((((((Kept.refl (fun b => b = A + 1) w5).setCell (p := ⟨A + 1, 0, none⟩) (.inr rfl) _).setCell (p := ⟨A + 1, 1, none⟩) (.inr rfl) _).setCell (p := ⟨A + 1, 2, none⟩) (.inr rfl) _).setCell (p := ⟨A + 1, 3, none⟩) (.inr rfl) _).setCell (p := ⟨A + 1, 4, none⟩) (.inr rfl) _).setCell (p := ⟨A + 1, 5, none⟩) (.inr rfl) _).setCell (p := ⟨A + 1, 6, none⟩) (.inr rfl) _).setCell (p := ⟨A + 1, 7, none⟩) (.inr rfl) _).setCell (p := ⟨A + 1, 8, none⟩) (.inr rfl) _).setCell (p := ⟨A + 1, 9, none⟩) (.inr rfl) _).setCell (p := ⟨A + 1, 10, none⟩) (.inr rfl) _).setCell (p := ⟨A + 1, 11, none⟩) (.inr rfl) _).setCell (p := ⟨A + 1, 12, none⟩) (.inr rfl) _).setCell (p := ⟨A + 1, 13, none⟩) (.inr rfl) _)
 have HO := hid (HI5.out.own.kept HS.out (fun b hb e => (HI5.out.foot b hb).2.2 e))
 go_wp2
 refine bodyPost_ret (v := .agg #[.int .i64 k, .int .i64 t, .int .i64 p, .int .i64 g, .int .i64 s, .bool bu, .slice a1 bb.length c1, .bool au, .slice a2 ab.length c2, .int .i64 u, .int .i64 nt, .slice a3 tn c3, .slice a4 dn c4, .slice a5 ib.length c5]) (by simp [results, Tryz.results71, go_sem, z0, z1, z2, z3, z4, z5, z6, z7, z8, z9, z10, z11, z12, z13]) rfl ⟨⟨k, t, p, g, s, ⟨bu, ⟨5, a1, c1, bb⟩⟩, ⟨au, ⟨5, a2, c2, ab⟩⟩, u, nt, ⟨96, a3, tn, c3, tb⟩, ⟨98, a4, dn, c4, db⟩, ⟨5, a5, c5, ib⟩⟩, rfl, rfl, fun b hb => ?_, ?_, ?_⟩
 ·refine (HI5.out.foot b ?_).1
  simp only [List.nil_append, List.append_assoc]
  exact hb
 ·have h := HO.out
  simp only [List.nil_append, List.append_assoc] at h
  exact h
 ·exact HI5.out.kept.next HS.out (fun i hi e => by have := HAA.out; omega)
end Go.Proofs.YtaojjcnmififoaaGreat
