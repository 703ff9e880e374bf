import Derived.Test.YtaeikeglaobeeaaGreatG00
import Derived.Test.YtaeikeglaobeeaaGreatG01
import Derived.Deep.DeepCutAuto
namespace Go.Proofs.YtaeikeglaobeeaaGreat
set_option linter.unusedVariables false
set_option linter.unusedSimpArgs false
set_option maxRecDepth 100000
set_option maxHeartbeats 16000000
open Go.RowKit
structure StFrameResult where
 code : Int
 fsz : Int
 epoch : Int
 record : StLogRecord
def StFrameResult.val (x : StFrameResult) : Value := .agg #[.int .i64 x.code, .int .i64 x.fsz, .int .i64 x.epoch, .int .i64 x.record.kind, .int .i64 x.record.txn, .int .i64 x.record.prev, .int .i64 x.record.page, .int .i64 x.record.slot, .bool x.record.before.used, x.record.before.data.v, .bool x.record.after.used, x.record.after.data.v, .int .i64 x.record.uN, .int .i64 x.record.nT, x.record.txns.v, x.record.dirty.v, x.record.image.v]
def StFrameResult.rows (x : StFrameResult) : List Row := x.record.rows
def StFrameResult.dat (x : StFrameResult) : Int × Int × Int × (Int × Int × Int × Int × Int × (Bool × List Int) × (Bool × List Int) × Int × Int × List Int × List Int × List Int) := (x.code, x.fsz, x.epoch, x.record.dat)
def StFrameResult.size (x : StFrameResult) : Int := x.record.size
theorem StFrameResult.size_le (x : StFrameResult) : 0 ≤ x.size := by
 unfold StFrameResult.size
 have h0 := x.record.size_le
 omega
def StFrameResult.marked (x : StFrameResult) (k : Int) : StFrameResult := ⟨x.code, x.fsz, x.epoch, x.record.marked (k)⟩
theorem StFrameResult.foot_marked (x : StFrameResult) (k : Int) (b : Nat) : FootL (x.marked k).rows b ↔ FootL x.rows b := by
 exact StLogRecord.foot_marked _ _ b
def StFrameResult.rd (w : World) (x : StFrameResult) : Prop := StLogRecord.rd w x.record
theorem StFrameResult.rd.kept {R : Nat → Prop} {w w' : World} {x : StFrameResult} (h : StFrameResult.rd w x) (hk : Kept R w w') (hr : ∀ b, FootL x.rows b → ¬ R b) : StFrameResult.rd w' x :=
 StLogRecord.rd.kept (h) hk (fun b hb => hr b (hb))
theorem StFrameResult.rd.same {w w' : World} {x : StFrameResult} (h : StFrameResult.rd w x) (hk : Same w w') : StFrameResult.rd w' x := h.kept hk (fun _ _ => id)
theorem StFrameResult.own_rd {w : World} {x : StFrameResult} (h : OwnL w x.rows) : StFrameResult.rd w x :=
 (StLogRecord.own_rd h)
def StFrameResult.szs (x : StFrameResult) : Int := x.record.szs
set_option maxRecDepth 100000 in
set_option maxHeartbeats 4000000 in
theorem eqFrameResult_own (x y : StFrameResult) (w : World) (hn : x.size ≤ 1125899906842624) (hd : x.dat = y.dat) (ha : OwnL w x.rows) (hb : OwnL w y.rows) :
  Calls Tryz.prog 15 #[x.val, y.val] w fun e w' => e = .returned (.bool true) ∧ Same w w' := by
 obtain ⟨xcode, xfsz, xepoch, ⟨xrecord_kind, xrecord_txn, xrecord_prev, xrecord_page, xrecord_slot, ⟨xrecord_before_used, ⟨xrecord_before_data_e, xrecord_before_data_a, xrecord_before_data_c, xrecord_before_data_b⟩⟩, ⟨xrecord_after_used, ⟨xrecord_after_data_e, xrecord_after_data_a, xrecord_after_data_c, xrecord_after_data_b⟩⟩, xrecord_uN, xrecord_nT, ⟨xrecord_txns_e, xrecord_txns_a, xrecord_txns_n, xrecord_txns_c, xrecord_txns_b⟩, ⟨xrecord_dirty_e, xrecord_dirty_a, xrecord_dirty_n, xrecord_dirty_c, xrecord_dirty_b⟩, ⟨xrecord_image_e, xrecord_image_a, xrecord_image_c, xrecord_image_b⟩⟩⟩ := x
 obtain ⟨ycode, yfsz, yepoch, ⟨yrecord_kind, yrecord_txn, yrecord_prev, yrecord_page, yrecord_slot, ⟨yrecord_before_used, ⟨yrecord_before_data_e, yrecord_before_data_a, yrecord_before_data_c, yrecord_before_data_b⟩⟩, ⟨yrecord_after_used, ⟨yrecord_after_data_e, yrecord_after_data_a, yrecord_after_data_c, yrecord_after_data_b⟩⟩, yrecord_uN, yrecord_nT, ⟨yrecord_txns_e, yrecord_txns_a, yrecord_txns_n, yrecord_txns_c, yrecord_txns_b⟩, ⟨yrecord_dirty_e, yrecord_dirty_a, yrecord_dirty_n, yrecord_dirty_c, yrecord_dirty_b⟩, ⟨yrecord_image_e, yrecord_image_a, yrecord_image_c, yrecord_image_b⟩⟩⟩ := y
 simp only [StFrameResult.dat, StLogRecord.dat, StPageRecord.dat, Prod.mk.injEq] at hd
 obtain ⟨rfl, rfl, rfl, ⟨rfl, rfl, rfl, rfl, rfl, ⟨rfl, rfl⟩, ⟨rfl, rfl⟩, rfl, rfl, rfl, rfl, rfl⟩⟩ := hd
 simp only [StFrameResult.size, StLogRecord.size, StPageRecord.size] at hn
 have Hx0 := (show Hid (OwnL w (StLogRecord.rows ⟨xrecord_kind, xrecord_txn, xrecord_prev, xrecord_page, xrecord_slot, ⟨xrecord_before_used, ⟨xrecord_before_data_e, xrecord_before_data_a, xrecord_before_data_c, xrecord_before_data_b⟩⟩, ⟨xrecord_after_used, ⟨xrecord_after_data_e, xrecord_after_data_a, xrecord_after_data_c, xrecord_after_data_b⟩⟩, xrecord_uN, xrecord_nT, ⟨xrecord_txns_e, xrecord_txns_a, xrecord_txns_n, xrecord_txns_c, xrecord_txns_b⟩, ⟨xrecord_dirty_e, xrecord_dirty_a, xrecord_dirty_n, xrecord_dirty_c, xrecord_dirty_b⟩, ⟨xrecord_image_e, xrecord_image_a, xrecord_image_c, xrecord_image_b⟩⟩)) from ha)
 have Hy0 := (show Hid (OwnL w (StLogRecord.rows ⟨xrecord_kind, xrecord_txn, xrecord_prev, xrecord_page, xrecord_slot, ⟨xrecord_before_used, ⟨yrecord_before_data_e, yrecord_before_data_a, yrecord_before_data_c, xrecord_before_data_b⟩⟩, ⟨xrecord_after_used, ⟨yrecord_after_data_e, yrecord_after_data_a, yrecord_after_data_c, xrecord_after_data_b⟩⟩, xrecord_uN, xrecord_nT, ⟨yrecord_txns_e, yrecord_txns_a, yrecord_txns_n, yrecord_txns_c, xrecord_txns_b⟩, ⟨yrecord_dirty_e, yrecord_dirty_a, yrecord_dirty_n, yrecord_dirty_c, xrecord_dirty_b⟩, ⟨yrecord_image_e, yrecord_image_a, yrecord_image_c, xrecord_image_b⟩⟩)) from hb)
 clear ha hb
 dsimp only [StFrameResult.val, StLogRecord.val, StPageRecord.val, BS.v, FR.v]
 go_enter Tryz.func15, Tryz.ntmps15
 have hk0 : Same w ((w.alloc (.cells #[.int .i64 xcode, .int .i64 xfsz, .int .i64 xepoch, .int .i64 xrecord_kind, .int .i64 xrecord_txn, .int .i64 xrecord_prev, .int .i64 xrecord_page, .int .i64 xrecord_slot, .bool xrecord_before_used, .slice xrecord_before_data_a xrecord_before_data_b.length xrecord_before_data_c, .bool xrecord_after_used, .slice xrecord_after_data_a xrecord_after_data_b.length xrecord_after_data_c, .int .i64 xrecord_uN, .int .i64 xrecord_nT, .slice xrecord_txns_a xrecord_txns_n xrecord_txns_c, .slice xrecord_dirty_a xrecord_dirty_n xrecord_dirty_c, .slice xrecord_image_a xrecord_image_b.length xrecord_image_c] 39)).alloc (.cells #[.int .i64 xcode, .int .i64 xfsz, .int .i64 xepoch, .int .i64 xrecord_kind, .int .i64 xrecord_txn, .int .i64 xrecord_prev, .int .i64 xrecord_page, .int .i64 xrecord_slot, .bool xrecord_before_used, .slice yrecord_before_data_a xrecord_before_data_b.length yrecord_before_data_c, .bool xrecord_after_used, .slice yrecord_after_data_a xrecord_after_data_b.length yrecord_after_data_c, .int .i64 xrecord_uN, .int .i64 xrecord_nT, .slice yrecord_txns_a yrecord_txns_n yrecord_txns_c, .slice yrecord_dirty_a yrecord_dirty_n yrecord_dirty_c, .slice yrecord_image_a xrecord_image_b.length yrecord_image_c] 39)) := ((Kept.refl _ _).alloc _).alloc _
 have HK0 := (show Hid (Same w _) from hk0)
 have HBx0 := (show Hid (Blk ((w.alloc (.cells #[.int .i64 xcode, .int .i64 xfsz, .int .i64 xepoch, .int .i64 xrecord_kind, .int .i64 xrecord_txn, .int .i64 xrecord_prev, .int .i64 xrecord_page, .int .i64 xrecord_slot, .bool xrecord_before_used, .slice xrecord_before_data_a xrecord_before_data_b.length xrecord_before_data_c, .bool xrecord_after_used, .slice xrecord_after_data_a xrecord_after_data_b.length xrecord_after_data_c, .int .i64 xrecord_uN, .int .i64 xrecord_nT, .slice xrecord_txns_a xrecord_txns_n xrecord_txns_c, .slice xrecord_dirty_a xrecord_dirty_n xrecord_dirty_c, .slice xrecord_image_a xrecord_image_b.length xrecord_image_c] 39)).alloc (.cells #[.int .i64 xcode, .int .i64 xfsz, .int .i64 xepoch, .int .i64 xrecord_kind, .int .i64 xrecord_txn, .int .i64 xrecord_prev, .int .i64 xrecord_page, .int .i64 xrecord_slot, .bool xrecord_before_used, .slice yrecord_before_data_a xrecord_before_data_b.length yrecord_before_data_c, .bool xrecord_after_used, .slice yrecord_after_data_a xrecord_after_data_b.length yrecord_after_data_c, .int .i64 xrecord_uN, .int .i64 xrecord_nT, .slice yrecord_txns_a yrecord_txns_n yrecord_txns_c, .slice yrecord_dirty_a yrecord_dirty_n yrecord_dirty_c, .slice yrecord_image_a xrecord_image_b.length yrecord_image_c] 39)) w.heap.size 39 [.int .i64 xcode, .int .i64 xfsz, .int .i64 xepoch, .int .i64 xrecord_kind, .int .i64 xrecord_txn, .int .i64 xrecord_prev, .int .i64 xrecord_page, .int .i64 xrecord_slot, .bool xrecord_before_used, .slice xrecord_before_data_a xrecord_before_data_b.length xrecord_before_data_c, .bool xrecord_after_used, .slice xrecord_after_data_a xrecord_after_data_b.length xrecord_after_data_c, .int .i64 xrecord_uN, .int .i64 xrecord_nT, .slice xrecord_txns_a xrecord_txns_n xrecord_txns_c, .slice xrecord_dirty_a xrecord_dirty_n xrecord_dirty_c, .slice xrecord_image_a xrecord_image_b.length xrecord_image_c]) from (Blk.new w #[.int .i64 xcode, .int .i64 xfsz, .int .i64 xepoch, .int .i64 xrecord_kind, .int .i64 xrecord_txn, .int .i64 xrecord_prev, .int .i64 xrecord_page, .int .i64 xrecord_slot, .bool xrecord_before_used, .slice xrecord_before_data_a xrecord_before_data_b.length xrecord_before_data_c, .bool xrecord_after_used, .slice xrecord_after_data_a xrecord_after_data_b.length xrecord_after_data_c, .int .i64 xrecord_uN, .int .i64 xrecord_nT, .slice xrecord_txns_a xrecord_txns_n xrecord_txns_c, .slice xrecord_dirty_a xrecord_dirty_n xrecord_dirty_c, .slice xrecord_image_a xrecord_image_b.length xrecord_image_c] 39).alloc _)
 have HBy0 := (show Hid (Blk ((w.alloc (.cells #[.int .i64 xcode, .int .i64 xfsz, .int .i64 xepoch, .int .i64 xrecord_kind, .int .i64 xrecord_txn, .int .i64 xrecord_prev, .int .i64 xrecord_page, .int .i64 xrecord_slot, .bool xrecord_before_used, .slice xrecord_before_data_a xrecord_before_data_b.length xrecord_before_data_c, .bool xrecord_after_used, .slice xrecord_after_data_a xrecord_after_data_b.length xrecord_after_data_c, .int .i64 xrecord_uN, .int .i64 xrecord_nT, .slice xrecord_txns_a xrecord_txns_n xrecord_txns_c, .slice xrecord_dirty_a xrecord_dirty_n xrecord_dirty_c, .slice xrecord_image_a xrecord_image_b.length xrecord_image_c] 39)).alloc (.cells #[.int .i64 xcode, .int .i64 xfsz, .int .i64 xepoch, .int .i64 xrecord_kind, .int .i64 xrecord_txn, .int .i64 xrecord_prev, .int .i64 xrecord_page, .int .i64 xrecord_slot, .bool xrecord_before_used, .slice yrecord_before_data_a xrecord_before_data_b.length yrecord_before_data_c, .bool xrecord_after_used, .slice yrecord_after_data_a xrecord_after_data_b.length yrecord_after_data_c, .int .i64 xrecord_uN, .int .i64 xrecord_nT, .slice yrecord_txns_a yrecord_txns_n yrecord_txns_c, .slice yrecord_dirty_a yrecord_dirty_n yrecord_dirty_c, .slice yrecord_image_a xrecord_image_b.length yrecord_image_c] 39)) (w.heap.size + 1) 39 [.int .i64 xcode, .int .i64 xfsz, .int .i64 xepoch, .int .i64 xrecord_kind, .int .i64 xrecord_txn, .int .i64 xrecord_prev, .int .i64 xrecord_page, .int .i64 xrecord_slot, .bool xrecord_before_used, .slice yrecord_before_data_a xrecord_before_data_b.length yrecord_before_data_c, .bool xrecord_after_used, .slice yrecord_after_data_a xrecord_after_data_b.length yrecord_after_data_c, .int .i64 xrecord_uN, .int .i64 xrecord_nT, .slice yrecord_txns_a yrecord_txns_n yrecord_txns_c, .slice yrecord_dirty_a yrecord_dirty_n yrecord_dirty_c, .slice yrecord_image_a xrecord_image_b.length yrecord_image_c]) from by have h := Blk.new (w.alloc (.cells #[.int .i64 xcode, .int .i64 xfsz, .int .i64 xepoch, .int .i64 xrecord_kind, .int .i64 xrecord_txn, .int .i64 xrecord_prev, .int .i64 xrecord_page, .int .i64 xrecord_slot, .bool xrecord_before_used, .slice xrecord_before_data_a xrecord_before_data_b.length xrecord_before_data_c, .bool xrecord_after_used, .slice xrecord_after_data_a xrecord_after_data_b.length xrecord_after_data_c, .int .i64 xrecord_uN, .int .i64 xrecord_nT, .slice xrecord_txns_a xrecord_txns_n xrecord_txns_c, .slice xrecord_dirty_a xrecord_dirty_n xrecord_dirty_c, .slice xrecord_image_a xrecord_image_b.length xrecord_image_c] 39)) #[.int .i64 xcode, .int .i64 xfsz, .int .i64 xepoch, .int .i64 xrecord_kind, .int .i64 xrecord_txn, .int .i64 xrecord_prev, .int .i64 xrecord_page, .int .i64 xrecord_slot, .bool xrecord_before_used, .slice yrecord_before_data_a xrecord_before_data_b.length yrecord_before_data_c, .bool xrecord_after_used, .slice yrecord_after_data_a xrecord_after_data_b.length yrecord_after_data_c, .int .i64 xrecord_uN, .int .i64 xrecord_nT, .slice yrecord_txns_a yrecord_txns_n yrecord_txns_c, .slice yrecord_dirty_a yrecord_dirty_n yrecord_dirty_c, .slice yrecord_image_a xrecord_image_b.length yrecord_image_c] 39; rwa [World.size_alloc] at h)
 clear hk0
 go_wp2_with fail
 refine (eqLogRecord_own ⟨xrecord_kind, xrecord_txn, xrecord_prev, xrecord_page, xrecord_slot, ⟨xrecord_before_used, ⟨xrecord_before_data_e, xrecord_before_data_a, xrecord_before_data_c, xrecord_before_data_b⟩⟩, ⟨xrecord_after_used, ⟨xrecord_after_data_e, xrecord_after_data_a, xrecord_after_data_c, xrecord_after_data_b⟩⟩, xrecord_uN, xrecord_nT, ⟨xrecord_txns_e, xrecord_txns_a, xrecord_txns_n, xrecord_txns_c, xrecord_txns_b⟩, ⟨xrecord_dirty_e, xrecord_dirty_a, xrecord_dirty_n, xrecord_dirty_c, xrecord_dirty_b⟩, ⟨xrecord_image_e, xrecord_image_a, xrecord_image_c, xrecord_image_b⟩⟩ ⟨xrecord_kind, xrecord_txn, xrecord_prev, xrecord_page, xrecord_slot, ⟨xrecord_before_used, ⟨yrecord_before_data_e, yrecord_before_data_a, yrecord_before_data_c, xrecord_before_data_b⟩⟩, ⟨xrecord_after_used, ⟨yrecord_after_data_e, yrecord_after_data_a, yrecord_after_data_c, xrecord_after_data_b⟩⟩, xrecord_uN, xrecord_nT, ⟨yrecord_txns_e, yrecord_txns_a, yrecord_txns_n, yrecord_txns_c, xrecord_txns_b⟩, ⟨yrecord_dirty_e, yrecord_dirty_a, yrecord_dirty_n, yrecord_dirty_c, xrecord_dirty_b⟩, ⟨yrecord_image_e, yrecord_image_a, yrecord_image_c, xrecord_image_b⟩⟩ _ (by simp only [StLogRecord.size, StPageRecord.size]; omega) rfl (Hx0.out.same HK0.out) (Hy0.out.same HK0.out)).mono ?_
 rintro e w1 ⟨rfl, hk⟩
 have HK1 := hid (HK0.out.trans hk)
 have HBx1 := (show Hid (Blk w1 w.heap.size 39 [.int .i64 xcode, .int .i64 xfsz, .int .i64 xepoch, .int .i64 xrecord_kind, .int .i64 xrecord_txn, .int .i64 xrecord_prev, .int .i64 xrecord_page, .int .i64 xrecord_slot, .bool xrecord_before_used, .slice xrecord_before_data_a xrecord_before_data_b.length xrecord_before_data_c, .bool xrecord_after_used, .slice xrecord_after_data_a xrecord_after_data_b.length xrecord_after_data_c, .int .i64 xrecord_uN, .int .i64 xrecord_nT, .slice xrecord_txns_a xrecord_txns_n xrecord_txns_c, .slice xrecord_dirty_a xrecord_dirty_n xrecord_dirty_c, .slice xrecord_image_a xrecord_image_b.length xrecord_image_c]) from HBx0.out.same hk)
 have HBy1 := (show Hid (Blk w1 (w.heap.size + 1) 39 [.int .i64 xcode, .int .i64 xfsz, .int .i64 xepoch, .int .i64 xrecord_kind, .int .i64 xrecord_txn, .int .i64 xrecord_prev, .int .i64 xrecord_page, .int .i64 xrecord_slot, .bool xrecord_before_used, .slice yrecord_before_data_a xrecord_before_data_b.length yrecord_before_data_c, .bool xrecord_after_used, .slice yrecord_after_data_a xrecord_after_data_b.length yrecord_after_data_c, .int .i64 xrecord_uN, .int .i64 xrecord_nT, .slice yrecord_txns_a yrecord_txns_n yrecord_txns_c, .slice yrecord_dirty_a yrecord_dirty_n yrecord_dirty_c, .slice yrecord_image_a xrecord_image_b.length yrecord_image_c]) from HBy0.out.same hk)
 clear hk HK0 HBx0 HBy0
 go_wp2
 go_ret
 exact ⟨rfl, HK1.out⟩
theorem recS_1 (txn : Int) (prev : Int) (page : Int) (slot : Int) (beforeu : Bool) (beforea : Option Addr) (beforen beforec : Nat) (afteru : Bool) (aftera : Option Addr) (aftern afterc : Nat) (uN : Int) (nT : Int) (txnsa : Option Addr) (txnsn txnsc : Nat) (dirtya : Option Addr) (dirtyn dirtyc : Nat) (imagea : Option Addr) (imagen imagec : Nat) (w : World) (EX b1 b2 b3 b4 b5 b6 : Bool) (PF : Int) (hkind : ∀ wx, Same w wx → Calls Tryz.prog 38 #[.int .i64 1, .int .i64 1, .int .i64 8] wx fun e w' => e = .returned (.bool true) ∧ Same wx w') (hex : ∀ wx, Same w wx → Calls Tryz.prog 39 #[.agg #[.int .i64 1, .int .i64 txn, .int .i64 prev, .int .i64 page, .int .i64 slot, .bool beforeu, .slice beforea beforen beforec, .bool afteru, .slice aftera aftern afterc, .int .i64 uN, .int .i64 nT, .slice txnsa txnsn txnsc, .slice dirtya dirtyn dirtyc, .slice imagea imagen imagec]] wx fun e w' => e = .returned (.bool EX) ∧ Same wx w') (htxn : ∀ wx, Same w wx → Calls Tryz.prog 38 #[.int .i64 txn, .int .i64 1, .int .i64 2147483647] wx fun e w' => e = .returned (.bool b1) ∧ Same wx w') (hprev : ∀ wx, Same w wx → Calls Tryz.prog 38 #[.int .i64 prev, .int .i64 0, .int .i64 1099511627776] wx fun e w' => e = .returned (.bool b2) ∧ Same wx w') (hpage : ∀ wx, Same w wx → Calls Tryz.prog 38 #[.int .i64 page, .int .i64 0, .int .i64 15] wx fun e w' => e = .returned (.bool b3) ∧ Same wx w') (hslot : ∀ wx, Same w wx → Calls Tryz.prog 38 #[.int .i64 slot, .int .i64 0, .int .i64 31] wx fun e w' => e = .returned (.bool b4) ∧ Same wx w') (hbef : ∀ wx, Same w wx → Calls Tryz.prog 40 #[.agg #[.bool beforeu, .slice beforea beforen beforec]] wx fun e w' => e = .returned (.bool b5) ∧ Same wx w') (haft : ∀ wx, Same w wx → Calls Tryz.prog 40 #[.agg #[.bool afteru, .slice aftera aftern afterc]] wx fun e w' => e = .returned (.bool b6) ∧ Same wx w') :
  Calls Tryz.prog 21 #[.agg #[.int .i64 1, .int .i64 txn, .int .i64 prev, .int .i64 page, .int .i64 slot, .bool beforeu, .slice beforea beforen beforec, .bool afteru, .slice aftera aftern afterc, .int .i64 uN, .int .i64 nT, .slice txnsa txnsn txnsc, .slice dirtya dirtyn dirtyc, .slice imagea imagen imagec]] w fun e w' => e = .returned (.int .i64 (if EX = true then 2 else (if b1 = false then 3 else (if b2 = false then 4 else (if b3 = false then 5 else (if b4 = false then 5 else (if b5 = false then 6 else (if b6 = false then 6 else (if (beforeu || afteru) = false then 6 else (0)))))))))) ∧ Same w w' := by
 obtain ⟨HK0, HB0⟩ := new1 w [.int .i64 1, .int .i64 txn, .int .i64 prev, .int .i64 page, .int .i64 slot, .bool beforeu, .slice beforea beforen beforec, .bool afteru, .slice aftera aftern afterc, .int .i64 uN, .int .i64 nT, .slice txnsa txnsn txnsc, .slice dirtya dirtyn dirtyc, .slice imagea imagen imagec] 28
 go_enter Tryz.func21, Tryz.ntmps21
 go_wp2_with fail
 refine (hkind _ HK0.out).mono ?_
 rintro e w1 ⟨rfl, hk⟩
 have HK1 := hid (HK0.out.trans hk)
 have HB1 := hid (HB0.out.same hk)
 clear hk HK0 HB0
 obtain ⟨d0, d1, d2, d3, d4, d5, d6, d7, d8, d9, d10, d11, d12, d13⟩ := HB1.out.all14
 go_wp2_with fail
 refine (hex _ HK1.out).mono ?_
 rintro e w2 ⟨rfl, hk⟩
 clear d0 d1 d2 d3 d4 d5 d6 d7 d8 d9 d10 d11 d12 d13
 have HK2 := hid (HK1.out.trans hk)
 have HB2 := hid (HB1.out.same hk)
 clear hk HK1 HB1
 obtain ⟨d0, d1, d2, d3, d4, d5, d6, d7, d8, d9, d10, d11, d12, d13⟩ := HB2.out.all14
 cases EX with
 | true =>
  go_wp2
  go_ret
  exact ⟨by first | rfl | simp, HK2.out⟩
 | false =>
  go_wp2_with fail
  refine (htxn _ HK2.out).mono ?_
  rintro e w3 ⟨rfl, hk⟩
  clear d0 d1 d2 d3 d4 d5 d6 d7 d8 d9 d10 d11 d12 d13
  have HK3 := hid (HK2.out.trans hk)
  have HB3 := hid (HB2.out.same hk)
  clear hk HK2 HB2
  obtain ⟨d0, d1, d2, d3, d4, d5, d6, d7, d8, d9, d10, d11, d12, d13⟩ := HB3.out.all14
  cases b1 with
  | false =>
   go_wp2
   go_ret
   exact ⟨by first | rfl | simp, HK3.out⟩
  | true =>
   go_wp2_with fail
   refine (hprev _ HK3.out).mono ?_
   rintro e w4 ⟨rfl, hk⟩
   clear d0 d1 d2 d3 d4 d5 d6 d7 d8 d9 d10 d11 d12 d13
   have HK4 := hid (HK3.out.trans hk)
   have HB4 := hid (HB3.out.same hk)
   clear hk HK3 HB3
   obtain ⟨d0, d1, d2, d3, d4, d5, d6, d7, d8, d9, d10, d11, d12, d13⟩ := HB4.out.all14
   cases b2 with
   | false =>
    go_wp2
    go_ret
    exact ⟨by first | rfl | simp, HK4.out⟩
   | true =>
    go_wp2_with fail
    refine (hpage _ HK4.out).mono ?_
    rintro e w5 ⟨rfl, hk⟩
    clear d0 d1 d2 d3 d4 d5 d6 d7 d8 d9 d10 d11 d12 d13
    have HK5 := hid (HK4.out.trans hk)
    have HB5 := hid (HB4.out.same hk)
    clear hk HK4 HB4
    obtain ⟨d0, d1, d2, d3, d4, d5, d6, d7, d8, d9, d10, d11, d12, d13⟩ := HB5.out.all14
    cases b3 with
    | false =>
     go_wp2
     go_ret
     exact ⟨by first | rfl | simp, HK5.out⟩
    | true =>
     go_wp2_with fail
     refine (hslot _ HK5.out).mono ?_
     rintro e w6 ⟨rfl, hk⟩
     clear d0 d1 d2 d3 d4 d5 d6 d7 d8 d9 d10 d11 d12 d13
     have HK6 := hid (HK5.out.trans hk)
     have HB6 := hid (HB5.out.same hk)
     clear hk HK5 HB5
     obtain ⟨d0, d1, d2, d3, d4, d5, d6, d7, d8, d9, d10, d11, d12, d13⟩ := HB6.out.all14
     cases b4 with
     | false =>
      go_wp2
      go_ret
      exact ⟨by first | rfl | simp, HK6.out⟩
     | true =>
      go_wp2_with fail
      refine (hbef _ HK6.out).mono ?_
      rintro e w7 ⟨rfl, hk⟩
      clear d0 d1 d2 d3 d4 d5 d6 d7 d8 d9 d10 d11 d12 d13
      have HK7 := hid (HK6.out.trans hk)
      have HB7 := hid (HB6.out.same hk)
      clear hk HK6 HB6
      obtain ⟨d0, d1, d2, d3, d4, d5, d6, d7, d8, d9, d10, d11, d12, d13⟩ := HB7.out.all14
      cases b5 with
      | false =>
       go_wp2
       go_ret
       exact ⟨by first | rfl | simp, HK7.out⟩
      | true =>
       go_wp2_with fail
       refine (haft _ HK7.out).mono ?_
       rintro e w8 ⟨rfl, hk⟩
       clear d0 d1 d2 d3 d4 d5 d6 d7 d8 d9 d10 d11 d12 d13
       have HK8 := hid (HK7.out.trans hk)
       have HB8 := hid (HB7.out.same hk)
       clear hk HK7 HB7
       obtain ⟨d0, d1, d2, d3, d4, d5, d6, d7, d8, d9, d10, d11, d12, d13⟩ := HB8.out.all14
       cases b6 with
       | false =>
        go_wp2
        go_ret
        exact ⟨by first | rfl | simp, HK8.out⟩
       | true =>
        cases beforeu with
        | false =>
         cases afteru with
         | false =>
          go_wp2
          go_ret
          exact ⟨rfl, HK8.out⟩
         | true =>
          go_wp2
          go_ret
          exact ⟨rfl, HK8.out⟩
        | true =>
         go_wp2
         go_ret
         exact ⟨rfl, HK8.out⟩
theorem recS_2 (txn : Int) (prev : Int) (page : Int) (slot : Int) (beforeu : Bool) (beforea : Option Addr) (beforen beforec : Nat) (afteru : Bool) (aftera : Option Addr) (aftern afterc : Nat) (uN : Int) (nT : Int) (txnsa : Option Addr) (txnsn txnsc : Nat) (dirtya : Option Addr) (dirtyn dirtyc : Nat) (imagea : Option Addr) (imagen imagec : Nat) (w : World) (EX b1 b2 b3 b4 b5 b6 b7 : Bool) (PF : Int) (hkind : ∀ wx, Same w wx → Calls Tryz.prog 38 #[.int .i64 2, .int .i64 1, .int .i64 8] wx fun e w' => e = .returned (.bool true) ∧ Same wx w') (hex : ∀ wx, Same w wx → Calls Tryz.prog 39 #[.agg #[.int .i64 2, .int .i64 txn, .int .i64 prev, .int .i64 page, .int .i64 slot, .bool beforeu, .slice beforea beforen beforec, .bool afteru, .slice aftera aftern afterc, .int .i64 uN, .int .i64 nT, .slice txnsa txnsn txnsc, .slice dirtya dirtyn dirtyc, .slice imagea imagen imagec]] wx fun e w' => e = .returned (.bool EX) ∧ Same wx w') (htxn : ∀ wx, Same w wx → Calls Tryz.prog 38 #[.int .i64 txn, .int .i64 1, .int .i64 2147483647] wx fun e w' => e = .returned (.bool b1) ∧ Same wx w') (hprev : ∀ wx, Same w wx → Calls Tryz.prog 38 #[.int .i64 prev, .int .i64 0, .int .i64 1099511627776] wx fun e w' => e = .returned (.bool b2) ∧ Same wx w') (hpage : ∀ wx, Same w wx → Calls Tryz.prog 38 #[.int .i64 page, .int .i64 0, .int .i64 15] wx fun e w' => e = .returned (.bool b3) ∧ Same wx w') (hslot : ∀ wx, Same w wx → Calls Tryz.prog 38 #[.int .i64 slot, .int .i64 0, .int .i64 31] wx fun e w' => e = .returned (.bool b4) ∧ Same wx w') (hbef : ∀ wx, Same w wx → Calls Tryz.prog 40 #[.agg #[.bool beforeu, .slice beforea beforen beforec]] wx fun e w' => e = .returned (.bool b5) ∧ Same wx w') (haft : ∀ wx, Same w wx → Calls Tryz.prog 40 #[.agg #[.bool afteru, .slice aftera aftern afterc]] wx fun e w' => e = .returned (.bool b6) ∧ Same wx w') (hund : ∀ wx, Same w wx → Calls Tryz.prog 38 #[.int .i64 uN, .int .i64 0, .int .i64 1099511627776] wx fun e w' => e = .returned (.bool b7) ∧ Same wx w') :
  Calls Tryz.prog 21 #[.agg #[.int .i64 2, .int .i64 txn, .int .i64 prev, .int .i64 page, .int .i64 slot, .bool beforeu, .slice beforea beforen beforec, .bool afteru, .slice aftera aftern afterc, .int .i64 uN, .int .i64 nT, .slice txnsa txnsn txnsc, .slice dirtya dirtyn dirtyc, .slice imagea imagen imagec]] w fun e w' => e = .returned (.int .i64 (if EX = true then 2 else (if b1 = false then 3 else (if b2 = false then 4 else (if b3 = false then 5 else (if b4 = false then 5 else (if b5 = false then 6 else (if b6 = false then 6 else (if b7 = false then 7 else (0)))))))))) ∧ Same w w' := by
 obtain ⟨HK0, HB0⟩ := new1 w [.int .i64 2, .int .i64 txn, .int .i64 prev, .int .i64 page, .int .i64 slot, .bool beforeu, .slice beforea beforen beforec, .bool afteru, .slice aftera aftern afterc, .int .i64 uN, .int .i64 nT, .slice txnsa txnsn txnsc, .slice dirtya dirtyn dirtyc, .slice imagea imagen imagec] 28
 go_enter Tryz.func21, Tryz.ntmps21
 go_wp2_with fail
 refine (hkind _ HK0.out).mono ?_
 rintro e w1 ⟨rfl, hk⟩
 have HK1 := hid (HK0.out.trans hk)
 have HB1 := hid (HB0.out.same hk)
 clear hk HK0 HB0
 obtain ⟨d0, d1, d2, d3, d4, d5, d6, d7, d8, d9, d10, d11, d12, d13⟩ := HB1.out.all14
 go_wp2_with fail
 refine (hex _ HK1.out).mono ?_
 rintro e w2 ⟨rfl, hk⟩
 clear d0 d1 d2 d3 d4 d5 d6 d7 d8 d9 d10 d11 d12 d13
 have HK2 := hid (HK1.out.trans hk)
 have HB2 := hid (HB1.out.same hk)
 clear hk HK1 HB1
 obtain ⟨d0, d1, d2, d3, d4, d5, d6, d7, d8, d9, d10, d11, d12, d13⟩ := HB2.out.all14
 cases EX with
 | true =>
  go_wp2
  go_ret
  exact ⟨by first | rfl | simp, HK2.out⟩
 | false =>
  go_wp2_with fail
  refine (htxn _ HK2.out).mono ?_
  rintro e w3 ⟨rfl, hk⟩
  clear d0 d1 d2 d3 d4 d5 d6 d7 d8 d9 d10 d11 d12 d13
  have HK3 := hid (HK2.out.trans hk)
  have HB3 := hid (HB2.out.same hk)
  clear hk HK2 HB2
  obtain ⟨d0, d1, d2, d3, d4, d5, d6, d7, d8, d9, d10, d11, d12, d13⟩ := HB3.out.all14
  cases b1 with
  | false =>
   go_wp2
   go_ret
   exact ⟨by first | rfl | simp, HK3.out⟩
  | true =>
   go_wp2_with fail
   refine (hprev _ HK3.out).mono ?_
   rintro e w4 ⟨rfl, hk⟩
   clear d0 d1 d2 d3 d4 d5 d6 d7 d8 d9 d10 d11 d12 d13
   have HK4 := hid (HK3.out.trans hk)
   have HB4 := hid (HB3.out.same hk)
   clear hk HK3 HB3
   obtain ⟨d0, d1, d2, d3, d4, d5, d6, d7, d8, d9, d10, d11, d12, d13⟩ := HB4.out.all14
   cases b2 with
   | false =>
    go_wp2
    go_ret
    exact ⟨by first | rfl | simp, HK4.out⟩
   | true =>
    go_wp2_with fail
    refine (hpage _ HK4.out).mono ?_
    rintro e w5 ⟨rfl, hk⟩
    clear d0 d1 d2 d3 d4 d5 d6 d7 d8 d9 d10 d11 d12 d13
    have HK5 := hid (HK4.out.trans hk)
    have HB5 := hid (HB4.out.same hk)
    clear hk HK4 HB4
    obtain ⟨d0, d1, d2, d3, d4, d5, d6, d7, d8, d9, d10, d11, d12, d13⟩ := HB5.out.all14
    cases b3 with
    | false =>
     go_wp2
     go_ret
     exact ⟨by first | rfl | simp, HK5.out⟩
    | true =>
     go_wp2_with fail
     refine (hslot _ HK5.out).mono ?_
     rintro e w6 ⟨rfl, hk⟩
     clear d0 d1 d2 d3 d4 d5 d6 d7 d8 d9 d10 d11 d12 d13
     have HK6 := hid (HK5.out.trans hk)
     have HB6 := hid (HB5.out.same hk)
     clear hk HK5 HB5
     obtain ⟨d0, d1, d2, d3, d4, d5, d6, d7, d8, d9, d10, d11, d12, d13⟩ := HB6.out.all14
     cases b4 with
     | false =>
      go_wp2
      go_ret
      exact ⟨by first | rfl | simp, HK6.out⟩
     | true =>
      go_wp2_with fail
      refine (hbef _ HK6.out).mono ?_
      rintro e w7 ⟨rfl, hk⟩
      clear d0 d1 d2 d3 d4 d5 d6 d7 d8 d9 d10 d11 d12 d13
      have HK7 := hid (HK6.out.trans hk)
      have HB7 := hid (HB6.out.same hk)
      clear hk HK6 HB6
      obtain ⟨d0, d1, d2, d3, d4, d5, d6, d7, d8, d9, d10, d11, d12, d13⟩ := HB7.out.all14
      cases b5 with
      | false =>
       go_wp2
       go_ret
       exact ⟨by first | rfl | simp, HK7.out⟩
      | true =>
       go_wp2_with fail
       refine (haft _ HK7.out).mono ?_
       rintro e w8 ⟨rfl, hk⟩
       clear d0 d1 d2 d3 d4 d5 d6 d7 d8 d9 d10 d11 d12 d13
       have HK8 := hid (HK7.out.trans hk)
       have HB8 := hid (HB7.out.same hk)
       clear hk HK7 HB7
       obtain ⟨d0, d1, d2, d3, d4, d5, d6, d7, d8, d9, d10, d11, d12, d13⟩ := HB8.out.all14
       cases b6 with
       | false =>
        go_wp2
        go_ret
        exact ⟨by first | rfl | simp, HK8.out⟩
       | true =>
        go_wp2_with fail
        refine (hund _ HK8.out).mono ?_
        rintro e w9 ⟨rfl, hk⟩
        clear d0 d1 d2 d3 d4 d5 d6 d7 d8 d9 d10 d11 d12 d13
        have HK9 := hid (HK8.out.trans hk)
        have HB9 := hid (HB8.out.same hk)
        clear hk HK8 HB8
        obtain ⟨d0, d1, d2, d3, d4, d5, d6, d7, d8, d9, d10, d11, d12, d13⟩ := HB9.out.all14
        cases b7 with
        | false =>
         go_wp2
         go_ret
         exact ⟨by first | rfl | simp, HK9.out⟩
        | true =>
         go_wp2
         go_ret
         exact ⟨by first | rfl | simp, HK9.out⟩
theorem recS_3 (txn : Int) (prev : Int) (page : Int) (slot : Int) (beforeu : Bool) (beforea : Option Addr) (beforen beforec : Nat) (afteru : Bool) (aftera : Option Addr) (aftern afterc : Nat) (uN : Int) (nT : Int) (txnsa : Option Addr) (txnsn txnsc : Nat) (dirtya : Option Addr) (dirtyn dirtyc : Nat) (imagea : Option Addr) (imagen imagec : Nat) (w : World) (EX b1 b2 b5 b6 : Bool) (PF : Int) (hkind : ∀ wx, Same w wx → Calls Tryz.prog 38 #[.int .i64 3, .int .i64 1, .int .i64 8] wx fun e w' => e = .returned (.bool true) ∧ Same wx w') (hex : ∀ wx, Same w wx → Calls Tryz.prog 39 #[.agg #[.int .i64 3, .int .i64 txn, .int .i64 prev, .int .i64 page, .int .i64 slot, .bool beforeu, .slice beforea beforen beforec, .bool afteru, .slice aftera aftern afterc, .int .i64 uN, .int .i64 nT, .slice txnsa txnsn txnsc, .slice dirtya dirtyn dirtyc, .slice imagea imagen imagec]] wx fun e w' => e = .returned (.bool EX) ∧ Same wx w') (htxn : ∀ wx, Same w wx → Calls Tryz.prog 38 #[.int .i64 txn, .int .i64 1, .int .i64 2147483647] wx fun e w' => e = .returned (.bool b1) ∧ Same wx w') (hprev : ∀ wx, Same w wx → Calls Tryz.prog 38 #[.int .i64 prev, .int .i64 0, .int .i64 1099511627776] wx fun e w' => e = .returned (.bool b2) ∧ Same wx w') (hbef : ∀ wx, Same w wx → Calls Tryz.prog 40 #[.agg #[.bool beforeu, .slice beforea beforen beforec]] wx fun e w' => e = .returned (.bool b5) ∧ Same wx w') (haft : ∀ wx, Same w wx → Calls Tryz.prog 40 #[.agg #[.bool afteru, .slice aftera aftern afterc]] wx fun e w' => e = .returned (.bool b6) ∧ Same wx w') :
  Calls Tryz.prog 21 #[.agg #[.int .i64 3, .int .i64 txn, .int .i64 prev, .int .i64 page, .int .i64 slot, .bool beforeu, .slice beforea beforen beforec, .bool afteru, .slice aftera aftern afterc, .int .i64 uN, .int .i64 nT, .slice txnsa txnsn txnsc, .slice dirtya dirtyn dirtyc, .slice imagea imagen imagec]] w fun e w' => e = .returned (.int .i64 (if EX = true then 2 else (if b1 = false then 3 else (if b2 = false then 4 else (if b5 = false then 6 else (if b6 = false then 6 else (0))))))) ∧ Same w w' := by
 obtain ⟨HK0, HB0⟩ := new1 w [.int .i64 3, .int .i64 txn, .int .i64 prev, .int .i64 page, .int .i64 slot, .bool beforeu, .slice beforea beforen beforec, .bool afteru, .slice aftera aftern afterc, .int .i64 uN, .int .i64 nT, .slice txnsa txnsn txnsc, .slice dirtya dirtyn dirtyc, .slice imagea imagen imagec] 28
 go_enter Tryz.func21, Tryz.ntmps21
 go_wp2_with fail
 refine (hkind _ HK0.out).mono ?_
 rintro e w1 ⟨rfl, hk⟩
 have HK1 := hid (HK0.out.trans hk)
 have HB1 := hid (HB0.out.same hk)
 clear hk HK0 HB0
 obtain ⟨d0, d1, d2, d3, d4, d5, d6, d7, d8, d9, d10, d11, d12, d13⟩ := HB1.out.all14
 go_wp2_with fail
 refine (hex _ HK1.out).mono ?_
 rintro e w2 ⟨rfl, hk⟩
 clear d0 d1 d2 d3 d4 d5 d6 d7 d8 d9 d10 d11 d12 d13
 have HK2 := hid (HK1.out.trans hk)
 have HB2 := hid (HB1.out.same hk)
 clear hk HK1 HB1
 obtain ⟨d0, d1, d2, d3, d4, d5, d6, d7, d8, d9, d10, d11, d12, d13⟩ := HB2.out.all14
 cases EX with
 | true =>
  go_wp2
  go_ret
  exact ⟨by first | rfl | simp, HK2.out⟩
 | false =>
  go_wp2_with fail
  refine (htxn _ HK2.out).mono ?_
  rintro e w3 ⟨rfl, hk⟩
  clear d0 d1 d2 d3 d4 d5 d6 d7 d8 d9 d10 d11 d12 d13
  have HK3 := hid (HK2.out.trans hk)
  have HB3 := hid (HB2.out.same hk)
  clear hk HK2 HB2
  obtain ⟨d0, d1, d2, d3, d4, d5, d6, d7, d8, d9, d10, d11, d12, d13⟩ := HB3.out.all14
  cases b1 with
  | false =>
   go_wp2
   go_ret
   exact ⟨by first | rfl | simp, HK3.out⟩
  | true =>
   go_wp2_with fail
   refine (hprev _ HK3.out).mono ?_
   rintro e w4 ⟨rfl, hk⟩
   clear d0 d1 d2 d3 d4 d5 d6 d7 d8 d9 d10 d11 d12 d13
   have HK4 := hid (HK3.out.trans hk)
   have HB4 := hid (HB3.out.same hk)
   clear hk HK3 HB3
   obtain ⟨d0, d1, d2, d3, d4, d5, d6, d7, d8, d9, d10, d11, d12, d13⟩ := HB4.out.all14
   cases b2 with
   | false =>
    go_wp2
    go_ret
    exact ⟨by first | rfl | simp, HK4.out⟩
   | true =>
    go_wp2_with fail
    refine (hbef _ HK4.out).mono ?_
    rintro e w5 ⟨rfl, hk⟩
    clear d0 d1 d2 d3 d4 d5 d6 d7 d8 d9 d10 d11 d12 d13
    have HK5 := hid (HK4.out.trans hk)
    have HB5 := hid (HB4.out.same hk)
    clear hk HK4 HB4
    obtain ⟨d0, d1, d2, d3, d4, d5, d6, d7, d8, d9, d10, d11, d12, d13⟩ := HB5.out.all14
    cases b5 with
    | false =>
     go_wp2
     go_ret
     exact ⟨by first | rfl | simp, HK5.out⟩
    | true =>
     go_wp2_with fail
     refine (haft _ HK5.out).mono ?_
     rintro e w6 ⟨rfl, hk⟩
     clear d0 d1 d2 d3 d4 d5 d6 d7 d8 d9 d10 d11 d12 d13
     have HK6 := hid (HK5.out.trans hk)
     have HB6 := hid (HB5.out.same hk)
     clear hk HK5 HB5
     obtain ⟨d0, d1, d2, d3, d4, d5, d6, d7, d8, d9, d10, d11, d12, d13⟩ := HB6.out.all14
     cases b6 with
     | false =>
      go_wp2
      go_ret
      exact ⟨by first | rfl | simp, HK6.out⟩
     | true =>
      go_wp2
      go_ret
      exact ⟨by first | rfl | simp, HK6.out⟩
theorem recS_4 (txn : Int) (prev : Int) (page : Int) (slot : Int) (beforeu : Bool) (beforea : Option Addr) (beforen beforec : Nat) (afteru : Bool) (aftera : Option Addr) (aftern afterc : Nat) (uN : Int) (nT : Int) (txnsa : Option Addr) (txnsn txnsc : Nat) (dirtya : Option Addr) (dirtyn dirtyc : Nat) (imagea : Option Addr) (imagen imagec : Nat) (w : World) (EX b1 b2 b5 b6 : Bool) (PF : Int) (hkind : ∀ wx, Same w wx → Calls Tryz.prog 38 #[.int .i64 4, .int .i64 1, .int .i64 8] wx fun e w' => e = .returned (.bool true) ∧ Same wx w') (hex : ∀ wx, Same w wx → Calls Tryz.prog 39 #[.agg #[.int .i64 4, .int .i64 txn, .int .i64 prev, .int .i64 page, .int .i64 slot, .bool beforeu, .slice beforea beforen beforec, .bool afteru, .slice aftera aftern afterc, .int .i64 uN, .int .i64 nT, .slice txnsa txnsn txnsc, .slice dirtya dirtyn dirtyc, .slice imagea imagen imagec]] wx fun e w' => e = .returned (.bool EX) ∧ Same wx w') (htxn : ∀ wx, Same w wx → Calls Tryz.prog 38 #[.int .i64 txn, .int .i64 1, .int .i64 2147483647] wx fun e w' => e = .returned (.bool b1) ∧ Same wx w') (hprev : ∀ wx, Same w wx → Calls Tryz.prog 38 #[.int .i64 prev, .int .i64 0, .int .i64 1099511627776] wx fun e w' => e = .returned (.bool b2) ∧ Same wx w') (hbef : ∀ wx, Same w wx → Calls Tryz.prog 40 #[.agg #[.bool beforeu, .slice beforea beforen beforec]] wx fun e w' => e = .returned (.bool b5) ∧ Same wx w') (haft : ∀ wx, Same w wx → Calls Tryz.prog 40 #[.agg #[.bool afteru, .slice aftera aftern afterc]] wx fun e w' => e = .returned (.bool b6) ∧ Same wx w') :
  Calls Tryz.prog 21 #[.agg #[.int .i64 4, .int .i64 txn, .int .i64 prev, .int .i64 page, .int .i64 slot, .bool beforeu, .slice beforea beforen beforec, .bool afteru, .slice aftera aftern afterc, .int .i64 uN, .int .i64 nT, .slice txnsa txnsn txnsc, .slice dirtya dirtyn dirtyc, .slice imagea imagen imagec]] w fun e w' => e = .returned (.int .i64 (if EX = true then 2 else (if b1 = false then 3 else (if b2 = false then 4 else (if b5 = false then 6 else (if b6 = false then 6 else (0))))))) ∧ Same w w' := by
 obtain ⟨HK0, HB0⟩ := new1 w [.int .i64 4, .int .i64 txn, .int .i64 prev, .int .i64 page, .int .i64 slot, .bool beforeu, .slice beforea beforen beforec, .bool afteru, .slice aftera aftern afterc, .int .i64 uN, .int .i64 nT, .slice txnsa txnsn txnsc, .slice dirtya dirtyn dirtyc, .slice imagea imagen imagec] 28
 go_enter Tryz.func21, Tryz.ntmps21
 go_wp2_with fail
 refine (hkind _ HK0.out).mono ?_
 rintro e w1 ⟨rfl, hk⟩
 have HK1 := hid (HK0.out.trans hk)
 have HB1 := hid (HB0.out.same hk)
 clear hk HK0 HB0
 obtain ⟨d0, d1, d2, d3, d4, d5, d6, d7, d8, d9, d10, d11, d12, d13⟩ := HB1.out.all14
 go_wp2_with fail
 refine (hex _ HK1.out).mono ?_
 rintro e w2 ⟨rfl, hk⟩
 clear d0 d1 d2 d3 d4 d5 d6 d7 d8 d9 d10 d11 d12 d13
 have HK2 := hid (HK1.out.trans hk)
 have HB2 := hid (HB1.out.same hk)
 clear hk HK1 HB1
 obtain ⟨d0, d1, d2, d3, d4, d5, d6, d7, d8, d9, d10, d11, d12, d13⟩ := HB2.out.all14
 cases EX with
 | true =>
  go_wp2
  go_ret
  exact ⟨by first | rfl | simp, HK2.out⟩
 | false =>
  go_wp2_with fail
  refine (htxn _ HK2.out).mono ?_
  rintro e w3 ⟨rfl, hk⟩
  clear d0 d1 d2 d3 d4 d5 d6 d7 d8 d9 d10 d11 d12 d13
  have HK3 := hid (HK2.out.trans hk)
  have HB3 := hid (HB2.out.same hk)
  clear hk HK2 HB2
  obtain ⟨d0, d1, d2, d3, d4, d5, d6, d7, d8, d9, d10, d11, d12, d13⟩ := HB3.out.all14
  cases b1 with
  | false =>
   go_wp2
   go_ret
   exact ⟨by first | rfl | simp, HK3.out⟩
  | true =>
   go_wp2_with fail
   refine (hprev _ HK3.out).mono ?_
   rintro e w4 ⟨rfl, hk⟩
   clear d0 d1 d2 d3 d4 d5 d6 d7 d8 d9 d10 d11 d12 d13
   have HK4 := hid (HK3.out.trans hk)
   have HB4 := hid (HB3.out.same hk)
   clear hk HK3 HB3
   obtain ⟨d0, d1, d2, d3, d4, d5, d6, d7, d8, d9, d10, d11, d12, d13⟩ := HB4.out.all14
   cases b2 with
   | false =>
    go_wp2
    go_ret
    exact ⟨by first | rfl | simp, HK4.out⟩
   | true =>
    go_wp2_with fail
    refine (hbef _ HK4.out).mono ?_
    rintro e w5 ⟨rfl, hk⟩
    clear d0 d1 d2 d3 d4 d5 d6 d7 d8 d9 d10 d11 d12 d13
    have HK5 := hid (HK4.out.trans hk)
    have HB5 := hid (HB4.out.same hk)
    clear hk HK4 HB4
    obtain ⟨d0, d1, d2, d3, d4, d5, d6, d7, d8, d9, d10, d11, d12, d13⟩ := HB5.out.all14
    cases b5 with
    | false =>
     go_wp2
     go_ret
     exact ⟨by first | rfl | simp, HK5.out⟩
    | true =>
     go_wp2_with fail
     refine (haft _ HK5.out).mono ?_
     rintro e w6 ⟨rfl, hk⟩
     clear d0 d1 d2 d3 d4 d5 d6 d7 d8 d9 d10 d11 d12 d13
     have HK6 := hid (HK5.out.trans hk)
     have HB6 := hid (HB5.out.same hk)
     clear hk HK5 HB5
     obtain ⟨d0, d1, d2, d3, d4, d5, d6, d7, d8, d9, d10, d11, d12, d13⟩ := HB6.out.all14
     cases b6 with
     | false =>
      go_wp2
      go_ret
      exact ⟨by first | rfl | simp, HK6.out⟩
     | true =>
      go_wp2
      go_ret
      exact ⟨by first | rfl | simp, HK6.out⟩
theorem recS_5 (txn : Int) (prev : Int) (page : Int) (slot : Int) (beforeu : Bool) (beforea : Option Addr) (beforen beforec : Nat) (afteru : Bool) (aftera : Option Addr) (aftern afterc : Nat) (uN : Int) (nT : Int) (txnsa : Option Addr) (txnsn txnsc : Nat) (dirtya : Option Addr) (dirtyn dirtyc : Nat) (imagea : Option Addr) (imagen imagec : Nat) (w : World) (EX b1 b2 b5 b6 : Bool) (PF : Int) (hkind : ∀ wx, Same w wx → Calls Tryz.prog 38 #[.int .i64 5, .int .i64 1, .int .i64 8] wx fun e w' => e = .returned (.bool true) ∧ Same wx w') (hex : ∀ wx, Same w wx → Calls Tryz.prog 39 #[.agg #[.int .i64 5, .int .i64 txn, .int .i64 prev, .int .i64 page, .int .i64 slot, .bool beforeu, .slice beforea beforen beforec, .bool afteru, .slice aftera aftern afterc, .int .i64 uN, .int .i64 nT, .slice txnsa txnsn txnsc, .slice dirtya dirtyn dirtyc, .slice imagea imagen imagec]] wx fun e w' => e = .returned (.bool EX) ∧ Same wx w') (htxn : ∀ wx, Same w wx → Calls Tryz.prog 38 #[.int .i64 txn, .int .i64 1, .int .i64 2147483647] wx fun e w' => e = .returned (.bool b1) ∧ Same wx w') (hprev : ∀ wx, Same w wx → Calls Tryz.prog 38 #[.int .i64 prev, .int .i64 0, .int .i64 1099511627776] wx fun e w' => e = .returned (.bool b2) ∧ Same wx w') (hbef : ∀ wx, Same w wx → Calls Tryz.prog 40 #[.agg #[.bool beforeu, .slice beforea beforen beforec]] wx fun e w' => e = .returned (.bool b5) ∧ Same wx w') (haft : ∀ wx, Same w wx → Calls Tryz.prog 40 #[.agg #[.bool afteru, .slice aftera aftern afterc]] wx fun e w' => e = .returned (.bool b6) ∧ Same wx w') :
  Calls Tryz.prog 21 #[.agg #[.int .i64 5, .int .i64 txn, .int .i64 prev, .int .i64 page, .int .i64 slot, .bool beforeu, .slice beforea beforen beforec, .bool afteru, .slice aftera aftern afterc, .int .i64 uN, .int .i64 nT, .slice txnsa txnsn txnsc, .slice dirtya dirtyn dirtyc, .slice imagea imagen imagec]] w fun e w' => e = .returned (.int .i64 (if EX = true then 2 else (if b1 = false then 3 else (if b2 = false then 4 else (if b5 = false then 6 else (if b6 = false then 6 else (0))))))) ∧ Same w w' := by
 obtain ⟨HK0, HB0⟩ := new1 w [.int .i64 5, .int .i64 txn, .int .i64 prev, .int .i64 page, .int .i64 slot, .bool beforeu, .slice beforea beforen beforec, .bool afteru, .slice aftera aftern afterc, .int .i64 uN, .int .i64 nT, .slice txnsa txnsn txnsc, .slice dirtya dirtyn dirtyc, .slice imagea imagen imagec] 28
 go_enter Tryz.func21, Tryz.ntmps21
 go_wp2_with fail
 refine (hkind _ HK0.out).mono ?_
 rintro e w1 ⟨rfl, hk⟩
 have HK1 := hid (HK0.out.trans hk)
 have HB1 := hid (HB0.out.same hk)
 clear hk HK0 HB0
 obtain ⟨d0, d1, d2, d3, d4, d5, d6, d7, d8, d9, d10, d11, d12, d13⟩ := HB1.out.all14
 go_wp2_with fail
 refine (hex _ HK1.out).mono ?_
 rintro e w2 ⟨rfl, hk⟩
 clear d0 d1 d2 d3 d4 d5 d6 d7 d8 d9 d10 d11 d12 d13
 have HK2 := hid (HK1.out.trans hk)
 have HB2 := hid (HB1.out.same hk)
 clear hk HK1 HB1
 obtain ⟨d0, d1, d2, d3, d4, d5, d6, d7, d8, d9, d10, d11, d12, d13⟩ := HB2.out.all14
 cases EX with
 | true =>
  go_wp2
  go_ret
  exact ⟨by first | rfl | simp, HK2.out⟩
 | false =>
  go_wp2_with fail
  refine (htxn _ HK2.out).mono ?_
  rintro e w3 ⟨rfl, hk⟩
  clear d0 d1 d2 d3 d4 d5 d6 d7 d8 d9 d10 d11 d12 d13
  have HK3 := hid (HK2.out.trans hk)
  have HB3 := hid (HB2.out.same hk)
  clear hk HK2 HB2
  obtain ⟨d0, d1, d2, d3, d4, d5, d6, d7, d8, d9, d10, d11, d12, d13⟩ := HB3.out.all14
  cases b1 with
  | false =>
   go_wp2
   go_ret
   exact ⟨by first | rfl | simp, HK3.out⟩
  | true =>
   go_wp2_with fail
   refine (hprev _ HK3.out).mono ?_
   rintro e w4 ⟨rfl, hk⟩
   clear d0 d1 d2 d3 d4 d5 d6 d7 d8 d9 d10 d11 d12 d13
   have HK4 := hid (HK3.out.trans hk)
   have HB4 := hid (HB3.out.same hk)
   clear hk HK3 HB3
   obtain ⟨d0, d1, d2, d3, d4, d5, d6, d7, d8, d9, d10, d11, d12, d13⟩ := HB4.out.all14
   cases b2 with
   | false =>
    go_wp2
    go_ret
    exact ⟨by first | rfl | simp, HK4.out⟩
   | true =>
    go_wp2_with fail
    refine (hbef _ HK4.out).mono ?_
    rintro e w5 ⟨rfl, hk⟩
    clear d0 d1 d2 d3 d4 d5 d6 d7 d8 d9 d10 d11 d12 d13
    have HK5 := hid (HK4.out.trans hk)
    have HB5 := hid (HB4.out.same hk)
    clear hk HK4 HB4
    obtain ⟨d0, d1, d2, d3, d4, d5, d6, d7, d8, d9, d10, d11, d12, d13⟩ := HB5.out.all14
    cases b5 with
    | false =>
     go_wp2
     go_ret
     exact ⟨by first | rfl | simp, HK5.out⟩
    | true =>
     go_wp2_with fail
     refine (haft _ HK5.out).mono ?_
     rintro e w6 ⟨rfl, hk⟩
     clear d0 d1 d2 d3 d4 d5 d6 d7 d8 d9 d10 d11 d12 d13
     have HK6 := hid (HK5.out.trans hk)
     have HB6 := hid (HB5.out.same hk)
     clear hk HK5 HB5
     obtain ⟨d0, d1, d2, d3, d4, d5, d6, d7, d8, d9, d10, d11, d12, d13⟩ := HB6.out.all14
     cases b6 with
     | false =>
      go_wp2
      go_ret
      exact ⟨by first | rfl | simp, HK6.out⟩
     | true =>
      go_wp2
      go_ret
      exact ⟨by first | rfl | simp, HK6.out⟩
end Go.Proofs.YtaeikeglaobeeaaGreat
