import Derived.Test.YtbilnlgjpchgiaaDoorG05
import Derived.Test.YtbilnlgjpchgiaaDoorG02
import Derived.Test.YtbilnlgjpchgiaaDoorG00
import Derived.Deep.DeepCutAuto
import Derived.Deep.AppendSrc
import Derived.Deep.MidRow
import Derived.Laws.IdiomStrings
namespace Go.Proofs.YtbilnlgjpchgiaaDoor
set_option maxRecDepth 100000
set_option maxHeartbeats 4000000
set_option linter.unusedVariables false
set_option linter.unusedSimpArgs false
open Go.RowKit
theorem hx_len (bs : List Int) (h : bs.length ≤ 1048576) : (encH bs).length ≤ 2097152 := by
 unfold encH
 split
 ·simp
 ·rw [hexB_length]; omega
theorem kp_len (ks : List Int) (h : ks.length ≤ 1048576) : (kpW ks).length ≤ 1048576 := by
 unfold kpW u8s kpB
 split
 ·simp
 ·simp; omega
structure StStep.ln (w : World) (x : StStep) : Prop where
 ok : x.ok
 rd : StStep.rd w x
 dl : x.data.bs.length ≤ 1048576
 kl : x.keep.bs.length ≤ 1048576
 dig : ∀ k ∈ x.keep.bs, k = 0 ∨ k = 1
theorem StStep.ln.same {w w' : World} {x : StStep} (h : StStep.ln w x) (hk : Same w w') : StStep.ln w' x := ⟨h.ok, h.rd.same hk, h.dl, h.kl, h.dig⟩
theorem nameS_1 (w : World) : Calls Tryd.prog 54 #[.int .i64 1] w fun e w' => e = .returned (.string ⟨#[98, 101, 103, 105, 110]⟩) ∧ Same w w' := by
 go_enter Tryd.func54, Tryd.ntmps54
 go_wp2
 go_ret
 exact ⟨rfl, (Kept.refl _ _).alloc _⟩
theorem nameS_2 (w : World) : Calls Tryd.prog 54 #[.int .i64 2] w fun e w' => e = .returned (.string ⟨#[105, 110, 115, 101, 114, 116]⟩) ∧ Same w w' := by
 go_enter Tryd.func54, Tryd.ntmps54
 go_wp2
 go_ret
 exact ⟨rfl, (Kept.refl _ _).alloc _⟩
theorem nameS_3 (w : World) : Calls Tryd.prog 54 #[.int .i64 3] w fun e w' => e = .returned (.string ⟨#[117, 112, 100, 97, 116, 101]⟩) ∧ Same w w' := by
 go_enter Tryd.func54, Tryd.ntmps54
 go_wp2
 go_ret
 exact ⟨rfl, (Kept.refl _ _).alloc _⟩
theorem nameS_4 (w : World) : Calls Tryd.prog 54 #[.int .i64 4] w fun e w' => e = .returned (.string ⟨#[100, 101, 108, 101, 116, 101]⟩) ∧ Same w w' := by
 go_enter Tryd.func54, Tryd.ntmps54
 go_wp2
 go_ret
 exact ⟨rfl, (Kept.refl _ _).alloc _⟩
theorem nameS_5 (w : World) : Calls Tryd.prog 54 #[.int .i64 5] w fun e w' => e = .returned (.string ⟨#[114, 101, 97, 100]⟩) ∧ Same w w' := by
 go_enter Tryd.func54, Tryd.ntmps54
 go_wp2
 go_ret
 exact ⟨rfl, (Kept.refl _ _).alloc _⟩
theorem nameS_6 (w : World) : Calls Tryd.prog 54 #[.int .i64 6] w fun e w' => e = .returned (.string ⟨#[99, 111, 109, 109, 105, 116]⟩) ∧ Same w w' := by
 go_enter Tryd.func54, Tryd.ntmps54
 go_wp2
 go_ret
 exact ⟨rfl, (Kept.refl _ _).alloc _⟩
theorem nameS_7 (w : World) : Calls Tryd.prog 54 #[.int .i64 7] w fun e w' => e = .returned (.string ⟨#[97, 98, 111, 114, 116]⟩) ∧ Same w w' := by
 go_enter Tryd.func54, Tryd.ntmps54
 go_wp2
 go_ret
 exact ⟨rfl, (Kept.refl _ _).alloc _⟩
theorem nameS_8 (w : World) : Calls Tryd.prog 54 #[.int .i64 8] w fun e w' => e = .returned (.string ⟨#[99, 104, 101, 99, 107, 112, 111, 105, 110, 116]⟩) ∧ Same w w' := by
 go_enter Tryd.func54, Tryd.ntmps54
 go_wp2
 go_ret
 exact ⟨rfl, (Kept.refl _ _).alloc _⟩
theorem nameS_9 (w : World) : Calls Tryd.prog 54 #[.int .i64 9] w fun e w' => e = .returned (.string ⟨#[114, 101, 115, 116, 97, 114, 116]⟩) ∧ Same w w' := by
 go_enter Tryd.func54, Tryd.ntmps54
 go_wp2
 go_ret
 exact ⟨rfl, (Kept.refl _ _).alloc _⟩
theorem nameS_10 (w : World) : Calls Tryd.prog 54 #[.int .i64 10] w fun e w' => e = .returned (.string ⟨#[99, 114, 97, 115, 104]⟩) ∧ Same w w' := by
 go_enter Tryd.func54, Tryd.ntmps54
 go_wp2
 go_ret
 exact ⟨rfl, (Kept.refl _ _).alloc _⟩
theorem nameS_11 (w : World) : Calls Tryd.prog 54 #[.int .i64 11] w fun e w' => e = .returned (.string ⟨#[99, 117, 116]⟩) ∧ Same w w' := by
 go_enter Tryd.func54, Tryd.ntmps54
 go_wp2
 go_ret
 exact ⟨rfl, (Kept.refl _ _).alloc _⟩
theorem lineS_1 (x : StStep) (w : World) (hk : x.kd = 1) (h : StStep.ln w x) :
  Calls Tryd.prog 20 #[x.val] w fun e w' => e = .returned (.string (Tx (lnS x.dat))) ∧ Same w w' := by
 have HE := (show Hid (lnS x.dat = Lib.join [nmW 1] [32] ++ [10]) from by unfold Hid lnS wdS; simp only [StStep.dat, hk]; rfl)
 have HL := hid h
 have b0 := Blk.newL w [.int .i64 x.kd, .int .i64 x.tx, .int .i64 x.rid, .int .i64 x.cnt, x.data.v, x.keep.v] 61
 have HK0 := hid (sameA w [.int .i64 x.kd, .int .i64 x.tx, .int .i64 x.rid, .int .i64 x.cnt, x.data.v, x.keep.v] 61)
 rw [hk] at b0 HK0
 skip
 obtain ⟨kd, tx, rid, cnt, ⟨d1, d2, d3, d4⟩, ⟨e1, e2, e3, e4, e5⟩⟩ := x
 dsimp only [StStep.val, BS.v, FR.v] at *
 subst hk
 have c0 := b0.cell 0; have c1 := b0.cell 1; have c2 := b0.cell 2; have c3 := b0.cell 3; have c4 := b0.cell 4; have c5 := b0.cell 5
 dsimp only [List.getElem?_cons_zero, List.getElem?_cons_succ] at c0 c1 c2 c3 c4 c5
 have HB0 := hid b0
 clear h b0
 go_enter Tryd.func20, Tryd.ntmps20
 go_wp2_with (first
  | (go_at_call 54; (with_reducible refine (nameS_1 _).mono ?_); rintro e w1 ⟨rfl, hk1⟩; have HK1 := hid (HK0.out.trans hk1); have HB1 := hid (HB0.out.same hk1); have c0 := HB1.out.cell 0; have c1 := HB1.out.cell 1; have c2 := HB1.out.cell 2; have c3 := HB1.out.cell 3; have c4 := HB1.out.cell 4; have c5 := HB1.out.cell 5; dsimp only [List.getElem?_cons_zero, List.getElem?_cons_succ] at c0 c1 c2 c3 c4 c5; clear hk1))
 go_ret
 refine ⟨?_, HK1.out⟩
 rw [HE.out]
 refine congrArg (fun b => Ending.returned (Value.string b)) ?_
 apply ByteArray.ext
 simp [ByteArray.data_append, Lib.join, List.intercalate, nmW, Tx]
theorem lineS_2 (x : StStep) (w : World) (hk : x.kd = 2) (h : StStep.ln w x) :
  Calls Tryd.prog 20 #[x.val] w fun e w' => e = .returned (.string (Tx (lnS x.dat))) ∧ Same w w' := by
 have HE := (show Hid (lnS x.dat = Lib.join [nmW 2, Lib.itoa x.tx, hxW x.data.bs] [32] ++ [10]) from by unfold Hid lnS wdS; simp only [StStep.dat, hk]; rfl)
 have HL := hid h
 have b0 := Blk.newL w [.int .i64 x.kd, .int .i64 x.tx, .int .i64 x.rid, .int .i64 x.cnt, x.data.v, x.keep.v] 61
 have HK0 := hid (sameA w [.int .i64 x.kd, .int .i64 x.tx, .int .i64 x.rid, .int .i64 x.cnt, x.data.v, x.keep.v] 61)
 rw [hk] at b0 HK0
 have l_tx := itoa_len x.tx h.ok.tx.1 h.ok.tx.2
 have k_tx := fun wx => numS_any x.tx h.ok.tx.1 h.ok.tx.2 wx
 obtain ⟨T_tx, hT_tx⟩ : ∃ T, Lib.itoa x.tx = T := ⟨_, rfl⟩
 rw [hT_tx] at l_tx k_tx
 rw [hT_tx] at HE
 have l_data : (hxW x.data.bs).length ≤ 2097152 := by unfold hxW u8s; rw [List.length_map]; exact hx_len _ h.dl
 have k_data := (show ∀ wx, Same w wx → Calls Tryd.prog 36 #[x.data.v] wx fun e w' => e = .returned (.string (Tx (hxW x.data.bs))) ∧ Same wx w' from fun wx hk => specHex_any x.data.v x.data.bs wx h.ok.data h.dl (h.rd.1.same hk))
 obtain ⟨T_data, hT_data⟩ : ∃ T, hxW x.data.bs = T := ⟨_, rfl⟩
 rw [hT_data] at l_data k_data HE
 have y0_0 : ¬ 9223372036854775807 < 6 + 1 + T_tx.length := by omega
 have y0_1 : ¬ 9223372036854775807 < 7 + T_tx.length := by omega
 have z1_0 : ¬ 9223372036854775807 < 6 + 1 + T_tx.length + 1 := by omega
 have z1_1 : ¬ 9223372036854775807 < 7 + T_tx.length + 1 := by omega
 have y1_0 : ¬ 9223372036854775807 < 6 + 1 + T_tx.length + 1 + T_data.length := by omega
 have y1_1 : ¬ 9223372036854775807 < 7 + T_tx.length + 1 + T_data.length := by omega
 have x9_0 : ¬ 9223372036854775807 < 6 + 1 + T_tx.length + 1 + T_data.length + 1 := by omega
 have x9_1 : ¬ 9223372036854775807 < 7 + T_tx.length + 1 + T_data.length + 1 := by omega
 clear l_tx hT_tx l_data hT_data
 obtain ⟨kd, tx, rid, cnt, ⟨d1, d2, d3, d4⟩, ⟨e1, e2, e3, e4, e5⟩⟩ := x
 dsimp only [StStep.val, BS.v, FR.v] at *
 subst hk
 have c0 := b0.cell 0; have c1 := b0.cell 1; have c2 := b0.cell 2; have c3 := b0.cell 3; have c4 := b0.cell 4; have c5 := b0.cell 5
 dsimp only [List.getElem?_cons_zero, List.getElem?_cons_succ] at c0 c1 c2 c3 c4 c5
 have HB0 := hid b0
 clear h b0
 go_enter Tryd.func20, Tryd.ntmps20
 go_wp2_with (first
  | (go_at_call 54; (with_reducible refine (nameS_2 _).mono ?_); rintro e w1 ⟨rfl, hk1⟩; have HK1 := hid (HK0.out.trans hk1); have HB1 := hid (HB0.out.same hk1); have c0 := HB1.out.cell 0; have c1 := HB1.out.cell 1; have c2 := HB1.out.cell 2; have c3 := HB1.out.cell 3; have c4 := HB1.out.cell 4; have c5 := HB1.out.cell 5; dsimp only [List.getElem?_cons_zero, List.getElem?_cons_succ] at c0 c1 c2 c3 c4 c5; clear hk1)
  | (go_at_call 19; (with_reducible refine (k_tx _).mono ?_); rintro e w2 ⟨rfl, hk2⟩; have HK2 := hid (HK1.out.trans hk2); have HB2 := hid (HB1.out.same hk2); have c0 := HB2.out.cell 0; have c1 := HB2.out.cell 1; have c2 := HB2.out.cell 2; have c3 := HB2.out.cell 3; have c4 := HB2.out.cell 4; have c5 := HB2.out.cell 5; dsimp only [List.getElem?_cons_zero, List.getElem?_cons_succ] at c0 c1 c2 c3 c4 c5; clear hk2 k_tx)
  | (go_at_call 36; (with_reducible refine (k_data _ HK2.out).mono ?_); rintro e w3 ⟨rfl, hk3⟩; have HK3 := hid (HK2.out.trans hk3); have HB3 := hid (HB2.out.same hk3); have c0 := HB3.out.cell 0; have c1 := HB3.out.cell 1; have c2 := HB3.out.cell 2; have c3 := HB3.out.cell 3; have c4 := HB3.out.cell 4; have c5 := HB3.out.cell 5; dsimp only [List.getElem?_cons_zero, List.getElem?_cons_succ] at c0 c1 c2 c3 c4 c5; clear hk3 k_data))
 go_ret
 refine ⟨?_, HK3.out⟩
 rw [HE.out]
 refine congrArg (fun b => Ending.returned (Value.string b)) ?_
 apply ByteArray.ext
 simp [ByteArray.data_append, Lib.join, List.intercalate, nmW, Tx]
theorem lineS_3 (x : StStep) (w : World) (hk : x.kd = 3) (h : StStep.ln w x) :
  Calls Tryd.prog 20 #[x.val] w fun e w' => e = .returned (.string (Tx (lnS x.dat))) ∧ Same w w' := by
 have HE := (show Hid (lnS x.dat = Lib.join [nmW 3, Lib.itoa x.tx, Lib.itoa x.rid, hxW x.data.bs] [32] ++ [10]) from by unfold Hid lnS wdS; simp only [StStep.dat, hk]; rfl)
 have HL := hid h
 have b0 := Blk.newL w [.int .i64 x.kd, .int .i64 x.tx, .int .i64 x.rid, .int .i64 x.cnt, x.data.v, x.keep.v] 61
 have HK0 := hid (sameA w [.int .i64 x.kd, .int .i64 x.tx, .int .i64 x.rid, .int .i64 x.cnt, x.data.v, x.keep.v] 61)
 rw [hk] at b0 HK0
 have l_tx := itoa_len x.tx h.ok.tx.1 h.ok.tx.2
 have k_tx := fun wx => numS_any x.tx h.ok.tx.1 h.ok.tx.2 wx
 obtain ⟨T_tx, hT_tx⟩ : ∃ T, Lib.itoa x.tx = T := ⟨_, rfl⟩
 rw [hT_tx] at l_tx k_tx
 rw [hT_tx] at HE
 have l_rid := itoa_len x.rid h.ok.rid.1 h.ok.rid.2
 have k_rid := fun wx => numS_any x.rid h.ok.rid.1 h.ok.rid.2 wx
 obtain ⟨T_rid, hT_rid⟩ : ∃ T, Lib.itoa x.rid = T := ⟨_, rfl⟩
 rw [hT_rid] at l_rid k_rid
 rw [hT_rid] at HE
 have l_data : (hxW x.data.bs).length ≤ 2097152 := by unfold hxW u8s; rw [List.length_map]; exact hx_len _ h.dl
 have k_data := (show ∀ wx, Same w wx → Calls Tryd.prog 36 #[x.data.v] wx fun e w' => e = .returned (.string (Tx (hxW x.data.bs))) ∧ Same wx w' from fun wx hk => specHex_any x.data.v x.data.bs wx h.ok.data h.dl (h.rd.1.same hk))
 obtain ⟨T_data, hT_data⟩ : ∃ T, hxW x.data.bs = T := ⟨_, rfl⟩
 rw [hT_data] at l_data k_data HE
 have y0_0 : ¬ 9223372036854775807 < 6 + 1 + T_tx.length := by omega
 have y0_1 : ¬ 9223372036854775807 < 7 + T_tx.length := by omega
 have z1_0 : ¬ 9223372036854775807 < 6 + 1 + T_tx.length + 1 := by omega
 have z1_1 : ¬ 9223372036854775807 < 7 + T_tx.length + 1 := by omega
 have y1_0 : ¬ 9223372036854775807 < 6 + 1 + T_tx.length + 1 + T_rid.length := by omega
 have y1_1 : ¬ 9223372036854775807 < 7 + T_tx.length + 1 + T_rid.length := by omega
 have z2_0 : ¬ 9223372036854775807 < 6 + 1 + T_tx.length + 1 + T_rid.length + 1 := by omega
 have z2_1 : ¬ 9223372036854775807 < 7 + T_tx.length + 1 + T_rid.length + 1 := by omega
 have y2_0 : ¬ 9223372036854775807 < 6 + 1 + T_tx.length + 1 + T_rid.length + 1 + T_data.length := by omega
 have y2_1 : ¬ 9223372036854775807 < 7 + T_tx.length + 1 + T_rid.length + 1 + T_data.length := by omega
 have x9_0 : ¬ 9223372036854775807 < 6 + 1 + T_tx.length + 1 + T_rid.length + 1 + T_data.length + 1 := by omega
 have x9_1 : ¬ 9223372036854775807 < 7 + T_tx.length + 1 + T_rid.length + 1 + T_data.length + 1 := by omega
 clear l_tx hT_tx l_rid hT_rid l_data hT_data
 obtain ⟨kd, tx, rid, cnt, ⟨d1, d2, d3, d4⟩, ⟨e1, e2, e3, e4, e5⟩⟩ := x
 dsimp only [StStep.val, BS.v, FR.v] at *
 subst hk
 have c0 := b0.cell 0; have c1 := b0.cell 1; have c2 := b0.cell 2; have c3 := b0.cell 3; have c4 := b0.cell 4; have c5 := b0.cell 5
 dsimp only [List.getElem?_cons_zero, List.getElem?_cons_succ] at c0 c1 c2 c3 c4 c5
 have HB0 := hid b0
 clear h b0
 go_enter Tryd.func20, Tryd.ntmps20
 go_wp2_with (first
  | (go_at_call 54; (with_reducible refine (nameS_3 _).mono ?_); rintro e w1 ⟨rfl, hk1⟩; have HK1 := hid (HK0.out.trans hk1); have HB1 := hid (HB0.out.same hk1); have c0 := HB1.out.cell 0; have c1 := HB1.out.cell 1; have c2 := HB1.out.cell 2; have c3 := HB1.out.cell 3; have c4 := HB1.out.cell 4; have c5 := HB1.out.cell 5; dsimp only [List.getElem?_cons_zero, List.getElem?_cons_succ] at c0 c1 c2 c3 c4 c5; clear hk1)
  | (go_at_call 19; (with_reducible refine (k_tx _).mono ?_); rintro e w2 ⟨rfl, hk2⟩; have HK2 := hid (HK1.out.trans hk2); have HB2 := hid (HB1.out.same hk2); have c0 := HB2.out.cell 0; have c1 := HB2.out.cell 1; have c2 := HB2.out.cell 2; have c3 := HB2.out.cell 3; have c4 := HB2.out.cell 4; have c5 := HB2.out.cell 5; dsimp only [List.getElem?_cons_zero, List.getElem?_cons_succ] at c0 c1 c2 c3 c4 c5; clear hk2 k_tx)
  | (go_at_call 19; (with_reducible refine (k_rid _).mono ?_); rintro e w3 ⟨rfl, hk3⟩; have HK3 := hid (HK2.out.trans hk3); have HB3 := hid (HB2.out.same hk3); have c0 := HB3.out.cell 0; have c1 := HB3.out.cell 1; have c2 := HB3.out.cell 2; have c3 := HB3.out.cell 3; have c4 := HB3.out.cell 4; have c5 := HB3.out.cell 5; dsimp only [List.getElem?_cons_zero, List.getElem?_cons_succ] at c0 c1 c2 c3 c4 c5; clear hk3 k_rid)
  | (go_at_call 36; (with_reducible refine (k_data _ HK3.out).mono ?_); rintro e w4 ⟨rfl, hk4⟩; have HK4 := hid (HK3.out.trans hk4); have HB4 := hid (HB3.out.same hk4); have c0 := HB4.out.cell 0; have c1 := HB4.out.cell 1; have c2 := HB4.out.cell 2; have c3 := HB4.out.cell 3; have c4 := HB4.out.cell 4; have c5 := HB4.out.cell 5; dsimp only [List.getElem?_cons_zero, List.getElem?_cons_succ] at c0 c1 c2 c3 c4 c5; clear hk4 k_data))
 go_ret
 refine ⟨?_, HK4.out⟩
 rw [HE.out]
 refine congrArg (fun b => Ending.returned (Value.string b)) ?_
 apply ByteArray.ext
 simp [ByteArray.data_append, Lib.join, List.intercalate, nmW, Tx]
theorem lineS_4 (x : StStep) (w : World) (hk : x.kd = 4) (h : StStep.ln w x) :
  Calls Tryd.prog 20 #[x.val] w fun e w' => e = .returned (.string (Tx (lnS x.dat))) ∧ Same w w' := by
 have HE := (show Hid (lnS x.dat = Lib.join [nmW 4, Lib.itoa x.tx, Lib.itoa x.rid] [32] ++ [10]) from by unfold Hid lnS wdS; simp only [StStep.dat, hk]; rfl)
 have HL := hid h
 have b0 := Blk.newL w [.int .i64 x.kd, .int .i64 x.tx, .int .i64 x.rid, .int .i64 x.cnt, x.data.v, x.keep.v] 61
 have HK0 := hid (sameA w [.int .i64 x.kd, .int .i64 x.tx, .int .i64 x.rid, .int .i64 x.cnt, x.data.v, x.keep.v] 61)
 rw [hk] at b0 HK0
 have l_tx := itoa_len x.tx h.ok.tx.1 h.ok.tx.2
 have k_tx := fun wx => numS_any x.tx h.ok.tx.1 h.ok.tx.2 wx
 obtain ⟨T_tx, hT_tx⟩ : ∃ T, Lib.itoa x.tx = T := ⟨_, rfl⟩
 rw [hT_tx] at l_tx k_tx
 rw [hT_tx] at HE
 have l_rid := itoa_len x.rid h.ok.rid.1 h.ok.rid.2
 have k_rid := fun wx => numS_any x.rid h.ok.rid.1 h.ok.rid.2 wx
 obtain ⟨T_rid, hT_rid⟩ : ∃ T, Lib.itoa x.rid = T := ⟨_, rfl⟩
 rw [hT_rid] at l_rid k_rid
 rw [hT_rid] at HE
 have y0_0 : ¬ 9223372036854775807 < 6 + 1 + T_tx.length := by omega
 have y0_1 : ¬ 9223372036854775807 < 7 + T_tx.length := by omega
 have z1_0 : ¬ 9223372036854775807 < 6 + 1 + T_tx.length + 1 := by omega
 have z1_1 : ¬ 9223372036854775807 < 7 + T_tx.length + 1 := by omega
 have y1_0 : ¬ 9223372036854775807 < 6 + 1 + T_tx.length + 1 + T_rid.length := by omega
 have y1_1 : ¬ 9223372036854775807 < 7 + T_tx.length + 1 + T_rid.length := by omega
 have x9_0 : ¬ 9223372036854775807 < 6 + 1 + T_tx.length + 1 + T_rid.length + 1 := by omega
 have x9_1 : ¬ 9223372036854775807 < 7 + T_tx.length + 1 + T_rid.length + 1 := by omega
 clear l_tx hT_tx l_rid hT_rid
 obtain ⟨kd, tx, rid, cnt, ⟨d1, d2, d3, d4⟩, ⟨e1, e2, e3, e4, e5⟩⟩ := x
 dsimp only [StStep.val, BS.v, FR.v] at *
 subst hk
 have c0 := b0.cell 0; have c1 := b0.cell 1; have c2 := b0.cell 2; have c3 := b0.cell 3; have c4 := b0.cell 4; have c5 := b0.cell 5
 dsimp only [List.getElem?_cons_zero, List.getElem?_cons_succ] at c0 c1 c2 c3 c4 c5
 have HB0 := hid b0
 clear h b0
 go_enter Tryd.func20, Tryd.ntmps20
 go_wp2_with (first
  | (go_at_call 54; (with_reducible refine (nameS_4 _).mono ?_); rintro e w1 ⟨rfl, hk1⟩; have HK1 := hid (HK0.out.trans hk1); have HB1 := hid (HB0.out.same hk1); have c0 := HB1.out.cell 0; have c1 := HB1.out.cell 1; have c2 := HB1.out.cell 2; have c3 := HB1.out.cell 3; have c4 := HB1.out.cell 4; have c5 := HB1.out.cell 5; dsimp only [List.getElem?_cons_zero, List.getElem?_cons_succ] at c0 c1 c2 c3 c4 c5; clear hk1)
  | (go_at_call 19; (with_reducible refine (k_tx _).mono ?_); rintro e w2 ⟨rfl, hk2⟩; have HK2 := hid (HK1.out.trans hk2); have HB2 := hid (HB1.out.same hk2); have c0 := HB2.out.cell 0; have c1 := HB2.out.cell 1; have c2 := HB2.out.cell 2; have c3 := HB2.out.cell 3; have c4 := HB2.out.cell 4; have c5 := HB2.out.cell 5; dsimp only [List.getElem?_cons_zero, List.getElem?_cons_succ] at c0 c1 c2 c3 c4 c5; clear hk2 k_tx)
  | (go_at_call 19; (with_reducible refine (k_rid _).mono ?_); rintro e w3 ⟨rfl, hk3⟩; have HK3 := hid (HK2.out.trans hk3); have HB3 := hid (HB2.out.same hk3); have c0 := HB3.out.cell 0; have c1 := HB3.out.cell 1; have c2 := HB3.out.cell 2; have c3 := HB3.out.cell 3; have c4 := HB3.out.cell 4; have c5 := HB3.out.cell 5; dsimp only [List.getElem?_cons_zero, List.getElem?_cons_succ] at c0 c1 c2 c3 c4 c5; clear hk3 k_rid))
 go_ret
 refine ⟨?_, HK3.out⟩
 rw [HE.out]
 refine congrArg (fun b => Ending.returned (Value.string b)) ?_
 apply ByteArray.ext
 simp [ByteArray.data_append, Lib.join, List.intercalate, nmW, Tx]
theorem lineS_5 (x : StStep) (w : World) (hk : x.kd = 5) (h : StStep.ln w x) :
  Calls Tryd.prog 20 #[x.val] w fun e w' => e = .returned (.string (Tx (lnS x.dat))) ∧ Same w w' := by
 have HE := (show Hid (lnS x.dat = Lib.join [nmW 5, Lib.itoa x.tx, Lib.itoa x.rid] [32] ++ [10]) from by unfold Hid lnS wdS; simp only [StStep.dat, hk]; rfl)
 have HL := hid h
 have b0 := Blk.newL w [.int .i64 x.kd, .int .i64 x.tx, .int .i64 x.rid, .int .i64 x.cnt, x.data.v, x.keep.v] 61
 have HK0 := hid (sameA w [.int .i64 x.kd, .int .i64 x.tx, .int .i64 x.rid, .int .i64 x.cnt, x.data.v, x.keep.v] 61)
 rw [hk] at b0 HK0
 have l_tx := itoa_len x.tx h.ok.tx.1 h.ok.tx.2
 have k_tx := fun wx => numS_any x.tx h.ok.tx.1 h.ok.tx.2 wx
 obtain ⟨T_tx, hT_tx⟩ : ∃ T, Lib.itoa x.tx = T := ⟨_, rfl⟩
 rw [hT_tx] at l_tx k_tx
 rw [hT_tx] at HE
 have l_rid := itoa_len x.rid h.ok.rid.1 h.ok.rid.2
 have k_rid := fun wx => numS_any x.rid h.ok.rid.1 h.ok.rid.2 wx
 obtain ⟨T_rid, hT_rid⟩ : ∃ T, Lib.itoa x.rid = T := ⟨_, rfl⟩
 rw [hT_rid] at l_rid k_rid
 rw [hT_rid] at HE
 have y0_0 : ¬ 9223372036854775807 < 4 + 1 + T_tx.length := by omega
 have y0_1 : ¬ 9223372036854775807 < 5 + T_tx.length := by omega
 have z1_0 : ¬ 9223372036854775807 < 4 + 1 + T_tx.length + 1 := by omega
 have z1_1 : ¬ 9223372036854775807 < 5 + T_tx.length + 1 := by omega
 have y1_0 : ¬ 9223372036854775807 < 4 + 1 + T_tx.length + 1 + T_rid.length := by omega
 have y1_1 : ¬ 9223372036854775807 < 5 + T_tx.length + 1 + T_rid.length := by omega
 have x9_0 : ¬ 9223372036854775807 < 4 + 1 + T_tx.length + 1 + T_rid.length + 1 := by omega
 have x9_1 : ¬ 9223372036854775807 < 5 + T_tx.length + 1 + T_rid.length + 1 := by omega
 clear l_tx hT_tx l_rid hT_rid
 obtain ⟨kd, tx, rid, cnt, ⟨d1, d2, d3, d4⟩, ⟨e1, e2, e3, e4, e5⟩⟩ := x
 dsimp only [StStep.val, BS.v, FR.v] at *
 subst hk
 have c0 := b0.cell 0; have c1 := b0.cell 1; have c2 := b0.cell 2; have c3 := b0.cell 3; have c4 := b0.cell 4; have c5 := b0.cell 5
 dsimp only [List.getElem?_cons_zero, List.getElem?_cons_succ] at c0 c1 c2 c3 c4 c5
 have HB0 := hid b0
 clear h b0
 go_enter Tryd.func20, Tryd.ntmps20
 go_wp2_with (first
  | (go_at_call 54; (with_reducible refine (nameS_5 _).mono ?_); rintro e w1 ⟨rfl, hk1⟩; have HK1 := hid (HK0.out.trans hk1); have HB1 := hid (HB0.out.same hk1); have c0 := HB1.out.cell 0; have c1 := HB1.out.cell 1; have c2 := HB1.out.cell 2; have c3 := HB1.out.cell 3; have c4 := HB1.out.cell 4; have c5 := HB1.out.cell 5; dsimp only [List.getElem?_cons_zero, List.getElem?_cons_succ] at c0 c1 c2 c3 c4 c5; clear hk1)
  | (go_at_call 19; (with_reducible refine (k_tx _).mono ?_); rintro e w2 ⟨rfl, hk2⟩; have HK2 := hid (HK1.out.trans hk2); have HB2 := hid (HB1.out.same hk2); have c0 := HB2.out.cell 0; have c1 := HB2.out.cell 1; have c2 := HB2.out.cell 2; have c3 := HB2.out.cell 3; have c4 := HB2.out.cell 4; have c5 := HB2.out.cell 5; dsimp only [List.getElem?_cons_zero, List.getElem?_cons_succ] at c0 c1 c2 c3 c4 c5; clear hk2 k_tx)
  | (go_at_call 19; (with_reducible refine (k_rid _).mono ?_); rintro e w3 ⟨rfl, hk3⟩; have HK3 := hid (HK2.out.trans hk3); have HB3 := hid (HB2.out.same hk3); have c0 := HB3.out.cell 0; have c1 := HB3.out.cell 1; have c2 := HB3.out.cell 2; have c3 := HB3.out.cell 3; have c4 := HB3.out.cell 4; have c5 := HB3.out.cell 5; dsimp only [List.getElem?_cons_zero, List.getElem?_cons_succ] at c0 c1 c2 c3 c4 c5; clear hk3 k_rid))
 go_ret
 refine ⟨?_, HK3.out⟩
 rw [HE.out]
 refine congrArg (fun b => Ending.returned (Value.string b)) ?_
 apply ByteArray.ext
 simp [ByteArray.data_append, Lib.join, List.intercalate, nmW, Tx]
theorem lineS_6 (x : StStep) (w : World) (hk : x.kd = 6) (h : StStep.ln w x) :
  Calls Tryd.prog 20 #[x.val] w fun e w' => e = .returned (.string (Tx (lnS x.dat))) ∧ Same w w' := by
 have HE := (show Hid (lnS x.dat = Lib.join [nmW 6, Lib.itoa x.tx] [32] ++ [10]) from by unfold Hid lnS wdS; simp only [StStep.dat, hk]; rfl)
 have HL := hid h
 have b0 := Blk.newL w [.int .i64 x.kd, .int .i64 x.tx, .int .i64 x.rid, .int .i64 x.cnt, x.data.v, x.keep.v] 61
 have HK0 := hid (sameA w [.int .i64 x.kd, .int .i64 x.tx, .int .i64 x.rid, .int .i64 x.cnt, x.data.v, x.keep.v] 61)
 rw [hk] at b0 HK0
 have l_tx := itoa_len x.tx h.ok.tx.1 h.ok.tx.2
 have k_tx := fun wx => numS_any x.tx h.ok.tx.1 h.ok.tx.2 wx
 obtain ⟨T_tx, hT_tx⟩ : ∃ T, Lib.itoa x.tx = T := ⟨_, rfl⟩
 rw [hT_tx] at l_tx k_tx
 rw [hT_tx] at HE
 have y0_0 : ¬ 9223372036854775807 < 6 + 1 + T_tx.length := by omega
 have y0_1 : ¬ 9223372036854775807 < 7 + T_tx.length := by omega
 have x9_0 : ¬ 9223372036854775807 < 6 + 1 + T_tx.length + 1 := by omega
 have x9_1 : ¬ 9223372036854775807 < 7 + T_tx.length + 1 := by omega
 clear l_tx hT_tx
 obtain ⟨kd, tx, rid, cnt, ⟨d1, d2, d3, d4⟩, ⟨e1, e2, e3, e4, e5⟩⟩ := x
 dsimp only [StStep.val, BS.v, FR.v] at *
 subst hk
 have c0 := b0.cell 0; have c1 := b0.cell 1; have c2 := b0.cell 2; have c3 := b0.cell 3; have c4 := b0.cell 4; have c5 := b0.cell 5
 dsimp only [List.getElem?_cons_zero, List.getElem?_cons_succ] at c0 c1 c2 c3 c4 c5
 have HB0 := hid b0
 clear h b0
 go_enter Tryd.func20, Tryd.ntmps20
 go_wp2_with (first
  | (go_at_call 54; (with_reducible refine (nameS_6 _).mono ?_); rintro e w1 ⟨rfl, hk1⟩; have HK1 := hid (HK0.out.trans hk1); have HB1 := hid (HB0.out.same hk1); have c0 := HB1.out.cell 0; have c1 := HB1.out.cell 1; have c2 := HB1.out.cell 2; have c3 := HB1.out.cell 3; have c4 := HB1.out.cell 4; have c5 := HB1.out.cell 5; dsimp only [List.getElem?_cons_zero, List.getElem?_cons_succ] at c0 c1 c2 c3 c4 c5; clear hk1)
  | (go_at_call 19; (with_reducible refine (k_tx _).mono ?_); rintro e w2 ⟨rfl, hk2⟩; have HK2 := hid (HK1.out.trans hk2); have HB2 := hid (HB1.out.same hk2); have c0 := HB2.out.cell 0; have c1 := HB2.out.cell 1; have c2 := HB2.out.cell 2; have c3 := HB2.out.cell 3; have c4 := HB2.out.cell 4; have c5 := HB2.out.cell 5; dsimp only [List.getElem?_cons_zero, List.getElem?_cons_succ] at c0 c1 c2 c3 c4 c5; clear hk2 k_tx))
 go_ret
 refine ⟨?_, HK2.out⟩
 rw [HE.out]
 refine congrArg (fun b => Ending.returned (Value.string b)) ?_
 apply ByteArray.ext
 simp [ByteArray.data_append, Lib.join, List.intercalate, nmW, Tx]
theorem lineS_7 (x : StStep) (w : World) (hk : x.kd = 7) (h : StStep.ln w x) :
  Calls Tryd.prog 20 #[x.val] w fun e w' => e = .returned (.string (Tx (lnS x.dat))) ∧ Same w w' := by
 have HE := (show Hid (lnS x.dat = Lib.join [nmW 7, Lib.itoa x.tx] [32] ++ [10]) from by unfold Hid lnS wdS; simp only [StStep.dat, hk]; rfl)
 have HL := hid h
 have b0 := Blk.newL w [.int .i64 x.kd, .int .i64 x.tx, .int .i64 x.rid, .int .i64 x.cnt, x.data.v, x.keep.v] 61
 have HK0 := hid (sameA w [.int .i64 x.kd, .int .i64 x.tx, .int .i64 x.rid, .int .i64 x.cnt, x.data.v, x.keep.v] 61)
 rw [hk] at b0 HK0
 have l_tx := itoa_len x.tx h.ok.tx.1 h.ok.tx.2
 have k_tx := fun wx => numS_any x.tx h.ok.tx.1 h.ok.tx.2 wx
 obtain ⟨T_tx, hT_tx⟩ : ∃ T, Lib.itoa x.tx = T := ⟨_, rfl⟩
 rw [hT_tx] at l_tx k_tx
 rw [hT_tx] at HE
 have y0_0 : ¬ 9223372036854775807 < 5 + 1 + T_tx.length := by omega
 have y0_1 : ¬ 9223372036854775807 < 6 + T_tx.length := by omega
 have x9_0 : ¬ 9223372036854775807 < 5 + 1 + T_tx.length + 1 := by omega
 have x9_1 : ¬ 9223372036854775807 < 6 + T_tx.length + 1 := by omega
 clear l_tx hT_tx
 obtain ⟨kd, tx, rid, cnt, ⟨d1, d2, d3, d4⟩, ⟨e1, e2, e3, e4, e5⟩⟩ := x
 dsimp only [StStep.val, BS.v, FR.v] at *
 subst hk
 have c0 := b0.cell 0; have c1 := b0.cell 1; have c2 := b0.cell 2; have c3 := b0.cell 3; have c4 := b0.cell 4; have c5 := b0.cell 5
 dsimp only [List.getElem?_cons_zero, List.getElem?_cons_succ] at c0 c1 c2 c3 c4 c5
 have HB0 := hid b0
 clear h b0
 go_enter Tryd.func20, Tryd.ntmps20
 go_wp2_with (first
  | (go_at_call 54; (with_reducible refine (nameS_7 _).mono ?_); rintro e w1 ⟨rfl, hk1⟩; have HK1 := hid (HK0.out.trans hk1); have HB1 := hid (HB0.out.same hk1); have c0 := HB1.out.cell 0; have c1 := HB1.out.cell 1; have c2 := HB1.out.cell 2; have c3 := HB1.out.cell 3; have c4 := HB1.out.cell 4; have c5 := HB1.out.cell 5; dsimp only [List.getElem?_cons_zero, List.getElem?_cons_succ] at c0 c1 c2 c3 c4 c5; clear hk1)
  | (go_at_call 19; (with_reducible refine (k_tx _).mono ?_); rintro e w2 ⟨rfl, hk2⟩; have HK2 := hid (HK1.out.trans hk2); have HB2 := hid (HB1.out.same hk2); have c0 := HB2.out.cell 0; have c1 := HB2.out.cell 1; have c2 := HB2.out.cell 2; have c3 := HB2.out.cell 3; have c4 := HB2.out.cell 4; have c5 := HB2.out.cell 5; dsimp only [List.getElem?_cons_zero, List.getElem?_cons_succ] at c0 c1 c2 c3 c4 c5; clear hk2 k_tx))
 go_ret
 refine ⟨?_, HK2.out⟩
 rw [HE.out]
 refine congrArg (fun b => Ending.returned (Value.string b)) ?_
 apply ByteArray.ext
 simp [ByteArray.data_append, Lib.join, List.intercalate, nmW, Tx]
theorem lineS_8 (x : StStep) (w : World) (hk : x.kd = 8) (h : StStep.ln w x) :
  Calls Tryd.prog 20 #[x.val] w fun e w' => e = .returned (.string (Tx (lnS x.dat))) ∧ Same w w' := by
 have HE := (show Hid (lnS x.dat = Lib.join [nmW 8] [32] ++ [10]) from by unfold Hid lnS wdS; simp only [StStep.dat, hk]; rfl)
 have HL := hid h
 have b0 := Blk.newL w [.int .i64 x.kd, .int .i64 x.tx, .int .i64 x.rid, .int .i64 x.cnt, x.data.v, x.keep.v] 61
 have HK0 := hid (sameA w [.int .i64 x.kd, .int .i64 x.tx, .int .i64 x.rid, .int .i64 x.cnt, x.data.v, x.keep.v] 61)
 rw [hk] at b0 HK0
 skip
 obtain ⟨kd, tx, rid, cnt, ⟨d1, d2, d3, d4⟩, ⟨e1, e2, e3, e4, e5⟩⟩ := x
 dsimp only [StStep.val, BS.v, FR.v] at *
 subst hk
 have c0 := b0.cell 0; have c1 := b0.cell 1; have c2 := b0.cell 2; have c3 := b0.cell 3; have c4 := b0.cell 4; have c5 := b0.cell 5
 dsimp only [List.getElem?_cons_zero, List.getElem?_cons_succ] at c0 c1 c2 c3 c4 c5
 have HB0 := hid b0
 clear h b0
 go_enter Tryd.func20, Tryd.ntmps20
 go_wp2_with (first
  | (go_at_call 54; (with_reducible refine (nameS_8 _).mono ?_); rintro e w1 ⟨rfl, hk1⟩; have HK1 := hid (HK0.out.trans hk1); have HB1 := hid (HB0.out.same hk1); have c0 := HB1.out.cell 0; have c1 := HB1.out.cell 1; have c2 := HB1.out.cell 2; have c3 := HB1.out.cell 3; have c4 := HB1.out.cell 4; have c5 := HB1.out.cell 5; dsimp only [List.getElem?_cons_zero, List.getElem?_cons_succ] at c0 c1 c2 c3 c4 c5; clear hk1))
 go_ret
 refine ⟨?_, HK1.out⟩
 rw [HE.out]
 refine congrArg (fun b => Ending.returned (Value.string b)) ?_
 apply ByteArray.ext
 simp [ByteArray.data_append, Lib.join, List.intercalate, nmW, Tx]
theorem lineS_9 (x : StStep) (w : World) (hk : x.kd = 9) (h : StStep.ln w x) :
  Calls Tryd.prog 20 #[x.val] w fun e w' => e = .returned (.string (Tx (lnS x.dat))) ∧ Same w w' := by
 have HE := (show Hid (lnS x.dat = Lib.join [nmW 9] [32] ++ [10]) from by unfold Hid lnS wdS; simp only [StStep.dat, hk]; rfl)
 have HL := hid h
 have b0 := Blk.newL w [.int .i64 x.kd, .int .i64 x.tx, .int .i64 x.rid, .int .i64 x.cnt, x.data.v, x.keep.v] 61
 have HK0 := hid (sameA w [.int .i64 x.kd, .int .i64 x.tx, .int .i64 x.rid, .int .i64 x.cnt, x.data.v, x.keep.v] 61)
 rw [hk] at b0 HK0
 skip
 obtain ⟨kd, tx, rid, cnt, ⟨d1, d2, d3, d4⟩, ⟨e1, e2, e3, e4, e5⟩⟩ := x
 dsimp only [StStep.val, BS.v, FR.v] at *
 subst hk
 have c0 := b0.cell 0; have c1 := b0.cell 1; have c2 := b0.cell 2; have c3 := b0.cell 3; have c4 := b0.cell 4; have c5 := b0.cell 5
 dsimp only [List.getElem?_cons_zero, List.getElem?_cons_succ] at c0 c1 c2 c3 c4 c5
 have HB0 := hid b0
 clear h b0
 go_enter Tryd.func20, Tryd.ntmps20
 go_wp2_with (first
  | (go_at_call 54; (with_reducible refine (nameS_9 _).mono ?_); rintro e w1 ⟨rfl, hk1⟩; have HK1 := hid (HK0.out.trans hk1); have HB1 := hid (HB0.out.same hk1); have c0 := HB1.out.cell 0; have c1 := HB1.out.cell 1; have c2 := HB1.out.cell 2; have c3 := HB1.out.cell 3; have c4 := HB1.out.cell 4; have c5 := HB1.out.cell 5; dsimp only [List.getElem?_cons_zero, List.getElem?_cons_succ] at c0 c1 c2 c3 c4 c5; clear hk1))
 go_ret
 refine ⟨?_, HK1.out⟩
 rw [HE.out]
 refine congrArg (fun b => Ending.returned (Value.string b)) ?_
 apply ByteArray.ext
 simp [ByteArray.data_append, Lib.join, List.intercalate, nmW, Tx]
theorem lineS_10 (x : StStep) (w : World) (hk : x.kd = 10) (h : StStep.ln w x) :
  Calls Tryd.prog 20 #[x.val] w fun e w' => e = .returned (.string (Tx (lnS x.dat))) ∧ Same w w' := by
 have HE := (show Hid (lnS x.dat = Lib.join [nmW 10, kpW x.keep.bs] [32] ++ [10]) from by unfold Hid lnS wdS; simp only [StStep.dat, hk]; rfl)
 have HL := hid h
 have b0 := Blk.newL w [.int .i64 x.kd, .int .i64 x.tx, .int .i64 x.rid, .int .i64 x.cnt, x.data.v, x.keep.v] 61
 have HK0 := hid (sameA w [.int .i64 x.kd, .int .i64 x.tx, .int .i64 x.rid, .int .i64 x.cnt, x.data.v, x.keep.v] 61)
 rw [hk] at b0 HK0
 have l_keep := kp_len x.keep.bs h.kl
 have k_keep := (show ∀ wx, Same w wx → Calls Tryd.prog 55 #[x.keep.v] wx fun e w' => e = .returned (.string (Tx (kpW x.keep.bs))) ∧ Same wx w' from fun wx hk => keepS_any x.keep.v x.keep.bs wx h.dig h.kl h.rd.2.formK ((h.rd.2.same hk).intsK))
 obtain ⟨T_keep, hT_keep⟩ : ∃ T, kpW x.keep.bs = T := ⟨_, rfl⟩
 rw [hT_keep] at l_keep k_keep HE
 have y0_0 : ¬ 9223372036854775807 < 5 + 1 + T_keep.length := by omega
 have y0_1 : ¬ 9223372036854775807 < 6 + T_keep.length := by omega
 have x9_0 : ¬ 9223372036854775807 < 5 + 1 + T_keep.length + 1 := by omega
 have x9_1 : ¬ 9223372036854775807 < 6 + T_keep.length + 1 := by omega
 clear l_keep hT_keep
 obtain ⟨kd, tx, rid, cnt, ⟨d1, d2, d3, d4⟩, ⟨e1, e2, e3, e4, e5⟩⟩ := x
 dsimp only [StStep.val, BS.v, FR.v] at *
 subst hk
 have c0 := b0.cell 0; have c1 := b0.cell 1; have c2 := b0.cell 2; have c3 := b0.cell 3; have c4 := b0.cell 4; have c5 := b0.cell 5
 dsimp only [List.getElem?_cons_zero, List.getElem?_cons_succ] at c0 c1 c2 c3 c4 c5
 have HB0 := hid b0
 clear h b0
 go_enter Tryd.func20, Tryd.ntmps20
 go_wp2_with (first
  | (go_at_call 54; (with_reducible refine (nameS_10 _).mono ?_); rintro e w1 ⟨rfl, hk1⟩; have HK1 := hid (HK0.out.trans hk1); have HB1 := hid (HB0.out.same hk1); have c0 := HB1.out.cell 0; have c1 := HB1.out.cell 1; have c2 := HB1.out.cell 2; have c3 := HB1.out.cell 3; have c4 := HB1.out.cell 4; have c5 := HB1.out.cell 5; dsimp only [List.getElem?_cons_zero, List.getElem?_cons_succ] at c0 c1 c2 c3 c4 c5; clear hk1)
  | (go_at_call 55; (with_reducible refine (k_keep _ HK1.out).mono ?_); rintro e w2 ⟨rfl, hk2⟩; have HK2 := hid (HK1.out.trans hk2); have HB2 := hid (HB1.out.same hk2); have c0 := HB2.out.cell 0; have c1 := HB2.out.cell 1; have c2 := HB2.out.cell 2; have c3 := HB2.out.cell 3; have c4 := HB2.out.cell 4; have c5 := HB2.out.cell 5; dsimp only [List.getElem?_cons_zero, List.getElem?_cons_succ] at c0 c1 c2 c3 c4 c5; clear hk2 k_keep))
 go_ret
 refine ⟨?_, HK2.out⟩
 rw [HE.out]
 refine congrArg (fun b => Ending.returned (Value.string b)) ?_
 apply ByteArray.ext
 simp [ByteArray.data_append, Lib.join, List.intercalate, nmW, Tx]
theorem lineS_11 (x : StStep) (w : World) (hk : x.kd = 11) (h : StStep.ln w x) :
  Calls Tryd.prog 20 #[x.val] w fun e w' => e = .returned (.string (Tx (lnS x.dat))) ∧ Same w w' := by
 have HE := (show Hid (lnS x.dat = Lib.join [nmW 11, Lib.itoa x.cnt] [32] ++ [10]) from by unfold Hid lnS wdS; simp only [StStep.dat, hk]; rfl)
 have HL := hid h
 have b0 := Blk.newL w [.int .i64 x.kd, .int .i64 x.tx, .int .i64 x.rid, .int .i64 x.cnt, x.data.v, x.keep.v] 61
 have HK0 := hid (sameA w [.int .i64 x.kd, .int .i64 x.tx, .int .i64 x.rid, .int .i64 x.cnt, x.data.v, x.keep.v] 61)
 rw [hk] at b0 HK0
 have l_cnt := itoa_len x.cnt h.ok.cnt.1 h.ok.cnt.2
 have k_cnt := fun wx => numS_any x.cnt h.ok.cnt.1 h.ok.cnt.2 wx
 obtain ⟨T_cnt, hT_cnt⟩ : ∃ T, Lib.itoa x.cnt = T := ⟨_, rfl⟩
 rw [hT_cnt] at l_cnt k_cnt
 rw [hT_cnt] at HE
 have y0_0 : ¬ 9223372036854775807 < 3 + 1 + T_cnt.length := by omega
 have y0_1 : ¬ 9223372036854775807 < 4 + T_cnt.length := by omega
 have x9_0 : ¬ 9223372036854775807 < 3 + 1 + T_cnt.length + 1 := by omega
 have x9_1 : ¬ 9223372036854775807 < 4 + T_cnt.length + 1 := by omega
 clear l_cnt hT_cnt
 obtain ⟨kd, tx, rid, cnt, ⟨d1, d2, d3, d4⟩, ⟨e1, e2, e3, e4, e5⟩⟩ := x
 dsimp only [StStep.val, BS.v, FR.v] at *
 subst hk
 have c0 := b0.cell 0; have c1 := b0.cell 1; have c2 := b0.cell 2; have c3 := b0.cell 3; have c4 := b0.cell 4; have c5 := b0.cell 5
 dsimp only [List.getElem?_cons_zero, List.getElem?_cons_succ] at c0 c1 c2 c3 c4 c5
 have HB0 := hid b0
 clear h b0
 go_enter Tryd.func20, Tryd.ntmps20
 go_wp2_with (first
  | (go_at_call 54; (with_reducible refine (nameS_11 _).mono ?_); rintro e w1 ⟨rfl, hk1⟩; have HK1 := hid (HK0.out.trans hk1); have HB1 := hid (HB0.out.same hk1); have c0 := HB1.out.cell 0; have c1 := HB1.out.cell 1; have c2 := HB1.out.cell 2; have c3 := HB1.out.cell 3; have c4 := HB1.out.cell 4; have c5 := HB1.out.cell 5; dsimp only [List.getElem?_cons_zero, List.getElem?_cons_succ] at c0 c1 c2 c3 c4 c5; clear hk1)
  | (go_at_call 19; (with_reducible refine (k_cnt _).mono ?_); rintro e w2 ⟨rfl, hk2⟩; have HK2 := hid (HK1.out.trans hk2); have HB2 := hid (HB1.out.same hk2); have c0 := HB2.out.cell 0; have c1 := HB2.out.cell 1; have c2 := HB2.out.cell 2; have c3 := HB2.out.cell 3; have c4 := HB2.out.cell 4; have c5 := HB2.out.cell 5; dsimp only [List.getElem?_cons_zero, List.getElem?_cons_succ] at c0 c1 c2 c3 c4 c5; clear hk2 k_cnt))
 go_ret
 refine ⟨?_, HK2.out⟩
 rw [HE.out]
 refine congrArg (fun b => Ending.returned (Value.string b)) ?_
 apply ByteArray.ext
 simp [ByteArray.data_append, Lib.join, List.intercalate, nmW, Tx]
theorem lineS_any (x : StStep) (w : World) (hk : 1 ≤ x.kd ∧ x.kd ≤ 11) (h : StStep.ln w x) :
  Calls Tryd.prog 20 #[x.val] w fun e w' => e = .returned (.string (Tx (lnS x.dat))) ∧ Same w w' := by
 have h11 : x.kd = 1 ∨ x.kd = 2 ∨ x.kd = 3 ∨ x.kd = 4 ∨ x.kd = 5 ∨ x.kd = 6 ∨ x.kd = 7 ∨ x.kd = 8 ∨ x.kd = 9 ∨ x.kd = 10 ∨ x.kd = 11 := by omega
 rcases h11 with e | e | e | e | e | e | e | e | e | e | e
 ·exact lineS_1 x w e h
 ·exact lineS_2 x w e h
 ·exact lineS_3 x w e h
 ·exact lineS_4 x w e h
 ·exact lineS_5 x w e h
 ·exact lineS_6 x w e h
 ·exact lineS_7 x w e h
 ·exact lineS_8 x w e h
 ·exact lineS_9 x w e h
 ·exact lineS_10 x w e h
 ·exact lineS_11 x w e h
structure Buf (w : World) (g cap : Nat) (l : List UInt8) : Prop where
 le : l.length ≤ cap
 there : ∀ j, j < cap → (w.cell? ⟨g, j, none⟩).isSome = true ∧ w.frozen? ⟨g, j, none⟩ = false
 cells : ∀ j (h : j < l.length), w.cell? ⟨g, j, none⟩ = some (.int .u8 (l[j].toNat : Int))
theorem Buf.same {w w' : World} {g cap : Nat} {l : List UInt8} (h : Buf w g cap l) (hk : Same w w') : Buf w' g cap l := by
 have hc : ∀ j v, w.cell? ⟨g, j, none⟩ = some v → w'.cell? ⟨g, j, none⟩ = some v := fun j v hv => hk.cellOf hv id
 refine ⟨h.le, fun j hj => ?_, fun j hj => hc j _ (h.cells j hj)⟩
 obtain ⟨h1, h2⟩ := h.there j hj
 obtain ⟨v, hv⟩ := Option.isSome_iff_exists.1 h1
 refine ⟨by rw [hc j v hv]; rfl, ?_⟩
 have hlt : g < w.heap.size := World.block_lt_of_cell? w ⟨g, j, none⟩ hv
 rw [← h2]
 unfold World.frozen?
 rw [hk.block g hlt (fun e => e)]
theorem Buf.lt {w : World} {g cap : Nat} {l : List UInt8} (h : Buf w g cap l) (h0 : 0 < l.length) : g < w.heap.size := World.block_lt_of_cell? w ⟨g, 0, none⟩ (h.cells 0 h0)
theorem tx_cells (m : List UInt8) : byteCells (Tx m) = m.map fun b => Value.int .u8 (b.toNat : Int) := by simp [byteCells, Tx]
theorem Buf.new (w : World) (cs : Array Value) (fz : Nat × Nat) (cap : Nat) (l : List UInt8) (hs : cs.size = cap) (hf : fz.1 = fz.2 ∨ cap ≤ fz.1) (hl : l.length ≤ cap) (hc : ∀ j (h : j < l.length), cs[j]? = some (.int .u8 (l[j].toNat : Int))) :
  Buf (w.alloc (.cells cs 5 fz)) w.heap.size cap l := by
 have hb : (w.alloc (.cells cs 5 fz)).heap[w.heap.size]? = some (.cells cs 5 fz) := by unfold World.alloc; exact Array.getElem?_push_size
 refine ⟨hl, fun j hj => ⟨?_, ?_⟩, fun j hj => ?_⟩
 ·simp only [World.cell?, hb]
  simp; omega
 ·simp only [World.frozen?, hb]
  rcases hf with h | h <;> simp <;> omega
 ·simp only [World.cell?, hb]
  simpa using hc j hj
theorem run_toBuf (w : World) (l : List UInt8) : ∃ cap w', (convert 9 34 (.string (Tx l))).run Tryd.prog w = .ok (.slice (some ⟨w.heap.size, 0, none⟩) l.length cap) w' ∧ Buf w' w.heap.size cap l ∧ Same w w' := by
 have hr := run_bytes_of_string w 9 34 5 (Tx l) Tryd.underlying9 Tryd.underlying34 Tryd.underlying5
 rw [tx_size] at hr
 refine ⟨_, _, hr, ?_, (Kept.refl _ _).drew.alloc _⟩
 have hge := grownCap_ge w l.length 0 5
 obtain ⟨cap, hcap⟩ : ∃ c, grownCap w l.length 0 5 = c := ⟨_, rfl⟩
 rw [hcap] at hge ⊢
 have hsz : (bytesRow (Tx l) cap).size = cap := by simp [bytesRow, Tx, ByteArray.size]; omega
 have h := Buf.new w.drew (bytesRow (Tx l) cap) ((bytesRow (Tx l) cap).size, (bytesRow (Tx l) cap).size + 1) cap l hsz (.inr (by rw [hsz]; exact Nat.le_refl _)) hge (fun j hj => by simp [bytesRow, Tx, hj, Array.getElem?_append])
 exact h
theorem run_appS {ty : TypeId} {w : World} {g cap : Nat} {l m : List UInt8} (h : Buf w g cap l) (hl : l.length + m.length ≤ 1099511627776) :
  ∃ g' cap' w', (Builtin.append_ #[34, 9] ty #[.slice (some ⟨g, 0, none⟩) l.length cap, .string (Tx m)]).run Tryd.prog w = .ok (.slice (some ⟨g', 0, none⟩) (l.length + m.length) cap') w' ∧ Buf w' g' cap' (l ++ m) ∧ Kept (fun b => b = g) w w' ∧ (g' = g ∨ w.heap.size ≤ g') := by
 obtain ⟨i0, hi, hz0, hz1, hz2⟩ := info_parts Tryd.infoByte'
 have hs : Src Tryd.prog i0.size 9 (.string (Tx m)) m.length (m.map fun b => Value.int .u8 (b.toNat : Int)) w := by
  have h := Src.ofString (P := Tryd.prog) w Tryd.underlying9 (Tx m)
  rw [tx_size, tx_cells] at h
  rw [hz1]
  exact h
 by_cases hr : l.length + m.length ≤ cap
 ·have e := run_append_room_src (P := Tryd.prog) w 34 9 ty 5 i0 Tryd.underlying34 hi g 0 l.length cap _ m.length _ hs hr
   (fun j hj => by rw [hz1]; simp at hj ⊢; exact (h.there (l.length + j) (by omega)).1) (fun j hj => by rw [hz1]; simp at hj ⊢; exact (h.there (l.length + j) (by omega)).2)
  rw [hz1, Nat.zero_add, Nat.mul_one] at e
  refine ⟨g, cap, _, e, ⟨by simp; omega, fun j hj => ?_, fun j hj => ?_⟩, Kept.setCells (R := fun b => b = g) (.inr rfl) _ _ (Kept.refl _ _), .inl rfl⟩
  ·exact ⟨World.isSome_setCells g _ _ w _ (h.there j hj).1, by rw [World.frozen?_setCells]; exact (h.there j hj).2⟩
  ·by_cases hj2 : j < l.length
   ·rw [World.cell?_setCells_out g _ _ w _ (fun _ _ => .inl hj2), h.cells j hj2, List.getElem_append_left hj2]
   ·obtain ⟨k, rfl⟩ : ∃ k, j = l.length + k := ⟨j - l.length, by omega⟩
    have hk : k < m.length := by simp at hj; omega
    rw [World.cell?_setCells_in g _ _ w (fun j hj => by simp at hj; exact (h.there (l.length + j) (by omega)).1) k (by simpa using hk)]
    simp
 ·have hold : (Builtin.firstCells i0.size l.length (.slice (some ⟨g, 0, none⟩) l.length cap)).run Tryd.prog w.drew = .ok (l.map fun b => Value.int .u8 (b.toNat : Int)).toArray w.drew := by
   refine run_firstCells_some w.drew i0.size l.length ⟨g, 0, none⟩ l.length cap _ (by rw [hz1]; simp) (fun j v hv => ?_)
   have hj : j < l.length := by have := (List.getElem?_eq_some_iff.1 hv).1; simpa using this
   have hc := h.cells j hj
   simp [hj] at hv
   rw [← hv]
   simpa [Addr.add_lit] using hc
  have e := run_append_grow_src (P := Tryd.prog) (w := w) 34 9 ty 5 i0 (.int .u8 0) Tryd.underlying34 hi hz0 (some ⟨g, 0, none⟩) l.length cap _ hold _ m.length _ hs (by omega) (by omega) (by rw [hz2]; have := nextslicecap_le (need := l.length + m.length) (old := cap) (by omega); omega)
  have hge := grownCap_ge w (l.length + m.length) cap 5
  refine ⟨w.heap.size, _, _, e, ?_, ((Kept.refl _ _).drew).alloc _, .inr (Nat.le_refl _)⟩
  obtain ⟨c2, hc2⟩ : ∃ c, grownCap w (l.length + m.length) cap 5 = c := ⟨_, rfl⟩
  rw [hc2] at hge ⊢
  refine Buf.new w.drew _ (0, 0) c2 (l ++ m) ?_ (.inl rfl) (by simpa using hge) (fun j hj => ?_)
  ·simp [size_zeroCells, show (Value.int IntKind.u8 0).cells.size = 1 from rfl]; omega
  ·simp at hj
   rw [Array.getElem?_append_left (by simp; omega)]
   rw [List.getElem?_toArray, ← List.map_append, List.getElem?_map, List.getElem?_eq_getElem (by simp; omega)]
   rfl
theorem conv_buf {w : World} {g cap : Nat} {l : List UInt8} (h : Buf w g cap l) : (convert 34 9 (.slice (some ⟨g, 0, none⟩) l.length cap)).run Tryd.prog w = .ok (.string (Tx l)) w := by
 have e := run_convert_bytes_back w 34 9 5 ⟨g, 0, none⟩ cap l Tryd.underlying34 Tryd.underlying5 Tryd.underlying9 (fun j hj => by simpa [Addr.add_lit] using h.cells j hj)
 exact e
theorem wpList_appS {w : World} {ops : Array Oper} {rest : List Oper} {o : Oper} {a : Act} {Q : Exit → Act → World → Prop} (hgd : o.guard = none) (s x : Operand)
  (ho : o.op = .call { callee := .builtin .append, args := #[s, x], argTypes := #[34, 9] })
  (g cap : Nat) (l m : List UInt8) (hs : a.eval s = .slice (some ⟨g, 0, none⟩) l.length cap) (hx : a.eval x = .string (Tx m)) (hb : Buf w g cap l) (hl : l.length + m.length ≤ 1099511627776)
  (h : ∀ g' cap' w', Buf w' g' cap' (l ++ m) → Kept (fun b => b = g) w w' → (g' = g ∨ w.heap.size ≤ g') → wpList Tryd.prog ops Q rest (a.put o.dst (.slice (some ⟨g', 0, none⟩) (l.length + m.length) cap')) w') : wpList Tryd.prog ops Q (o :: rest) a w := by
 obtain ⟨g', cap', w', hr, h2, h3, h4⟩ := run_appS (ty := o.type) hb hl
 refine wpList_plain hgd fun _ hK => ?_
 unfold Oper.wp execOp
 simp only [ho, resolve, invoke, builtin, Sem.run_bind, Sem.run_pure, Result.andThen_ok, List.map_toArray, List.map_cons, List.map_nil, hs, hx, hr]
 exact hK _ _ (h g' cap' w' h2 h3 h4)
end Go.Proofs.YtbilnlgjpchgiaaDoor
