import Derived.Test.YtaojjcnmififoaaGreatG29
import Derived.Test.YtaojjcnmififoaaGreatG27
import Derived.Test.YtaojjcnmififoaaGreatG07
import Derived.Deep.DeepCutAuto
import Derived.Deep.CutBlock
namespace Go.Proofs.YtaojjcnmififoaaGreat
set_option maxRecDepth 100000
set_option maxHeartbeats 8000000
set_option linter.unusedVariables false
set_option linter.unusedSimpArgs false
open Go.RowKit
theorem rec_ok {y : StLogRecord} {wx : World} {bs : List Int} (hB : IsB bs) (hd : y.dat = parS bs) (ho : OwnL wx y.rows) : y.isB ∧ y.szs ≤ 1073741824 := by
 obtain ⟨h1, h2, h3, h4⟩ := rdBody_good (k := nS bs 1) (t := nS (bs.drop 1) 4) (p := nS (bs.drop 5) 8) (hB.drop 13)
 have l1 := FR.own_len ho.right.right.left
 have l2 := FR.own_len ho.right.right.right.left
 change y.dat = rdBody nS padB (nS bs 1) (nS (bs.drop 1) 4) (nS (bs.drop 5) 8) (bs.drop 13) at hd
 rw [← hd] at h1 h2 h3 h4
 refine ⟨⟨h1, h2, h3⟩, ?_⟩
 simp only [sizeD, StLogRecord.dat, StPageRecord.dat] at h4
 unfold StLogRecord.szs StPageRecord.szs
 omega
theorem infoTxn : (Tryz.prog.info? 96).map (fun i => (i.zero, i.size, i.bytes)) = some (some (.agg #[.int .i64 0, .int .i64 0, .int .i64 0, .int .i64 0]), 4, 32) := by kernel_rfl
theorem infoDirty : (Tryz.prog.info? 98).map (fun i => (i.zero, i.size, i.bytes)) = some (some (.agg #[.int .i64 0, .int .i64 0]), 2, 16) := by kernel_rfl
theorem txL_snoc (num : List Int → Nat → Int) (r : List Int) (j : Nat) : txL num r (j + 1) = txL num r j ++ txE num r j := by unfold txL; rw [List.range_succ, List.flatMap_append]; simp
theorem dyL_snoc (num : List Int → Nat → Int) (r : List Int) (j : Nat) : dyL num r (j + 1) = dyL num r j ++ dyE num r j := by unfold dyL; rw [List.range_succ, List.flatMap_append]; simp
theorem txE_at (num : List Int → Nat → Int) (r : List Int) (j : Nat) {a b c d : Int} (h0 : num (r.drop (21 * j)) 4 = a) (h1 : num ((r.drop (21 * j)).drop 4) 1 = b) (h2 : num (((r.drop (21 * j)).drop 4).drop 1) 8 = c) (h3 : num ((((r.drop (21 * j)).drop 4).drop 1).drop 8) 8 = d) : txE num r j = [a, b, c, d] := by
 simp only [List.drop_drop] at h0 h1 h2 h3
 unfold txE
 rw [h0, h1, h2, h3]
theorem dyE_at (num : List Int → Nat → Int) (r : List Int) (j : Nat) {a b : Int} (h0 : num (r.drop (10 * j)) 2 = a) (h1 : num ((r.drop (10 * j)).drop 2) 8 = b) : dyE num r j = [a, b] := by
 simp only [List.drop_drop] at h0 h1
 unfold dyE
 rw [h0, h1]
theorem specDec_any (v : Value) (bs : List Int) (w : World) (hB : IsB bs) (hl : bs.length ≤ 1099511627776) (hv : Rd .u8 w v bs) : Calls Tryz.prog 41 #[v] w fun e w' => ∃ y : StRecordResult, e = .returned y.val ∧ y.dat = decD bs ∧ (∀ b, FootL y.rows b → w.heap.size ≤ b) ∧ OwnL w' y.rows ∧ Same w w' := by
 obtain ⟨va, vc, rfl⟩ := hv.form
 have hk0 : Same w (w.alloc (.cells zCells.toArray 79)) := (Kept.refl _ _).alloc _
 have hz0 : (w.alloc (.cells zCells.toArray 79)).heap.size = w.heap.size + 1 := by simp
 have HZ0 := hid (Blk.newL w zCells 79)
 have HK0 := hid hk0
 have HV := hid (fun wy (h : Kept (fun b => w.heap.size ≤ b) w wy) => hv.old h)
 unfold zCells at HZ0 HK0 hz0
 clear hk0 hv
 go_enter Tryz.func41, Tryz.ntmps41
 go_upto_region 1 with fail
 generalize w.alloc (.cells [.bool false, .int .i64 0, .int .i64 0, .int .i64 0, .int .i64 0, .int .i64 0, .bool false, .slice none 0 0, .bool false, .slice none 0 0, .int .i64 0, .int .i64 0, .slice none 0 0, .slice none 0 0, .slice none 0 0].toArray 79) = w0 at HZ0 HK0 hz0 ⊢
 have HP1 := (show Hid (Blk (w0.alloc (.cells #[.slice va bs.length vc, .int .i64 0] 92)) w0.heap.size 92 [.slice va bs.length vc, .int .i64 0]) from Blk.newL w0 [.slice va bs.length vc, .int .i64 0] 92)
 have HZ1 := (show Hid (Blk (w0.alloc (.cells #[.slice va bs.length vc, .int .i64 0] 92)) w.heap.size 79 zCells) from HZ0.out.same ((Kept.refl _ _).alloc _))
 have HK1 := (show Hid (Same w (w0.alloc (.cells #[.slice va bs.length vc, .int .i64 0] 92))) from HK0.out.alloc _)
 go_upto_region 2 with fail
 generalize w0.alloc (.cells #[.slice va bs.length vc, .int .i64 0] 92) = w1 at HP1 HZ1 HK1 ⊢
 generalize Value.slice va bs.length vc = v at HP1 HV ⊢
 rw [hz0] at HP1
 obtain ⟨P, hP⟩ : ∃ P, w.heap.size + 1 = P := ⟨_, rfl⟩
 rw [hP] at HP1 ⊢
 have HR1 := (show Hid (RS w1 w.heap.size P v bs bs 0) from ⟨⟨0, Nat.le_refl _, rfl, HP1.out⟩, fun wy h => HV.out wy ((HK1.out.mono (fun _ _ e => e.elim)).trans h), by omega⟩)
 clear HP1 HK0 HZ0 hz0 HV
 go_wp2_with fail
 refine (l4Num_rs 1 hB (by omega) (by omega) hl HR1.out).mono ?_
 rintro e w2 ⟨rfl, hr2, hk2⟩
 obtain ⟨k, hk⟩ : ∃ x, nS (bs) 1 = x := ⟨_, rfl⟩
 rw [hk]
 have HR2 := hid hr2
 have HZ2 := (show Hid (Blk w2 w.heap.size 79 zCells) from HZ1.out.kept hk2 (by omega))
 have HK2 := (show Hid (Same w w2) from HK1.out.next hk2 (fun i hi e => by omega))
 clear hr2 hk2 HR1 HZ1 HK1
 go_wp2_with fail
 refine (l4Num_rs 4 hB (by omega) (by omega) hl HR2.out).mono ?_
 rintro e w3 ⟨rfl, hr2, hk2⟩
 obtain ⟨t, ht⟩ : ∃ x, nS (bs.drop 1) 4 = x := ⟨_, rfl⟩
 rw [ht]
 have HR3 := hid hr2
 have HZ3 := (show Hid (Blk w3 w.heap.size 79 zCells) from HZ2.out.kept hk2 (by omega))
 have HK3 := (show Hid (Same w w3) from HK2.out.next hk2 (fun i hi e => by omega))
 clear hr2 hk2 HR2 HZ2 HK2
 go_wp2_with fail
 refine (l4Num_rs 8 hB (by omega) (by omega) hl HR3.out).mono ?_
 rintro e w4 ⟨rfl, hr2, hk2⟩
 obtain ⟨p, hp⟩ : ∃ x, nS ((bs.drop 1).drop 4) 8 = x := ⟨_, rfl⟩
 rw [hp]
 have HR4 := hid hr2
 have HZ4 := (show Hid (Blk w4 w.heap.size 79 zCells) from HZ3.out.kept hk2 (by omega))
 have HK4 := (show Hid (Same w w4) from HK3.out.next hk2 (fun i hi e => by omega))
 clear hr2 hk2 HR3 HZ3 HK3
 obtain ⟨D, hD⟩ : ∃ D, parS bs = D := ⟨_, rfl⟩
 have HDD := (show Hid (decD bs = if recFd D = 0 ∧ recBd D = bs then (true, D) else (false, zeroR)) from by unfold Hid decD; rw [hD])
 have HOK := (show Hid (∀ (y : StLogRecord) (wx : World), y.dat = D → OwnL wx y.rows → y.isB ∧ y.szs ≤ 1073741824) from fun y wx h1 h2 => rec_ok hB (h1.trans hD.symm) h2)
 unfold parS at hD
 rw [List.drop_drop, List.drop_drop] at HR4
 simp only [Nat.reduceAdd] at HR4
 obtain ⟨r, hr⟩ : ∃ r, bs.drop 13 = r := ⟨_, rfl⟩
 have HBr := (show Hid (IsB r) from hr ▸ hB.drop 13)
 rw [hr] at HR4 hD
 clear hr
 have hp2 : nS (bs.drop 5) 8 = p := by rw [← hp, List.drop_drop]
 rw [hk, ht, hp2] at hD
 clear hk ht hp hp2
 have hR4 := HR4.out.lt
 have hZ4 := HZ4.out.lt
 have HD5 := (show Hid (DcI w (w4.alloc (.cells #[.int .i64 k, .int .i64 t, .int .i64 p, .int .i64 0, .int .i64 0, .bool false, .slice none 0 0, .bool false, .slice none 0 0, .int .i64 0, .int .i64 0, .slice none 0 0, .slice none 0 0, .slice none 0 0] 50)) v bs r 13 P w4.heap.size w.heap.size (rec0 k t p)) from ⟨HR4.out.same ((Kept.refl _ _).alloc _), Blk.newL w4 (rec0 k t p).cells 50, HZ4.out.same ((Kept.refl _ _).alloc _), HK4.out.alloc _, own_rec0 _ _ _ _, fun b hb => (foot_rec0 hb).elim, HK4.out.size, Nat.le_refl _, by omega, by omega, by omega⟩)
 clear HR4 HZ4 HK4
 go_upto_region 3 with fail
 generalize w4.alloc (.cells #[.int .i64 k, .int .i64 t, .int .i64 p, .int .i64 0, .int .i64 0, .bool false, .slice none 0 0, .bool false, .slice none 0 0, .int .i64 0, .int .i64 0, .slice none 0 0, .slice none 0 0, .slice none 0 0] 50) = w5 at HD5 ⊢
 generalize w4.heap.size = R at HD5 hR4 hZ4 ⊢
 obtain ⟨Z, hZ⟩ : ∃ Z, w.heap.size = Z := ⟨_, rfl⟩
 rw [hZ] at hP hZ4
 have HZZ := hid hZ
 have HD5 := (show Hid (DcI w w5 v bs r 13 P R Z (rec0 k t p)) from hZ ▸ HD5.out)
 rw [hZ]
 clear hZ
 have cK : w5.cell? ⟨R, 0, none⟩ = some (.int .i64 k) := HD5.out.box.c0
 go_upto_block 0 with fail
 clear cK
 go_cut [0] (fun uv wx => v = uv ∧ ∃ (y : StLogRecord) (rs : List Int) (lim : Nat), Hid (DcI w wx v bs rs lim P R Z y) ∧ Hid (y.dat = D))
 case first =>
  by_cases k1 : k = 1
  ·subst k1
   as_aux_lemma =>
    go_wp2_with fail
    try clear cc fb HE5
    try clear c1 c2 fb HE5
    refine (l4Num_rs 2 hB (by omega) (by omega) hl HD5.out.rs).mono ?_
    rintro e u6 ⟨rfl, hr2, hk2⟩
    have HE6 := hid (HD5.out.read hr2 hk2)
    obtain ⟨x6, hx6⟩ : ∃ x, nS (r) 2 = x := ⟨_, rfl⟩
    rw [hx6]
    have HD6 := hid (HE6.out.num 3 (.int .i64 x6) ({ rec0 1 t p with page := x6 }) rfl rfl)
    have cc := HE6.out.box.cell 3
    have fb := HE6.out.box.frozen
    dsimp only [StLogRecord.cells, rec0] at cc
    clear hr2 hk2 HD5
    go_wp2_with fail
    try clear cc fb HE6
    try clear c1 c2 fb HE6
    refine (l4Num_rs 2 hB (by omega) (by omega) hl HD6.out.rs).mono ?_
    rintro e u7 ⟨rfl, hr2, hk2⟩
    have HE7 := hid (HD6.out.read hr2 hk2)
    obtain ⟨x7, hx7⟩ : ∃ x, nS (r.drop 2) 2 = x := ⟨_, rfl⟩
    rw [hx7]
    have HD7 := hid (HE7.out.num 4 (.int .i64 x7) ({ rec0 1 t p with page := x6, slot := x7 }) rfl rfl)
    have cc := HE7.out.box.cell 4
    have fb := HE7.out.box.frozen
    dsimp only [StLogRecord.cells, rec0] at cc
    clear hr2 hk2 HD6
    go_wp2_with fail
    try clear cc fb HE7
    try clear c1 c2 fb HE7
    refine (l4TakeSlot_rs hB (by omega) hl HD7.out.rs).mono ?_
    rintro e u8 ⟨q8, rfl, hd8, hf2, ho2, hr2, hk2⟩
    have HE8 := hid (HD7.out.read hr2 hk2)
    have HD8 := hid (HD7.out.slotB q8 _ (Nat.le_refl _) hr2 hk2 ho2 hf2)
    have c1 := HE8.out.box.cell 5
    have c2 := HE8.out.box.cell 6
    have fb := HE8.out.box.frozen
    dsimp only [StLogRecord.cells, rec0] at c1 c2
    dsimp only [StPageRecord.val, BS.v]
    dsimp only [BS.v] at HD8
    have HS8 := hid hd8
    clear hr2 hk2 hf2 ho2 hd8 HD7
    go_wp2_with fail
    try clear cc fb HE8
    try clear c1 c2 fb HE8
    refine (l4TakeSlot_rs hB (by omega) hl HD8.out.rs).mono ?_
    rintro e u9 ⟨q9, rfl, hd9, hf2, ho2, hr2, hk2⟩
    have HE9 := hid (HD8.out.read hr2 hk2)
    have HD9 := hid (HD8.out.slotA q9 _ (Nat.le_refl _) hr2 hk2 ho2 hf2)
    have c1 := HE9.out.box.cell 7
    have c2 := HE9.out.box.cell 8
    have fb := HE9.out.box.frozen
    dsimp only [StLogRecord.cells, rec0] at c1 c2
    dsimp only [StPageRecord.val, BS.v]
    dsimp only [BS.v] at HD9
    have HS9 := hid hd9
    clear hr2 hk2 hf2 ho2 hd9 HD8
    have HT := (show Hid (StLogRecord.dat { rec0 1 t p with page := x6, slot := x7, before := q8, after := q9 } = D) from by
     unfold Hid
     rw [← hD]
     unfold rdBody
     rw [if_pos rfl, hx6, hx7]
     have e1 := HS8.out
     have e2 := HS9.out
     rw [List.drop_drop] at e1 e2
     unfold StLogRecord.dat
     dsimp only [rec0]
     rw [e1, e2]
     rfl)
    go_wp2_with fail
    go_meet
    case rel => exact ⟨rfl, _, _, _, HD9, HT⟩
  have e1 : (k == 1) = false := by simp [k1]
  by_cases k2 : k = 2
  ·subst k2
   as_aux_lemma =>
    go_wp2_with fail
    try clear cc fb HE5
    try clear c1 c2 fb HE5
    refine (l4Num_rs 2 hB (by omega) (by omega) hl HD5.out.rs).mono ?_
    rintro e u6 ⟨rfl, hr2, hk2⟩
    have HE6 := hid (HD5.out.read hr2 hk2)
    obtain ⟨x6, hx6⟩ : ∃ x, nS (r) 2 = x := ⟨_, rfl⟩
    rw [hx6]
    have HD6 := hid (HE6.out.num 3 (.int .i64 x6) ({ rec0 2 t p with page := x6 }) rfl rfl)
    have cc := HE6.out.box.cell 3
    have fb := HE6.out.box.frozen
    dsimp only [StLogRecord.cells, rec0] at cc
    clear hr2 hk2 HD5
    go_wp2_with fail
    try clear cc fb HE6
    try clear c1 c2 fb HE6
    refine (l4Num_rs 2 hB (by omega) (by omega) hl HD6.out.rs).mono ?_
    rintro e u7 ⟨rfl, hr2, hk2⟩
    have HE7 := hid (HD6.out.read hr2 hk2)
    obtain ⟨x7, hx7⟩ : ∃ x, nS (r.drop 2) 2 = x := ⟨_, rfl⟩
    rw [hx7]
    have HD7 := hid (HE7.out.num 4 (.int .i64 x7) ({ rec0 2 t p with page := x6, slot := x7 }) rfl rfl)
    have cc := HE7.out.box.cell 4
    have fb := HE7.out.box.frozen
    dsimp only [StLogRecord.cells, rec0] at cc
    clear hr2 hk2 HD6
    go_wp2_with fail
    try clear cc fb HE7
    try clear c1 c2 fb HE7
    refine (l4TakeSlot_rs hB (by omega) hl HD7.out.rs).mono ?_
    rintro e u8 ⟨q8, rfl, hd8, hf2, ho2, hr2, hk2⟩
    have HE8 := hid (HD7.out.read hr2 hk2)
    have HD8 := hid (HD7.out.slotA q8 _ (Nat.le_refl _) hr2 hk2 ho2 hf2)
    have c1 := HE8.out.box.cell 7
    have c2 := HE8.out.box.cell 8
    have fb := HE8.out.box.frozen
    dsimp only [StLogRecord.cells, rec0] at c1 c2
    dsimp only [StPageRecord.val, BS.v]
    dsimp only [BS.v] at HD8
    have HS8 := hid hd8
    clear hr2 hk2 hf2 ho2 hd8 HD7
    go_wp2_with fail
    try clear cc fb HE8
    try clear c1 c2 fb HE8
    refine (l4Num_rs 8 hB (by omega) (by omega) hl HD8.out.rs).mono ?_
    rintro e u9 ⟨rfl, hr2, hk2⟩
    have HE9 := hid (HD8.out.read hr2 hk2)
    obtain ⟨x9, hx9⟩ : ∃ x, nS ((rdSlot nS padB ((r.drop 2).drop 2)).2) 8 = x := ⟨_, rfl⟩
    rw [hx9]
    have HD9 := hid (HE9.out.num 9 (.int .i64 x9) ({ rec0 2 t p with page := x6, slot := x7, after := q8, uN := x9 }) rfl rfl)
    have cc := HE9.out.box.cell 9
    have fb := HE9.out.box.frozen
    dsimp only [StLogRecord.cells, rec0] at cc
    clear hr2 hk2 HD8
    have HT := (show Hid (StLogRecord.dat { rec0 2 t p with page := x6, slot := x7, after := q8, uN := x9 } = D) from by
     unfold Hid
     rw [← hD]
     unfold rdBody
     rw [if_neg (by decide), if_pos rfl, hx6, hx7]
     have e1 := HS8.out
     rw [List.drop_drop] at e1 hx9
     rw [hx9]
     unfold StLogRecord.dat
     dsimp only [rec0]
     rw [e1]
     rfl)
    go_wp2_with fail
    go_meet
    case rel => exact ⟨rfl, _, _, _, HD9, HT⟩
  have e2 : (k == 2) = false := by simp [k2]
  by_cases k7 : k = 7
  ·subst k7
   as_aux_lemma =>
    go_wp2_with fail
    try clear cc fb HE5
    try clear c1 c2 fb HE5
    refine (l4Num_rs 4 hB (by omega) (by omega) hl HD5.out.rs).mono ?_
    rintro e u6 ⟨rfl, hr2, hk2⟩
    have HE6 := hid (HD5.out.read hr2 hk2)
    obtain ⟨x6, hx6⟩ : ∃ x, nS (r) 4 = x := ⟨_, rfl⟩
    rw [hx6]
    have HD6 := hid (HE6.out.num 10 (.int .i64 x6) ({ rec0 7 t p with nT := x6 }) rfl rfl)
    have cc := HE6.out.box.cell 10
    have fb := HE6.out.box.frozen
    dsimp only [StLogRecord.cells, rec0] at cc
    clear hr2 hk2 HD5
    go_wp2_with fail
    clear cc fb HE6
    refine (l4Num_rs 1 hB (by omega) (by omega) hl HD6.out.rs).mono ?_
    rintro e u7 ⟨rfl, hr2, hk2⟩
    have HD7 := hid (HD6.out.read hr2 hk2)
    have hn1 := nS_one (HBr.out.drop 4)
    obtain ⟨n, hn⟩ : ∃ n : Nat, nS (r.drop 4) 1 = n := ⟨(nS (r.drop 4) 1).toNat, by omega⟩
    rw [hn] at hn1 ⊢
    rw [List.drop_drop] at HD7
    simp only [Nat.reduceAdd] at HD7
    have HN := hid hn
    have hn2 : n ≤ 255 := by omega
    clear hr2 hk2 HD6 hn hn1
    obtain ⟨i0, hi, hz1, hz2, hz3⟩ := info_parts infoTxn
    obtain ⟨d0, di, dz1, dz2, dz3⟩ := info_parts infoDirty
    go_wp2_with fail
    go_loopw [5] (fun iv wr => ∃ (j : Nat) (a : Option Addr) (c : Nat), j ≤ n ∧ iv = .int .i64 ((n - j : Nat) : Int) ∧ Hid (DcI w wr v bs ((r.drop 5).drop (21 * j)) (18 + 21 * j) P R Z { rec0 7 t p with nT := x6, txns := ⟨96, a, j, c, txL nS (r.drop 5) j⟩ })) (fun iv _ => (intOf iv).toNat)
    case atStart => exact ⟨0, none, 0, Nat.zero_le _, rfl, HD7⟩
    case round =>
     obtain ⟨j, a, c, hj, rfl, HI⟩ := hrel
     by_cases hlt : j < n
     ·obtain ⟨f, hf⟩ : ∃ f : Nat, n - j = f + 1 := ⟨n - j - 1, by omega⟩
      have hfp : (0 : Int) < ((f + 1 : Nat) : Int) := by omega
      rw [hf]
      go_wp2_with fail
      refine (l4Num_rs 4 hB (by omega) (by omega) hl HI.out.rs).mono ?_
      rintro e v1 ⟨rfl, hr2, hk2⟩
      have HI1 := hid (HI.out.read hr2 hk2)
      obtain ⟨y1, hy1⟩ : ∃ x, nS ((r.drop 5).drop (21 * j)) 4 = x := ⟨_, rfl⟩
      rw [hy1]
      clear hr2 hk2 HI
      go_wp2_with fail
      refine (l4Num_rs 1 hB (by omega) (by omega) hl HI1.out.rs).mono ?_
      rintro e v2 ⟨rfl, hr2, hk2⟩
      have HI2 := hid (HI1.out.read hr2 hk2)
      obtain ⟨y2, hy2⟩ : ∃ x, nS (((r.drop 5).drop (21 * j)).drop 4) 1 = x := ⟨_, rfl⟩
      rw [hy2]
      clear hr2 hk2 HI1
      have HT3 := (show Hid (Blk (v2.alloc (.cells #[.int .i64 y1, .int .i64 y2, .int .i64 0, .int .i64 0] 96)) v2.heap.size 96 [.int .i64 y1, .int .i64 y2, .int .i64 0, .int .i64 0]) from Blk.newL v2 [.int .i64 y1, .int .i64 y2, .int .i64 0, .int .i64 0] 96)
      have HI3 := (show Hid (DcI w (v2.alloc (.cells #[.int .i64 y1, .int .i64 y2, .int .i64 0, .int .i64 0] 96)) v bs _ _ P R Z _) from HI2.out.same ((Kept.refl _ _).alloc _))
      have hT1 := HI2.out.rs.lt
      have hT2 := HI2.out.box.lt
      have hT3 := HI2.out.kept.size
      have hT5 := HI2.out.res.lt
      have HTF := (show Hid (∀ b, FootL _ b → b < _) from fun b hb => HI2.out.own.lt b hb)
      clear HI2
      go_upto_region 20 with fail
      generalize v2.alloc (.cells #[.int .i64 y1, .int .i64 y2, .int .i64 0, .int .i64 0] 96) = v3 at HT3 HI3 ⊢
      obtain ⟨X, hX⟩ : ∃ X, v2.heap.size = X := ⟨_, rfl⟩
      rw [hX] at HT3 hT1 hT2 hT3 hT5 HTF ⊢
      clear hX
      go_wp2_with fail
      refine (l4Num_rs 8 hB (by omega) (by omega) hl HI3.out.rs).mono ?_
      rintro e v4 ⟨rfl, hr2, hk2⟩
      have HI4 := hid (HI3.out.read hr2 hk2)
      obtain ⟨y4, hy4⟩ : ∃ x, nS ((((r.drop 5).drop (21 * j)).drop 4).drop 1) 8 = x := ⟨_, rfl⟩
      rw [hy4]
      have HT4 := hid (HT3.out.kept hk2 (by omega))
      clear hr2 hk2 HI3 HT3
      have hks : Kept (fun b => b = X) v4 (v4.setCell ⟨X, 2, none⟩ (.int .i64 y4)) := (Kept.refl (fun b => b = X) v4).setCell (p := ⟨X, 2, none⟩) (.inr rfl) _
      have HJ4 := hid (HI4.out.aside hks (by omega) (by omega) (by omega) (by omega) (fun b hb e => by have := HTF.out b hb; omega))
      have HU4 := (show Hid (Blk (v4.setCell ⟨X, 2, none⟩ (.int .i64 y4)) X 96 [.int .i64 y1, .int .i64 y2, .int .i64 y4, .int .i64 0]) from HT4.out.stored 2 _)
      have cc : v4.cell? ⟨X, 2, none⟩ = some (.int .i64 0) := HT4.out.cell 2
      have fb := HT4.out.frozen
      clear hks HI4 HT4
      go_upto_region 21 with fail
      generalize v4.setCell ⟨X, 2, none⟩ (.int .i64 y4) = v5 at HJ4 HU4 ⊢
      have HI5 := HJ4
      have HT5 := HU4
      clear HJ4 HU4 cc fb
      go_wp2_with fail
      refine (l4Num_rs 8 hB (by omega) (by omega) hl HI5.out.rs).mono ?_
      rintro e v6 ⟨rfl, hr2, hk2⟩
      have HI6 := hid (HI5.out.read hr2 hk2)
      obtain ⟨y6, hy6⟩ : ∃ x, nS (((((r.drop 5).drop (21 * j)).drop 4).drop 1).drop 8) 8 = x := ⟨_, rfl⟩
      rw [hy6]
      have HT6 := hid (HT5.out.kept hk2 (by omega))
      clear hr2 hk2 HI5 HT5
      have hks : Kept (fun b => b = X) v6 (v6.setCell ⟨X, 3, none⟩ (.int .i64 y6)) := (Kept.refl (fun b => b = X) v6).setCell (p := ⟨X, 3, none⟩) (.inr rfl) _
      have HJ6 := hid (HI6.out.aside hks (by omega) (by omega) (by omega) (by omega) (fun b hb e => by have := HTF.out b hb; omega))
      have HU6 := (show Hid (Blk (v6.setCell ⟨X, 3, none⟩ (.int .i64 y6)) X 96 [.int .i64 y1, .int .i64 y2, .int .i64 y4, .int .i64 y6]) from HT6.out.stored 3 _)
      have cc : v6.cell? ⟨X, 3, none⟩ = some (.int .i64 0) := HT6.out.cell 3
      have fb := HT6.out.frozen
      clear hks HI6 HT6
      go_upto_region 22 with fail
      generalize v6.setCell ⟨X, 3, none⟩ (.int .i64 y6) = v7 at HJ6 HU6 ⊢
      have HI7 := HJ6
      have HT7 := HU6
      clear HJ6 HU6 cc fb
      have HA := (show Hid (Same v7 (v7.alloc (.cells #[.int .i64 y1, .int .i64 y2, .int .i64 y4, .int .i64 y6] 96))) from (Kept.refl _ _).alloc _)
      have HO := (show Hid ((v7.alloc (.cells #[.int .i64 y1, .int .i64 y2, .int .i64 y4, .int .i64 y6] 96)).ownsRow 0 96 4 (.slice a j c) j (vals .i64 (txL nS (r.drop 5) j))) from (HI7.out.same HA.out).owntxns)
      have HN := (show Hid (Blk (v7.alloc (.cells #[.int .i64 y1, .int .i64 y2, .int .i64 y4, .int .i64 y6] 96)) v7.heap.size 96 [.int .i64 y1, .int .i64 y2, .int .i64 y4, .int .i64 y6]) from Blk.newL v7 [.int .i64 y1, .int .i64 y2, .int .i64 y4, .int .i64 y6] 96)
      have cc : v7.cell? ⟨R, 11, none⟩ = some (.slice a j c) := HI7.out.box.cell 11
      have fb := HI7.out.box.frozen
      have hRl := HI7.out.box.lt
      have hXl := HT7.out.lt
      obtain ⟨t0, t1, t2, t3⟩ := HT7.out.all4
      go_wp2_with (at_builtin; go_loud (refine wpList_append_lies _ rfl (.tmp 72) (.tmp 74) 47 rfl 0 96 i0 _ 4 32 Tryz.underlying47 hi hz1 hz2 hz3 rfl (by omega) (.slice a j c) j (vals .i64 (txL nS (r.drop 5) j)) rfl (by exact HO.out) ⟨v7.heap.size, 0, none⟩ 1 1 [.int .i64 y1, .int .i64 y2, .int .i64 y4, .int .i64 y6] rfl rfl (World.news_of_block (cs := #[.int .i64 y1, .int .i64 y2, .int .i64 y4, .int .i64 y6]) (t := 96) (fr := (0, 0)) (by exact HN.out)) (by simp [Value.oneCell']) (by omega) (by unfold maxLen; omega) (by omega) (Nat.zero_le _) (v7.heap.size + 1) (by simp) ?_); intro g5 cap5 w9 hown5 hgrow5 hat5 hlt5; have HI9 := hid (HI7.out.appT HA.out hown5 hgrow5 hat5 (by simp)); have ck := (Kept.of_grown hgrow5 (fun k e => e) : Kept (fun k => (Value.slice a j c).ownBlock = some k) _ _); have fb9 := ((HI7.out.same HA.out).box.kept ck (HI7.out.outtxns)).frozen; have cc9 := ((HI7.out.same HA.out).box.kept ck (HI7.out.outtxns)).cell 11; clear ck hown5 hgrow5 hat5)
      go_roundw
      case rel =>
       refine ⟨j + 1, some ⟨g5, 0, none⟩, cap5, by omega, by congr 1; omega, hid (HI9.out.rest ?_ ?_ ?_)⟩
       ·simp only [List.drop_drop]; congr 1
       ·omega
       ·have e9 := txE_at nS (r.drop 5) j hy1 hy2 hy4 hy6
        rw [txL_snoc, e9]
      case measure => simp [intOf] <;> omega
     ·obtain rfl : n = j := by omega
      clear hlt hj
      have hs0 : (0 : Int) < ((n - n : Nat) : Int) ↔ False := by simp
      go_wp2_with fail
      refine (l4Num_rs 1 hB (by omega) (by omega) hl HI.out.rs).mono ?_
      rintro e u8 ⟨rfl, hr2, hk2⟩
      have HD8 := hid (HI.out.read hr2 hk2)
      have hm1 := nS_one ((HBr.out.drop 5).drop (21 * n))
      obtain ⟨m, hm⟩ : ∃ m : Nat, nS ((r.drop 5).drop (21 * n)) 1 = m := ⟨(nS ((r.drop 5).drop (21 * n)) 1).toNat, by omega⟩
      rw [hm] at hm1 ⊢
      rw [List.drop_drop] at HD8
      obtain ⟨rd, hrd⟩ : ∃ rd, (r.drop 5).drop (21 * n + 1) = rd := ⟨_, rfl⟩
      rw [hrd] at HD8
      have HM := hid hm
      have HRD := hid hrd
      have hm2 : m ≤ 255 := by omega
      obtain ⟨ta, hta⟩ : ∃ x, a = x := ⟨_, rfl⟩
      obtain ⟨tc, htc⟩ : ∃ x, c = x := ⟨_, rfl⟩
      rw [hta, htc] at HD8
      obtain ⟨TL, hTL⟩ : ∃ x, txL nS (r.drop 5) n = x := ⟨_, rfl⟩
      rw [hTL] at HD8
      have HTL := hid hTL
      clear hr2 hk2 HI hm hm1 hrd hta htc hTL hs0
      go_wp2_with fail
      go_loopw [7] (fun iv wr => ∃ (j : Nat) (a : Option Addr) (c : Nat), j ≤ m ∧ iv = .int .i64 ((m - j : Nat) : Int) ∧ Hid (DcI w wr v bs (rd.drop (10 * j)) (18 + 21 * n + 1 + 10 * j) P R Z { rec0 7 t p with nT := x6, txns := ⟨96, ta, n, tc, TL⟩, dirty := ⟨98, a, j, c, dyL nS rd j⟩ })) (fun iv _ => (intOf iv).toNat)
      case atStart => exact ⟨0, none, 0, Nat.zero_le _, rfl, HD8⟩
      case round =>
       obtain ⟨j, a, c, hj, rfl, HI⟩ := hrel
       by_cases hlt : j < m
       ·obtain ⟨f, hf⟩ : ∃ f : Nat, m - j = f + 1 := ⟨m - j - 1, by omega⟩
        have hfp : (0 : Int) < ((f + 1 : Nat) : Int) := by omega
        rw [hf]
        go_wp2_with fail
        refine (l4Num_rs 2 hB (by omega) (by omega) hl HI.out.rs).mono ?_
        rintro e v1 ⟨rfl, hr2, hk2⟩
        have HI1 := hid (HI.out.read hr2 hk2)
        obtain ⟨y1, hy1⟩ : ∃ x, nS (rd.drop (10 * j)) 2 = x := ⟨_, rfl⟩
        rw [hy1]
        clear hr2 hk2 HI
        have HT2 := (show Hid (Blk (v1.alloc (.cells #[.int .i64 y1, .int .i64 0] 98)) v1.heap.size 98 [.int .i64 y1, .int .i64 0]) from Blk.newL v1 [.int .i64 y1, .int .i64 0] 98)
        have HI2 := (show Hid (DcI w (v1.alloc (.cells #[.int .i64 y1, .int .i64 0] 98)) v bs _ _ P R Z _) from HI1.out.same ((Kept.refl _ _).alloc _))
        have hT1 := HI1.out.rs.lt
        have hT2 := HI1.out.box.lt
        have hT3 := HI1.out.kept.size
        have hT5 := HI1.out.res.lt
        have HTF := (show Hid (∀ b, FootL _ b → b < _) from fun b hb => HI1.out.own.lt b hb)
        clear HI1
        go_upto_region 27 with fail
        generalize v1.alloc (.cells #[.int .i64 y1, .int .i64 0] 98) = v2 at HT2 HI2 ⊢
        obtain ⟨X, hX⟩ : ∃ X, v1.heap.size = X := ⟨_, rfl⟩
        rw [hX] at HT2 hT1 hT2 hT3 hT5 HTF ⊢
        clear hX
        go_wp2_with fail
        refine (l4Num_rs 8 hB (by omega) (by omega) hl HI2.out.rs).mono ?_
        rintro e v3 ⟨rfl, hr2, hk2⟩
        have HI3 := hid (HI2.out.read hr2 hk2)
        obtain ⟨y3, hy3⟩ : ∃ x, nS ((rd.drop (10 * j)).drop 2) 8 = x := ⟨_, rfl⟩
        rw [hy3]
        have HT3 := hid (HT2.out.kept hk2 (by omega))
        clear hr2 hk2 HI2 HT2
        have hks : Kept (fun b => b = X) v3 (v3.setCell ⟨X, 1, none⟩ (.int .i64 y3)) := (Kept.refl (fun b => b = X) v3).setCell (p := ⟨X, 1, none⟩) (.inr rfl) _
        have HJ3 := hid (HI3.out.aside hks (by omega) (by omega) (by omega) (by omega) (fun b hb e => by have := HTF.out b hb; omega))
        have HU3 := (show Hid (Blk (v3.setCell ⟨X, 1, none⟩ (.int .i64 y3)) X 98 [.int .i64 y1, .int .i64 y3]) from HT3.out.stored 1 _)
        have cc : v3.cell? ⟨X, 1, none⟩ = some (.int .i64 0) := HT3.out.cell 1
        have fb := HT3.out.frozen
        clear hks HI3 HT3
        go_upto_region 28 with fail
        generalize v3.setCell ⟨X, 1, none⟩ (.int .i64 y3) = v4 at HJ3 HU3 ⊢
        have HI4 := HJ3
        have HT4 := HU3
        clear HJ3 HU3 cc fb
        have HA := (show Hid (Same v4 (v4.alloc (.cells #[.int .i64 y1, .int .i64 y3] 98))) from (Kept.refl _ _).alloc _)
        have HO := (show Hid ((v4.alloc (.cells #[.int .i64 y1, .int .i64 y3] 98)).ownsRow 0 98 2 (.slice a j c) j (vals .i64 (dyL nS rd j))) from (HI4.out.same HA.out).owndirty)
        have HN := (show Hid (Blk (v4.alloc (.cells #[.int .i64 y1, .int .i64 y3] 98)) v4.heap.size 98 [.int .i64 y1, .int .i64 y3]) from Blk.newL v4 [.int .i64 y1, .int .i64 y3] 98)
        have cc : v4.cell? ⟨R, 12, none⟩ = some (.slice a j c) := HI4.out.box.cell 12
        have fb := HI4.out.box.frozen
        have hRl := HI4.out.box.lt
        have hXl := HT4.out.lt
        obtain ⟨t0, t1⟩ := HT4.out.all2
        go_wp2_with (at_builtin; go_loud (refine wpList_append_lies _ rfl (.tmp 90) (.tmp 92) 48 rfl 0 98 d0 _ 2 16 Tryz.underlying48 di dz1 dz2 dz3 rfl (by omega) (.slice a j c) j (vals .i64 (dyL nS rd j)) rfl (by exact HO.out) ⟨v4.heap.size, 0, none⟩ 1 1 [.int .i64 y1, .int .i64 y3] rfl rfl (World.news_of_block (cs := #[.int .i64 y1, .int .i64 y3]) (t := 98) (fr := (0, 0)) (by exact HN.out)) (by simp [Value.oneCell']) (by omega) (by unfold maxLen; omega) (by omega) (Nat.zero_le _) (v4.heap.size + 1) (by simp) ?_); intro g5 cap5 w9 hown5 hgrow5 hat5 hlt5; have HI9 := hid (HI4.out.appD HA.out hown5 hgrow5 hat5 (by simp)); have ck := (Kept.of_grown hgrow5 (fun k e => e) : Kept (fun k => (Value.slice a j c).ownBlock = some k) _ _); have fb9 := ((HI4.out.same HA.out).box.kept ck (HI4.out.outdirty)).frozen; have cc9 := ((HI4.out.same HA.out).box.kept ck (HI4.out.outdirty)).cell 12; clear ck hown5 hgrow5 hat5)
        go_roundw
        case rel =>
         refine ⟨j + 1, some ⟨g5, 0, none⟩, cap5, by omega, by congr 1; omega, hid (HI9.out.rest ?_ ?_ ?_)⟩
         ·simp only [List.drop_drop]; congr 1
         ·omega
         ·have e9 := dyE_at nS rd j hy1 hy3
          rw [dyL_snoc, e9]
        case measure => simp [intOf] <;> omega
       ·obtain rfl : m = j := by omega
        clear hlt hj
        have hs0 : (0 : Int) < ((m - m : Nat) : Int) ↔ False := by simp
        have HT := (show Hid (StLogRecord.dat { rec0 7 t p with nT := x6, txns := ⟨96, ta, n, tc, TL⟩, dirty := ⟨98, a, m, c, dyL nS rd m⟩ } = D) from by
         unfold Hid
         rw [← hD]
         unfold rdBody
         rw [if_neg (by decide), if_neg (by decide), if_pos rfl, hx6, HN.out, Int.toNat_natCast, HM.out, Int.toNat_natCast, HTL.out, HRD.out]
         rfl)
        go_wp2_with fail
        go_meet
        case rel => exact ⟨rfl, _, _, _, HI, HT⟩
  have e7 : (k == 7) = false := by simp [k7]
  by_cases k8 : k = 8
  ·subst k8
   as_aux_lemma =>
    go_wp2_with fail
    try clear cc fb HE5
    try clear c1 c2 fb HE5
    refine (l4Num_rs 2 hB (by omega) (by omega) hl HD5.out.rs).mono ?_
    rintro e u6 ⟨rfl, hr2, hk2⟩
    have HE6 := hid (HD5.out.read hr2 hk2)
    obtain ⟨x6, hx6⟩ : ∃ x, nS (r) 2 = x := ⟨_, rfl⟩
    rw [hx6]
    have HD6 := hid (HE6.out.num 3 (.int .i64 x6) ({ rec0 8 t p with page := x6 }) rfl rfl)
    have cc := HE6.out.box.cell 3
    have fb := HE6.out.box.frozen
    dsimp only [StLogRecord.cells, rec0] at cc
    clear hr2 hk2 HD5
    go_wp2_with fail
    clear cc fb HE6
    refine (l4Take_rs 4096 (by omega) (by omega) hl HD6.out.rs).mono ?_
    rintro e u7 ⟨g, rfl, hg, ho, hr2, hk2⟩
    have hlp : (padB (r.drop 2) 4096).length = 4096 := by simp only [padB, List.length_append, List.length_take, List.length_replicate]; omega
    obtain ⟨im, him⟩ : ∃ x, padB (r.drop 2) 4096 = x := ⟨_, rfl⟩
    rw [him] at ho hlp
    have HO := (show Hid (OwnL u7 (BS.rows ⟨5, some ⟨g, 0, none⟩, 4096, im⟩)) from OwnL.one (by unfold BS.v; rw [hlp]; exact ho))
    have HE7 := hid (HD6.out.read hr2 hk2)
    have HD7 := hid (HD6.out.img ⟨5, some ⟨g, 0, none⟩, 4096, im⟩ hr2 hk2 HO.out (fun b hb => by have h := (footL_ints _ _ _ _ _).1 hb; have h7 : g = b := Option.some.inj h; omega))
    unfold BS.v at HD7
    rw [hlp] at HD7
    have cc := HE7.out.box.cell 13
    have fb := HE7.out.box.frozen
    dsimp only [StLogRecord.cells, rec0] at cc
    have HT := (show Hid (StLogRecord.dat { rec0 8 t p with page := x6, image := ⟨5, some ⟨g, 0, none⟩, 4096, im⟩ } = D) from by
     unfold Hid
     rw [← hD]
     unfold rdBody
     rw [if_neg (by decide), if_neg (by decide), if_neg (by decide), if_pos rfl, hx6, him]
     rfl)
    clear hr2 hk2 ho hlp HD6 HO
    go_wp2_with fail
    go_meet
    case rel => exact ⟨rfl, _, _, _, HD7, HT⟩
  have e8 : (k == 8) = false := by simp [k8]
  have HT := (show Hid (StLogRecord.dat (rec0 k t p) = D) from by
   unfold Hid
   rw [← hD]
   unfold rdBody
   rw [if_neg k1, if_neg k2, if_neg k7, if_neg k8]
   rfl)
  go_wp2_with fail
  go_meet
  case rel => exact ⟨rfl, _, _, _, HD5, HT⟩
 case rest =>
  obtain ⟨hu, y, rs, lim, HD, HY⟩ := hcut
  subst hu
  obtain ⟨hIB, hSZ⟩ := HOK.out y _ HY.out HD.out.own
  have HDY := (show Hid (decD bs = if recFd y.dat = 0 ∧ recBd y.dat = bs then (true, y.dat) else (false, zeroR)) from by unfold Hid; rw [HDD.out, HY.out])
  have HF := hid (specRec_any y wc hIB hSZ (StLogRecord.own_rd HD.out.own))
  have HG := (show Hid (∀ wz, Same wc wz → _) from fun wz (h : Same wc wz) => specEnc_any y wz hIB hSZ ((StLogRecord.own_rd HD.out.own).same h))
  have HW := (show Hid (recFd y.dat = 0 → IsB (recBd y.dat)) from fun h => recBd_isB hIB h)
  have HBX := (show Hid (Blk wc R 50 y.cells) from HD.out.box)
  have HZX := (show Hid (Blk wc Z 79 zCells) from HD.out.res)
  obtain ⟨F, hF⟩ : ∃ F, recFd y.dat = F := ⟨_, rfl⟩
  have HFD := (show Hid (encFd y.dat = if F = 0 then recBd y.dat else []) from by unfold Hid; by_cases h : F = 0; rw [if_pos h, encFd_good (hF.trans h)]; rw [if_neg h, encFd_bad (by rw [hF]; exact h)])
  have HV5 := (show Hid (∀ wz, Same wc wz → Rd .u8 wz v bs) from fun wz h => HD.out.rs.rd wz (h.mono (fun _ _ e => e.elim)))
  rw [hF] at HF HDY HW
  have f0 := HF.out
  have HHF := hid hF
  clear HF hF hIB hSZ HOK HDD hD
  dsimp only [StLogRecord.val, StPageRecord.val, BS.v, FR.v] at f0
  obtain ⟨q0, q1, q2, q3, q4, q5, q6, q7, q8, q9, q10, q11, q12, q13⟩ := (show Blk wc R 50 [.int .i64 y.kind, .int .i64 y.txn, .int .i64 y.prev, .int .i64 y.page, .int .i64 y.slot, .bool y.before.used, .slice y.before.data.a y.before.data.bs.length y.before.data.c, .bool y.after.used, .slice y.after.data.a y.after.data.bs.length y.after.data.c, .int .i64 y.uN, .int .i64 y.nT, .slice y.txns.a y.txns.n y.txns.c, .slice y.dirty.a y.dirty.n y.dirty.c, .slice y.image.a y.image.bs.length y.image.c] from HBX.out).all14
  have hRl := HBX.out.lt
  have hZl := HZX.out.lt
  go_wp2_with fail
  refine f0.mono ?_
  rintro e w6 ⟨rfl, hk6⟩
  have HK6 := (show Hid (Same wc w6) from hk6)
  clear hk6 f0 q0 q1 q2 q3 q4 q5 q6 q7 q8 q9 q10 q11 q12 q13
  have hZg : w.heap.size ≤ Z := HD.out.pl.2.1
  by_cases hz : F = 0
  ·subst hz
   have HFE := (show Hid (encFd y.dat = recBd y.dat) from by have h := HFD.out; rw [if_pos rfl] at h; exact h)
   have g0 := HG.out w6 HK6.out
   rw [HFE.out] at g0
   have HBY := (show Hid (Blk w6 R 50 [.int .i64 y.kind, .int .i64 y.txn, .int .i64 y.prev, .int .i64 y.page, .int .i64 y.slot, .bool y.before.used, .slice y.before.data.a y.before.data.bs.length y.before.data.c, .bool y.after.used, .slice y.after.data.a y.after.data.bs.length y.after.data.c, .int .i64 y.uN, .int .i64 y.nT, .slice y.txns.a y.txns.n y.txns.c, .slice y.dirty.a y.dirty.n y.dirty.c, .slice y.image.a y.image.bs.length y.image.c]) from HBX.out.same HK6.out)
   obtain ⟨q0, q1, q2, q3, q4, q5, q6, q7, q8, q9, q10, q11, q12, q13⟩ := HBY.out.all14
   have hR6 := HBY.out.lt
   dsimp only [StLogRecord.val, StPageRecord.val, BS.v, FR.v] at g0
   obtain ⟨eb, heb⟩ : ∃ x, recBd y.dat = x := ⟨_, rfl⟩
   rw [heb] at g0 HW HDY
   have HW0 := (show Hid (IsB eb) from HW.out rfl)
   have HDZ := (show Hid (decD bs = if eb = bs then (true, y.dat) else (false, zeroR)) from by have h := HDY.out; simp only [true_and] at h; exact h)
   clear HW HDY
   have HEB := hid heb
   clear heb HG HFD HFE
   go_wp2_with fail
   refine g0.mono ?_
   rintro e w7 ⟨a7, c7, rfl, hf7, ho7, hk7⟩
   have HK7 := hid (HK6.out.trans hk7)
   have HO7 := hid ho7
   generalize Value.slice a7 eb.length c7 = V7 at HO7 ⊢
   clear g0 hf7 ho7 hk7 q0 q1 q2 q3 q4 q5 q6 q7 q8 q9 q10 q11 q12 q13
   go_wp2_with fail
   refine (l1Same_any _ _ eb bs _ HW0.out hB HO7.out.rd (HV5.out _ HK7.out)).mono ?_
   rintro e w8 ⟨rfl, hk8⟩
   have HK8 := hid (HK7.out.trans hk8)
   clear hk8
   by_cases he : eb = bs
   ·have hd : decide (eb = bs) = true := decide_eq_true he
    rw [hd]
    have HBW := (show Hid (Blk w8 R 50 [.int .i64 y.kind, .int .i64 y.txn, .int .i64 y.prev, .int .i64 y.page, .int .i64 y.slot, .bool y.before.used, .slice y.before.data.a y.before.data.bs.length y.before.data.c, .bool y.after.used, .slice y.after.data.a y.after.data.bs.length y.after.data.c, .int .i64 y.uN, .int .i64 y.nT, .slice y.txns.a y.txns.n y.txns.c, .slice y.dirty.a y.dirty.n y.dirty.c, .slice y.image.a y.image.bs.length y.image.c]) from HBX.out.same HK8.out)
    obtain ⟨q0, q1, q2, q3, q4, q5, q6, q7, q8, q9, q10, q11, q12, q13⟩ := HBW.out.all14
    have hR8 := HBW.out.lt
    have BZ := (show Blk w8 Z 79 [.bool false, .int .i64 0, .int .i64 0, .int .i64 0, .int .i64 0, .int .i64 0, .bool false, .slice none 0 0, .bool false, .slice none 0 0, .int .i64 0, .int .i64 0, .slice none 0 0, .slice none 0 0, .slice none 0 0] from HZX.out.same HK8.out)
    have fz := BZ.frozen
    have hZ9 := BZ.lt
    have z0 := BZ.cell 0
    have z1 := BZ.cell 1
    have z2 := BZ.cell 2
    have z3 := BZ.cell 3
    have z4 := BZ.cell 4
    have z5 := BZ.cell 5
    have z6 := BZ.cell 6
    have z7 := BZ.cell 7
    have z8 := BZ.cell 8
    have z9 := BZ.cell 9
    have z10 := BZ.cell 10
    have z11 := BZ.cell 11
    have z12 := BZ.cell 12
    have z13 := BZ.cell 13
    have z14 := BZ.cell 14
    simp only [List.getElem?_cons_zero, List.getElem?_cons_succ] at z0 z1 z2 z3 z4 z5 z6 z7 z8 z9 z10 z11 z12 z13 z14
    have HBZ := hid BZ
    clear BZ
    have HS9 := (show Hid (Kept (fun b => b = Z) w8 (((((((((((((((w8.setCell ⟨Z, 0, none⟩ (.bool true)).setCell ⟨Z, 1, none⟩ (.int .i64 y.kind)).setCell ⟨Z, 2, none⟩ (.int .i64 y.txn)).setCell ⟨Z, 3, none⟩ (.int .i64 y.prev)).setCell ⟨Z, 4, none⟩ (.int .i64 y.page)).setCell ⟨Z, 5, none⟩ (.int .i64 y.slot)).setCell ⟨Z, 6, none⟩ (.bool y.before.used)).setCell ⟨Z, 7, none⟩ (.slice y.before.data.a y.before.data.bs.length y.before.data.c)).setCell ⟨Z, 8, none⟩ (.bool y.after.used)).setCell ⟨Z, 9, none⟩ (.slice y.after.data.a y.after.data.bs.length y.after.data.c)).setCell ⟨Z, 10, none⟩ (.int .i64 y.uN)).setCell ⟨Z, 11, none⟩ (.int .i64 y.nT)).setCell ⟨Z, 12, none⟩ (.slice y.txns.a y.txns.n y.txns.c)).setCell ⟨Z, 13, none⟩ (.slice y.dirty.a y.dirty.n y.dirty.c)).setCell ⟨Z, 14, none⟩ (.slice y.image.a y.image.bs.length y.image.c))) from (((((((((((((((Kept.refl (fun b => b = Z) w8).setCell (p := ⟨Z, 0, none⟩) (.inr rfl) _).setCell (p := ⟨Z, 1, none⟩) (.inr rfl) _).setCell (p := ⟨Z, 2, none⟩) (.inr rfl) _).setCell (p := ⟨Z, 3, none⟩) (.inr rfl) _).setCell (p := ⟨Z, 4, none⟩) (.inr rfl) _).setCell (p := ⟨Z, 5, none⟩) (.inr rfl) _).setCell (p := ⟨Z, 6, none⟩) (.inr rfl) _).setCell (p := ⟨Z, 7, none⟩) (.inr rfl) _).setCell (p := ⟨Z, 8, none⟩) (.inr rfl) _).setCell (p := ⟨Z, 9, none⟩) (.inr rfl) _).setCell (p := ⟨Z, 10, none⟩) (.inr rfl) _).setCell (p := ⟨Z, 11, none⟩) (.inr rfl) _).setCell (p := ⟨Z, 12, none⟩) (.inr rfl) _).setCell (p := ⟨Z, 13, none⟩) (.inr rfl) _).setCell (p := ⟨Z, 14, none⟩) (.inr rfl) _)
    have HOW := hid ((HD.out.own.same HK8.out).kept HS9.out (fun b hb e => (HD.out.foot b hb).2.2.2 e))
    have HDE := hid he
    clear HBZ HZX HBX HBW HBY he hd
    go_wp2
    refine bodyPost_ret (v := .agg #[.bool true, .int .i64 y.kind, .int .i64 y.txn, .int .i64 y.prev, .int .i64 y.page, .int .i64 y.slot, .bool y.before.used, .slice y.before.data.a y.before.data.bs.length y.before.data.c, .bool y.after.used, .slice y.after.data.a y.after.data.bs.length y.after.data.c, .int .i64 y.uN, .int .i64 y.nT, .slice y.txns.a y.txns.n y.txns.c, .slice y.dirty.a y.dirty.n y.dirty.c, .slice y.image.a y.image.bs.length y.image.c]) (by simp [results, Tryz.results41, go_sem, z0, z1, z2, z3, z4, z5, z6, z7, z8, z9, z10, z11, z12, z13, z14]) rfl ⟨⟨true, y⟩, rfl, ?_, fun b hb => (HD.out.foot b hb).1, HOW.out, ?_⟩
    ·rw [HDZ.out, if_pos HDE.out]; rfl
    ·exact (HD.out.kept.trans HK8.out).next HS9.out (fun i hi e => by omega)
   ·have hd : decide (eb = bs) = false := decide_eq_false he
    rw [hd]
    have HDE := hid he
    clear he hd
    have BZ := (show Blk w8 Z 79 [.bool false, .int .i64 0, .int .i64 0, .int .i64 0, .int .i64 0, .int .i64 0, .bool false, .slice none 0 0, .bool false, .slice none 0 0, .int .i64 0, .int .i64 0, .slice none 0 0, .slice none 0 0, .slice none 0 0] from HZX.out.same HK8.out)
    have fz := BZ.frozen
    have hZ9 := BZ.lt
    have z0 := BZ.cell 0
    have z1 := BZ.cell 1
    have z2 := BZ.cell 2
    have z3 := BZ.cell 3
    have z4 := BZ.cell 4
    have z5 := BZ.cell 5
    have z6 := BZ.cell 6
    have z7 := BZ.cell 7
    have z8 := BZ.cell 8
    have z9 := BZ.cell 9
    have z10 := BZ.cell 10
    have z11 := BZ.cell 11
    have z12 := BZ.cell 12
    have z13 := BZ.cell 13
    have z14 := BZ.cell 14
    simp only [List.getElem?_cons_zero, List.getElem?_cons_succ] at z0 z1 z2 z3 z4 z5 z6 z7 z8 z9 z10 z11 z12 z13 z14
    have HBZ := hid BZ
    clear BZ
    have HS9 := (show Hid (Kept (fun b => b = Z) w8 (((((((((((((((w8.setCell ⟨Z, 0, none⟩ (.bool false)).setCell ⟨Z, 1, none⟩ (.int .i64 0)).setCell ⟨Z, 2, none⟩ (.int .i64 0)).setCell ⟨Z, 3, none⟩ (.int .i64 0)).setCell ⟨Z, 4, none⟩ (.int .i64 0)).setCell ⟨Z, 5, none⟩ (.int .i64 0)).setCell ⟨Z, 6, none⟩ (.bool false)).setCell ⟨Z, 7, none⟩ (.slice none 0 0)).setCell ⟨Z, 8, none⟩ (.bool false)).setCell ⟨Z, 9, none⟩ (.slice none 0 0)).setCell ⟨Z, 10, none⟩ (.int .i64 0)).setCell ⟨Z, 11, none⟩ (.int .i64 0)).setCell ⟨Z, 12, none⟩ (.slice none 0 0)).setCell ⟨Z, 13, none⟩ (.slice none 0 0)).setCell ⟨Z, 14, none⟩ (.slice none 0 0))) from (((((((((((((((Kept.refl (fun b => b = Z) w8).setCell (p := ⟨Z, 0, none⟩) (.inr rfl) _).setCell (p := ⟨Z, 1, none⟩) (.inr rfl) _).setCell (p := ⟨Z, 2, none⟩) (.inr rfl) _).setCell (p := ⟨Z, 3, none⟩) (.inr rfl) _).setCell (p := ⟨Z, 4, none⟩) (.inr rfl) _).setCell (p := ⟨Z, 5, none⟩) (.inr rfl) _).setCell (p := ⟨Z, 6, none⟩) (.inr rfl) _).setCell (p := ⟨Z, 7, none⟩) (.inr rfl) _).setCell (p := ⟨Z, 8, none⟩) (.inr rfl) _).setCell (p := ⟨Z, 9, none⟩) (.inr rfl) _).setCell (p := ⟨Z, 10, none⟩) (.inr rfl) _).setCell (p := ⟨Z, 11, none⟩) (.inr rfl) _).setCell (p := ⟨Z, 12, none⟩) (.inr rfl) _).setCell (p := ⟨Z, 13, none⟩) (.inr rfl) _).setCell (p := ⟨Z, 14, none⟩) (.inr rfl) _)
    clear HBZ HZX HBX
    go_wp2
    refine bodyPost_ret (v := .agg #[.bool false, .int .i64 0, .int .i64 0, .int .i64 0, .int .i64 0, .int .i64 0, .bool false, .slice none 0 0, .bool false, .slice none 0 0, .int .i64 0, .int .i64 0, .slice none 0 0, .slice none 0 0, .slice none 0 0]) (by simp [results, Tryz.results41, go_sem, z0, z1, z2, z3, z4, z5, z6, z7, z8, z9, z10, z11, z12, z13, z14]) rfl ⟨⟨false, rec0 0 0 0⟩, rfl, ?_, fun b hb => (foot_rec0 hb).elim, own_rec0 0 0 0 _, ?_⟩
    ·rw [HDZ.out, if_neg (by exact HDE.out)]; rfl
    ·first
     | exact (HD.out.kept.trans HK8.out).next HS9.out (fun i hi e => by omega)
     | exact HD.out.kept.trans HK8.out
  ·have hz' : (F != 0) = true := bne_iff_ne.2 hz
   have HNZ := hid hz
   clear hz HG HFD HW
   have BZ := (show Blk w6 Z 79 [.bool false, .int .i64 0, .int .i64 0, .int .i64 0, .int .i64 0, .int .i64 0, .bool false, .slice none 0 0, .bool false, .slice none 0 0, .int .i64 0, .int .i64 0, .slice none 0 0, .slice none 0 0, .slice none 0 0] from HZX.out.same HK6.out)
   have fz := BZ.frozen
   have hZ9 := BZ.lt
   have z0 := BZ.cell 0
   have z1 := BZ.cell 1
   have z2 := BZ.cell 2
   have z3 := BZ.cell 3
   have z4 := BZ.cell 4
   have z5 := BZ.cell 5
   have z6 := BZ.cell 6
   have z7 := BZ.cell 7
   have z8 := BZ.cell 8
   have z9 := BZ.cell 9
   have z10 := BZ.cell 10
   have z11 := BZ.cell 11
   have z12 := BZ.cell 12
   have z13 := BZ.cell 13
   have z14 := BZ.cell 14
   simp only [List.getElem?_cons_zero, List.getElem?_cons_succ] at z0 z1 z2 z3 z4 z5 z6 z7 z8 z9 z10 z11 z12 z13 z14
   have HBZ := hid BZ
   clear BZ
   have HS9 := (show Hid (Kept (fun b => b = Z) w6 (((((((((((((((w6.setCell ⟨Z, 0, none⟩ (.bool false)).setCell ⟨Z, 1, none⟩ (.int .i64 0)).setCell ⟨Z, 2, none⟩ (.int .i64 0)).setCell ⟨Z, 3, none⟩ (.int .i64 0)).setCell ⟨Z, 4, none⟩ (.int .i64 0)).setCell ⟨Z, 5, none⟩ (.int .i64 0)).setCell ⟨Z, 6, none⟩ (.bool false)).setCell ⟨Z, 7, none⟩ (.slice none 0 0)).setCell ⟨Z, 8, none⟩ (.bool false)).setCell ⟨Z, 9, none⟩ (.slice none 0 0)).setCell ⟨Z, 10, none⟩ (.int .i64 0)).setCell ⟨Z, 11, none⟩ (.int .i64 0)).setCell ⟨Z, 12, none⟩ (.slice none 0 0)).setCell ⟨Z, 13, none⟩ (.slice none 0 0)).setCell ⟨Z, 14, none⟩ (.slice none 0 0))) from (((((((((((((((Kept.refl (fun b => b = Z) w6).setCell (p := ⟨Z, 0, none⟩) (.inr rfl) _).setCell (p := ⟨Z, 1, none⟩) (.inr rfl) _).setCell (p := ⟨Z, 2, none⟩) (.inr rfl) _).setCell (p := ⟨Z, 3, none⟩) (.inr rfl) _).setCell (p := ⟨Z, 4, none⟩) (.inr rfl) _).setCell (p := ⟨Z, 5, none⟩) (.inr rfl) _).setCell (p := ⟨Z, 6, none⟩) (.inr rfl) _).setCell (p := ⟨Z, 7, none⟩) (.inr rfl) _).setCell (p := ⟨Z, 8, none⟩) (.inr rfl) _).setCell (p := ⟨Z, 9, none⟩) (.inr rfl) _).setCell (p := ⟨Z, 10, none⟩) (.inr rfl) _).setCell (p := ⟨Z, 11, none⟩) (.inr rfl) _).setCell (p := ⟨Z, 12, none⟩) (.inr rfl) _).setCell (p := ⟨Z, 13, none⟩) (.inr rfl) _).setCell (p := ⟨Z, 14, none⟩) (.inr rfl) _)
   clear HBZ HZX HBX
   go_wp2
   refine bodyPost_ret (v := .agg #[.bool false, .int .i64 0, .int .i64 0, .int .i64 0, .int .i64 0, .int .i64 0, .bool false, .slice none 0 0, .bool false, .slice none 0 0, .int .i64 0, .int .i64 0, .slice none 0 0, .slice none 0 0, .slice none 0 0]) (by simp [results, Tryz.results41, go_sem, z0, z1, z2, z3, z4, z5, z6, z7, z8, z9, z10, z11, z12, z13, z14]) rfl ⟨⟨false, rec0 0 0 0⟩, rfl, ?_, fun b hb => (foot_rec0 hb).elim, own_rec0 0 0 0 _, ?_⟩
   ·rw [HDY.out, if_neg (by rintro ⟨h, _⟩; exact HNZ.out h)]; rfl
   ·first
    | exact (HD.out.kept.trans HK6.out).next HS9.out (fun i hi e => by omega)
    | exact HD.out.kept.trans HK6.out
end Go.Proofs.YtaojjcnmififoaaGreat
