import Derived.Test.YtnpoflfhcfkocaaG46
namespace Go.Proofs.Ytnpoflfhcfkocaa
set_option maxRecDepth 100000
set_option maxHeartbeats 16000000
open Go.RowKit
set_option linter.unusedVariables false
set_option linter.unusedSimpArgs false
theorem specUndo_any (x : StLogRecord) (w : World) (hB : x.isB) (hn : x.szs ≤ 1073741824) (hv : StLogRecord.rd w x) : Calls Try.prog 20 #[x.val] w fun e w' => ∃ y : StLogRecord, e = .returned y.val ∧ y.dat = undoFd x.dat ∧ (∀ b, FootL y.rows b → w.heap.size ≤ b) ∧ OwnL w' y.rows ∧ Same w w' := by
  have HF := (show Hid (∀ wx, Same w wx → Calls Try.prog 8 #[x.val] wx fun e w' => e = .returned (.int .i64 (recFd x.dat)) ∧ Same wx w') from fun wx (h : Same w wx) => specRec_any x wx hB hn (StLogRecord.rd.same hv h))
  have hbl : x.before.data.bs.length ≤ 1099511627776 := by have h0 := hn; simp only [StLogRecord.szs, StPageRecord.szs] at h0; omega
  have hrb : Rd .u8 w x.before.data.v x.before.data.bs := hv.1
  clear hB hn hv
  by_cases hy : x.dat.1 = 1 ∧ recFd x.dat = 0
  · obtain ⟨hk1, hz⟩ := hy
    rw [hz] at HF
    rw [undoFd_yes ⟨hk1, hz⟩]
    clear hz
    obtain ⟨kind, txn, prev, page, slot, ⟨bU, ⟨bDe, bDa, bDc, bDb⟩⟩, ⟨aU, ⟨aDe, aDa, aDc, aDb⟩⟩, uN, nT, ⟨txns_e, txns_a, txns_n, txns_c, txns_b⟩, ⟨dirty_e, dirty_a, dirty_n, dirty_c, dirty_b⟩, ⟨image_e, image_a, image_c, image_b⟩⟩ := x
    replace hk1 : kind = 1 := hk1
    subst hk1
    dsimp only [StLogRecord.val, StPageRecord.val, BS.v, FR.v, StLogRecord.dat, StPageRecord.dat] at HF hrb ⊢
    have HRB := hid hrb
    clear hrb
    dsimp only at hbl
    obtain ⟨HK0, HA0, HB0⟩ := new2 w [.int .i64 1, .int .i64 txn, .int .i64 prev, .int .i64 page, .int .i64 slot, .bool bU, .slice bDa bDb.length bDc, .bool aU, .slice aDa aDb.length aDc, .int .i64 uN, .int .i64 nT, .slice txns_a txns_n txns_c, .slice dirty_a dirty_n dirty_c, .slice image_a image_b.length image_c] 35 [.int .i64 0, .int .i64 0, .int .i64 0, .int .i64 0, .int .i64 0, .bool false, .slice none 0 0, .bool false, .slice none 0 0, .int .i64 0, .int .i64 0, .slice none 0 0, .slice none 0 0, .slice none 0 0] 35
    have A0 := HA0.out
    have B0 := HB0.out
    clear HA0 HB0
    go_enter Try.func20, Try.ntmps20
    go_wp2_with fail
    refine (HF.out _ HK0.out).mono ?_
    rintro e w1 ⟨rfl, hk1⟩
    have HK1 := hid (HK0.out.trans hk1)
    have A1 := A0.same hk1
    have B1 := B0.same hk1
    have hz1 := hk1.size
    simp only [World.size_alloc] at hz1
    clear hk1 HF
    have d1_0 := A1.c0
    have d1_1 := A1.c1
    have d1_2 := A1.c2
    have d1_3 := A1.c3
    have d1_4 := A1.c4
    have d1_5 := A1.c5
    have d1_6 := A1.c6
    have d1_7 := A1.c7
    have d1_8 := A1.c8
    have d1_9 := A1.c9
    have d1_10 := A1.c10
    have d1_11 := A1.c11
    have d1_12 := A1.c12
    have d1_13 := A1.c13
    go_wp2_with fail
    have hS : ((fun wx : World => wx.cell? ⟨w.heap.size, 1, none⟩ = some (.int .i64 txn) ∧ wx.cell? ⟨w.heap.size, 2, none⟩ = some (.int .i64 prev) ∧ wx.cell? ⟨w.heap.size, 3, none⟩ = some (.int .i64 page) ∧ wx.cell? ⟨w.heap.size, 4, none⟩ = some (.int .i64 slot) ∧ wx.cell? ⟨w.heap.size, 5, none⟩ = some (.bool bU) ∧ wx.cell? ⟨w.heap.size, 6, none⟩ = some (.slice bDa bDb.length bDc))) w1.drew := by exact ⟨A1.cell 1, A1.cell 2, A1.cell 3, A1.cell 4, A1.cell 5, A1.cell 6⟩
    refine wp_region_V ((fun wx : World => wx.cell? ⟨w.heap.size, 1, none⟩ = some (.int .i64 txn) ∧ wx.cell? ⟨w.heap.size, 2, none⟩ = some (.int .i64 prev) ∧ wx.cell? ⟨w.heap.size, 3, none⟩ = some (.int .i64 page) ∧ wx.cell? ⟨w.heap.size, 4, none⟩ = some (.int .i64 slot) ∧ wx.cell? ⟨w.heap.size, 5, none⟩ = some (.bool bU) ∧ wx.cell? ⟨w.heap.size, 6, none⟩ = some (.slice bDa bDb.length bDc))) 12 13 rfl (by kernel_rfl) ?_
    refine tk 0 12 hS ?_
    try simp only [Act.put, sA, s0, sS]
    refine tk 1 13 hS ?_
    try simp only [Act.put, sA, s0, sS]
    refine tk 2 14 hS ?_
    try simp only [Act.put, sA, s0, sS]
    refine tk 3 15 hS ?_
    try simp only [Act.put, sA, s0, sS]
    refine tk 4 16 hS ?_
    try simp only [Act.put, sA, s0, sS]
    refine tk 5 17 hS ?_
    try simp only [Act.put, sA, s0, sS]
    refine tk 6 18 hS ?_
    try simp only [Act.put, sA, s0, sS]
    refine tk 7 19 hS ?_
    try simp only [Act.put, sA, s0, sS]
    refine tk 9 21 hS ?_
    try simp only [Act.put, sA, s0, sS]
    refine tk 10 22 hS ?_
    try simp only [Act.put, sA, s0, sS]
    refine wpAnyV_one (i := 8) (by kernel_rfl) rfl (fun K hK => ?_)
    go_simp
    refine (l4CopySlot_any bU _ bDb _ hbl (HRB.out.same (HK1.out.drew))).mono ?_
    rintro e w2 ⟨a2, n2, c2, rfl, hown, hf, hk2⟩
    obtain rfl := hown.sized'
    have HO2 := (show Hid (Own 0 5 .u8 w2 (.slice a2 bDb.length c2) bDb) from hown)
    have HF2 := (show Hid (∀ b, (Value.slice a2 bDb.length c2).ownBlock = some b → w.heap.size + 2 ≤ b) from fun b hb => by have := hf b hb; simp only [World.size_drew] at this; omega)
    have HK2 := (show Hid (Same w w2) from HK1.out.drew.trans hk2)
    have A2 := A1.drew.same hk2
    have B2 := B1.drew.same hk2
    have db0 := B2.c0
    have db1 := B2.c1
    have db2 := B2.c2
    have db3 := B2.c3
    have db4 := B2.c4
    have db5 := B2.c5
    have db6 := B2.c6
    have db7 := B2.c7
    have db8 := B2.c8
    have db9 := B2.c9
    have db10 := B2.c10
    have db11 := B2.c11
    have db12 := B2.c12
    have db13 := B2.c13
    have fb0 := B2.frozen 0
    have fb1 := B2.frozen 1
    have fb2 := B2.frozen 2
    have fb3 := B2.frozen 3
    have fb4 := B2.frozen 4
    have fb5 := B2.frozen 5
    have fb6 := B2.frozen 6
    have fb7 := B2.frozen 7
    have fb8 := B2.frozen 8
    have fb9 := B2.frozen 9
    have fb10 := B2.frozen 10
    have fb11 := B2.frozen 11
    have fb12 := B2.frozen 12
    have fb13 := B2.frozen 13
    clear hown hf hk2
    have hS : ((fun wx : World => wx.cell? ⟨w.heap.size, 1, none⟩ = some (.int .i64 txn) ∧ wx.cell? ⟨w.heap.size, 2, none⟩ = some (.int .i64 prev) ∧ wx.cell? ⟨w.heap.size, 3, none⟩ = some (.int .i64 page) ∧ wx.cell? ⟨w.heap.size, 4, none⟩ = some (.int .i64 slot) ∧ wx.cell? ⟨w.heap.size, 5, none⟩ = some (.bool bU) ∧ wx.cell? ⟨w.heap.size, 6, none⟩ = some (.slice bDa bDb.length bDc))) w2 := by exact ⟨A2.cell 1, A2.cell 2, A2.cell 3, A2.cell 4, A2.cell 5, A2.cell 6⟩
    refine hK.out _ _ (fun _ => hS) ?_
    clear hK K
    try simp only [Act.put, sA, s0, sS]
    refine tk 11 23 hS ?_
    try simp only [Act.put, sA, s0, sS]
    refine wpAnyV_one (i := 12) (by kernel_rfl) rfl (fun K hK => ?_)
    go_simp
    refine hK.out _ _ (fun h => absurd rfl h) ?_
    clear hK K
    refine wpAnyV_done (by kernel_rfl) ?_
    try simp only [Act.put, sA, s0, sS]
    go_wp2
    refine bodyPost_ret (v := .agg #[.int .i64 2, .int .i64 txn, .int .i64 0, .int .i64 page, .int .i64 slot, .bool false, .slice none 0 0, .bool bU, .slice a2 bDb.length c2, .int .i64 prev, .int .i64 0, .slice none 0 0, .slice none 0 0, .slice none 0 0]) (by simp [results, Try.results20, go_sem, db0, db1, db2, db3, db4, db5, db6, db7, db8, db9, db10, db11, db12, db13]) rfl ⟨⟨2, txn, 0, page, slot, ⟨false, ⟨0, none, 0, []⟩⟩, ⟨bU, ⟨5, a2, c2, bDb⟩⟩, prev, 0, ⟨0, none, 0, 0, []⟩, ⟨0, none, 0, 0, []⟩, ⟨0, none, 0, []⟩⟩, rfl, (by first | rfl | simp), ?_, ?_, ?_⟩
    · intro b hb
      rcases recRows_foot hb with h | h | h
      · simp [Value.ownBlock] at h
      · have := HF2.out b h; omega
      · simp [Value.ownBlock] at h
    · exact recRows_own (Own.nil 0 0 .u8 _) (HO2.out.kept (((((((((((((((Kept.refl (fun b => b = w.heap.size + 1) _).setCell (p := ⟨w.heap.size + 1, 0, none⟩) (.inr rfl) _).setCell (p := ⟨w.heap.size + 1, 1, none⟩) (.inr rfl) _).setCell (p := ⟨w.heap.size + 1, 2, none⟩) (.inr rfl) _).setCell (p := ⟨w.heap.size + 1, 3, none⟩) (.inr rfl) _).setCell (p := ⟨w.heap.size + 1, 4, none⟩) (.inr rfl) _).setCell (p := ⟨w.heap.size + 1, 5, none⟩) (.inr rfl) _).setCell (p := ⟨w.heap.size + 1, 6, none⟩) (.inr rfl) _).setCell (p := ⟨w.heap.size + 1, 7, none⟩) (.inr rfl) _).setCell (p := ⟨w.heap.size + 1, 8, none⟩) (.inr rfl) _).setCell (p := ⟨w.heap.size + 1, 9, none⟩) (.inr rfl) _).setCell (p := ⟨w.heap.size + 1, 10, none⟩) (.inr rfl) _).setCell (p := ⟨w.heap.size + 1, 11, none⟩) (.inr rfl) _).setCell (p := ⟨w.heap.size + 1, 12, none⟩) (.inr rfl) _).setCell (p := ⟨w.heap.size + 1, 13, none⟩) (.inr rfl) _) (fun b hb e => by have := HF2.out b hb; omega)) (Own.nil 0 0 .u8 _) (fun b h => by simp [Value.ownBlock] at h) (fun b h => by simp [Value.ownBlock] at h) (fun b h h2 => by simp [Value.ownBlock] at h2)
    · exact ((((((((((((((HK2.out).setCell (p := ⟨w.heap.size + 1, 0, none⟩) (.inl (Nat.le_add_right _ _)) _).setCell (p := ⟨w.heap.size + 1, 1, none⟩) (.inl (Nat.le_add_right _ _)) _).setCell (p := ⟨w.heap.size + 1, 2, none⟩) (.inl (Nat.le_add_right _ _)) _).setCell (p := ⟨w.heap.size + 1, 3, none⟩) (.inl (Nat.le_add_right _ _)) _).setCell (p := ⟨w.heap.size + 1, 4, none⟩) (.inl (Nat.le_add_right _ _)) _).setCell (p := ⟨w.heap.size + 1, 5, none⟩) (.inl (Nat.le_add_right _ _)) _).setCell (p := ⟨w.heap.size + 1, 6, none⟩) (.inl (Nat.le_add_right _ _)) _).setCell (p := ⟨w.heap.size + 1, 7, none⟩) (.inl (Nat.le_add_right _ _)) _).setCell (p := ⟨w.heap.size + 1, 8, none⟩) (.inl (Nat.le_add_right _ _)) _).setCell (p := ⟨w.heap.size + 1, 9, none⟩) (.inl (Nat.le_add_right _ _)) _).setCell (p := ⟨w.heap.size + 1, 10, none⟩) (.inl (Nat.le_add_right _ _)) _).setCell (p := ⟨w.heap.size + 1, 11, none⟩) (.inl (Nat.le_add_right _ _)) _).setCell (p := ⟨w.heap.size + 1, 12, none⟩) (.inl (Nat.le_add_right _ _)) _).setCell (p := ⟨w.heap.size + 1, 13, none⟩) (.inl (Nat.le_add_right _ _)) _
  · rw [undoFd_no hy]
    have hor : recFd x.dat ≠ 0 ∨ (recFd x.dat = 0 ∧ x.kind ≠ 1) := by by_cases h : recFd x.dat = 0; exact .inr ⟨h, fun e => hy ⟨e, h⟩⟩; exact .inl h
    clear hy hbl hrb
    generalize recFd x.dat = r at *
    obtain ⟨kind, txn, prev, page, slot, ⟨bU, ⟨bDe, bDa, bDc, bDb⟩⟩, ⟨aU, ⟨aDe, aDa, aDc, aDb⟩⟩, uN, nT, ⟨txns_e, txns_a, txns_n, txns_c, txns_b⟩, ⟨dirty_e, dirty_a, dirty_n, dirty_c, dirty_b⟩, ⟨image_e, image_a, image_c, image_b⟩⟩ := x
    dsimp only [StLogRecord.val, StPageRecord.val, BS.v, FR.v] at HF hor ⊢
    obtain ⟨HK0, HA0, HB0⟩ := new2 w [.int .i64 kind, .int .i64 txn, .int .i64 prev, .int .i64 page, .int .i64 slot, .bool bU, .slice bDa bDb.length bDc, .bool aU, .slice aDa aDb.length aDc, .int .i64 uN, .int .i64 nT, .slice txns_a txns_n txns_c, .slice dirty_a dirty_n dirty_c, .slice image_a image_b.length image_c] 35 [.int .i64 0, .int .i64 0, .int .i64 0, .int .i64 0, .int .i64 0, .bool false, .slice none 0 0, .bool false, .slice none 0 0, .int .i64 0, .int .i64 0, .slice none 0 0, .slice none 0 0, .slice none 0 0] 35
    have A0 := HA0.out
    have B0 := HB0.out
    clear HA0 HB0
    rcases hor with hr | ⟨rfl, hkk⟩
    · go_enter Try.func20, Try.ntmps20
      go_wp2_with fail
      refine (HF.out _ HK0.out).mono ?_
      rintro e w1 ⟨rfl, hk1⟩
      have HK1 := hid (HK0.out.trans hk1)
      have B1 := B0.same hk1
      clear hk1 HF
      have db0 := B1.c0
      have db1 := B1.c1
      have db2 := B1.c2
      have db3 := B1.c3
      have db4 := B1.c4
      have db5 := B1.c5
      have db6 := B1.c6
      have db7 := B1.c7
      have db8 := B1.c8
      have db9 := B1.c9
      have db10 := B1.c10
      have db11 := B1.c11
      have db12 := B1.c12
      have db13 := B1.c13
      have fb0 := B1.frozen 0
      have fb1 := B1.frozen 1
      have fb2 := B1.frozen 2
      have fb3 := B1.frozen 3
      have fb4 := B1.frozen 4
      have fb5 := B1.frozen 5
      have fb6 := B1.frozen 6
      have fb7 := B1.frozen 7
      have fb8 := B1.frozen 8
      have fb9 := B1.frozen 9
      have fb10 := B1.frozen 10
      have fb11 := B1.frozen 11
      have fb12 := B1.frozen 12
      have fb13 := B1.frozen 13
      go_wp2
      refine bodyPost_ret (v := .agg #[.int .i64 0, .int .i64 0, .int .i64 0, .int .i64 0, .int .i64 0, .bool false, .slice none 0 0, .bool false, .slice none 0 0, .int .i64 0, .int .i64 0, .slice none 0 0, .slice none 0 0, .slice none 0 0]) (by simp [results, Try.results20, go_sem, db0, db1, db2, db3, db4, db5, db6, db7, db8, db9, db10, db11, db12, db13]) rfl ⟨⟨0, 0, 0, 0, 0, ⟨false, ⟨0, none, 0, []⟩⟩, ⟨false, ⟨0, none, 0, []⟩⟩, 0, 0, ⟨0, none, 0, 0, []⟩, ⟨0, none, 0, 0, []⟩, ⟨0, none, 0, []⟩⟩, rfl, rfl, fun b hb => absurd hb (zeroLR_foot b), zeroLR_own _, ?_⟩
      exact ((((((((((((((HK1.out).setCell (p := ⟨w.heap.size + 1, 0, none⟩) (.inl (Nat.le_add_right _ _)) _).setCell (p := ⟨w.heap.size + 1, 1, none⟩) (.inl (Nat.le_add_right _ _)) _).setCell (p := ⟨w.heap.size + 1, 2, none⟩) (.inl (Nat.le_add_right _ _)) _).setCell (p := ⟨w.heap.size + 1, 3, none⟩) (.inl (Nat.le_add_right _ _)) _).setCell (p := ⟨w.heap.size + 1, 4, none⟩) (.inl (Nat.le_add_right _ _)) _).setCell (p := ⟨w.heap.size + 1, 5, none⟩) (.inl (Nat.le_add_right _ _)) _).setCell (p := ⟨w.heap.size + 1, 6, none⟩) (.inl (Nat.le_add_right _ _)) _).setCell (p := ⟨w.heap.size + 1, 7, none⟩) (.inl (Nat.le_add_right _ _)) _).setCell (p := ⟨w.heap.size + 1, 8, none⟩) (.inl (Nat.le_add_right _ _)) _).setCell (p := ⟨w.heap.size + 1, 9, none⟩) (.inl (Nat.le_add_right _ _)) _).setCell (p := ⟨w.heap.size + 1, 10, none⟩) (.inl (Nat.le_add_right _ _)) _).setCell (p := ⟨w.heap.size + 1, 11, none⟩) (.inl (Nat.le_add_right _ _)) _).setCell (p := ⟨w.heap.size + 1, 12, none⟩) (.inl (Nat.le_add_right _ _)) _).setCell (p := ⟨w.heap.size + 1, 13, none⟩) (.inl (Nat.le_add_right _ _)) _
    · go_enter Try.func20, Try.ntmps20
      go_wp2_with fail
      refine (HF.out _ HK0.out).mono ?_
      rintro e w1 ⟨rfl, hk1⟩
      have HK1 := hid (HK0.out.trans hk1)
      have A1 := A0.same hk1
      have B1 := B0.same hk1
      have da0 := A1.c0
      clear hk1 HF
      have db0 := B1.c0
      have db1 := B1.c1
      have db2 := B1.c2
      have db3 := B1.c3
      have db4 := B1.c4
      have db5 := B1.c5
      have db6 := B1.c6
      have db7 := B1.c7
      have db8 := B1.c8
      have db9 := B1.c9
      have db10 := B1.c10
      have db11 := B1.c11
      have db12 := B1.c12
      have db13 := B1.c13
      have fb0 := B1.frozen 0
      have fb1 := B1.frozen 1
      have fb2 := B1.frozen 2
      have fb3 := B1.frozen 3
      have fb4 := B1.frozen 4
      have fb5 := B1.frozen 5
      have fb6 := B1.frozen 6
      have fb7 := B1.frozen 7
      have fb8 := B1.frozen 8
      have fb9 := B1.frozen 9
      have fb10 := B1.frozen 10
      have fb11 := B1.frozen 11
      have fb12 := B1.frozen 12
      have fb13 := B1.frozen 13
      go_wp2
      refine bodyPost_ret (v := .agg #[.int .i64 0, .int .i64 0, .int .i64 0, .int .i64 0, .int .i64 0, .bool false, .slice none 0 0, .bool false, .slice none 0 0, .int .i64 0, .int .i64 0, .slice none 0 0, .slice none 0 0, .slice none 0 0]) (by simp [results, Try.results20, go_sem, db0, db1, db2, db3, db4, db5, db6, db7, db8, db9, db10, db11, db12, db13]) rfl ⟨⟨0, 0, 0, 0, 0, ⟨false, ⟨0, none, 0, []⟩⟩, ⟨false, ⟨0, none, 0, []⟩⟩, 0, 0, ⟨0, none, 0, 0, []⟩, ⟨0, none, 0, 0, []⟩, ⟨0, none, 0, []⟩⟩, rfl, rfl, fun b hb => absurd hb (zeroLR_foot b), zeroLR_own _, ?_⟩
      exact ((((((((((((((HK1.out).setCell (p := ⟨w.heap.size + 1, 0, none⟩) (.inl (Nat.le_add_right _ _)) _).setCell (p := ⟨w.heap.size + 1, 1, none⟩) (.inl (Nat.le_add_right _ _)) _).setCell (p := ⟨w.heap.size + 1, 2, none⟩) (.inl (Nat.le_add_right _ _)) _).setCell (p := ⟨w.heap.size + 1, 3, none⟩) (.inl (Nat.le_add_right _ _)) _).setCell (p := ⟨w.heap.size + 1, 4, none⟩) (.inl (Nat.le_add_right _ _)) _).setCell (p := ⟨w.heap.size + 1, 5, none⟩) (.inl (Nat.le_add_right _ _)) _).setCell (p := ⟨w.heap.size + 1, 6, none⟩) (.inl (Nat.le_add_right _ _)) _).setCell (p := ⟨w.heap.size + 1, 7, none⟩) (.inl (Nat.le_add_right _ _)) _).setCell (p := ⟨w.heap.size + 1, 8, none⟩) (.inl (Nat.le_add_right _ _)) _).setCell (p := ⟨w.heap.size + 1, 9, none⟩) (.inl (Nat.le_add_right _ _)) _).setCell (p := ⟨w.heap.size + 1, 10, none⟩) (.inl (Nat.le_add_right _ _)) _).setCell (p := ⟨w.heap.size + 1, 11, none⟩) (.inl (Nat.le_add_right _ _)) _).setCell (p := ⟨w.heap.size + 1, 12, none⟩) (.inl (Nat.le_add_right _ _)) _).setCell (p := ⟨w.heap.size + 1, 13, none⟩) (.inl (Nat.le_add_right _ _)) _
end Go.Proofs.Ytnpoflfhcfkocaa
