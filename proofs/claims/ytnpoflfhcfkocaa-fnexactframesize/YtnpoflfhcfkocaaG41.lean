import Derived.Test.YtnpoflfhcfkocaaG39
import Derived.Test.YtnpoflfhcfkocaaG27
import Derived.Test.YtnpoflfhcfkocaaG28
namespace Go.Proofs.Ytnpoflfhcfkocaa
set_option maxRecDepth 100000
set_option maxHeartbeats 4000000
open Go.RowKit
set_option linter.unusedVariables false
set_option linter.unusedSimpArgs false
theorem specFs_any (x : StLogRecord) (w : World) (hB : x.isB) (hn : x.szs ≤ 1073741824) (hv : StLogRecord.rd w x) : Calls Try.prog 18 #[x.val] w fun e w' => e = .returned (.int .i64 (fsFd x.dat)) ∧ Same w w' := by
  have HF := (show Hid (∀ wx, Same w wx → Calls Try.prog 8 #[x.val] wx fun e w' => e = .returned (.int .i64 (recFd x.dat)) ∧ Same wx w') from fun wx (h : Same w wx) => specRec_any x wx hB hn (StLogRecord.rd.same hv h))
  have HE := hid (fun wx (h : Same w wx) => specEnc_any x wx hB hn (StLogRecord.rd.same hv h))
  by_cases hz : recFd x.dat = 0
  · have hl := recBd_length hz
    rw [fsFd_good hz]
    rw [hz] at HF
    rw [encFd_good hz] at HE
    generalize recBd x.dat = R at *
    clear hz hB hn hv
    obtain ⟨kind, txn, prev, page, slot, ⟨bU, ⟨bDe, bDa, bDc, bDb⟩⟩, ⟨aU, ⟨aDe, aDa, aDc, aDb⟩⟩, uN, nT, ⟨txns_e, txns_a, txns_n, txns_c, txns_b⟩, ⟨dirty_e, dirty_a, dirty_n, dirty_c, dirty_b⟩, ⟨image_e, image_a, image_c, image_b⟩⟩ := x
    dsimp only [StLogRecord.val, StPageRecord.val, BS.v, FR.v] at HF HE ⊢
    have b0 := Blk.newL w [.int .i64 kind, .int .i64 txn, .int .i64 prev, .int .i64 page, .int .i64 slot, .bool bU, .slice bDa bDb.length bDc, .bool aU, .slice aDa aDb.length aDc, .int .i64 uN, .int .i64 nT, .slice txns_a txns_n txns_c, .slice dirty_a dirty_n dirty_c, .slice image_a image_b.length image_c] 35
    have HK0 := hid (sameA w [.int .i64 kind, .int .i64 txn, .int .i64 prev, .int .i64 page, .int .i64 slot, .bool bU, .slice bDa bDb.length bDc, .bool aU, .slice aDa aDb.length aDc, .int .i64 uN, .int .i64 nT, .slice txns_a txns_n txns_c, .slice dirty_a dirty_n dirty_c, .slice image_a image_b.length image_c] 35)
    go_enter Try.func18, Try.ntmps18
    go_wp2_with fail
    refine (HF.out _ HK0.out).mono ?_
    rintro e w1 ⟨rfl, hk1⟩
    have HK1 := hid (HK0.out.trans hk1)
    have b1 := b0.same hk1
    clear hk1
    have db1_0 := b1.c0
    have db1_1 := b1.c1
    have db1_2 := b1.c2
    have db1_3 := b1.c3
    have db1_4 := b1.c4
    have db1_5 := b1.c5
    have db1_6 := b1.c6
    have db1_7 := b1.c7
    have db1_8 := b1.c8
    have db1_9 := b1.c9
    have db1_10 := b1.c10
    have db1_11 := b1.c11
    have db1_12 := b1.c12
    have db1_13 := b1.c13
    go_wp2_with fail
    refine (HE.out _ HK1.out).mono ?_
    rintro e w2 ⟨a2, c2, rfl, hf2, ho2, hk2⟩
    have HK2 := hid (HK1.out.trans hk2)
    clear hk2 hf2 ho2
    go_wp2
    go_ret
    exact ⟨rfl, HK2.out⟩
  · rw [fsFd_bad hz]
    generalize recFd x.dat = r at *
    clear hB hn hv HE
    obtain ⟨kind, txn, prev, page, slot, ⟨bU, ⟨bDe, bDa, bDc, bDb⟩⟩, ⟨aU, ⟨aDe, aDa, aDc, aDb⟩⟩, uN, nT, ⟨txns_e, txns_a, txns_n, txns_c, txns_b⟩, ⟨dirty_e, dirty_a, dirty_n, dirty_c, dirty_b⟩, ⟨image_e, image_a, image_c, image_b⟩⟩ := x
    dsimp only [StLogRecord.val, StPageRecord.val, BS.v, FR.v] at HF ⊢
    have HK0 := hid (sameA w [.int .i64 kind, .int .i64 txn, .int .i64 prev, .int .i64 page, .int .i64 slot, .bool bU, .slice bDa bDb.length bDc, .bool aU, .slice aDa aDb.length aDc, .int .i64 uN, .int .i64 nT, .slice txns_a txns_n txns_c, .slice dirty_a dirty_n dirty_c, .slice image_a image_b.length image_c] 35)
    go_enter Try.func18, Try.ntmps18
    go_wp2_with fail
    refine (HF.out _ HK0.out).mono ?_
    rintro e w1 ⟨rfl, hk1⟩
    have HK1 := hid (HK0.out.trans hk1)
    clear hk1
    go_wp2
    go_ret
    exact ⟨rfl, HK1.out⟩
theorem implFs_any (x : StLogRecord) (w : World) (hB : x.isB) (hn : x.szs ≤ 1073741824) (hv : StLogRecord.rd w x) : Calls Try.prog 19 #[x.val] w fun e w' => e = .returned (.int .i64 (fsFd x.dat)) ∧ Same w w' := by
  have HE := hid (fun wx (h : Same w wx) => implEnc_any x wx hB hn (StLogRecord.rd.same hv h))
  have hR : ((encFd x.dat).length = 0 ∧ fsFd x.dat = 0) ∨ (1 ≤ (encFd x.dat).length ∧ (encFd x.dat).length ≤ 5000 ∧ fsFd x.dat = 20 + ((encFd x.dat).length : Int)) := by
    by_cases hz : recFd x.dat = 0
    · have hl := recBd_length hz
      rw [fsFd_good hz, encFd_good hz]
      exact .inr ⟨hl.1, hl.2, rfl⟩
    · rw [fsFd_bad hz, encFd_bad hz]
      exact .inl ⟨rfl, rfl⟩
  generalize encFd x.dat = R at *
  generalize fsFd x.dat = F at *
  clear hB hn hv
  obtain ⟨kind, txn, prev, page, slot, ⟨bU, ⟨bDe, bDa, bDc, bDb⟩⟩, ⟨aU, ⟨aDe, aDa, aDc, aDb⟩⟩, uN, nT, ⟨txns_e, txns_a, txns_n, txns_c, txns_b⟩, ⟨dirty_e, dirty_a, dirty_n, dirty_c, dirty_b⟩, ⟨image_e, image_a, image_c, image_b⟩⟩ := x
  dsimp only [StLogRecord.val, StPageRecord.val, BS.v, FR.v] at HE ⊢
  have HK0 := hid (sameA w [.int .i64 kind, .int .i64 txn, .int .i64 prev, .int .i64 page, .int .i64 slot, .bool bU, .slice bDa bDb.length bDc, .bool aU, .slice aDa aDb.length aDc, .int .i64 uN, .int .i64 nT, .slice txns_a txns_n txns_c, .slice dirty_a dirty_n dirty_c, .slice image_a image_b.length image_c] 35)
  rcases hR with ⟨hl, rfl⟩ | ⟨hl, hl2, rfl⟩
  · go_enter Try.func19, Try.ntmps19
    go_wp2_with fail
    refine (HE.out _ HK0.out).mono ?_
    rintro e w2 ⟨a2, c2, rfl, hf2, ho2, hk2⟩
    have HK2 := hid (HK0.out.trans hk2)
    clear hk2 hf2 ho2
    rw [hl]
    go_wp2
    go_ret
    exact ⟨rfl, HK2.out⟩
  · go_enter Try.func19, Try.ntmps19
    go_wp2_with fail
    refine (HE.out _ HK0.out).mono ?_
    rintro e w2 ⟨a2, c2, rfl, hf2, ho2, hk2⟩
    have HK2 := hid (HK0.out.trans hk2)
    clear hk2 hf2 ho2
    go_wp2
    go_ret
    exact ⟨rfl, HK2.out⟩
end Go.Proofs.Ytnpoflfhcfkocaa


