import Derived.Test.YtnpoflfhcfkocaaGreatG37
import Derived.Test.YtnpoflfhcfkocaaGreatG10
import Derived.Test.YtnpoflfhcfkocaaGreatG01
import Derived.Test.YtnpoflfhcfkocaaGreatTyLogRecord
import Derived.Test.YtnpoflfhcfkocaaGreatG27
namespace Go.Proofs.YtnpoflfhcfkocaaGreat
set_option maxRecDepth 100000
set_option maxHeartbeats 16000000
open Go.RowKit
set_option linter.unusedVariables false
set_option linter.unusedSimpArgs false
theorem implFrame_any (lsn ep : Int) (x : StLogRecord) (w : World) (hL : IsI lsn) (hE : IsI ep) (hB : x.isB) (hn : x.szs ≤ 1073741824) (hv : StLogRecord.rd w x) : Calls Tryz.prog 8 #[.int .i64 lsn, .int .i64 ep, x.val] w fun e w' => ∃ a c, e = .returned (.slice a (frFd lsn ep x.dat).length c) ∧ (∀ b, (Value.slice a (frFd lsn ep x.dat).length c).ownBlock = some b → w.heap.size ≤ b) ∧ Own 0 5 .u8 w' (.slice a (frFd lsn ep x.dat).length c) (frFd lsn ep x.dat) ∧ Same w w' := by
  have HE := hid (fun wx (h : Same w wx) => implEnc_any x wx hB hn (StLogRecord.rd.same hv h))
  by_cases hy : recFd x.dat = 0 ∧ (1 ≤ lsn ∧ lsn ≤ 1099511627776) ∧ (1 ≤ ep ∧ ep ≤ 4294967295)
  · obtain ⟨hRa, hRb⟩ := recBd_length hy.1
    have hRB := recBd_isB hB hy.1
    rw [frFd_yes hy]
    rw [encFd_good hy.1] at HE
    have hy2 := hy.2
    clear hy hB hn hv
    generalize recBd x.dat = R at *
    obtain ⟨kind, txn, prev, page, slot, ⟨bU, ⟨bDe, bDa, bDc, bDb⟩⟩, ⟨aU, ⟨aDe, aDa, aDc, aDb⟩⟩, uN, nT, ⟨tXe, tXa, tXn, tXc, tXb⟩, ⟨dYe, dYa, dYn, dYc, dYb⟩, ⟨iMe, iMa, iMc, iMb⟩⟩ := x
    dsimp only [StLogRecord.val, StPageRecord.val, BS.v, FR.v] at HE ⊢
    obtain ⟨⟨hl1, hl2⟩, he1, he2⟩ := hy2
    obtain ⟨i0, hi, hz0, hz1, hz2⟩ := info_parts Tryz.infoByte'
    have HK0 := hid (sameA w [.int .i64 kind, .int .i64 txn, .int .i64 prev, .int .i64 page, .int .i64 slot, .bool bU, .slice bDa bDb.length bDc, .bool aU, .slice aDa aDb.length aDc, .int .i64 uN, .int .i64 nT, .slice tXa tXn tXc, .slice dYa dYn dYc, .slice iMa iMb.length iMc] 35)
    have HSB := hid (sumB_isB (lsn := lsn) (ep := ep) hRB)
    have hsl := sumB_length lsn ep R
    have hcr := crcOn_le 0 (sumB lsn ep R) (by omega) (by omega) HSB.out
    have hsm : sumB lsn ep R = (lows lsn 8 ++ lows ep 4) ++ R := by unfold sumB; rw [show numB lsn 8 = lows lsn 8 from numB_lows (n := 8) (by omega) (by omega) (by omega), show numB ep 4 = lows ep 4 from numB_lows (n := 4) (by omega) (by omega) (by omega)]
    have HSM := hid hsm
    clear hsm
    obtain ⟨N, hN⟩ : ∃ N : Nat, N = 20 + R.length := ⟨_, rfl⟩
    have hNI : (20 : Int) + (R.length : Int) = (N : Int) := by omega
    have hR0 : ¬ (R.length : Int) = 0 := by omega
    have hNb : N ≤ 5020 := by omega
    have hNa : 21 ≤ N := by omega
    have hfr : frB lsn ep R = lows (N : Int) 4 ++ (lows (crcOn 0 (sumB lsn ep R)) 4 ++ (lows lsn 8 ++ (lows ep 4 ++ R))) := by unfold frB; rw [HSM.out, hNI, show numB (N : Int) 4 = lows (N : Int) 4 from numB_lows (n := 4) (by omega) (by omega) (by omega), show numB (crcOn 0 ((lows lsn 8 ++ lows ep 4) ++ R)) 4 = lows (crcOn 0 ((lows lsn 8 ++ lows ep 4) ++ R)) 4 from numB_lows (n := 4) (by omega) (by rw [← HSM.out]; omega) (by rw [← HSM.out]; omega), ← HSM.out]; rw [show sumB lsn ep R = (lows lsn 8 ++ lows ep 4) ++ R from HSM.out]; simp only [List.append_assoc]
    have HFR := hid hfr
    clear hfr
    have HN := hid hN
    have HNI := hid hNI
    clear hN hNI
    have q1 : ((R.length : Int) == 0) = false := by rw [beq_eq_false_iff_ne]; exact hR0
    have q2 : decide (lsn < 1) = false := decide_eq_false (by omega)
    have q3 : decide (1099511627776 < lsn) = false := decide_eq_false (by omega)
    have q4 : decide (ep < 1) = false := decide_eq_false (by omega)
    have q5 : decide (4294967295 < ep) = false := decide_eq_false (by omega)
    go_enter Tryz.func8, Tryz.ntmps8
    go_wp2_with fail
    refine (HE.out _ HK0.out).mono ?_
    rintro e w1 ⟨a1, c1, rfl, hf, ho, hk⟩
    have HK1 := hid (HK0.out.trans hk)
    have HO1 := (show Hid (Own 0 5 .u8 w1 (.slice a1 R.length c1) (R)) from ho)
    clear hf ho hk
    obtain ⟨g1, cap1, hv1, _, hg1, _, _⟩ := HO1.out.form.resolve_left (fun h => by have := h.2; rw [this] at hR0; simp at hR0)
    injection hv1 with ea en ec
    subst ea
    subst ec
    go_wp2_with (at_make; go_loud (refine wpList_make_full _ rfl (.tmp 32) (.tmp 32) 22 rfl 0 5 i0 (.int .u8 0) 1 Tryz.underlying22 hi hz0 hz1 .i64 .i64 _ _ N rfl rfl (by exact HNI.out) (by exact HNI.out) (by rw [hz2]; omega) (by unfold maxLen; omega) (Nat.zero_le _) ?_); intro w2 hown hgrow; have HO2 := (show Hid (Own 0 5 .u8 w2 (.slice (some ⟨w1.heap.size, 0, none⟩) N N) (List.replicate N (0 : Int))) from own_made (by simpa using hown)); have HS2 := (show Hid (Same w1 w2) from Kept.of_grown hgrow (fun k e => by cases e)); clear hown hgrow)
    have HB2 := (show Hid (Blk w2 w1.heap.size 5 (vals .u8 (List.replicate 4 (0 : Int) ++ (List.replicate 4 (0 : Int) ++ (List.replicate 8 (0 : Int) ++ (List.replicate 4 (0 : Int) ++ List.replicate R.length (0 : Int))))))) from (by have h := Own.blk HO2.out; rw [HN.out, show List.replicate (20 + R.length) (0 : Int) = List.replicate 4 (0 : Int) ++ (List.replicate 4 (0 : Int) ++ (List.replicate 8 (0 : Int) ++ (List.replicate 4 (0 : Int) ++ List.replicate R.length (0 : Int)))) from by simp only [List.replicate_append_replicate]; congr 1; omega] at h; exact h))
    have HK2 := (show Hid (Same w w2) from HK1.out.trans HS2.out)
    have HQ2 := (show Hid (Kept (fun b => b = w1.heap.size) w1 w2) from HS2.out.mono (fun _ _ e => absurd e id))
    clear HO2 HS2
    have hN4 : (4 : Int) ≤ (N : Int) := by omega
    have hne4 : ¬ N = 4 := by omega
    have hne8 : ¬ N = 8 := by omega
    have hN8 : (8 : Int) ≤ (N : Int) := by omega
    have hN16 : (16 : Int) ≤ (N : Int) := by omega
    have hN20 : (20 : Int) ≤ (N : Int) := by omega
    go_wp2_with fail
    refine (writeNumber_any w1.heap.size 0 4 N 5 _ ((N : Int)) _ HB2.out (by rw [vals_length]; simp [lows_length]; try omega) (by omega) (by omega) (by omega)).mono ?_
    rintro e w3 ⟨rfl, hb, hk⟩
    have HB3 := (show Hid (Blk w3 w1.heap.size 5 (vals .u8 (lows (N : Int) 4 ++ (List.replicate 4 (0 : Int) ++ (List.replicate 8 (0 : Int) ++ (List.replicate 4 (0 : Int) ++ List.replicate R.length (0 : Int))))))) from (by have h := hb; rw [show List.replicate 4 (0 : Int) ++ (List.replicate 4 (0 : Int) ++ (List.replicate 8 (0 : Int) ++ (List.replicate 4 (0 : Int) ++ List.replicate R.length (0 : Int)))) = ([]) ++ ((List.replicate 4 (0 : Int)) ++ (List.replicate 4 (0 : Int) ++ (List.replicate 8 (0 : Int) ++ (List.replicate 4 (0 : Int) ++ List.replicate R.length (0 : Int))))) from by simp only [List.append_assoc, List.nil_append, List.append_nil], layV _ ([]) (List.replicate 4 (0 : Int)) (List.replicate 4 (0 : Int) ++ (List.replicate 8 (0 : Int) ++ (List.replicate 4 (0 : Int) ++ List.replicate R.length (0 : Int)))) (lows (N : Int) 4) 0 (by simp [lows_length]) (by simp [lows_length])] at h; rw [show lows (N : Int) 4 ++ (List.replicate 4 (0 : Int) ++ (List.replicate 8 (0 : Int) ++ (List.replicate 4 (0 : Int) ++ List.replicate R.length (0 : Int)))) = ([]) ++ ((lows (N : Int) 4) ++ (List.replicate 4 (0 : Int) ++ (List.replicate 8 (0 : Int) ++ (List.replicate 4 (0 : Int) ++ List.replicate R.length (0 : Int))))) from by simp only [List.append_assoc, List.nil_append, List.append_nil]]; exact h))
    have HK3 := (show Hid (Same w w3) from HK2.out.next hk (fun i hi e => by have := HK1.out.size; omega))
    have HQ3 := (show Hid (Kept (fun b => b = w1.heap.size) w1 w3) from HQ2.out.next hk (fun i hi e => e))
    clear hb hk
    go_wp2_with fail
    refine (writeNumber_any w1.heap.size 8 8 (N - 8) 5 _ (lsn) _ HB3.out (by rw [vals_length]; simp [lows_length]; try omega) (by omega) (by omega) (by omega)).mono ?_
    rintro e w4 ⟨rfl, hb, hk⟩
    have HB4 := (show Hid (Blk w4 w1.heap.size 5 (vals .u8 (lows (N : Int) 4 ++ (List.replicate 4 (0 : Int) ++ (lows lsn 8 ++ (List.replicate 4 (0 : Int) ++ List.replicate R.length (0 : Int))))))) from (by have h := hb; rw [show lows (N : Int) 4 ++ (List.replicate 4 (0 : Int) ++ (List.replicate 8 (0 : Int) ++ (List.replicate 4 (0 : Int) ++ List.replicate R.length (0 : Int)))) = (lows (N : Int) 4 ++ List.replicate 4 (0 : Int)) ++ ((List.replicate 8 (0 : Int)) ++ (List.replicate 4 (0 : Int) ++ List.replicate R.length (0 : Int))) from by simp only [List.append_assoc, List.nil_append, List.append_nil], layV _ (lows (N : Int) 4 ++ List.replicate 4 (0 : Int)) (List.replicate 8 (0 : Int)) (List.replicate 4 (0 : Int) ++ List.replicate R.length (0 : Int)) (lows lsn 8) 8 (by simp [lows_length]) (by simp [lows_length])] at h; rw [show lows (N : Int) 4 ++ (List.replicate 4 (0 : Int) ++ (lows lsn 8 ++ (List.replicate 4 (0 : Int) ++ List.replicate R.length (0 : Int)))) = (lows (N : Int) 4 ++ List.replicate 4 (0 : Int)) ++ ((lows lsn 8) ++ (List.replicate 4 (0 : Int) ++ List.replicate R.length (0 : Int))) from by simp only [List.append_assoc, List.nil_append, List.append_nil]]; exact h))
    have HK4 := (show Hid (Same w w4) from HK3.out.next hk (fun i hi e => by have := HK1.out.size; omega))
    have HQ4 := (show Hid (Kept (fun b => b = w1.heap.size) w1 w4) from HQ3.out.next hk (fun i hi e => e))
    clear hb hk
    go_wp2_with fail
    refine (writeNumber_any w1.heap.size 16 4 (N - 16) 5 _ (ep) _ HB4.out (by rw [vals_length]; simp [lows_length]; try omega) (by omega) (by omega) (by omega)).mono ?_
    rintro e w5 ⟨rfl, hb, hk⟩
    have HB5 := (show Hid (Blk w5 w1.heap.size 5 (vals .u8 (lows (N : Int) 4 ++ (List.replicate 4 (0 : Int) ++ (lows lsn 8 ++ (lows ep 4 ++ List.replicate R.length (0 : Int))))))) from (by have h := hb; rw [show lows (N : Int) 4 ++ (List.replicate 4 (0 : Int) ++ (lows lsn 8 ++ (List.replicate 4 (0 : Int) ++ List.replicate R.length (0 : Int)))) = ((lows (N : Int) 4 ++ List.replicate 4 (0 : Int)) ++ lows lsn 8) ++ ((List.replicate 4 (0 : Int)) ++ (List.replicate R.length (0 : Int))) from by simp only [List.append_assoc, List.nil_append, List.append_nil], layV _ ((lows (N : Int) 4 ++ List.replicate 4 (0 : Int)) ++ lows lsn 8) (List.replicate 4 (0 : Int)) (List.replicate R.length (0 : Int)) (lows ep 4) 16 (by simp [lows_length]) (by simp [lows_length])] at h; rw [show lows (N : Int) 4 ++ (List.replicate 4 (0 : Int) ++ (lows lsn 8 ++ (lows ep 4 ++ List.replicate R.length (0 : Int)))) = ((lows (N : Int) 4 ++ List.replicate 4 (0 : Int)) ++ lows lsn 8) ++ ((lows ep 4) ++ (List.replicate R.length (0 : Int))) from by simp only [List.append_assoc, List.nil_append, List.append_nil]]; exact h))
    have HK5 := (show Hid (Same w w5) from HK4.out.next hk (fun i hi e => by have := HK1.out.size; omega))
    have HQ5 := (show Hid (Kept (fun b => b = w1.heap.size) w1 w5) from HQ4.out.next hk (fun i hi e => e))
    clear hb hk
    have HR5 := (show Hid (Own 0 5 .u8 w5 (.slice (some ⟨g1, 0, none⟩) R.length c1) R) from HO1.out.kept HQ5.out (fun b hb e => by have hb : g1 = b := Option.some.inj hb; omega))
    have hcp := run_copy_cells (P := Tryz.prog) w5 22 22 3 5 w1.heap.size 20 (N - 20) (N - 20) ⟨g1, 0, none⟩ R.length c1 (vals .u8 R) Tryz.underlying22 (by rw [hi]; simp [hz1]) (by rw [vals_length]; have : N - 20 = R.length := (by have := HN.out; omega); simp [this]) (news_of (off := 0) (fun i h => by have := HR5.out.cell rfl i h; simpa using this)) (fun j hj => by rw [vals_length] at hj; rw [HB5.out.cell, List.getElem?_eq_getElem (by rw [vals_length]; simp [lows_length]; try omega)]; rfl) (fun j _ => HB5.out.frozen _) vals_one
    have HCP := hid hcp
    have HB6 := (show Hid (Blk (w5.setCells w1.heap.size 20 (vals .u8 R)) w1.heap.size 5 (vals .u8 (lows (N : Int) 4 ++ (List.replicate 4 (0 : Int) ++ (lows lsn 8 ++ (lows ep 4 ++ R)))))) from (by have h := Blk.setCells (vals .u8 R) 20 HB5.out (by rw [vals_length, vals_length]; simp [lows_length]; try omega); rw [show lows (N : Int) 4 ++ (List.replicate 4 (0 : Int) ++ (lows lsn 8 ++ (lows ep 4 ++ List.replicate R.length (0 : Int)))) = (((lows (N : Int) 4 ++ List.replicate 4 (0 : Int)) ++ lows lsn 8) ++ lows ep 4) ++ ((List.replicate R.length (0 : Int)) ++ ([])) from by simp only [List.append_assoc, List.nil_append, List.append_nil], layV _ (((lows (N : Int) 4 ++ List.replicate 4 (0 : Int)) ++ lows lsn 8) ++ lows ep 4) (List.replicate R.length (0 : Int)) ([]) (R) 20 (by simp [lows_length]) (by simp [lows_length])] at h; rw [show lows (N : Int) 4 ++ (List.replicate 4 (0 : Int) ++ (lows lsn 8 ++ (lows ep 4 ++ R))) = (((lows (N : Int) 4 ++ List.replicate 4 (0 : Int)) ++ lows lsn 8) ++ lows ep 4) ++ ((R) ++ ([])) from by simp only [List.append_assoc, List.nil_append, List.append_nil]]; exact h))
    have HK6 := (show Hid (Same w (w5.setCells w1.heap.size 20 (vals .u8 R))) from Kept.setCells (.inl (by have := HK1.out.size; omega)) _ _ HK5.out)
    have HQ6 := (show Hid (Kept (fun b => b = w1.heap.size) w1 (w5.setCells w1.heap.size 20 (vals .u8 R))) from Kept.setCells (R := fun b => b = w1.heap.size) (.inr rfl) _ _ HQ5.out)
    have HD6 := (show Hid (Rd .u8 (w5.setCells w1.heap.size 20 (vals .u8 R)) (.slice (some ⟨w1.heap.size, 8, none⟩) (N - 8) (N - 8)) (sumB lsn ep R)) from (by have h := Blk.rd HB6.out 8 (N - 8) (N - 8) (by have := HN.out; simp [lows_length]; try omega) (Nat.le_refl _) (by unfold maxLen; simp [lows_length]; try omega); rw [HSM.out]; rw [show ((lows (N : Int) 4 ++ (List.replicate 4 (0 : Int) ++ (lows lsn 8 ++ (lows ep 4 ++ R)))).drop 8).take (N - 8) = (lows lsn 8 ++ lows ep 4) ++ R from (by rw [show lows (N : Int) 4 ++ (List.replicate 4 (0 : Int) ++ (lows lsn 8 ++ (lows ep 4 ++ R))) = (lows (N : Int) 4 ++ List.replicate 4 (0 : Int)) ++ ((lows lsn 8 ++ lows ep 4) ++ R) from by simp only [List.append_assoc], List.drop_left' (by simp [lows_length]), List.take_of_length_le (by have := HN.out; simp [lows_length]; try omega)])] at h; exact h))
    rw [vals_length] at hcp
    generalize (w5.setCells w1.heap.size 20 (vals .u8 R)) = w6 at *
    go_wp2_with fail
    have hS : ((fun _ : World => True)) w6.drew := by trivial
    refine wp_region_V ((fun _ : World => True)) 99 6 rfl (by kernel_rfl) ?_
    refine tk 0 51 hS ?_
    refine tk 1 52 hS ?_
    refine tk 2 53 hS ?_
    refine tk 3 54 hS ?_
    refine wpAnyV_one (i := 4) (by kernel_rfl) rfl (fun K hK => ?_)
    go_simp
    refine (implCrc_any _ (sumB lsn ep R) _ HSB.out (by omega) (HD6.out.same (Kept.refl _ _).drew)).mono ?_
    rintro e w7 ⟨rfl, hk⟩
    have HB7 := (show Hid (Blk w7 w1.heap.size 5 (vals .u8 (lows (N : Int) 4 ++ (List.replicate 4 (0 : Int) ++ (lows lsn 8 ++ (lows ep 4 ++ R)))))) from HB6.out.drew.same hk)
    have HK7 := hid (HK6.out.drew.trans hk)
    have HQ7 := (show Hid (Kept (fun b => b = w1.heap.size) w1 w7) from HQ6.out.drew.next (hk.mono (fun _ _ e => absurd e id)) (fun i hi e => e))
    clear hk
    have hS : ((fun _ : World => True)) w7 := by trivial
    refine hK.out _ _ (fun _ => hS) ?_
    clear hK K
    try simp only [Act.put, sA, s0, sS]
    refine wpAnyV_one (i := 5) (by kernel_rfl) rfl (fun K hK => ?_)
    go_simp
    refine (writeNumber_any w1.heap.size 4 4 (N - 4) 5 _ (crcOn 0 (sumB lsn ep R)) _ HB7.out (by rw [vals_length]; simp [lows_length]; try omega) (by omega) (by omega) (by omega)).mono ?_
    rintro e w8 ⟨rfl, hb, hk⟩
    have HB8 := (show Hid (Blk w8 w1.heap.size 5 (vals .u8 (lows (N : Int) 4 ++ (lows (crcOn 0 (sumB lsn ep R)) 4 ++ (lows lsn 8 ++ (lows ep 4 ++ R)))))) from (by have h := hb; rw [show lows (N : Int) 4 ++ (List.replicate 4 (0 : Int) ++ (lows lsn 8 ++ (lows ep 4 ++ R))) = (lows (N : Int) 4) ++ ((List.replicate 4 (0 : Int)) ++ (lows lsn 8 ++ (lows ep 4 ++ R))) from by simp only [List.append_assoc, List.nil_append, List.append_nil], layV _ (lows (N : Int) 4) (List.replicate 4 (0 : Int)) (lows lsn 8 ++ (lows ep 4 ++ R)) (lows (crcOn 0 (sumB lsn ep R)) 4) 4 (by simp [lows_length]) (by simp [lows_length])] at h; rw [show lows (N : Int) 4 ++ (lows (crcOn 0 (sumB lsn ep R)) 4 ++ (lows lsn 8 ++ (lows ep 4 ++ R))) = (lows (N : Int) 4) ++ ((lows (crcOn 0 (sumB lsn ep R)) 4) ++ (lows lsn 8 ++ (lows ep 4 ++ R))) from by simp only [List.append_assoc, List.nil_append, List.append_nil]]; exact h))
    have HK8 := (show Hid (Same w w8) from HK7.out.next hk (fun i hi e => by have := HK1.out.size; omega))
    have HQ8 := (show Hid (Kept (fun b => b = w1.heap.size) w1 w8) from HQ7.out.next hk (fun i hi e => e))
    clear hb hk
    have hS : ((fun _ : World => True)) w8 := by trivial
    refine hK.out _ _ (fun _ => hS) ?_
    clear hK K
    try simp only [Act.put, sA, s0, sS]
    refine wpAnyV_done (by kernel_rfl) ?_
    go_wp2
    go_ret
    have hlen : (frB lsn ep R).length = N := by have := HN.out; rw [HFR.out]; simp [lows_length]; try omega
    refine ⟨some ⟨w1.heap.size, 0, none⟩, N, by first | (rw [hlen]; done) | simp [hlen], fun b hb => ?_, ?_, HK8.out⟩
    · have hb : w1.heap.size = b := by simpa [Value.ownBlock] using hb
      have := HK1.out.size
      omega
    · have h := Blk.own HB8.out (by unfold maxLen; simp [lows_length]; try omega)
      rw [← HFR.out] at h
      rw [hlen] at h ⊢
      exact h
  · rw [frFd_no hy]
    have hor : (encFd x.dat).length = 0 ∨ (1 ≤ (encFd x.dat).length ∧ (encFd x.dat).length ≤ 5000 ∧ ¬ ((1 ≤ lsn ∧ lsn ≤ 1099511627776) ∧ (1 ≤ ep ∧ ep ≤ 4294967295))) := by by_cases h : recFd x.dat = 0; rw [encFd_good h]; exact .inr ⟨(recBd_length h).1, (recBd_length h).2, fun h2 => hy ⟨h, h2⟩⟩; rw [encFd_bad h]; exact .inl rfl
    clear hy hB hn hv
    generalize encFd x.dat = R at *
    obtain ⟨kind, txn, prev, page, slot, ⟨bU, ⟨bDe, bDa, bDc, bDb⟩⟩, ⟨aU, ⟨aDe, aDa, aDc, aDb⟩⟩, uN, nT, ⟨tXe, tXa, tXn, tXc, tXb⟩, ⟨dYe, dYa, dYn, dYc, dYb⟩, ⟨iMe, iMa, iMc, iMb⟩⟩ := x
    dsimp only [StLogRecord.val, StPageRecord.val, BS.v, FR.v] at HE ⊢
    have HK0 := hid (sameA w [.int .i64 kind, .int .i64 txn, .int .i64 prev, .int .i64 page, .int .i64 slot, .bool bU, .slice bDa bDb.length bDc, .bool aU, .slice aDa aDb.length aDc, .int .i64 uN, .int .i64 nT, .slice tXa tXn tXc, .slice dYa dYn dYc, .slice iMa iMb.length iMc] 35)
    have key : (R.length : Int) = 0 ∨ (¬ (R.length : Int) = 0 ∧ lsn < 1) ∨ (¬ (R.length : Int) = 0 ∧ ¬ lsn < 1 ∧ 1099511627776 < lsn) ∨ (¬ (R.length : Int) = 0 ∧ ¬ lsn < 1 ∧ ¬ 1099511627776 < lsn ∧ ep < 1) ∨ (¬ (R.length : Int) = 0 ∧ ¬ lsn < 1 ∧ ¬ 1099511627776 < lsn ∧ ¬ ep < 1 ∧ 4294967295 < ep) := by omega
    clear hor
    rcases key with h1 | ⟨h1, h2⟩ | ⟨h1, h2, h3⟩ | ⟨h1, h2, h3, h4⟩ | ⟨h1, h2, h3, h4, h5⟩
    · have q1 : ((R.length : Int) == 0) = true := by rw [beq_iff_eq]; exact h1
      go_enter Tryz.func8, Tryz.ntmps8
      go_wp2_with fail
      refine (HE.out _ HK0.out).mono ?_
      rintro e w1 ⟨a1, c1, rfl, hf, ho, hk⟩
      have HK1 := hid (HK0.out.trans hk)
      clear hf ho hk
      go_wp2
      go_ret
      exact ⟨none, 0, rfl, fun b hb => (by simp [Value.ownBlock] at hb), Own.nil _ _ _ _, HK1.out⟩
    · have q1 : ((R.length : Int) == 0) = false := by rw [beq_eq_false_iff_ne]; exact h1
      have q2 : decide (lsn < 1) = true := decide_eq_true h2
      go_enter Tryz.func8, Tryz.ntmps8
      go_wp2_with fail
      refine (HE.out _ HK0.out).mono ?_
      rintro e w1 ⟨a1, c1, rfl, hf, ho, hk⟩
      have HK1 := hid (HK0.out.trans hk)
      clear hf ho hk
      go_wp2
      go_ret
      exact ⟨none, 0, rfl, fun b hb => (by simp [Value.ownBlock] at hb), Own.nil _ _ _ _, HK1.out⟩
    · have q1 : ((R.length : Int) == 0) = false := by rw [beq_eq_false_iff_ne]; exact h1
      have q2 : decide (lsn < 1) = false := decide_eq_false h2
      have q3 : decide (1099511627776 < lsn) = true := decide_eq_true h3
      go_enter Tryz.func8, Tryz.ntmps8
      go_wp2_with fail
      refine (HE.out _ HK0.out).mono ?_
      rintro e w1 ⟨a1, c1, rfl, hf, ho, hk⟩
      have HK1 := hid (HK0.out.trans hk)
      clear hf ho hk
      go_wp2
      go_ret
      exact ⟨none, 0, rfl, fun b hb => (by simp [Value.ownBlock] at hb), Own.nil _ _ _ _, HK1.out⟩
    · have q1 : ((R.length : Int) == 0) = false := by rw [beq_eq_false_iff_ne]; exact h1
      have q2 : decide (lsn < 1) = false := decide_eq_false h2
      have q3 : decide (1099511627776 < lsn) = false := decide_eq_false h3
      have q4 : decide (ep < 1) = true := decide_eq_true h4
      go_enter Tryz.func8, Tryz.ntmps8
      go_wp2_with fail
      refine (HE.out _ HK0.out).mono ?_
      rintro e w1 ⟨a1, c1, rfl, hf, ho, hk⟩
      have HK1 := hid (HK0.out.trans hk)
      clear hf ho hk
      go_wp2
      go_ret
      exact ⟨none, 0, rfl, fun b hb => (by simp [Value.ownBlock] at hb), Own.nil _ _ _ _, HK1.out⟩
    · have q1 : ((R.length : Int) == 0) = false := by rw [beq_eq_false_iff_ne]; exact h1
      have q2 : decide (lsn < 1) = false := decide_eq_false h2
      have q3 : decide (1099511627776 < lsn) = false := decide_eq_false h3
      have q4 : decide (ep < 1) = false := decide_eq_false h4
      have q5 : decide (4294967295 < ep) = true := decide_eq_true h5
      go_enter Tryz.func8, Tryz.ntmps8
      go_wp2_with fail
      refine (HE.out _ HK0.out).mono ?_
      rintro e w1 ⟨a1, c1, rfl, hf, ho, hk⟩
      have HK1 := hid (HK0.out.trans hk)
      clear hf ho hk
      go_wp2
      go_ret
      exact ⟨none, 0, rfl, fun b hb => (by simp [Value.ownBlock] at hb), Own.nil _ _ _ _, HK1.out⟩
end Go.Proofs.YtnpoflfhcfkocaaGreat

namespace Go.Proofs.YtnpoflfhcfkocaaGreat
set_option maxRecDepth 100000
set_option maxHeartbeats 2000000
open Go.RowKit
set_option linter.unusedVariables false
set_option linter.unusedSimpArgs false
theorem markDirtyEntryS_own (x : FR) (k0 : Int) (w : World) (h0 : 0 ≤ k0) (h1 : k0 + (x.bs.length : Int) ≤ 1125899906842624) (ha : OwnL w (x.rows 2)) :
    Calls Tryz.prog 46 #[x.v, .int .i64 k0] w fun e w' => e = .returned (.int .i64 (k0 + (x.bs.length : Int))) ∧ OwnL w' ((x.marked k0).rows 2) ∧ Kept (FootL (x.rows 2)) w w' := by
  have hl := FR.own_len ha
  have hf := FR.own_form ha
  obtain ⟨xe, xa, xn, xc, bs⟩ := x
  dsimp only [FR.v] at *
  have HA := (show Hid (OwnL w (FR.rows 2 ⟨xe, xa, xn, xc, bs⟩)) from ha)
  clear ha
  rcases hf with ⟨rfl, rfl, rfl⟩ | ⟨g, rfl, hac, hcm, ho⟩
  · obtain rfl : bs = [] := List.length_eq_zero_iff.1 (by omega)
    clear hl
    go_enter Tryz.func46, Tryz.ntmps46
    go_wp2
    refine wp_loop_rounds 1 ?_
    rw [rounds_succ]
    go_wp2
    go_ret
    exact ⟨by simp, HA.out, Kept.refl _ _⟩
  · have HL := (show Hid (bs.length = xn * 2) from hl)
    have HO0 := (show Hid (OwnF 2 xe w g xn xc bs) from ho)
    rw [hl] at h1 ⊢
    have hxn : k0 + (xn : Int) * 2 ≤ 1125899906842624 := by simpa using h1
    unfold maxLen at hcm
    clear ho hl HA h1
    go_enter Tryz.func46, Tryz.ntmps46
    go_wp2
    go_loopw [1, 5] (fun v i wr => ∃ k : Nat, k ≤ xn ∧ i = .int .i64 k ∧ v = .int .i64 (k0 + (k : Int) * 2) ∧ Hid (OwnF 2 xe wr g xn xc (partI k0 bs (k * 2))) ∧ Hid (Kept (fun b => b = g) w wr)) (fun _ i _ => xn - (intOf i).toNat)
    case atStart => exact ⟨0, Nat.zero_le _, rfl, by simp, by rw [Nat.zero_mul, partI_zero]; exact HO0, Kept.refl _ _⟩
    case round =>
      obtain ⟨k, hk, rfl, rfl, HO, HK⟩ := hrel
      by_cases hlt : k < xn
      · have c0 := HO.out.cell (k * 2) (by omega)
        have f0 := HO.out.frozen (k * 2)
        have c1 := HO.out.cell (k * 2 + 1) (by omega)
        have f1 := HO.out.frozen (k * 2 + 1)
        go_wp2
        go_roundw
        case rel =>
          have hl := HL.out
          have q0 := HO.out
          have q1 := q0.stored (k * 2) (k0 + ((k * 2 : Nat) : Int))
          rw [partI_step _ _ _ (by omega)] at q1
          have q2 := q1.stored (k * 2 + 1) (k0 + ((k * 2 + 1 : Nat) : Int))
          rw [partI_step _ _ _ (by omega)] at q2
          refine ⟨k + 1, by omega, by go_num, by go_num, ?_, ?_⟩
          · rw [show (k + 1) * 2 = k * 2 + 1 + 1 from by omega]; simpa [Hid, Int.add_assoc] using q2
          · exact ((HK.out.setCell (.inr rfl) _).setCell (.inr rfl) _)
        case measure => simp [intOf]; omega
      · go_wp2
        go_ret
        obtain rfl : k = xn := by omega
        have h := HO.out
        rw [← HL.out, partI_all] at h
        refine ⟨ret_int (by push_cast; rfl), ?_, HK.out.mono (fun b _ hb => (FootL_one _ _).2 (by simp [FR.v, Value.ownBlock, hb]))⟩
        exact h.out
end Go.Proofs.YtnpoflfhcfkocaaGreat

namespace Go.Proofs.YtnpoflfhcfkocaaGreat
set_option maxRecDepth 100000
set_option maxHeartbeats 2000000
open Go.RowKit
set_option linter.unusedVariables false
set_option linter.unusedSimpArgs false
theorem markTxnEntryS_own (x : FR) (k0 : Int) (w : World) (h0 : 0 ≤ k0) (h1 : k0 + (x.bs.length : Int) ≤ 1125899906842624) (ha : OwnL w (x.rows 4)) :
    Calls Tryz.prog 45 #[x.v, .int .i64 k0] w fun e w' => e = .returned (.int .i64 (k0 + (x.bs.length : Int))) ∧ OwnL w' ((x.marked k0).rows 4) ∧ Kept (FootL (x.rows 4)) w w' := by
  have hl := FR.own_len ha
  have hf := FR.own_form ha
  obtain ⟨xe, xa, xn, xc, bs⟩ := x
  dsimp only [FR.v] at *
  have HA := (show Hid (OwnL w (FR.rows 4 ⟨xe, xa, xn, xc, bs⟩)) from ha)
  clear ha
  rcases hf with ⟨rfl, rfl, rfl⟩ | ⟨g, rfl, hac, hcm, ho⟩
  · obtain rfl : bs = [] := List.length_eq_zero_iff.1 (by omega)
    clear hl
    go_enter Tryz.func45, Tryz.ntmps45
    go_wp2
    refine wp_loop_rounds 1 ?_
    rw [rounds_succ]
    go_wp2
    go_ret
    exact ⟨by simp, HA.out, Kept.refl _ _⟩
  · have HL := (show Hid (bs.length = xn * 4) from hl)
    have HO0 := (show Hid (OwnF 4 xe w g xn xc bs) from ho)
    rw [hl] at h1 ⊢
    have hxn : k0 + (xn : Int) * 4 ≤ 1125899906842624 := by simpa using h1
    unfold maxLen at hcm
    clear ho hl HA h1
    go_enter Tryz.func45, Tryz.ntmps45
    go_wp2
    go_loopw [1, 5] (fun v i wr => ∃ k : Nat, k ≤ xn ∧ i = .int .i64 k ∧ v = .int .i64 (k0 + (k : Int) * 4) ∧ Hid (OwnF 4 xe wr g xn xc (partI k0 bs (k * 4))) ∧ Hid (Kept (fun b => b = g) w wr)) (fun _ i _ => xn - (intOf i).toNat)
    case atStart => exact ⟨0, Nat.zero_le _, rfl, by simp, by rw [Nat.zero_mul, partI_zero]; exact HO0, Kept.refl _ _⟩
    case round =>
      obtain ⟨k, hk, rfl, rfl, HO, HK⟩ := hrel
      by_cases hlt : k < xn
      · have c0 := HO.out.cell (k * 4) (by omega)
        have f0 := HO.out.frozen (k * 4)
        have c1 := HO.out.cell (k * 4 + 1) (by omega)
        have f1 := HO.out.frozen (k * 4 + 1)
        have c2 := HO.out.cell (k * 4 + 2) (by omega)
        have f2 := HO.out.frozen (k * 4 + 2)
        have c3 := HO.out.cell (k * 4 + 3) (by omega)
        have f3 := HO.out.frozen (k * 4 + 3)
        go_wp2
        go_roundw
        case rel =>
          have hl := HL.out
          have q0 := HO.out
          have q1 := q0.stored (k * 4) (k0 + ((k * 4 : Nat) : Int))
          rw [partI_step _ _ _ (by omega)] at q1
          have q2 := q1.stored (k * 4 + 1) (k0 + ((k * 4 + 1 : Nat) : Int))
          rw [partI_step _ _ _ (by omega)] at q2
          have q3 := q2.stored (k * 4 + 2) (k0 + ((k * 4 + 2 : Nat) : Int))
          rw [partI_step _ _ _ (by omega)] at q3
          have q4 := q3.stored (k * 4 + 3) (k0 + ((k * 4 + 3 : Nat) : Int))
          rw [partI_step _ _ _ (by omega)] at q4
          refine ⟨k + 1, by omega, by go_num, by go_num, ?_, ?_⟩
          · rw [show (k + 1) * 4 = k * 4 + 1 + 1 + 1 + 1 from by omega]; simpa [Hid, Int.add_assoc] using q4
          · exact ((((HK.out.setCell (.inr rfl) _).setCell (.inr rfl) _).setCell (.inr rfl) _).setCell (.inr rfl) _)
        case measure => simp [intOf]; omega
      · go_wp2
        go_ret
        obtain rfl : k = xn := by omega
        have h := HO.out
        rw [← HL.out, partI_all] at h
        refine ⟨ret_int (by push_cast; rfl), ?_, HK.out.mono (fun b _ hb => (FootL_one _ _).2 (by simp [FR.v, Value.ownBlock, hb]))⟩
        exact h.out
end Go.Proofs.YtnpoflfhcfkocaaGreat

namespace Go.Proofs.YtnpoflfhcfkocaaGreat
set_option maxRecDepth 100000
set_option maxHeartbeats 4000000
open Go.RowKit
set_option linter.unusedVariables false
set_option linter.unusedSimpArgs false
theorem markLogRecord_own (x : StLogRecord) (k0 : Int) (w : World) (h0 : 0 ≤ k0) (h1 : k0 + x.size ≤ 1125899906842624) (ha : OwnL w x.rows) :
    Calls Tryz.prog 11 #[x.val, .int .i64 k0] w fun e w' => e = .returned (.int .i64 (k0 + x.size)) ∧ OwnL w' (x.marked k0).rows ∧ Kept (FootL x.rows) w w' := by
  have hlt := ha.lt
  have HLT := (show Hid (∀ b, FootL x.rows b → b < w.heap.size) from hlt)
  have HA := (show Hid (OwnL w x.rows) from ha)
  clear hlt
  obtain ⟨xkind, xtxn, xprev, xpage, xslot, ⟨xbU, ⟨xbDe, xbDa, xbDc, xbDb⟩⟩, ⟨xaU, ⟨xaDe, xaDa, xaDc, xaDb⟩⟩, xuN, xnT, ⟨xtXe, xtXa, xtXn, xtXc, xtXb⟩, ⟨xdYe, xdYa, xdYn, xdYc, xdYb⟩, ⟨xiMe, xiMa, xiMc, xiMb⟩⟩ := x
  have HO0_0 := (show Hid (OwnL w (StPageRecord.rows ⟨xbU, ⟨xbDe, xbDa, xbDc, xbDb⟩⟩)) from ha.left)
  have HO1_0 := (show Hid (OwnL w (StPageRecord.rows ⟨xaU, ⟨xaDe, xaDa, xaDc, xaDb⟩⟩)) from ha.right.left)
  have HO2_0 := (show Hid (OwnL w [⟨xtXe, 4, .slice xtXa xtXn xtXc, xtXn, vals .i64 xtXb⟩]) from ha.right.right.left)
  have HO3_0 := (show Hid (OwnL w [⟨xdYe, 2, .slice xdYa xdYn xdYc, xdYn, vals .i64 xdYb⟩]) from ha.right.right.right.left)
  have HO4_0 := (show Hid (OwnL w [ints xiMe .u8 (.slice xiMa xiMb.length xiMc) xiMb]) from ha.right.right.right.right)
  have HP0_1 := (show Hid (∀ b, FootL (StPageRecord.rows ⟨xbU, ⟨xbDe, xbDa, xbDc, xbDb⟩⟩) b → ¬ FootL (StPageRecord.rows ⟨xaU, ⟨xaDe, xaDa, xaDc, xaDb⟩⟩) b) from fun b hi hj => OwnL.cut (ha) b hi ((FootL_append _ _ _).2 (.inl hj)))
  have HP0_2 := (show Hid (∀ b, FootL (StPageRecord.rows ⟨xbU, ⟨xbDe, xbDa, xbDc, xbDb⟩⟩) b → ¬ FootL [⟨xtXe, 4, .slice xtXa xtXn xtXc, xtXn, vals .i64 xtXb⟩] b) from fun b hi hj => OwnL.cut (ha) b hi ((FootL_append _ _ _).2 (.inr ((FootL_append _ _ _).2 (.inl hj)))))
  have HP0_3 := (show Hid (∀ b, FootL (StPageRecord.rows ⟨xbU, ⟨xbDe, xbDa, xbDc, xbDb⟩⟩) b → ¬ FootL [⟨xdYe, 2, .slice xdYa xdYn xdYc, xdYn, vals .i64 xdYb⟩] b) from fun b hi hj => OwnL.cut (ha) b hi ((FootL_append _ _ _).2 (.inr ((FootL_append _ _ _).2 (.inr ((FootL_append _ _ _).2 (.inl hj)))))))
  have HP0_4 := (show Hid (∀ b, FootL (StPageRecord.rows ⟨xbU, ⟨xbDe, xbDa, xbDc, xbDb⟩⟩) b → ¬ FootL [ints xiMe .u8 (.slice xiMa xiMb.length xiMc) xiMb] b) from fun b hi hj => OwnL.cut (ha) b hi ((FootL_append _ _ _).2 (.inr ((FootL_append _ _ _).2 (.inr ((FootL_append _ _ _).2 (.inr (hj))))))))
  have HP1_2 := (show Hid (∀ b, FootL (StPageRecord.rows ⟨xaU, ⟨xaDe, xaDa, xaDc, xaDb⟩⟩) b → ¬ FootL [⟨xtXe, 4, .slice xtXa xtXn xtXc, xtXn, vals .i64 xtXb⟩] b) from fun b hi hj => OwnL.cut (ha.right) b hi ((FootL_append _ _ _).2 (.inl hj)))
  have HP1_3 := (show Hid (∀ b, FootL (StPageRecord.rows ⟨xaU, ⟨xaDe, xaDa, xaDc, xaDb⟩⟩) b → ¬ FootL [⟨xdYe, 2, .slice xdYa xdYn xdYc, xdYn, vals .i64 xdYb⟩] b) from fun b hi hj => OwnL.cut (ha.right) b hi ((FootL_append _ _ _).2 (.inr ((FootL_append _ _ _).2 (.inl hj)))))
  have HP1_4 := (show Hid (∀ b, FootL (StPageRecord.rows ⟨xaU, ⟨xaDe, xaDa, xaDc, xaDb⟩⟩) b → ¬ FootL [ints xiMe .u8 (.slice xiMa xiMb.length xiMc) xiMb] b) from fun b hi hj => OwnL.cut (ha.right) b hi ((FootL_append _ _ _).2 (.inr ((FootL_append _ _ _).2 (.inr (hj))))))
  have HP2_3 := (show Hid (∀ b, FootL [⟨xtXe, 4, .slice xtXa xtXn xtXc, xtXn, vals .i64 xtXb⟩] b → ¬ FootL [⟨xdYe, 2, .slice xdYa xdYn xdYc, xdYn, vals .i64 xdYb⟩] b) from fun b hi hj => OwnL.cut (ha.right.right) b hi ((FootL_append _ _ _).2 (.inl hj)))
  have HP2_4 := (show Hid (∀ b, FootL [⟨xtXe, 4, .slice xtXa xtXn xtXc, xtXn, vals .i64 xtXb⟩] b → ¬ FootL [ints xiMe .u8 (.slice xiMa xiMb.length xiMc) xiMb] b) from fun b hi hj => OwnL.cut (ha.right.right) b hi ((FootL_append _ _ _).2 (.inr (hj))))
  have HP3_4 := (show Hid (∀ b, FootL [⟨xdYe, 2, .slice xdYa xdYn xdYc, xdYn, vals .i64 xdYb⟩] b → ¬ FootL [ints xiMe .u8 (.slice xiMa xiMb.length xiMc) xiMb] b) from fun b hi hj => OwnL.cut (ha.right.right.right) b hi (hj))
  clear ha
  simp only [StLogRecord.size] at h1
  have hz0 := StPageRecord.size_le ⟨xbU, ⟨xbDe, xbDa, xbDc, xbDb⟩⟩
  have hz1 := StPageRecord.size_le ⟨xaU, ⟨xaDe, xaDa, xaDc, xaDb⟩⟩
  dsimp only [StLogRecord.val, StPageRecord.val, BS.v, FR.v]
  go_enter Tryz.func11, Tryz.ntmps11
  have HK_0 := (show Hid (Kept (FootL (StLogRecord.rows ⟨xkind, xtxn, xprev, xpage, xslot, ⟨xbU, ⟨xbDe, xbDa, xbDc, xbDb⟩⟩, ⟨xaU, ⟨xaDe, xaDa, xaDc, xaDb⟩⟩, xuN, xnT, ⟨xtXe, xtXa, xtXn, xtXc, xtXb⟩, ⟨xdYe, xdYa, xdYn, xdYc, xdYb⟩, ⟨xiMe, xiMa, xiMc, xiMb⟩⟩)) w (w.alloc (.cells #[.int .i64 xkind, .int .i64 xtxn, .int .i64 xprev, .int .i64 xpage, .int .i64 xslot, .bool xbU, .slice xbDa xbDb.length xbDc, .bool xaU, .slice xaDa xaDb.length xaDc, .int .i64 xuN, .int .i64 xnT, .slice xtXa xtXn xtXc, .slice xdYa xdYn xdYc, .slice xiMa xiMb.length xiMc] 35))) from (Kept.refl _ _).alloc _)
  have HB_0 := hid (Blk.newL w [.int .i64 xkind, .int .i64 xtxn, .int .i64 xprev, .int .i64 xpage, .int .i64 xslot, .bool xbU, .slice xbDa xbDb.length xbDc, .bool xaU, .slice xaDa xaDb.length xaDc, .int .i64 xuN, .int .i64 xnT, .slice xtXa xtXn xtXc, .slice xdYa xdYn xdYc, .slice xiMa xiMb.length xiMc] 35)
  go_wp2_with fail
  refine (markPageRecord_own ⟨xbU, ⟨xbDe, xbDa, xbDc, xbDb⟩⟩ (k0) _ (by omega) (by omega) (HO0_0.out.same ((Kept.refl _ _).alloc _))).mono ?_
  rintro e w1 ⟨rfl, ho, hk⟩
  have HB_1 := (show Hid (Blk w1 w.heap.size 35 [.int .i64 xkind, .int .i64 xtxn, .int .i64 xprev, .int .i64 xpage, .int .i64 xslot, .bool xbU, .slice xbDa xbDb.length xbDc, .bool xaU, .slice xaDa xaDb.length xaDc, .int .i64 xuN, .int .i64 xnT, .slice xtXa xtXn xtXc, .slice xdYa xdYn xdYc, .slice xiMa xiMb.length xiMc]) from HB_0.out.kept hk (fun e => by have := HLT.out _ ((FootL_append _ _ _).2 (.inl e)); omega))
  have HK_1 := (show Hid (Kept (FootL (StLogRecord.rows ⟨xkind, xtxn, xprev, xpage, xslot, ⟨xbU, ⟨xbDe, xbDa, xbDc, xbDb⟩⟩, ⟨xaU, ⟨xaDe, xaDa, xaDc, xaDb⟩⟩, xuN, xnT, ⟨xtXe, xtXa, xtXn, xtXc, xtXb⟩, ⟨xdYe, xdYa, xdYn, xdYc, xdYb⟩, ⟨xiMe, xiMa, xiMc, xiMb⟩⟩)) w w1) from HK_0.out.next hk (fun b _ e => (FootL_append _ _ _).2 (.inl e)))
  have HO0_1 := (show Hid (OwnL w1 (StPageRecord.marked ⟨xbU, ⟨xbDe, xbDa, xbDc, xbDb⟩⟩ (k0)).rows) from ho)
  have HO1_1 := (show Hid (OwnL w1 (StPageRecord.rows ⟨xaU, ⟨xaDe, xaDa, xaDc, xaDb⟩⟩)) from (HO1_0.out.same ((Kept.refl _ _).alloc _)).kept hk (fun b hb e => HP0_1.out b e hb))
  have HO2_1 := (show Hid (OwnL w1 [⟨xtXe, 4, .slice xtXa xtXn xtXc, xtXn, vals .i64 xtXb⟩]) from (HO2_0.out.same ((Kept.refl _ _).alloc _)).kept hk (fun b hb e => HP0_2.out b e hb))
  have HO3_1 := (show Hid (OwnL w1 [⟨xdYe, 2, .slice xdYa xdYn xdYc, xdYn, vals .i64 xdYb⟩]) from (HO3_0.out.same ((Kept.refl _ _).alloc _)).kept hk (fun b hb e => HP0_3.out b e hb))
  have HO4_1 := (show Hid (OwnL w1 [ints xiMe .u8 (.slice xiMa xiMb.length xiMc) xiMb]) from (HO4_0.out.same ((Kept.refl _ _).alloc _)).kept hk (fun b hb e => HP0_4.out b e hb))
  clear ho hk HB_0 HK_0 HO0_0 HO1_0 HO2_0 HO3_0 HO4_0
  have hsz0 : StPageRecord.size ⟨xbU, ⟨xbDe, xbDa, xbDc, xbDb⟩⟩ = StPageRecord.size ⟨xbU, ⟨xbDe, xbDa, xbDc, xbDb⟩⟩ := rfl
  have d0_7 := HB_1.out.c7
  have d0_8 := HB_1.out.c8
  have d0_11 := HB_1.out.c11
  have d0_12 := HB_1.out.c12
  have d0_13 := HB_1.out.c13
  go_wp2_with fail
  refine (markPageRecord_own ⟨xaU, ⟨xaDe, xaDa, xaDc, xaDb⟩⟩ (k0 + (StPageRecord.size ⟨xbU, ⟨xbDe, xbDa, xbDc, xbDb⟩⟩)) _ (by omega) (by omega) (HO1_1.out)).mono ?_
  rintro e w2 ⟨rfl, ho, hk⟩
  have HB_2 := (show Hid (Blk w2 w.heap.size 35 [.int .i64 xkind, .int .i64 xtxn, .int .i64 xprev, .int .i64 xpage, .int .i64 xslot, .bool xbU, .slice xbDa xbDb.length xbDc, .bool xaU, .slice xaDa xaDb.length xaDc, .int .i64 xuN, .int .i64 xnT, .slice xtXa xtXn xtXc, .slice xdYa xdYn xdYc, .slice xiMa xiMb.length xiMc]) from HB_1.out.kept hk (fun e => by have := HLT.out _ ((FootL_append _ _ _).2 (.inr ((FootL_append _ _ _).2 (.inl e)))); omega))
  have HK_2 := (show Hid (Kept (FootL (StLogRecord.rows ⟨xkind, xtxn, xprev, xpage, xslot, ⟨xbU, ⟨xbDe, xbDa, xbDc, xbDb⟩⟩, ⟨xaU, ⟨xaDe, xaDa, xaDc, xaDb⟩⟩, xuN, xnT, ⟨xtXe, xtXa, xtXn, xtXc, xtXb⟩, ⟨xdYe, xdYa, xdYn, xdYc, xdYb⟩, ⟨xiMe, xiMa, xiMc, xiMb⟩⟩)) w w2) from HK_1.out.next hk (fun b _ e => (FootL_append _ _ _).2 (.inr ((FootL_append _ _ _).2 (.inl e)))))
  have HO0_2 := (show Hid (OwnL w2 (StPageRecord.marked ⟨xbU, ⟨xbDe, xbDa, xbDc, xbDb⟩⟩ (k0)).rows) from (HO0_1.out).kept hk (fun b hb e => HP0_1.out b ((StPageRecord.foot_marked _ _ b).1 hb) e))
  have HO1_2 := (show Hid (OwnL w2 (StPageRecord.marked ⟨xaU, ⟨xaDe, xaDa, xaDc, xaDb⟩⟩ (k0 + (StPageRecord.size ⟨xbU, ⟨xbDe, xbDa, xbDc, xbDb⟩⟩))).rows) from ho)
  have HO2_2 := (show Hid (OwnL w2 [⟨xtXe, 4, .slice xtXa xtXn xtXc, xtXn, vals .i64 xtXb⟩]) from (HO2_1.out).kept hk (fun b hb e => HP1_2.out b e hb))
  have HO3_2 := (show Hid (OwnL w2 [⟨xdYe, 2, .slice xdYa xdYn xdYc, xdYn, vals .i64 xdYb⟩]) from (HO3_1.out).kept hk (fun b hb e => HP1_3.out b e hb))
  have HO4_2 := (show Hid (OwnL w2 [ints xiMe .u8 (.slice xiMa xiMb.length xiMc) xiMb]) from (HO4_1.out).kept hk (fun b hb e => HP1_4.out b e hb))
  clear ho hk HB_1 HK_1 HO0_1 HO1_1 HO2_1 HO3_1 HO4_1
  have hsz1 : StPageRecord.size ⟨xaU, ⟨xaDe, xaDa, xaDc, xaDb⟩⟩ = StPageRecord.size ⟨xaU, ⟨xaDe, xaDa, xaDc, xaDb⟩⟩ := rfl
  have d1_11 := HB_2.out.c11
  have d1_12 := HB_2.out.c12
  have d1_13 := HB_2.out.c13
  go_wp2_with fail
  refine (markTxnEntryS_own ⟨xtXe, xtXa, xtXn, xtXc, xtXb⟩ (k0 + (StPageRecord.size ⟨xbU, ⟨xbDe, xbDa, xbDc, xbDb⟩⟩) + (StPageRecord.size ⟨xaU, ⟨xaDe, xaDa, xaDc, xaDb⟩⟩)) _ (by omega) (by dsimp only; omega) (HO2_2.out)).mono ?_
  rintro e w3 ⟨rfl, ho, hk⟩
  have HB_3 := (show Hid (Blk w3 w.heap.size 35 [.int .i64 xkind, .int .i64 xtxn, .int .i64 xprev, .int .i64 xpage, .int .i64 xslot, .bool xbU, .slice xbDa xbDb.length xbDc, .bool xaU, .slice xaDa xaDb.length xaDc, .int .i64 xuN, .int .i64 xnT, .slice xtXa xtXn xtXc, .slice xdYa xdYn xdYc, .slice xiMa xiMb.length xiMc]) from HB_2.out.kept hk (fun e => by have := HLT.out _ ((FootL_append _ _ _).2 (.inr ((FootL_append _ _ _).2 (.inr ((FootL_append _ _ _).2 (.inl e)))))); omega))
  have HK_3 := (show Hid (Kept (FootL (StLogRecord.rows ⟨xkind, xtxn, xprev, xpage, xslot, ⟨xbU, ⟨xbDe, xbDa, xbDc, xbDb⟩⟩, ⟨xaU, ⟨xaDe, xaDa, xaDc, xaDb⟩⟩, xuN, xnT, ⟨xtXe, xtXa, xtXn, xtXc, xtXb⟩, ⟨xdYe, xdYa, xdYn, xdYc, xdYb⟩, ⟨xiMe, xiMa, xiMc, xiMb⟩⟩)) w w3) from HK_2.out.next hk (fun b _ e => (FootL_append _ _ _).2 (.inr ((FootL_append _ _ _).2 (.inr ((FootL_append _ _ _).2 (.inl e)))))))
  have HO0_3 := (show Hid (OwnL w3 (StPageRecord.marked ⟨xbU, ⟨xbDe, xbDa, xbDc, xbDb⟩⟩ (k0)).rows) from (HO0_2.out).kept hk (fun b hb e => HP0_2.out b ((StPageRecord.foot_marked _ _ b).1 hb) e))
  have HO1_3 := (show Hid (OwnL w3 (StPageRecord.marked ⟨xaU, ⟨xaDe, xaDa, xaDc, xaDb⟩⟩ (k0 + (StPageRecord.size ⟨xbU, ⟨xbDe, xbDa, xbDc, xbDb⟩⟩))).rows) from (HO1_2.out).kept hk (fun b hb e => HP1_2.out b ((StPageRecord.foot_marked _ _ b).1 hb) e))
  have HO2_3 := (show Hid (OwnL w3 (FR.rows 4 (FR.marked ⟨xtXe, xtXa, xtXn, xtXc, xtXb⟩ (k0 + (StPageRecord.size ⟨xbU, ⟨xbDe, xbDa, xbDc, xbDb⟩⟩) + (StPageRecord.size ⟨xaU, ⟨xaDe, xaDa, xaDc, xaDb⟩⟩))))) from ho)
  have HO3_3 := (show Hid (OwnL w3 [⟨xdYe, 2, .slice xdYa xdYn xdYc, xdYn, vals .i64 xdYb⟩]) from (HO3_2.out).kept hk (fun b hb e => HP2_3.out b e hb))
  have HO4_3 := (show Hid (OwnL w3 [ints xiMe .u8 (.slice xiMa xiMb.length xiMc) xiMb]) from (HO4_2.out).kept hk (fun b hb e => HP2_4.out b e hb))
  clear ho hk HB_2 HK_2 HO0_2 HO1_2 HO2_2 HO3_2 HO4_2
  have d2_12 := HB_3.out.c12
  have d2_13 := HB_3.out.c13
  go_wp2_with fail
  refine (markDirtyEntryS_own ⟨xdYe, xdYa, xdYn, xdYc, xdYb⟩ (k0 + (StPageRecord.size ⟨xbU, ⟨xbDe, xbDa, xbDc, xbDb⟩⟩) + (StPageRecord.size ⟨xaU, ⟨xaDe, xaDa, xaDc, xaDb⟩⟩) + (xtXb.length : Int)) _ (by omega) (by dsimp only; omega) (HO3_3.out)).mono ?_
  rintro e w4 ⟨rfl, ho, hk⟩
  have HB_4 := (show Hid (Blk w4 w.heap.size 35 [.int .i64 xkind, .int .i64 xtxn, .int .i64 xprev, .int .i64 xpage, .int .i64 xslot, .bool xbU, .slice xbDa xbDb.length xbDc, .bool xaU, .slice xaDa xaDb.length xaDc, .int .i64 xuN, .int .i64 xnT, .slice xtXa xtXn xtXc, .slice xdYa xdYn xdYc, .slice xiMa xiMb.length xiMc]) from HB_3.out.kept hk (fun e => by have := HLT.out _ ((FootL_append _ _ _).2 (.inr ((FootL_append _ _ _).2 (.inr ((FootL_append _ _ _).2 (.inr ((FootL_append _ _ _).2 (.inl e)))))))); omega))
  have HK_4 := (show Hid (Kept (FootL (StLogRecord.rows ⟨xkind, xtxn, xprev, xpage, xslot, ⟨xbU, ⟨xbDe, xbDa, xbDc, xbDb⟩⟩, ⟨xaU, ⟨xaDe, xaDa, xaDc, xaDb⟩⟩, xuN, xnT, ⟨xtXe, xtXa, xtXn, xtXc, xtXb⟩, ⟨xdYe, xdYa, xdYn, xdYc, xdYb⟩, ⟨xiMe, xiMa, xiMc, xiMb⟩⟩)) w w4) from HK_3.out.next hk (fun b _ e => (FootL_append _ _ _).2 (.inr ((FootL_append _ _ _).2 (.inr ((FootL_append _ _ _).2 (.inr ((FootL_append _ _ _).2 (.inl e)))))))))
  have HO0_4 := (show Hid (OwnL w4 (StPageRecord.marked ⟨xbU, ⟨xbDe, xbDa, xbDc, xbDb⟩⟩ (k0)).rows) from (HO0_3.out).kept hk (fun b hb e => HP0_3.out b ((StPageRecord.foot_marked _ _ b).1 hb) e))
  have HO1_4 := (show Hid (OwnL w4 (StPageRecord.marked ⟨xaU, ⟨xaDe, xaDa, xaDc, xaDb⟩⟩ (k0 + (StPageRecord.size ⟨xbU, ⟨xbDe, xbDa, xbDc, xbDb⟩⟩))).rows) from (HO1_3.out).kept hk (fun b hb e => HP1_3.out b ((StPageRecord.foot_marked _ _ b).1 hb) e))
  have HO2_4 := (show Hid (OwnL w4 (FR.rows 4 (FR.marked ⟨xtXe, xtXa, xtXn, xtXc, xtXb⟩ (k0 + (StPageRecord.size ⟨xbU, ⟨xbDe, xbDa, xbDc, xbDb⟩⟩) + (StPageRecord.size ⟨xaU, ⟨xaDe, xaDa, xaDc, xaDb⟩⟩))))) from (HO2_3.out).kept hk (fun b hb e => HP2_3.out b ((FR.foot_marked 4 _ _ b).1 hb) e))
  have HO3_4 := (show Hid (OwnL w4 (FR.rows 2 (FR.marked ⟨xdYe, xdYa, xdYn, xdYc, xdYb⟩ (k0 + (StPageRecord.size ⟨xbU, ⟨xbDe, xbDa, xbDc, xbDb⟩⟩) + (StPageRecord.size ⟨xaU, ⟨xaDe, xaDa, xaDc, xaDb⟩⟩) + (xtXb.length : Int))))) from ho)
  have HO4_4 := (show Hid (OwnL w4 [ints xiMe .u8 (.slice xiMa xiMb.length xiMc) xiMb]) from (HO4_3.out).kept hk (fun b hb e => HP3_4.out b e hb))
  clear ho hk HB_3 HK_3 HO0_3 HO1_3 HO2_3 HO3_3 HO4_3
  have d3_13 := HB_4.out.c13
  go_wp2_with fail
  refine (markByteS_own 0 _ xiMb (k0 + (StPageRecord.size ⟨xbU, ⟨xbDe, xbDa, xbDc, xbDb⟩⟩) + (StPageRecord.size ⟨xaU, ⟨xaDe, xaDa, xaDc, xaDb⟩⟩) + (xtXb.length : Int) + (xdYb.length : Int)) _ (by omega) (by omega) (by omega) (OwnL.of_one (HO4_4.out))).mono ?_
  rintro e w5 ⟨rfl, ho, hk⟩
  have ho := (show OwnL w5 (BS.rows (BS.marked ⟨xiMe, xiMa, xiMc, xiMb⟩ (k0 + (StPageRecord.size ⟨xbU, ⟨xbDe, xbDa, xbDc, xbDb⟩⟩) + (StPageRecord.size ⟨xaU, ⟨xaDe, xaDa, xaDc, xaDb⟩⟩) + (xtXb.length : Int) + (xdYb.length : Int)))) from BS.own_marked.2 (OwnL.one ho))
  have hk : Kept (FootL [ints xiMe .u8 (.slice xiMa xiMb.length xiMc) xiMb]) _ w5 := hk.mono (fun b _ e => (footL_ints _ _ _ _ _).2 e)
  have HB_5 := (show Hid (Blk w5 w.heap.size 35 [.int .i64 xkind, .int .i64 xtxn, .int .i64 xprev, .int .i64 xpage, .int .i64 xslot, .bool xbU, .slice xbDa xbDb.length xbDc, .bool xaU, .slice xaDa xaDb.length xaDc, .int .i64 xuN, .int .i64 xnT, .slice xtXa xtXn xtXc, .slice xdYa xdYn xdYc, .slice xiMa xiMb.length xiMc]) from HB_4.out.kept hk (fun e => by have := HLT.out _ ((FootL_append _ _ _).2 (.inr ((FootL_append _ _ _).2 (.inr ((FootL_append _ _ _).2 (.inr ((FootL_append _ _ _).2 (.inr (e))))))))); omega))
  have HK_5 := (show Hid (Kept (FootL (StLogRecord.rows ⟨xkind, xtxn, xprev, xpage, xslot, ⟨xbU, ⟨xbDe, xbDa, xbDc, xbDb⟩⟩, ⟨xaU, ⟨xaDe, xaDa, xaDc, xaDb⟩⟩, xuN, xnT, ⟨xtXe, xtXa, xtXn, xtXc, xtXb⟩, ⟨xdYe, xdYa, xdYn, xdYc, xdYb⟩, ⟨xiMe, xiMa, xiMc, xiMb⟩⟩)) w w5) from HK_4.out.next hk (fun b _ e => (FootL_append _ _ _).2 (.inr ((FootL_append _ _ _).2 (.inr ((FootL_append _ _ _).2 (.inr ((FootL_append _ _ _).2 (.inr (e))))))))))
  have HO0_5 := (show Hid (OwnL w5 (StPageRecord.marked ⟨xbU, ⟨xbDe, xbDa, xbDc, xbDb⟩⟩ (k0)).rows) from (HO0_4.out).kept hk (fun b hb e => HP0_4.out b ((StPageRecord.foot_marked _ _ b).1 hb) e))
  have HO1_5 := (show Hid (OwnL w5 (StPageRecord.marked ⟨xaU, ⟨xaDe, xaDa, xaDc, xaDb⟩⟩ (k0 + (StPageRecord.size ⟨xbU, ⟨xbDe, xbDa, xbDc, xbDb⟩⟩))).rows) from (HO1_4.out).kept hk (fun b hb e => HP1_4.out b ((StPageRecord.foot_marked _ _ b).1 hb) e))
  have HO2_5 := (show Hid (OwnL w5 (FR.rows 4 (FR.marked ⟨xtXe, xtXa, xtXn, xtXc, xtXb⟩ (k0 + (StPageRecord.size ⟨xbU, ⟨xbDe, xbDa, xbDc, xbDb⟩⟩) + (StPageRecord.size ⟨xaU, ⟨xaDe, xaDa, xaDc, xaDb⟩⟩))))) from (HO2_4.out).kept hk (fun b hb e => HP2_4.out b ((FR.foot_marked 4 _ _ b).1 hb) e))
  have HO3_5 := (show Hid (OwnL w5 (FR.rows 2 (FR.marked ⟨xdYe, xdYa, xdYn, xdYc, xdYb⟩ (k0 + (StPageRecord.size ⟨xbU, ⟨xbDe, xbDa, xbDc, xbDb⟩⟩) + (StPageRecord.size ⟨xaU, ⟨xaDe, xaDa, xaDc, xaDb⟩⟩) + (xtXb.length : Int))))) from (HO3_4.out).kept hk (fun b hb e => HP3_4.out b ((FR.foot_marked 2 _ _ b).1 hb) e))
  have HO4_5 := (show Hid (OwnL w5 (BS.rows (BS.marked ⟨xiMe, xiMa, xiMc, xiMb⟩ (k0 + (StPageRecord.size ⟨xbU, ⟨xbDe, xbDa, xbDc, xbDb⟩⟩) + (StPageRecord.size ⟨xaU, ⟨xaDe, xaDa, xaDc, xaDb⟩⟩) + (xtXb.length : Int) + (xdYb.length : Int))))) from ho)
  clear ho hk HB_4 HK_4 HO0_4 HO1_4 HO2_4 HO3_4 HO4_4
  go_wp2
  go_ret
  refine ⟨by first | rfl | (refine ret_int ?_; simp only [StLogRecord.size]; omega), ?_, HK_5.out⟩
  exact (HO0_5.out).append ((HO1_5.out).append ((HO2_5.out).append ((HO3_5.out).append (HO4_5.out) (fun b hb e => HP3_4.out b ((FR.foot_marked 2 _ _ b).1 hb) ((BS.foot_marked _ _ b).1 e))) (fun b hb e => ((FootL_append _ _ _).1 e).elim (fun e3 => HP2_3.out b ((FR.foot_marked 4 _ _ b).1 hb) ((FR.foot_marked 2 _ _ b).1 e3)) (fun e3 => HP2_4.out b ((FR.foot_marked 4 _ _ b).1 hb) ((BS.foot_marked _ _ b).1 e3)))) (fun b hb e => ((FootL_append _ _ _).1 e).elim (fun e2 => HP1_2.out b ((StPageRecord.foot_marked _ _ b).1 hb) ((FR.foot_marked 4 _ _ b).1 e2)) (fun e2 => ((FootL_append _ _ _).1 e2).elim (fun e3 => HP1_3.out b ((StPageRecord.foot_marked _ _ b).1 hb) ((FR.foot_marked 2 _ _ b).1 e3)) (fun e3 => HP1_4.out b ((StPageRecord.foot_marked _ _ b).1 hb) ((BS.foot_marked _ _ b).1 e3))))) (fun b hb e => ((FootL_append _ _ _).1 e).elim (fun e1 => HP0_1.out b ((StPageRecord.foot_marked _ _ b).1 hb) ((StPageRecord.foot_marked _ _ b).1 e1)) (fun e1 => ((FootL_append _ _ _).1 e1).elim (fun e2 => HP0_2.out b ((StPageRecord.foot_marked _ _ b).1 hb) ((FR.foot_marked 4 _ _ b).1 e2)) (fun e2 => ((FootL_append _ _ _).1 e2).elim (fun e3 => HP0_3.out b ((StPageRecord.foot_marked _ _ b).1 hb) ((FR.foot_marked 2 _ _ b).1 e3)) (fun e3 => HP0_4.out b ((StPageRecord.foot_marked _ _ b).1 hb) ((BS.foot_marked _ _ b).1 e3)))))
end Go.Proofs.YtnpoflfhcfkocaaGreat


