import Derived.Test.YtkdohacgkjpopaaGreatG29
import Derived.Test.YtkdohacgkjpopaaGreatG09
import Derived.Test.YtkdohacgkjpopaaGreatG22
import Derived.Test.YtkdohacgkjpopaaGreatG08
import Derived.Test.YtkdohacgkjpopaaGreatG30
import Derived.Test.YtkdohacgkjpopaaGreatG00
import Derived.Test.YtkdohacgkjpopaaGreatG12
import Derived.Deep.AppendLies
import Derived.Deep.DeepCutAuto
import Derived.Deep.MidRow
import Derived.Great.BuildSlice
import Derived.Laws.CopyOwn
import Derived.Lib.AppendZerosOnto
namespace Go.Proofs.YtkdohacgkjpopaaGreat
set_option maxRecDepth 100000
set_option maxHeartbeats 16000000
set_option linter.unusedVariables false
set_option linter.unusedSimpArgs false
open Go.RowKit
theorem implFrame_any (lsn ep : Int) (x : StLogRecord) (w : World) (hL : IsI lsn) (hE : IsI ep) (hB : x.isB) (hn : x.szs ≤ 1073741824) (hv : StLogRecord.rd w x) : Calls Tryz.prog 31 #[.int .i64 lsn, .int .i64 ep, x.val] w fun e w' => ∃ a c, e = .returned (.slice a (frFd lsn ep x.dat).length c) ∧ (∀ b, (Value.slice a (frFd lsn ep x.dat).length c).ownBlock = some b → w.heap.size ≤ b) ∧ Own 0 5 .u8 w' (.slice a (frFd lsn ep x.dat).length c) (frFd lsn ep x.dat) ∧ Same w w' := by
 have HE := hid (fun wx (h : Same w wx) => implEnc_any x wx hB hn (StLogRecord.rd.same hv h))
 by_cases hy : recFd x.dat = 0 ∧ (1 ≤ lsn ∧ lsn ≤ 1099511627776) ∧ (1 ≤ ep ∧ ep ≤ 4294967295)
 ·obtain ⟨hRa, hRb⟩ := recBd_length hy.1
  have hRB := recBd_isB hB hy.1
  rw [frFd_yes hy]
  rw [encFd_good hy.1] at HE
  have hy2 := hy.2
  clear hy hB hn hv
  generalize recBd x.dat = R at *
  obtain ⟨kind, txn, prev, page, slot, ⟨bU, ⟨bDe, bDa, bDc, bDb⟩⟩, ⟨aU, ⟨aDe, aDa, aDc, aDb⟩⟩, uN, nT, ⟨tXe, tXa, tXn, tXc, tXb⟩, ⟨dYe, dYa, dYn, dYc, dYb⟩, ⟨iMe, iMa, iMc, iMb⟩⟩ := x
  dsimp only [StLogRecord.val, StPageRecord.val, BS.v, FR.v] at HE ⊢
  obtain ⟨⟨hl1, hl2⟩, he1, he2⟩ := hy2
  obtain ⟨i0, hi, hz0, hz1, hz2⟩ := info_parts Tryz.infoByte'
  have HK0 := hid (sameA w [.int .i64 kind, .int .i64 txn, .int .i64 prev, .int .i64 page, .int .i64 slot, .bool bU, .slice bDa bDb.length bDc, .bool aU, .slice aDa aDb.length aDc, .int .i64 uN, .int .i64 nT, .slice tXa tXn tXc, .slice dYa dYn dYc, .slice iMa iMb.length iMc] 42)
  have HSB := hid (sumB_isB (lsn := lsn) (ep := ep) hRB)
  have hsl := sumB_length lsn ep R
  have hcr := crcOn_le 0 (sumB lsn ep R) (by omega) (by omega) HSB.out
  have hsm : sumB lsn ep R = (lows lsn 8 ++ lows ep 4) ++ R := by unfold sumB; rw [show numB lsn 8 = lows lsn 8 from numB_lows (n := 8) (by omega) (by omega) (by omega), show numB ep 4 = lows ep 4 from numB_lows (n := 4) (by omega) (by omega) (by omega)]
  have HSM := hid hsm
  clear hsm
  obtain ⟨N, hN⟩ : ∃ N : Nat, N = 20 + R.length := ⟨_, rfl⟩
  have hNI : (20 : Int) + (R.length : Int) = (N : Int) := by omega
  have hR0 : ¬ (R.length : Int) = 0 := by omega
  have hNb : N ≤ 5020 := by omega
  have hNa : 21 ≤ N := by omega
  have hfr : frB lsn ep R = lows (N : Int) 4 ++ (lows (crcOn 0 (sumB lsn ep R)) 4 ++ (lows lsn 8 ++ (lows ep 4 ++ R))) := by unfold frB; rw [HSM.out, hNI, show numB (N : Int) 4 = lows (N : Int) 4 from numB_lows (n := 4) (by omega) (by omega) (by omega), show numB (crcOn 0 ((lows lsn 8 ++ lows ep 4) ++ R)) 4 = lows (crcOn 0 ((lows lsn 8 ++ lows ep 4) ++ R)) 4 from numB_lows (n := 4) (by omega) (by rw [← HSM.out]; omega) (by rw [← HSM.out]; omega), ← HSM.out]; rw [show sumB lsn ep R = (lows lsn 8 ++ lows ep 4) ++ R from HSM.out]; simp only [List.append_assoc]
  have HFR := hid hfr
  clear hfr
  have HN := hid hN
  have HNI := hid hNI
  clear hN hNI
  have q1 : ((R.length : Int) == 0) = false := by rw [beq_eq_false_iff_ne]; exact hR0
  have q2 : decide (lsn < 1) = false := decide_eq_false (by omega)
  have q3 : decide (1099511627776 < lsn) = false := decide_eq_false (by omega)
  have q4 : decide (ep < 1) = false := decide_eq_false (by omega)
  have q5 : decide (4294967295 < ep) = false := decide_eq_false (by omega)
  go_enter Tryz.func31, Tryz.ntmps31
  go_wp2_with fail
  refine (HE.out _ HK0.out).mono ?_
  rintro e w1 ⟨a1, c1, rfl, hf, ho, hk⟩
  have HK1 := hid (HK0.out.trans hk)
  have HO1 := (show Hid (Own 0 5 .u8 w1 (.slice a1 R.length c1) (R)) from ho)
  clear hf ho hk
  obtain ⟨g1, cap1, hv1, _, hg1, _, _⟩ := HO1.out.form.resolve_left (fun h => by have := h.2; rw [this] at hR0; simp at hR0)
  injection hv1 with ea en ec
  subst ea
  subst ec
  go_wp2_with (at_make; go_loud (refine wpList_make_full _ rfl (.tmp 32) (.tmp 32) 22 rfl 0 5 i0 (.int .u8 0) 1 Tryz.underlying22 hi hz0 hz1 .i64 .i64 _ _ N rfl rfl (by exact HNI.out) (by exact HNI.out) (by rw [hz2]; omega) (by unfold maxLen; omega) (Nat.zero_le _) ?_); intro w2 hown hgrow; have HO2 := (show Hid (Own 0 5 .u8 w2 (.slice (some ⟨w1.heap.size, 0, none⟩) N N) (List.replicate N (0 : Int))) from own_made (by simpa using hown)); have HS2 := (show Hid (Same w1 w2) from Kept.of_grown hgrow (fun k e => by cases e)); clear hown hgrow)
  have HB2 := (show Hid (Blk w2 w1.heap.size 5 (vals .u8 (List.replicate 4 (0 : Int) ++ (List.replicate 4 (0 : Int) ++ (List.replicate 8 (0 : Int) ++ (List.replicate 4 (0 : Int) ++ List.replicate R.length (0 : Int))))))) from (by have h := Own.blk HO2.out; rw [HN.out, show List.replicate (20 + R.length) (0 : Int) = List.replicate 4 (0 : Int) ++ (List.replicate 4 (0 : Int) ++ (List.replicate 8 (0 : Int) ++ (List.replicate 4 (0 : Int) ++ List.replicate R.length (0 : Int)))) from by simp only [List.replicate_append_replicate]; congr 1; omega] at h; exact h))
  have HK2 := hid (HK1.out.trans HS2.out)
  have HQ2 := (show Hid (Kept (fun b => b = w1.heap.size) w1 w2) from HS2.out.mono (fun _ _ e => absurd e id))
  clear HO2 HS2
  have hN4 : (4 : Int) ≤ (N : Int) := by omega
  have hne4 : ¬ N = 4 := by omega
  have hne8 : ¬ N = 8 := by omega
  have hN8 : (8 : Int) ≤ (N : Int) := by omega
  have hN16 : (16 : Int) ≤ (N : Int) := by omega
  have hN20 : (20 : Int) ≤ (N : Int) := by omega
  go_wp2_with fail
  refine (writeNumber_any w1.heap.size 0 4 N 5 _ ((N : Int)) _ HB2.out (by rw [vals_length]; simp [lows_length]; try omega) (by omega) (by omega) (by omega)).mono ?_
  rintro e w3 ⟨rfl, hb, hk⟩
  have HB3 := (show Hid (Blk w3 w1.heap.size 5 (vals .u8 (lows (N : Int) 4 ++ (List.replicate 4 (0 : Int) ++ (List.replicate 8 (0 : Int) ++ (List.replicate 4 (0 : Int) ++ List.replicate R.length (0 : Int))))))) from (by have h := hb; rw [show List.replicate 4 (0 : Int) ++ (List.replicate 4 (0 : Int) ++ (List.replicate 8 (0 : Int) ++ (List.replicate 4 (0 : Int) ++ List.replicate R.length (0 : Int)))) = ([]) ++ ((List.replicate 4 (0 : Int)) ++ (List.replicate 4 (0 : Int) ++ (List.replicate 8 (0 : Int) ++ (List.replicate 4 (0 : Int) ++ List.replicate R.length (0 : Int))))) from by simp only [List.append_assoc, List.nil_append, List.append_nil], layV _ ([]) (List.replicate 4 (0 : Int)) (List.replicate 4 (0 : Int) ++ (List.replicate 8 (0 : Int) ++ (List.replicate 4 (0 : Int) ++ List.replicate R.length (0 : Int)))) (lows (N : Int) 4) 0 (by simp [lows_length]) (by simp [lows_length])] at h; rw [show lows (N : Int) 4 ++ (List.replicate 4 (0 : Int) ++ (List.replicate 8 (0 : Int) ++ (List.replicate 4 (0 : Int) ++ List.replicate R.length (0 : Int)))) = ([]) ++ ((lows (N : Int) 4) ++ (List.replicate 4 (0 : Int) ++ (List.replicate 8 (0 : Int) ++ (List.replicate 4 (0 : Int) ++ List.replicate R.length (0 : Int))))) from by simp only [List.append_assoc, List.nil_append, List.append_nil]]; exact h))
  have HK3 := (show Hid (Same w w3) from HK2.out.next hk (fun i hi e => by have := HK1.out.size; omega))
  have HQ3 := (show Hid (Kept (fun b => b = w1.heap.size) w1 w3) from HQ2.out.next hk (fun i hi e => e))
  clear hb hk
  go_wp2_with fail
  refine (writeNumber_any w1.heap.size 8 8 (N - 8) 5 _ (lsn) _ HB3.out (by rw [vals_length]; simp [lows_length]; try omega) (by omega) (by omega) (by omega)).mono ?_
  rintro e w4 ⟨rfl, hb, hk⟩
  have HB4 := (show Hid (Blk w4 w1.heap.size 5 (vals .u8 (lows (N : Int) 4 ++ (List.replicate 4 (0 : Int) ++ (lows lsn 8 ++ (List.replicate 4 (0 : Int) ++ List.replicate R.length (0 : Int))))))) from (by have h := hb; rw [show lows (N : Int) 4 ++ (List.replicate 4 (0 : Int) ++ (List.replicate 8 (0 : Int) ++ (List.replicate 4 (0 : Int) ++ List.replicate R.length (0 : Int)))) = (lows (N : Int) 4 ++ List.replicate 4 (0 : Int)) ++ ((List.replicate 8 (0 : Int)) ++ (List.replicate 4 (0 : Int) ++ List.replicate R.length (0 : Int))) from by simp only [List.append_assoc, List.nil_append, List.append_nil], layV _ (lows (N : Int) 4 ++ List.replicate 4 (0 : Int)) (List.replicate 8 (0 : Int)) (List.replicate 4 (0 : Int) ++ List.replicate R.length (0 : Int)) (lows lsn 8) 8 (by simp [lows_length]) (by simp [lows_length])] at h; rw [show lows (N : Int) 4 ++ (List.replicate 4 (0 : Int) ++ (lows lsn 8 ++ (List.replicate 4 (0 : Int) ++ List.replicate R.length (0 : Int)))) = (lows (N : Int) 4 ++ List.replicate 4 (0 : Int)) ++ ((lows lsn 8) ++ (List.replicate 4 (0 : Int) ++ List.replicate R.length (0 : Int))) from by simp only [List.append_assoc, List.nil_append, List.append_nil]]; exact h))
  have HK4 := (show Hid (Same w w4) from HK3.out.next hk (fun i hi e => by have := HK1.out.size; omega))
  have HQ4 := (show Hid (Kept (fun b => b = w1.heap.size) w1 w4) from HQ3.out.next hk (fun i hi e => e))
  clear hb hk
  go_wp2_with fail
  refine (writeNumber_any w1.heap.size 16 4 (N - 16) 5 _ (ep) _ HB4.out (by rw [vals_length]; simp [lows_length]; try omega) (by omega) (by omega) (by omega)).mono ?_
  rintro e w5 ⟨rfl, hb, hk⟩
  have HB5 := (show Hid (Blk w5 w1.heap.size 5 (vals .u8 (lows (N : Int) 4 ++ (List.replicate 4 (0 : Int) ++ (lows lsn 8 ++ (lows ep 4 ++ List.replicate R.length (0 : Int))))))) from (by have h := hb; rw [show lows (N : Int) 4 ++ (List.replicate 4 (0 : Int) ++ (lows lsn 8 ++ (List.replicate 4 (0 : Int) ++ List.replicate R.length (0 : Int)))) = ((lows (N : Int) 4 ++ List.replicate 4 (0 : Int)) ++ lows lsn 8) ++ ((List.replicate 4 (0 : Int)) ++ (List.replicate R.length (0 : Int))) from by simp only [List.append_assoc, List.nil_append, List.append_nil], layV _ ((lows (N : Int) 4 ++ List.replicate 4 (0 : Int)) ++ lows lsn 8) (List.replicate 4 (0 : Int)) (List.replicate R.length (0 : Int)) (lows ep 4) 16 (by simp [lows_length]) (by simp [lows_length])] at h; rw [show lows (N : Int) 4 ++ (List.replicate 4 (0 : Int) ++ (lows lsn 8 ++ (lows ep 4 ++ List.replicate R.length (0 : Int)))) = ((lows (N : Int) 4 ++ List.replicate 4 (0 : Int)) ++ lows lsn 8) ++ ((lows ep 4) ++ (List.replicate R.length (0 : Int))) from by simp only [List.append_assoc, List.nil_append, List.append_nil]]; exact h))
  have HK5 := (show Hid (Same w w5) from HK4.out.next hk (fun i hi e => by have := HK1.out.size; omega))
  have HQ5 := (show Hid (Kept (fun b => b = w1.heap.size) w1 w5) from HQ4.out.next hk (fun i hi e => e))
  clear hb hk
  have HR5 := (show Hid (Own 0 5 .u8 w5 (.slice (some ⟨g1, 0, none⟩) R.length c1) R) from HO1.out.kept HQ5.out (fun b hb e => by have hb : g1 = b := Option.some.inj hb; omega))
  have hcp := run_copy_cells (P := Tryz.prog) w5 22 22 3 5 w1.heap.size 20 (N - 20) (N - 20) ⟨g1, 0, none⟩ R.length c1 (vals .u8 R) Tryz.underlying22 (by rw [hi]; simp [hz1]) (by rw [vals_length]; have : N - 20 = R.length := (by have := HN.out; omega); simp [this]) (news_of (off := 0) (fun i h => by have := HR5.out.cell rfl i h; simpa using this)) (fun j hj => by rw [vals_length] at hj; rw [HB5.out.cell, List.getElem?_eq_getElem (by rw [vals_length]; simp [lows_length]; try omega)]; rfl) (fun j _ => HB5.out.frozen _) vals_one
  have HCP := hid hcp
  have HB6 := (show Hid (Blk (w5.setCells w1.heap.size 20 (vals .u8 R)) w1.heap.size 5 (vals .u8 (lows (N : Int) 4 ++ (List.replicate 4 (0 : Int) ++ (lows lsn 8 ++ (lows ep 4 ++ R)))))) from (by have h := Blk.setCells (vals .u8 R) 20 HB5.out (by rw [vals_length, vals_length]; simp [lows_length]; try omega); rw [show lows (N : Int) 4 ++ (List.replicate 4 (0 : Int) ++ (lows lsn 8 ++ (lows ep 4 ++ List.replicate R.length (0 : Int)))) = (((lows (N : Int) 4 ++ List.replicate 4 (0 : Int)) ++ lows lsn 8) ++ lows ep 4) ++ ((List.replicate R.length (0 : Int)) ++ ([])) from by simp only [List.append_assoc, List.nil_append, List.append_nil], layV _ (((lows (N : Int) 4 ++ List.replicate 4 (0 : Int)) ++ lows lsn 8) ++ lows ep 4) (List.replicate R.length (0 : Int)) ([]) (R) 20 (by simp [lows_length]) (by simp [lows_length])] at h; rw [show lows (N : Int) 4 ++ (List.replicate 4 (0 : Int) ++ (lows lsn 8 ++ (lows ep 4 ++ R))) = (((lows (N : Int) 4 ++ List.replicate 4 (0 : Int)) ++ lows lsn 8) ++ lows ep 4) ++ ((R) ++ ([])) from by simp only [List.append_assoc, List.nil_append, List.append_nil]]; exact h))
  have HK6 := (show Hid (Same w (w5.setCells w1.heap.size 20 (vals .u8 R))) from Kept.setCells (.inl (by have := HK1.out.size; omega)) _ _ HK5.out)
  have HQ6 := (show Hid (Kept (fun b => b = w1.heap.size) w1 (w5.setCells w1.heap.size 20 (vals .u8 R))) from Kept.setCells (R := fun b => b = w1.heap.size) (.inr rfl) _ _ HQ5.out)
  have HD6 := (show Hid (Rd .u8 (w5.setCells w1.heap.size 20 (vals .u8 R)) (.slice (some ⟨w1.heap.size, 8, none⟩) (N - 8) (N - 8)) (sumB lsn ep R)) from (by have h := Blk.rd HB6.out 8 (N - 8) (N - 8) (by have := HN.out; simp [lows_length]; try omega) (Nat.le_refl _) (by unfold maxLen; simp [lows_length]; try omega); rw [HSM.out]; rw [show ((lows (N : Int) 4 ++ (List.replicate 4 (0 : Int) ++ (lows lsn 8 ++ (lows ep 4 ++ R)))).drop 8).take (N - 8) = (lows lsn 8 ++ lows ep 4) ++ R from (by rw [show lows (N : Int) 4 ++ (List.replicate 4 (0 : Int) ++ (lows lsn 8 ++ (lows ep 4 ++ R))) = (lows (N : Int) 4 ++ List.replicate 4 (0 : Int)) ++ ((lows lsn 8 ++ lows ep 4) ++ R) from by simp only [List.append_assoc], List.drop_left' (by simp [lows_length]), List.take_of_length_le (by have := HN.out; simp [lows_length]; try omega)])] at h; exact h))
  rw [vals_length] at hcp
  generalize (w5.setCells w1.heap.size 20 (vals .u8 R)) = w6 at *
  go_wp2_with fail
  have hS : ((fun _ : World => True)) w6.drew := by trivial
  refine wp_region_V ((fun _ : World => True)) 99 6 rfl (by kernel_rfl) ?_
  refine tk 0 51 hS ?_
  refine tk 1 52 hS ?_
  refine tk 2 53 hS ?_
  refine tk 3 54 hS ?_
  refine wpAnyV_one (i := 4) (by kernel_rfl) rfl (fun K hK => ?_)
  go_simp
  refine (implCrc_any _ (sumB lsn ep R) _ HSB.out (by omega) (HD6.out.same (Kept.refl _ _).drew)).mono ?_
  rintro e w7 ⟨rfl, hk⟩
  have HB7 := (show Hid (Blk w7 w1.heap.size 5 (vals .u8 (lows (N : Int) 4 ++ (List.replicate 4 (0 : Int) ++ (lows lsn 8 ++ (lows ep 4 ++ R)))))) from HB6.out.drew.same hk)
  have HK7 := hid (HK6.out.drew.trans hk)
  have HQ7 := (show Hid (Kept (fun b => b = w1.heap.size) w1 w7) from HQ6.out.drew.next (hk.mono (fun _ _ e => absurd e id)) (fun i hi e => e))
  clear hk
  have hS : ((fun _ : World => True)) w7 := by trivial
  refine hK.out _ _ (fun _ => hS) ?_
  clear hK K
  try simp only [Act.put, sA, s0, sS]
  refine wpAnyV_one (i := 5) (by kernel_rfl) rfl (fun K hK => ?_)
  go_simp
  refine (writeNumber_any w1.heap.size 4 4 (N - 4) 5 _ (crcOn 0 (sumB lsn ep R)) _ HB7.out (by rw [vals_length]; simp [lows_length]; try omega) (by omega) (by omega) (by omega)).mono ?_
  rintro e w8 ⟨rfl, hb, hk⟩
  have HB8 := (show Hid (Blk w8 w1.heap.size 5 (vals .u8 (lows (N : Int) 4 ++ (lows (crcOn 0 (sumB lsn ep R)) 4 ++ (lows lsn 8 ++ (lows ep 4 ++ R)))))) from (by have h := hb; rw [show lows (N : Int) 4 ++ (List.replicate 4 (0 : Int) ++ (lows lsn 8 ++ (lows ep 4 ++ R))) = (lows (N : Int) 4) ++ ((List.replicate 4 (0 : Int)) ++ (lows lsn 8 ++ (lows ep 4 ++ R))) from by simp only [List.append_assoc, List.nil_append, List.append_nil], layV _ (lows (N : Int) 4) (List.replicate 4 (0 : Int)) (lows lsn 8 ++ (lows ep 4 ++ R)) (lows (crcOn 0 (sumB lsn ep R)) 4) 4 (by simp [lows_length]) (by simp [lows_length])] at h; rw [show lows (N : Int) 4 ++ (lows (crcOn 0 (sumB lsn ep R)) 4 ++ (lows lsn 8 ++ (lows ep 4 ++ R))) = (lows (N : Int) 4) ++ ((lows (crcOn 0 (sumB lsn ep R)) 4) ++ (lows lsn 8 ++ (lows ep 4 ++ R))) from by simp only [List.append_assoc, List.nil_append, List.append_nil]]; exact h))
  have HK8 := (show Hid (Same w w8) from HK7.out.next hk (fun i hi e => by have := HK1.out.size; omega))
  have HQ8 := (show Hid (Kept (fun b => b = w1.heap.size) w1 w8) from HQ7.out.next hk (fun i hi e => e))
  clear hb hk
  have hS : ((fun _ : World => True)) w8 := by trivial
  refine hK.out _ _ (fun _ => hS) ?_
  clear hK K
  try simp only [Act.put, sA, s0, sS]
  refine wpAnyV_done (by kernel_rfl) ?_
  go_wp2
  go_ret
  have hlen : (frB lsn ep R).length = N := by have := HN.out; rw [HFR.out]; simp [lows_length]; try omega
  refine ⟨some ⟨w1.heap.size, 0, none⟩, N, by first | (rw [hlen]; done) | simp [hlen], fun b hb => ?_, ?_, HK8.out⟩
  ·have hb : w1.heap.size = b := by simpa [Value.ownBlock] using hb
   have := HK1.out.size
   omega
  ·have h := Blk.own HB8.out (by unfold maxLen; simp [lows_length]; try omega)
   rw [← HFR.out] at h
   rw [hlen] at h ⊢
   exact h
 ·rw [frFd_no hy]
  have hor : (encFd x.dat).length = 0 ∨ (1 ≤ (encFd x.dat).length ∧ (encFd x.dat).length ≤ 5000 ∧ ¬ ((1 ≤ lsn ∧ lsn ≤ 1099511627776) ∧ (1 ≤ ep ∧ ep ≤ 4294967295))) := by by_cases h : recFd x.dat = 0; rw [encFd_good h]; exact .inr ⟨(recBd_length h).1, (recBd_length h).2, fun h2 => hy ⟨h, h2⟩⟩; rw [encFd_bad h]; exact .inl rfl
  clear hy hB hn hv
  generalize encFd x.dat = R at *
  obtain ⟨kind, txn, prev, page, slot, ⟨bU, ⟨bDe, bDa, bDc, bDb⟩⟩, ⟨aU, ⟨aDe, aDa, aDc, aDb⟩⟩, uN, nT, ⟨tXe, tXa, tXn, tXc, tXb⟩, ⟨dYe, dYa, dYn, dYc, dYb⟩, ⟨iMe, iMa, iMc, iMb⟩⟩ := x
  dsimp only [StLogRecord.val, StPageRecord.val, BS.v, FR.v] at HE ⊢
  have HK0 := hid (sameA w [.int .i64 kind, .int .i64 txn, .int .i64 prev, .int .i64 page, .int .i64 slot, .bool bU, .slice bDa bDb.length bDc, .bool aU, .slice aDa aDb.length aDc, .int .i64 uN, .int .i64 nT, .slice tXa tXn tXc, .slice dYa dYn dYc, .slice iMa iMb.length iMc] 42)
  have key : (R.length : Int) = 0 ∨ (¬ (R.length : Int) = 0 ∧ lsn < 1) ∨ (¬ (R.length : Int) = 0 ∧ ¬ lsn < 1 ∧ 1099511627776 < lsn) ∨ (¬ (R.length : Int) = 0 ∧ ¬ lsn < 1 ∧ ¬ 1099511627776 < lsn ∧ ep < 1) ∨ (¬ (R.length : Int) = 0 ∧ ¬ lsn < 1 ∧ ¬ 1099511627776 < lsn ∧ ¬ ep < 1 ∧ 4294967295 < ep) := by omega
  clear hor
  rcases key with h1 | ⟨h1, h2⟩ | ⟨h1, h2, h3⟩ | ⟨h1, h2, h3, h4⟩ | ⟨h1, h2, h3, h4, h5⟩
  ·have q1 : ((R.length : Int) == 0) = true := by rw [beq_iff_eq]; exact h1
   go_enter Tryz.func31, Tryz.ntmps31
   go_wp2_with fail
   refine (HE.out _ HK0.out).mono ?_
   rintro e w1 ⟨a1, c1, rfl, hf, ho, hk⟩
   have HK1 := hid (HK0.out.trans hk)
   clear hf ho hk
   go_wp2
   go_ret
   exact ⟨none, 0, rfl, fun b hb => (by simp [Value.ownBlock] at hb), Own.nil _ _ _ _, HK1.out⟩
  ·have q1 : ((R.length : Int) == 0) = false := by rw [beq_eq_false_iff_ne]; exact h1
   have q2 : decide (lsn < 1) = true := decide_eq_true h2
   go_enter Tryz.func31, Tryz.ntmps31
   go_wp2_with fail
   refine (HE.out _ HK0.out).mono ?_
   rintro e w1 ⟨a1, c1, rfl, hf, ho, hk⟩
   have HK1 := hid (HK0.out.trans hk)
   clear hf ho hk
   go_wp2
   go_ret
   exact ⟨none, 0, rfl, fun b hb => (by simp [Value.ownBlock] at hb), Own.nil _ _ _ _, HK1.out⟩
  ·have q1 : ((R.length : Int) == 0) = false := by rw [beq_eq_false_iff_ne]; exact h1
   have q2 : decide (lsn < 1) = false := decide_eq_false h2
   have q3 : decide (1099511627776 < lsn) = true := decide_eq_true h3
   go_enter Tryz.func31, Tryz.ntmps31
   go_wp2_with fail
   refine (HE.out _ HK0.out).mono ?_
   rintro e w1 ⟨a1, c1, rfl, hf, ho, hk⟩
   have HK1 := hid (HK0.out.trans hk)
   clear hf ho hk
   go_wp2
   go_ret
   exact ⟨none, 0, rfl, fun b hb => (by simp [Value.ownBlock] at hb), Own.nil _ _ _ _, HK1.out⟩
  ·have q1 : ((R.length : Int) == 0) = false := by rw [beq_eq_false_iff_ne]; exact h1
   have q2 : decide (lsn < 1) = false := decide_eq_false h2
   have q3 : decide (1099511627776 < lsn) = false := decide_eq_false h3
   have q4 : decide (ep < 1) = true := decide_eq_true h4
   go_enter Tryz.func31, Tryz.ntmps31
   go_wp2_with fail
   refine (HE.out _ HK0.out).mono ?_
   rintro e w1 ⟨a1, c1, rfl, hf, ho, hk⟩
   have HK1 := hid (HK0.out.trans hk)
   clear hf ho hk
   go_wp2
   go_ret
   exact ⟨none, 0, rfl, fun b hb => (by simp [Value.ownBlock] at hb), Own.nil _ _ _ _, HK1.out⟩
  ·have q1 : ((R.length : Int) == 0) = false := by rw [beq_eq_false_iff_ne]; exact h1
   have q2 : decide (lsn < 1) = false := decide_eq_false h2
   have q3 : decide (1099511627776 < lsn) = false := decide_eq_false h3
   have q4 : decide (ep < 1) = false := decide_eq_false h4
   have q5 : decide (4294967295 < ep) = true := decide_eq_true h5
   go_enter Tryz.func31, Tryz.ntmps31
   go_wp2_with fail
   refine (HE.out _ HK0.out).mono ?_
   rintro e w1 ⟨a1, c1, rfl, hf, ho, hk⟩
   have HK1 := hid (HK0.out.trans hk)
   clear hf ho hk
   go_wp2
   go_ret
   exact ⟨none, 0, rfl, fun b hb => (by simp [Value.ownBlock] at hb), Own.nil _ _ _ _, HK1.out⟩
theorem implLogFault0 (x : StLog) (w : World) (hn : x.szs ≤ 1073741824) :
  Calls Tryz.prog 30 #[x.val] w fun e w' => e = .returned (.int .i64 (logFd x.dat)) ∧ Same w w' := by
 obtain ⟨s, ep, st, fl, te, ta, tc, tb⟩ := x
 simp only [StLog.szs] at hn
 dsimp only [StLog.val, StLog.dat, logFd, BS.v, logFault]
 have h1 := fun wx => isLogSize_any s wx
 have b0 := Blk.new w #[.int .i64 s, .int .i64 ep, .int .i64 st, .int .i64 fl, .slice ta tb.length tc] 33
 by_cases hs : 16 ≤ s ∧ s ≤ 800
 ·rw [inB_true hs] at h1
  rw [if_neg (not_not_intro hs)]
  by_cases he : 1 ≤ ep ∧ ep ≤ 4294967295
  ·rw [if_neg (not_not_intro he)]
   have he1 : ¬ ep < 1 := by omega
   have he2 : ¬ 4294967295 < ep := by omega
   clear hs he
   by_cases hp : fl < 512 ∨ st < fl ∨ 1099511627776 < st
   ·rw [if_pos hp]
    by_cases hp1 : fl < 512
    ·clear hp
     go_enter Tryz.func30, Tryz.ntmps30
     go_wp2_with (go_at_call 54; (with_reducible refine (h1 _).mono ?_); rintro e w1 ⟨rfl, hk1⟩; have b1 := b0.same hk1; have c0 : w1.cell? ⟨w.heap.size, 0, none⟩ = some (.int .i64 s) := b1.cell 0; have c1 : w1.cell? ⟨w.heap.size, 1, none⟩ = some (.int .i64 ep) := b1.cell 1; have c2 : w1.cell? ⟨w.heap.size, 2, none⟩ = some (.int .i64 st) := b1.cell 2; have c3 : w1.cell? ⟨w.heap.size, 3, none⟩ = some (.int .i64 fl) := b1.cell 3; have c4 : w1.cell? ⟨w.heap.size, 4, none⟩ = some (.slice ta tb.length tc) := b1.cell 4)
     go_ret
     exact ⟨rfl, ((Kept.refl _ _).alloc _).trans hk1⟩
    ·by_cases hp2 : st < fl
     ·clear hp
      go_enter Tryz.func30, Tryz.ntmps30
      go_wp2_with (go_at_call 54; (with_reducible refine (h1 _).mono ?_); rintro e w1 ⟨rfl, hk1⟩; have b1 := b0.same hk1; have c0 : w1.cell? ⟨w.heap.size, 0, none⟩ = some (.int .i64 s) := b1.cell 0; have c1 : w1.cell? ⟨w.heap.size, 1, none⟩ = some (.int .i64 ep) := b1.cell 1; have c2 : w1.cell? ⟨w.heap.size, 2, none⟩ = some (.int .i64 st) := b1.cell 2; have c3 : w1.cell? ⟨w.heap.size, 3, none⟩ = some (.int .i64 fl) := b1.cell 3; have c4 : w1.cell? ⟨w.heap.size, 4, none⟩ = some (.slice ta tb.length tc) := b1.cell 4)
      go_ret
      exact ⟨rfl, ((Kept.refl _ _).alloc _).trans hk1⟩
     ·have hp3 : 1099511627776 < st := by omega
      clear hp
      go_enter Tryz.func30, Tryz.ntmps30
      go_wp2_with (go_at_call 54; (with_reducible refine (h1 _).mono ?_); rintro e w1 ⟨rfl, hk1⟩; have b1 := b0.same hk1; have c0 : w1.cell? ⟨w.heap.size, 0, none⟩ = some (.int .i64 s) := b1.cell 0; have c1 : w1.cell? ⟨w.heap.size, 1, none⟩ = some (.int .i64 ep) := b1.cell 1; have c2 : w1.cell? ⟨w.heap.size, 2, none⟩ = some (.int .i64 st) := b1.cell 2; have c3 : w1.cell? ⟨w.heap.size, 3, none⟩ = some (.int .i64 fl) := b1.cell 3; have c4 : w1.cell? ⟨w.heap.size, 4, none⟩ = some (.slice ta tb.length tc) := b1.cell 4)
      go_ret
      exact ⟨rfl, ((Kept.refl _ _).alloc _).trans hk1⟩
   ·rw [if_neg hp]
    have hp1 : ¬ fl < 512 := by omega
    have hp2 : ¬ st < fl := by omega
    have hp3 : ¬ 1099511627776 < st := by omega
    clear hp
    have h3 := fun wx => sectorStart_any fl wx (by omega) (by omega)
    have hwr : IntKind.i64.wrap (st - (fl - fl % 512)) = st - (fl - fl % 512) := by rw [IntKind.wrap_i64]; omega
    by_cases ht : (tb.length : Int) ≠ st - fl + fl % 512
    ·rw [if_pos ht]
     go_enter Tryz.func30, Tryz.ntmps30
     go_wp2_with (go_at_call 54; (with_reducible refine (h1 _).mono ?_); rintro e w1 ⟨rfl, hk1⟩; have b1 := b0.same hk1; have c0 : w1.cell? ⟨w.heap.size, 0, none⟩ = some (.int .i64 s) := b1.cell 0; have c1 : w1.cell? ⟨w.heap.size, 1, none⟩ = some (.int .i64 ep) := b1.cell 1; have c2 : w1.cell? ⟨w.heap.size, 2, none⟩ = some (.int .i64 st) := b1.cell 2; have c3 : w1.cell? ⟨w.heap.size, 3, none⟩ = some (.int .i64 fl) := b1.cell 3; have c4 : w1.cell? ⟨w.heap.size, 4, none⟩ = some (.slice ta tb.length tc) := b1.cell 4)
     let Y1 : World → Prop := fun wx : World => wx.cell? ⟨w.heap.size, 2, none⟩ = some (.int .i64 st) ∧ wx.cell? ⟨w.heap.size, 3, none⟩ = some (.int .i64 fl) ∧ wx.cell? ⟨w.heap.size, 4, none⟩ = some (.slice ta tb.length tc)
     have hS : Y1 w1.drew := by exact ⟨c2, c3, c4⟩
     refine wp_region_V Y1 99 11 rfl (by kernel_rfl) ?_
     refine tk 0 34 hS ?_
     refine tk 1 35 hS ?_
     refine tk 2 36 hS ?_
     refine tk 3 37 hS ?_
     refine tk 4 38 hS ?_
     refine tk 5 39 hS ?_
     refine tk 6 40 hS ?_
     refine wpAnyV_one (i := 7) (by kernel_rfl) rfl (fun K hK => ?_)
     go_simp
     refine (h3 _).mono ?_
     rintro e w2 ⟨rfl, hk2⟩
     have b2 := b1.same ((Kept.refl _ _).drew.trans hk2)
     have hS : Y1 w2 := by exact ⟨b2.cell 2, b2.cell 3, b2.cell 4⟩
     refine hK.out _ _ (fun _ => hS) ?_
     clear hK K
     try simp only [Act.put, sA, s0, sS]
     refine tk 8 42 hS ?_
     refine tk 9 43 hS ?_
     refine tk 10 33 hS ?_
     refine wpAnyV_done (by kernel_rfl) ?_
     go_wp2
     go_ret
     exact ⟨rfl, (((Kept.refl _ _).alloc _).trans hk1).drew.trans hk2⟩
    ·rw [if_neg ht]
     have ht' : (tb.length : Int) = st - fl + fl % 512 := by omega
     clear ht
     go_enter Tryz.func30, Tryz.ntmps30
     go_wp2_with (go_at_call 54; (with_reducible refine (h1 _).mono ?_); rintro e w1 ⟨rfl, hk1⟩; have b1 := b0.same hk1; have c0 : w1.cell? ⟨w.heap.size, 0, none⟩ = some (.int .i64 s) := b1.cell 0; have c1 : w1.cell? ⟨w.heap.size, 1, none⟩ = some (.int .i64 ep) := b1.cell 1; have c2 : w1.cell? ⟨w.heap.size, 2, none⟩ = some (.int .i64 st) := b1.cell 2; have c3 : w1.cell? ⟨w.heap.size, 3, none⟩ = some (.int .i64 fl) := b1.cell 3; have c4 : w1.cell? ⟨w.heap.size, 4, none⟩ = some (.slice ta tb.length tc) := b1.cell 4)
     let Y2 : World → Prop := fun wx : World => wx.cell? ⟨w.heap.size, 2, none⟩ = some (.int .i64 st) ∧ wx.cell? ⟨w.heap.size, 3, none⟩ = some (.int .i64 fl) ∧ wx.cell? ⟨w.heap.size, 4, none⟩ = some (.slice ta tb.length tc)
     have hS : Y2 w1.drew := by exact ⟨c2, c3, c4⟩
     refine wp_region_V Y2 99 11 rfl (by kernel_rfl) ?_
     refine tk 0 34 hS ?_
     refine tk 1 35 hS ?_
     refine tk 2 36 hS ?_
     refine tk 3 37 hS ?_
     refine tk 4 38 hS ?_
     refine tk 5 39 hS ?_
     refine tk 6 40 hS ?_
     refine wpAnyV_one (i := 7) (by kernel_rfl) rfl (fun K hK => ?_)
     go_simp
     refine (h3 _).mono ?_
     rintro e w2 ⟨rfl, hk2⟩
     have b2 := b1.same ((Kept.refl _ _).drew.trans hk2)
     have hS : Y2 w2 := by exact ⟨b2.cell 2, b2.cell 3, b2.cell 4⟩
     refine hK.out _ _ (fun _ => hS) ?_
     clear hK K
     try simp only [Act.put, sA, s0, sS]
     refine tk 8 42 hS ?_
     refine tk 9 43 hS ?_
     refine tk 10 33 hS ?_
     refine wpAnyV_done (by kernel_rfl) ?_
     go_wp2
     go_ret
     exact ⟨rfl, (((Kept.refl _ _).alloc _).trans hk1).drew.trans hk2⟩
  ·rw [if_pos he]
   by_cases he1 : ep < 1
   ·clear hs he
    go_enter Tryz.func30, Tryz.ntmps30
    go_wp2_with (go_at_call 54; (with_reducible refine (h1 _).mono ?_); rintro e w1 ⟨rfl, hk1⟩; have b1 := b0.same hk1; have c0 : w1.cell? ⟨w.heap.size, 0, none⟩ = some (.int .i64 s) := b1.cell 0; have c1 : w1.cell? ⟨w.heap.size, 1, none⟩ = some (.int .i64 ep) := b1.cell 1; have c2 : w1.cell? ⟨w.heap.size, 2, none⟩ = some (.int .i64 st) := b1.cell 2; have c3 : w1.cell? ⟨w.heap.size, 3, none⟩ = some (.int .i64 fl) := b1.cell 3; have c4 : w1.cell? ⟨w.heap.size, 4, none⟩ = some (.slice ta tb.length tc) := b1.cell 4)
    go_ret
    exact ⟨rfl, ((Kept.refl _ _).alloc _).trans hk1⟩
   ·have he2 : 4294967295 < ep := by omega
    clear hs he
    go_enter Tryz.func30, Tryz.ntmps30
    go_wp2_with (go_at_call 54; (with_reducible refine (h1 _).mono ?_); rintro e w1 ⟨rfl, hk1⟩; have b1 := b0.same hk1; have c0 : w1.cell? ⟨w.heap.size, 0, none⟩ = some (.int .i64 s) := b1.cell 0; have c1 : w1.cell? ⟨w.heap.size, 1, none⟩ = some (.int .i64 ep) := b1.cell 1; have c2 : w1.cell? ⟨w.heap.size, 2, none⟩ = some (.int .i64 st) := b1.cell 2; have c3 : w1.cell? ⟨w.heap.size, 3, none⟩ = some (.int .i64 fl) := b1.cell 3; have c4 : w1.cell? ⟨w.heap.size, 4, none⟩ = some (.slice ta tb.length tc) := b1.cell 4)
    go_ret
    exact ⟨rfl, ((Kept.refl _ _).alloc _).trans hk1⟩
 ·rw [inB_false hs] at h1
  rw [if_pos hs]
  go_enter Tryz.func30, Tryz.ntmps30
  go_wp2_with (go_at_call 54; (with_reducible refine (h1 _).mono ?_); rintro e w1 ⟨rfl, hk1⟩; have b1 := b0.same hk1; have c0 : w1.cell? ⟨w.heap.size, 0, none⟩ = some (.int .i64 s) := b1.cell 0; have c1 : w1.cell? ⟨w.heap.size, 1, none⟩ = some (.int .i64 ep) := b1.cell 1; have c2 : w1.cell? ⟨w.heap.size, 2, none⟩ = some (.int .i64 st) := b1.cell 2; have c3 : w1.cell? ⟨w.heap.size, 3, none⟩ = some (.int .i64 fl) := b1.cell 3; have c4 : w1.cell? ⟨w.heap.size, 4, none⟩ = some (.slice ta tb.length tc) := b1.cell 4)
  go_ret
  exact ⟨rfl, ((Kept.refl _ _).alloc _).trans hk1⟩
theorem implLogFault_any (x : StLog) (w : World) (hB : x.isB) (hn : x.szs ≤ 1073741824) (hv : StLog.rd w x) :
  Calls Tryz.prog 30 #[x.val] w fun e w' => e = .returned (.int .i64 (logFd x.dat)) ∧ Same w w' := implLogFault0 x w hn
def validP (n : Nat) (p : Int × List Int) : Prop := 0 ≤ p.1 ∧ p.1 < n ∧ p.2.length = 512
def validHead (len m : Nat) : Prop := len % 512 = 0 ∧ 1 ≤ len / 512 ∧ len / 512 ≤ 1024 ∧ m ≤ 8192
def Valid (len : Nat) (ds : List (Int × List Int)) : Prop := validHead len ds.length ∧ ∀ p ∈ ds, validP (len / 512) p
theorem Rd.cut {w : World} {b off c : Nat} {raw : List Int} (h : Rd .u8 w (.slice (some ⟨b, off, none⟩) raw.length c) raw) (x y : Nat) (hxy : x + y ≤ raw.length) :
  Rd .u8 w (.slice (some (if c = x then ⟨b, off, none⟩ else ⟨b, off + x, none⟩)) y (c - x)) ((raw.drop x).take y) := by
 have hl : ((raw.drop x).take y).length = y := by simp; omega
 rcases h.2 with ⟨rfl, _⟩ | ⟨b', off', c', he, hle, hc⟩
 ·simp at hxy
  obtain ⟨rfl, rfl⟩ := hxy
  exact ⟨by simp, .inl ⟨by simp, _, _, rfl, fun h => by cases h⟩⟩
 ·injection he with h1 h2 h3
  injection h1 with h1
  injection h1 with h1 h4
  subst h1 h4 h3
  by_cases h0 : y = 0
  ·subst h0
   exact ⟨by rw [hl]; simp, .inl ⟨by simp, _, _, rfl, fun h => by cases h⟩⟩
  ·rw [if_neg (by omega)]
   refine ⟨by have := h.1; omega, .inr ⟨b, off + x, c - x, by rw [hl], by omega, fun i hi => ?_⟩⟩
   rw [hl] at hi
   rw [Nat.add_assoc, hc (x + i) (by omega)]
   simp [List.getD, List.getElem?_take, List.getElem?_drop, hi]
theorem Rd.part {k : IntKind} {w : World} {b off n c : Nat} {bs : List Int} (h : ∀ i, i < bs.length → w.cell? ⟨b, off + i, none⟩ = some (.int k (bs.getD i 0))) (lo m : Nat) (hm : lo + m ≤ bs.length) (hn : n = m) (hc : m ≤ c) (hmax : m ≤ maxLen) :
  Rd k w (.slice (some ⟨b, off + lo, none⟩) n c) ((bs.drop lo).take m) := by
 have hl : ((bs.drop lo).take m).length = m := by simp; omega
 refine ⟨by omega, .inr ⟨b, off + lo, c, by rw [hn, hl], by rw [hl]; exact hc, fun i hi => ?_⟩⟩
 rw [hl] at hi
 have h1 := h (lo + i) (by omega)
 rw [← Nat.add_assoc] at h1
 rw [h1]
 simp [List.getD, hi]
def lastP (s : Int) : List (Int × List Int) → Option (List Int)
 | [] => none
 | p :: ps => match lastP s ps with
  | some bs => some bs
  | none => if p.1 = s then some p.2 else none
def seeD (s : Int) (dur : List Int) (ds : List (Int × List Int)) : List Int := (lastP s ds).getD ((dur.drop (s.toNat * 512)).take 512)
def IsRead (s : Int) (dur : List Int) (ds : List (Int × List Int)) (bs : List Int) : Prop :=
 (Valid dur.length ds ∧ 0 ≤ s ∧ s < (dur.length / 512 : Nat) ∧ bs = seeD s dur ds) ∨ (¬ (Valid dur.length ds ∧ 0 ≤ s ∧ s < (dur.length / 512 : Nat)) ∧ bs = [])
theorem IsRead.one {s : Int} {dur : List Int} {ds : List (Int × List Int)} {bs cs : List Int} (h : IsRead s dur ds bs) (k : IsRead s dur ds cs) : bs = cs := by
 rcases h with ⟨h1, h2, h3, rfl⟩ | ⟨h, rfl⟩ <;> rcases k with ⟨k1, k2, k3, rfl⟩ | ⟨k, rfl⟩
 ·rfl
 ·exact absurd ⟨h1, h2, h3⟩ k
 ·exact absurd ⟨k1, k2, k3⟩ h
 ·rfl
theorem lastP_mem (s : Int) (ds : List (Int × List Int)) (bs : List Int) (h : lastP s ds = some bs) : ∃ p ∈ ds, p.2 = bs := by
 induction ds with
 | nil => simp [lastP] at h
 | cons p ds ih =>
  unfold lastP at h
  split at h
  ·next cs hc =>
   obtain ⟨q, hq, e⟩ := ih (by rw [hc, ← h])
   exact ⟨q, List.mem_cons_of_mem _ hq, e⟩
  ·split at h
   ·simp at h
    exact ⟨p, List.mem_cons_self .., h⟩
   ·simp at h
theorem IsRead.len {s : Int} {dur : List Int} {ds : List (Int × List Int)} {bs : List Int} (h : IsRead s dur ds bs) : bs.length ≤ 512 := by
 rcases h with ⟨hv, _, _, rfl⟩ | ⟨_, rfl⟩
 ·unfold seeD
  cases hl : lastP s ds with
  | none => simp; omega
  | some cs =>
   obtain ⟨p, hp, rfl⟩ := lastP_mem s ds cs hl
   have := (hv.2 p hp).2.2
   simp [this]
 ·simp
section
variable {P : Program} {ops : Array Oper} {rest : List Oper} {o : Oper} {a : Act} {Q : Exit → Act → World → Prop}
theorem wpList_grow_nil (w : World) (hgd : o.guard = none) (s x : Operand) (t tn : TypeId) (ho : o.op = .call { callee := .builtin .append, args := #[s, x], argTypes := #[t, tn] })
  (e : TypeId) (i : TypeInfo) (z : Value) (size : Nat) (kn : IntKind) (ht : P.underlying t = some (.slice e)) (htn : P.underlying tn = some (.int kn)) (hi : P.info? e = some i) (hz : i.zero = some z) (hsz : i.size = size) (hzs : z.cells.size = size) (h1 : 0 < size)
  (k : IntKind) (n : Nat) (hs : a.eval s = .slice none 0 0) (hx : a.eval x = .int k n) (h0 : 0 < n) (h63 : n ≤ maxLen) (h48 : n * i.bytes ≤ 281474976710656)
  (h : ∀ cap w', n ≤ cap → cap ≤ maxLen → w'.ownsRow 0 e size (.slice (some ⟨w.heap.size, 0, none⟩) 0 cap) 0 [] → w.grownBy w' none → wpList P ops Q rest (a.put o.dst (.slice (some ⟨w.heap.size, 0, none⟩) n cap)) w') :
  wpList P ops Q (o :: rest) a w := by
 refine wpList_plain hgd fun K hK => ?_
 have hrun := Lib.run_append_nil_zeros (P := P) w t tn o.type e i z k kn ht htn hi hz n h0 (by omega) (by unfold maxLen at h63; omega) h48
 unfold Oper.wp
 simp [execOp, ho, resolve, invoke, builtin, hs, hx, hrun, Result.andThen]
 refine hK _ _ (h _ _ (grownCap_ge w n 0 e) (grownCap_le_maxLen w n 0 e h63) ⟨by simp, .inr ⟨w.heap.size, grownCap w n 0 e, _, rfl, Nat.zero_le _, heap_alloc_new w.drew _, Nat.zero_le _, grownCap_le_maxLen w n 0 e h63, ?_, by simp⟩⟩ ⟨rfl, rfl, rfl, by simp, fun k hk _ => Below.heap_alloc w.drew _ k hk⟩)
 have hc := grownCap_ge w n 0 e
 rw [Array.size_append, size_zeroCells, size_zeroCells, hzs, ← Nat.add_mul]
 congr 1
 omega
end
theorem growB_any (n : Nat) (w : World) (hn : n ≤ 1099511627776) :
  Calls Tryz.prog 59 #[.slice none 0 0, .int .i64 n] w fun e w' => ∃ a c, e = .returned (.slice a 0 c) ∧ w'.ownsRow 0 5 1 (.slice a 0 c) 0 [] ∧ (∀ b, (Value.slice a 0 c).ownBlock = some b → w.heap.size ≤ b) ∧ Same w w' := by
 by_cases h : n = 0
 ·subst h
  go_enter Tryz.func59, Tryz.ntmps59
  go_wp2
  go_ret
  exact ⟨none, 0, rfl, World.ownsRow_nil _ _ _ _, fun b hb => by simp [Value.ownBlock] at hb, Kept.refl _ _⟩
 ·have h1 : (0 : Int) < (n : Int) := by omega
  go_enter Tryz.func59, Tryz.ntmps59
  obtain ⟨i0, hi, hz0, hz1, hz2⟩ := info_parts Tryz.infoByte'
  go_wp2_with (at_builtin; refine wpList_grow_nil _ rfl (.tmp 20) (.tmp 21) 22 3 rfl 5 i0 (.int .u8 0) 1 .i64 Tryz.underlying22 Tryz.underlying3 hi hz0 hz1 rfl (by omega) .i64 n rfl rfl (by omega) (by unfold maxLen; omega) (by rw [hz2]; omega) ?_; intro cap w1 hc1 hc2 ho hg; have HO := (show Hid (w1.ownsRow 0 5 1 (.slice (some ⟨w.heap.size, 0, none⟩) 0 cap) 0 []) from ho); have HG := (show Hid (Same w w1) from Kept.of_grown hg (fun k e => by cases e)); clear ho hg)
  go_ret
  exact ⟨_, _, rfl, HO.out, fun b hb => by simp [Value.ownBlock] at hb; omega, HG.out⟩
theorem concat_any (g : Nat) (xa ya : Option Addr) (xc yc : Nat) (xs ys : List Int) (w : World) (hl : xs.length + ys.length ≤ 1099511627776) (hb : Blk w g 22 [.slice xa xs.length xc, .slice ya ys.length yc]) (hx : Rd .u8 w (.slice xa xs.length xc) xs) (hy : Rd .u8 w (.slice ya ys.length yc) ys) :
  Calls Tryz.prog 32 #[.slice (some ⟨g, 0, none⟩) 2 2] w fun e w' => ∃ a n c, e = .returned (.slice a n c) ∧ Own 0 5 .u8 w' (.slice a n c) (xs ++ ys) ∧ (∀ b, (Value.slice a n c).ownBlock = some b → w.heap.size ≤ b) ∧ Same w w' := by
 have HB := (show Hid (Blk w g 22 [.slice xa xs.length xc, .slice ya ys.length yc]) from hb)
 have HX := (show Hid (Rd .u8 w (.slice xa xs.length xc) xs) from hx)
 have HY := (show Hid (Rd .u8 w (.slice ya ys.length yc) ys) from hy)
 obtain ⟨d0, d1⟩ := hb.all2
 have hlt := hb.lt
 have w1 : IntKind.i64.wrap ((xs.length : Int) + (ys.length : Int)) = ((xs.length + ys.length : Nat) : Int) := by rw [IntKind.wrap_i64]; omega
 have hg := growB_any (xs.length + ys.length) w (by omega)
 clear hb hx hy
 go_enter Tryz.func32, Tryz.ntmps32
 go_wp2_with fail
 refine wp_loop_rounds 3 ?_
 rw [rounds_succ]
 go_wp2_with fail
 rw [rounds_succ]
 go_wp2_with fail
 rw [rounds_succ]
 go_wp2_with fail
 rw [Int.natCast_add] at hg
 refine hg.mono ?_
 clear hg w1
 rintro e w2 ⟨a2, c2, rfl, ho, hf, hk⟩
 have HK2 := (show Hid (Same w w2) from hk)
 have HO2 := (show Hid (Own 0 5 .u8 w2 (.slice a2 0 c2) []) from ho)
 have HF2 := (show Hid (∀ b, (Value.slice a2 0 c2).ownBlock = some b → w.heap.size ≤ b) from hf)
 obtain ⟨e0, e1⟩ := (HB.out.same hk).all2
 clear ho hf hk d0 d1
 go_wp2_with fail
 refine wp_loop_rounds 3 ?_
 rw [rounds_succ]
 go_wp2_with (at_builtin; refine wpList_app rfl (.tmp 31) (.tmp 32) rfl (.slice a2 0 c2) (.slice xa xs.length xc) [] xs rfl rfl HO2.out (HX.out.same HK2.out) (by simp; omega) ?_; intro a3 n3 c3 w3 hown hgr; have HO3 := (show Hid (Own 0 5 .u8 w3 (.slice a3 n3 c3) xs) from hown); have HF3 := (show Hid (∀ b, (Value.slice a3 n3 c3).ownBlock = some b → w.heap.size ≤ b) from hgr.fresh HK2.out HF2.out); have HK3 := (show Hid (Same w w3) from hgr.same HK2.out HF2.out); obtain ⟨f0, f1⟩ := (HB.out.same HK3.out).all2; clear hown hgr)
 clear e0 e1
 rw [rounds_succ]
 go_wp2_with (at_builtin; refine wpList_app rfl (.tmp 31) (.tmp 32) rfl (.slice a3 n3 c3) (.slice ya ys.length yc) xs ys rfl rfl HO3.out (HY.out.same HK3.out) (by omega) ?_; intro a4 n4 c4 w4 hown hgr; have HO4 := (show Hid (Own 0 5 .u8 w4 (.slice a4 n4 c4) (xs ++ ys)) from hown); have HF4 := (show Hid (∀ b, (Value.slice a4 n4 c4).ownBlock = some b → w.heap.size ≤ b) from hgr.fresh HK3.out HF3.out); have HK4 := (show Hid (Same w w4) from hgr.same HK3.out HF3.out); clear hown hgr)
 clear f0 f1
 rw [rounds_succ]
 go_wp2
 go_ret
 exact ⟨a4, n4, c4, rfl, HO4.out, HF4.out, HK4.out⟩
end Go.Proofs.YtkdohacgkjpopaaGreat
