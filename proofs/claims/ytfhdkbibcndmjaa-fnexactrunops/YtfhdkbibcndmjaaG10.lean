import Derived.Test.YtfhdkbibcndmjaaG06
import Derived.Test.YtfhdkbibcndmjaaG04
import Derived.Test.YtfhdkbibcndmjaaG03
import Derived.Test.YtfhdkbibcndmjaaG09
namespace Go.Proofs.Ytfhdkbibcndmjaa
set_option maxRecDepth 100000
set_option maxHeartbeats 8000000
open Go.RowKit
set_option linter.unusedVariables false
set_option linter.unusedSimpArgs false
def doD (dur : List Int) (ds : List (Int × List Int)) (op : Int × Int × List Int) : List Int × List (Int × List Int) :=
  if op.1 = 2 then (settleN (fun _ => true) dur ds ds.length, []) else if op.1 = 1 then writeD dur ds op.2.1 op.2.2 else (dur, ds)
theorem doD_valid {dur : List Int} {ds : List (Int × List Int)} {op : Int × Int × List Int} (h : Valid dur.length ds) : (doD dur ds op).1.length = dur.length ∧ Valid dur.length (doD dur ds op).2 := by
  unfold doD
  by_cases h1 : op.1 = 2
  · rw [if_pos h1]
    exact ⟨settleN_length _ _ _ h _ (Nat.le_refl _), ⟨h.1.1, h.1.2.1, h.1.2.2.1, by simp⟩, fun p hp => by simp at hp⟩
  rw [if_neg h1]
  by_cases h2 : op.1 = 1
  · rw [if_pos h2]; exact writeD_valid h
  · rw [if_neg h2]; exact ⟨rfl, h⟩
theorem l1Do_any (dv pv : Value) (dur : List Int) (ps : List PW) (kind sec : Int) (v : Value) (bs : List Int) (w : World) (hd : dur.length ≤ 1099511627776) (hbl : bs.length ≤ 1099511627776) (ho : OwnD 0 40 5 w dv pv dur ps) (hval : Valid dur.length (dataP ps)) (hv : Rd .u8 w v bs) :
    Calls Try.prog 71 #[.agg #[dv, pv], .agg #[.int .i64 kind, .int .i64 sec, v]] w fun e w' => ∃ a n c a' n' c' qs, e = .returned (.agg #[.slice a n c, .slice a' n' c']) ∧ dataP qs = (doD dur (dataP ps) (kind, sec, bs)).2 ∧
      (∀ b, footD (.slice a n c) (.slice a' n' c') qs b → footD dv pv ps b ∨ w.heap.size ≤ b) ∧ OwnD 0 40 5 w' (.slice a n c) (.slice a' n' c') (doD dur (dataP ps) (kind, sec, bs)).1 qs ∧ Kept (fun b => pv.ownBlock = some b) w w' := by
  obtain ⟨a1, c1, rfl⟩ := ho.rd.dur.form
  obtain ⟨a2, c2, rfl⟩ := ho.rd.pend.form
  obtain ⟨av, cv, rfl⟩ := hv.form
  have hm1 := ho.rd.dur.1
  have hbm := hv.1
  have HU := (show Hid (Rd .u8 w (.slice av bs.length cv) bs) from hv)
  have HOD := (show Hid (OwnD 0 40 5 w (.slice a1 dur.length c1) (.slice a2 ps.length c2) dur ps) from ho)
  have HVL := hid hval
  have HBL := hid hbl
  have HDL := hid hd
  obtain ⟨n1, hn1⟩ : ∃ x, dur.length = x := ⟨_, rfl⟩
  obtain ⟨n2, hn2⟩ : ∃ x, ps.length = x := ⟨_, rfl⟩
  obtain ⟨nb, hnb⟩ : ∃ x, bs.length = x := ⟨_, rfl⟩
  have HN1 := hid hn1
  have HNB := hid hnb
  rw [hn1, hn2] at HOD ⊢
  rw [hnb] at HU ⊢
  rw [hn1] at hm1
  clear ho hval hv hbl hd hn1 hn2 hnb hbm
  obtain ⟨wa, hwa⟩ : ∃ x, x = ((w.alloc (.cells #[.slice a1 n1 c1, .slice a2 n2 c2] 25)).alloc (.cells #[.int .i64 kind, .int .i64 sec, .slice av nb cv] 76)).alloc (.cells #[.slice none 0 0, .slice none 0 0] 25) := ⟨_, rfl⟩
  have hka : Same w wa := by rw [hwa]; exact (((Kept.refl _ _).alloc _).alloc _).alloc _
  have hza : wa.heap.size = w.heap.size + 1 + 1 + 1 := by rw [hwa]; simp
  have b0 : Blk wa w.heap.size 25 [.slice a1 n1 c1, .slice a2 n2 c2] := by rw [hwa]; exact (Blk.newA w _ _ _ _).alloc _
  have b1 : Blk wa (w.heap.size + 1) 76 [.int .i64 kind, .int .i64 sec, .slice av nb cv] := by rw [hwa]; exact (Blk.newB w _ _ _ _).alloc _
  have b2 : Blk wa (w.heap.size + 1 + 1) 25 [.slice none 0 0, .slice none 0 0] := by
    rw [hwa]
    have h := Blk.newL ((w.alloc (.cells #[.slice a1 n1 c1, .slice a2 n2 c2] 25)).alloc (.cells #[.int .i64 kind, .int .i64 sec, .slice av nb cv] 76)) [.slice none 0 0, .slice none 0 0] 25
    simpa using h
  have HKA := hid hka
  have HB0 := hid b0
  have HB1 := hid b1
  have HB2 := hid b2
  have HOA := hid (HOD.out.same hka)
  have HUA := hid (HU.out.same hka)
  have HFL : Hid (∀ b, footD (.slice a1 n1 c1) (.slice a2 n2 c2) ps b → b < w.heap.size) := fun b hb => (HOD.out.lt b hb).2
  obtain ⟨g0, g1⟩ := b0.all2
  obtain ⟨o0, o1, o2⟩ := b1.all3
  obtain ⟨z0, z1⟩ := b2.all2
  have fz := b2.frozen
  have lz := b2.lt
  clear hka b0 b1 b2
  go_enter Try.func71, Try.ntmps71
  by_cases k2 : kind = 2
  · subst k2
    have HDD : Hid (doD dur (dataP ps) (2, sec, bs) = (settleN (fun _ => true) dur (dataP ps) (dataP ps).length, [])) := if_pos rfl
    clear z0 z1 fz lz
    go_wp2_with fail
    rw [← hwa]
    clear hwa
    refine (l1Settle_all (.slice a1 n1 c1) (.slice a2 n2 c2) dur ps _ HDL.out HOA.out.rd HVL.out).mono ?_
    rintro e w1 ⟨a, n, c, rfl, hf, hown, hk⟩
    have HK1 := (show Hid (Same w w1) from HKA.out.trans hk)
    have HO1 := hid hown
    have HF1 : Hid (∀ b, (Value.slice a n c).ownBlock = some b → w.heap.size + 1 + 1 < b) := fun b hb => by have h := hf b hb; rw [hza] at h; omega
    have HB21 := hid (HB2.out.same hk)
    clear hf hown hk
    obtain ⟨z0, z1⟩ := HB21.out.all2
    have fz := HB21.out.frozen
    have lz := HB21.out.lt
    go_wp2
    have hst : Kept (fun b => b = w.heap.size + 1 + 1) w1 ((w1.setCell ⟨w.heap.size + 1 + 1, 0, none⟩ (.slice a n c)).setCell ⟨w.heap.size + 1 + 1, 1, none⟩ (.slice none 0 0)) := Kept.setCell (R := fun b => b = w.heap.size + 1 + 1) (Kept.setCell (R := fun b => b = w.heap.size + 1 + 1) (Kept.refl _ _) (p := ⟨w.heap.size + 1 + 1, 0, none⟩) (.inr rfl) _) (p := ⟨w.heap.size + 1 + 1, 1, none⟩) (.inr rfl) _
    refine bodyPost_ret (v := .agg #[.slice a n c, .slice none 0 0]) (by simp [results, Try.results71, go_sem, z0, z1]) rfl ⟨a, n, c, none, 0, 0, [], rfl, ?_, ?_, ?_, ?_⟩
    · rw [HDD.out]; rfl
    · intro b hb
      rcases hb with hb | hb
      · exact .inr (by have := HF1.out b hb; omega)
      · exact absurd hb (footP_nil b)
    · rw [HDD.out]
      refine ⟨?_, OwnP.nil _ _ _ _, fun b hb => absurd hb (footP_nil b)⟩
      have h := HO1.out.kept hst (fun b hb e => by have := HF1.out b hb; omega)
      rw [dataP_length]
      exact h
    · exact (HK1.out.mono (fun _ _ e => e.elim)).next hst (fun i hi e => by omega)
  · have HDD : Hid (doD dur (dataP ps) (kind, sec, bs) = if kind = 1 then writeD dur (dataP ps) sec bs else (dur, dataP ps)) := if_neg k2
    have hk2b : ¬ kind = 2 := k2
    clear g0 g1 z0 z1 fz lz o0 o1 o2
    by_cases k1 : kind = 1
    case neg =>
      have HT0 : Hid (doD dur (dataP ps) (kind, sec, bs) = (dur, dataP ps)) := HDD.out.trans (if_neg k1)
      have kb : (kind == 1) = false := by simp [k1]
      go_wp2_with fail
      rw [← hwa]
      clear hwa
      have hS : (fun wx : World => wx.cell? ⟨w.heap.size, 0, none⟩ = some (.slice a1 n1 c1) ∧ wx.cell? ⟨w.heap.size, 1, none⟩ = some (.slice a2 n2 c2) ∧ wx.cell? ⟨w.heap.size + 1, 0, none⟩ = some (.int .i64 kind) ∧ wx.cell? ⟨w.heap.size + 1, 1, none⟩ = some (.int .i64 sec) ∧ wx.cell? ⟨w.heap.size + 1, 1 + 1, none⟩ = some (.slice av nb cv)) wa.drew := ⟨HB0.out.cell 0, HB0.out.cell 1, HB1.out.cell 0, HB1.out.cell 1, HB1.out.cell 2⟩
      refine wp_region_V (fun wx : World => wx.cell? ⟨w.heap.size, 0, none⟩ = some (.slice a1 n1 c1) ∧ wx.cell? ⟨w.heap.size, 1, none⟩ = some (.slice a2 n2 c2) ∧ wx.cell? ⟨w.heap.size + 1, 0, none⟩ = some (.int .i64 kind) ∧ wx.cell? ⟨w.heap.size + 1, 1, none⟩ = some (.int .i64 sec) ∧ wx.cell? ⟨w.heap.size + 1, 1 + 1, none⟩ = some (.slice av nb cv)) 99 21 rfl (by kernel_rfl) ?_
      refine tk 0 10 hS ?_
      refine tk 1 11 hS ?_
      refine tk 2 12 hS ?_
      refine tk 3 13 hS ?_
      refine tkS 4 14 hS ?_
      refine tkS 5 15 hS ?_
      refine tkS 6 16 hS ?_
      refine tk 7 17 hS ?_
      refine tk 8 18 hS ?_
      refine tkS 9 19 hS ?_
      refine tkS 10 20 hS ?_
      refine tkS 11 21 hS ?_
      refine tkS 12 22 hS ?_
      refine tkS 13 23 hS ?_
      refine tk 14 24 hS ?_
      refine tk 15 25 hS ?_
      refine tkS 16 26 hS ?_
      refine tkS 17 27 hS ?_
      refine tkS 18 28 hS ?_
      refine tkS 19 29 hS ?_
      refine tk 20 30 hS ?_
      refine wpAnyV_done (by kernel_rfl) ?_
      try simp only [Act.put, sA, s0, sS]
      have HKW := (show Hid (Same wa wa) from Kept.refl _ _)
      obtain ⟨g0, g1⟩ := (HB0.out.same HKW.out).all2
      obtain ⟨z0, z1⟩ := (HB2.out.same HKW.out).all2
      have fz := (HB2.out.same HKW.out).frozen
      have lz := (HB2.out.same HKW.out).lt
      go_wp2
      refine bodyPost_ret (v := .agg #[.slice a1 n1 c1, .slice a2 n2 c2]) (by simp [results, Try.results71, go_sem, z0, z1]) rfl ?_
      have hst : Kept (fun b => b = w.heap.size + 1 + 1) wa ((wa.setCell ⟨w.heap.size + 1 + 1, 0, none⟩ (.slice a1 n1 c1)).setCell ⟨w.heap.size + 1 + 1, 1, none⟩ (.slice a2 n2 c2)) := Kept.setCell (R := fun b => b = w.heap.size + 1 + 1) (Kept.setCell (R := fun b => b = w.heap.size + 1 + 1) (Kept.refl _ _) (p := ⟨w.heap.size + 1 + 1, 0, none⟩) (.inr rfl) _) (p := ⟨w.heap.size + 1 + 1, 1, none⟩) (.inr rfl) _
      have key : dataP ps = (doD dur (dataP ps) (kind, sec, bs)).2 ∧ (∀ b, footD (.slice a1 n1 c1) (.slice a2 n2 c2) ps b → footD (.slice a1 n1 c1) (.slice a2 n2 c2) ps b ∨ w.heap.size ≤ b) ∧ OwnD 0 40 5 ((wa.setCell ⟨w.heap.size + 1 + 1, 0, none⟩ (.slice a1 n1 c1)).setCell ⟨w.heap.size + 1 + 1, 1, none⟩ (.slice a2 n2 c2)).drew (.slice a1 n1 c1) (.slice a2 n2 c2) (doD dur (dataP ps) (kind, sec, bs)).1 ps ∧ Kept (fun b => (Value.slice a2 n2 c2).ownBlock = some b) w ((wa.setCell ⟨w.heap.size + 1 + 1, 0, none⟩ (.slice a1 n1 c1)).setCell ⟨w.heap.size + 1 + 1, 1, none⟩ (.slice a2 n2 c2)).drew := by
        refine ⟨by rw [HT0.out], fun b hb => .inl hb, ?_, (((HKA.out.trans HKW.out).mono (fun _ _ e => e.elim)).next hst (fun i hi e => by omega)).drew⟩
        rw [HT0.out]
        exact ((HOA.out.same HKW.out).kept hst (fun b hb e => by have := HFL.out b hb; omega)).same (Kept.refl _ _).drew
      first | exact ⟨a1, n1, c1, a2, n2, c2, ps, rfl, key⟩ | exact ⟨a1, n1, c1, a2, n2, c2, rfl, ps, key⟩ | (obtain ⟨q1, q2, q3, q4⟩ := key; exact ⟨a1, n1, c1, a2, n2, c2, rfl, ps, q1, q2, q3, q4⟩)
    subst k1
    have HD1 : Hid (doD dur (dataP ps) (1, sec, bs) = writeD dur (dataP ps) sec bs) := HDD.out.trans (if_pos rfl)
    by_cases s0 : sec < 0
    · have HT0 : Hid (doD dur (dataP ps) (1, sec, bs) = (dur, dataP ps)) := HD1.out.trans (if_neg (fun h => by have := h.1; omega))
      have s0c : ¬ 0 ≤ sec := by omega
      clear s0
      go_wp2_with fail
      rw [← hwa]
      clear hwa
      have hS : (fun wx : World => wx.cell? ⟨w.heap.size, 0, none⟩ = some (.slice a1 n1 c1) ∧ wx.cell? ⟨w.heap.size, 1, none⟩ = some (.slice a2 n2 c2) ∧ wx.cell? ⟨w.heap.size + 1, 0, none⟩ = some (.int .i64 1) ∧ wx.cell? ⟨w.heap.size + 1, 1, none⟩ = some (.int .i64 sec) ∧ wx.cell? ⟨w.heap.size + 1, 1 + 1, none⟩ = some (.slice av nb cv)) wa.drew := ⟨HB0.out.cell 0, HB0.out.cell 1, HB1.out.cell 0, HB1.out.cell 1, HB1.out.cell 2⟩
      refine wp_region_V (fun wx : World => wx.cell? ⟨w.heap.size, 0, none⟩ = some (.slice a1 n1 c1) ∧ wx.cell? ⟨w.heap.size, 1, none⟩ = some (.slice a2 n2 c2) ∧ wx.cell? ⟨w.heap.size + 1, 0, none⟩ = some (.int .i64 1) ∧ wx.cell? ⟨w.heap.size + 1, 1, none⟩ = some (.int .i64 sec) ∧ wx.cell? ⟨w.heap.size + 1, 1 + 1, none⟩ = some (.slice av nb cv)) 99 21 rfl (by kernel_rfl) ?_
      refine tk 0 10 hS ?_
      refine tk 1 11 hS ?_
      refine tk 2 12 hS ?_
      refine tk 3 13 hS ?_
      refine tk 4 14 hS ?_
      refine tk 5 15 hS ?_
      refine tkV 6 16 (.bool false) hS ?_
      refine tk 7 17 hS ?_
      refine tk 8 18 hS ?_
      refine tkS 9 19 hS ?_
      refine tkS 10 20 hS ?_
      refine tkS 11 21 hS ?_
      refine tkS 12 22 hS ?_
      refine tkS 13 23 hS ?_
      refine tk 14 24 hS ?_
      refine tk 15 25 hS ?_
      refine tkS 16 26 hS ?_
      refine tkS 17 27 hS ?_
      refine tkS 18 28 hS ?_
      refine tkS 19 29 hS ?_
      refine tk 20 30 hS ?_
      refine wpAnyV_done (by kernel_rfl) ?_
      try simp only [Act.put, sA, s0, sS]
      have HKW := (show Hid (Same wa wa) from Kept.refl _ _)
      obtain ⟨g0, g1⟩ := (HB0.out.same HKW.out).all2
      obtain ⟨z0, z1⟩ := (HB2.out.same HKW.out).all2
      have fz := (HB2.out.same HKW.out).frozen
      have lz := (HB2.out.same HKW.out).lt
      go_wp2
      refine bodyPost_ret (v := .agg #[.slice a1 n1 c1, .slice a2 n2 c2]) (by simp [results, Try.results71, go_sem, z0, z1]) rfl ?_
      have hst : Kept (fun b => b = w.heap.size + 1 + 1) wa ((wa.setCell ⟨w.heap.size + 1 + 1, 0, none⟩ (.slice a1 n1 c1)).setCell ⟨w.heap.size + 1 + 1, 1, none⟩ (.slice a2 n2 c2)) := Kept.setCell (R := fun b => b = w.heap.size + 1 + 1) (Kept.setCell (R := fun b => b = w.heap.size + 1 + 1) (Kept.refl _ _) (p := ⟨w.heap.size + 1 + 1, 0, none⟩) (.inr rfl) _) (p := ⟨w.heap.size + 1 + 1, 1, none⟩) (.inr rfl) _
      have key : dataP ps = (doD dur (dataP ps) (1, sec, bs)).2 ∧ (∀ b, footD (.slice a1 n1 c1) (.slice a2 n2 c2) ps b → footD (.slice a1 n1 c1) (.slice a2 n2 c2) ps b ∨ w.heap.size ≤ b) ∧ OwnD 0 40 5 ((wa.setCell ⟨w.heap.size + 1 + 1, 0, none⟩ (.slice a1 n1 c1)).setCell ⟨w.heap.size + 1 + 1, 1, none⟩ (.slice a2 n2 c2)).drew (.slice a1 n1 c1) (.slice a2 n2 c2) (doD dur (dataP ps) (1, sec, bs)).1 ps ∧ Kept (fun b => (Value.slice a2 n2 c2).ownBlock = some b) w ((wa.setCell ⟨w.heap.size + 1 + 1, 0, none⟩ (.slice a1 n1 c1)).setCell ⟨w.heap.size + 1 + 1, 1, none⟩ (.slice a2 n2 c2)).drew := by
        refine ⟨by rw [HT0.out], fun b hb => .inl hb, ?_, (((HKA.out.trans HKW.out).mono (fun _ _ e => e.elim)).next hst (fun i hi e => by omega)).drew⟩
        rw [HT0.out]
        exact ((HOA.out.same HKW.out).kept hst (fun b hb e => by have := HFL.out b hb; omega)).same (Kept.refl _ _).drew
      first | exact ⟨a1, n1, c1, a2, n2, c2, ps, rfl, key⟩ | exact ⟨a1, n1, c1, a2, n2, c2, rfl, ps, key⟩ | (obtain ⟨q1, q2, q3, q4⟩ := key; exact ⟨a1, n1, c1, a2, n2, c2, rfl, ps, q1, q2, q3, q4⟩)
    have s0b : 0 ≤ sec := by omega
    have sb : decide (0 ≤ sec) = true := by simp; omega
    by_cases s1 : sec < ((n1 / 512 : Nat) : Int)
    case neg =>
      have HT0 : Hid (doD dur (dataP ps) (1, sec, bs) = (dur, dataP ps)) := HD1.out.trans (if_neg (fun h => s1 (by have := h.2.1; rw [HN1.out] at this; exact this)))
      have sc : decide (sec < ((n1 / 512 : Nat) : Int)) = false := by simp; omega
      have sc2 : decide (sec < (n1 : Int) / 512) = false := by simp; omega
      have sc3 : (n1 : Int) / 512 ≤ sec := by omega
      go_wp2_with fail
      rw [← hwa]
      clear hwa
      have hS : (fun wx : World => wx.cell? ⟨w.heap.size, 0, none⟩ = some (.slice a1 n1 c1) ∧ wx.cell? ⟨w.heap.size, 1, none⟩ = some (.slice a2 n2 c2) ∧ wx.cell? ⟨w.heap.size + 1, 0, none⟩ = some (.int .i64 1) ∧ wx.cell? ⟨w.heap.size + 1, 1, none⟩ = some (.int .i64 sec) ∧ wx.cell? ⟨w.heap.size + 1, 1 + 1, none⟩ = some (.slice av nb cv)) wa.drew := ⟨HB0.out.cell 0, HB0.out.cell 1, HB1.out.cell 0, HB1.out.cell 1, HB1.out.cell 2⟩
      refine wp_region_V (fun wx : World => wx.cell? ⟨w.heap.size, 0, none⟩ = some (.slice a1 n1 c1) ∧ wx.cell? ⟨w.heap.size, 1, none⟩ = some (.slice a2 n2 c2) ∧ wx.cell? ⟨w.heap.size + 1, 0, none⟩ = some (.int .i64 1) ∧ wx.cell? ⟨w.heap.size + 1, 1, none⟩ = some (.int .i64 sec) ∧ wx.cell? ⟨w.heap.size + 1, 1 + 1, none⟩ = some (.slice av nb cv)) 99 21 rfl (by kernel_rfl) ?_
      refine tk 0 10 hS ?_
      refine tk 1 11 hS ?_
      refine tk 2 12 hS ?_
      refine tk 3 13 hS ?_
      refine tk 4 14 hS ?_
      refine tk 5 15 hS ?_
      refine tk 6 16 hS ?_
      refine tk 7 17 hS ?_
      refine tk 8 18 hS ?_
      refine tk 9 19 hS ?_
      refine tk 10 20 hS ?_
      refine tk 11 21 hS ?_
      refine wpAnyV_one (i := 12) (by kernel_rfl) rfl (fun K hK => ?_)
      go_simp
      refine (l1Sectors_any a1 n1 c1 a2 n2 c2 _ hm1).mono ?_
      rintro e w1 ⟨rfl, hw1⟩
      have hk1 : Same wa w1 := by rw [hw1]; exact (Kept.refl _ _).drew.alloc _
      clear hw1
      go_wp2_with fail
      have hS1 : (fun wx : World => wx.cell? ⟨w.heap.size, 0, none⟩ = some (.slice a1 n1 c1) ∧ wx.cell? ⟨w.heap.size, 1, none⟩ = some (.slice a2 n2 c2) ∧ wx.cell? ⟨w.heap.size + 1, 0, none⟩ = some (.int .i64 1) ∧ wx.cell? ⟨w.heap.size + 1, 1, none⟩ = some (.int .i64 sec) ∧ wx.cell? ⟨w.heap.size + 1, 1 + 1, none⟩ = some (.slice av nb cv)) w1 := ⟨(HB0.out.same hk1).cell 0, (HB0.out.same hk1).cell 1, (HB1.out.same hk1).cell 0, (HB1.out.same hk1).cell 1, (HB1.out.same hk1).cell 2⟩
      refine hK.out _ _ (fun _ => hS1) ?_
      clear hK K
      try simp only [Act.put, sA, s0, sS]
      refine tk 13 23 hS1 ?_
      refine tk 14 24 hS1 ?_
      refine tk 15 25 hS1 ?_
      refine tkS 16 26 hS1 ?_
      refine tkS 17 27 hS1 ?_
      refine tkS 18 28 hS1 ?_
      refine tkS 19 29 hS1 ?_
      refine tk 20 30 hS1 ?_
      refine wpAnyV_done (by kernel_rfl) ?_
      try simp only [Act.put, sA, s0, sS]
      have HKW := (show Hid (Same wa w1) from hk1)
      obtain ⟨g0, g1⟩ := (HB0.out.same HKW.out).all2
      obtain ⟨z0, z1⟩ := (HB2.out.same HKW.out).all2
      have fz := (HB2.out.same HKW.out).frozen
      have lz := (HB2.out.same HKW.out).lt
      go_wp2
      refine bodyPost_ret (v := .agg #[.slice a1 n1 c1, .slice a2 n2 c2]) (by simp [results, Try.results71, go_sem, z0, z1]) rfl ?_
      have hst : Kept (fun b => b = w.heap.size + 1 + 1) w1 ((w1.setCell ⟨w.heap.size + 1 + 1, 0, none⟩ (.slice a1 n1 c1)).setCell ⟨w.heap.size + 1 + 1, 1, none⟩ (.slice a2 n2 c2)) := Kept.setCell (R := fun b => b = w.heap.size + 1 + 1) (Kept.setCell (R := fun b => b = w.heap.size + 1 + 1) (Kept.refl _ _) (p := ⟨w.heap.size + 1 + 1, 0, none⟩) (.inr rfl) _) (p := ⟨w.heap.size + 1 + 1, 1, none⟩) (.inr rfl) _
      have key : dataP ps = (doD dur (dataP ps) (1, sec, bs)).2 ∧ (∀ b, footD (.slice a1 n1 c1) (.slice a2 n2 c2) ps b → footD (.slice a1 n1 c1) (.slice a2 n2 c2) ps b ∨ w.heap.size ≤ b) ∧ OwnD 0 40 5 ((w1.setCell ⟨w.heap.size + 1 + 1, 0, none⟩ (.slice a1 n1 c1)).setCell ⟨w.heap.size + 1 + 1, 1, none⟩ (.slice a2 n2 c2)) (.slice a1 n1 c1) (.slice a2 n2 c2) (doD dur (dataP ps) (1, sec, bs)).1 ps ∧ Kept (fun b => (Value.slice a2 n2 c2).ownBlock = some b) w ((w1.setCell ⟨w.heap.size + 1 + 1, 0, none⟩ (.slice a1 n1 c1)).setCell ⟨w.heap.size + 1 + 1, 1, none⟩ (.slice a2 n2 c2)) := by
        refine ⟨by rw [HT0.out], fun b hb => .inl hb, ?_, (((HKA.out.trans HKW.out).mono (fun _ _ e => e.elim)).next hst (fun i hi e => by omega))⟩
        rw [HT0.out]
        exact ((HOA.out.same HKW.out).kept hst (fun b hb e => by have := HFL.out b hb; omega))
      first | exact ⟨a1, n1, c1, a2, n2, c2, ps, rfl, key⟩ | exact ⟨a1, n1, c1, a2, n2, c2, rfl, ps, key⟩ | (obtain ⟨q1, q2, q3, q4⟩ := key; exact ⟨a1, n1, c1, a2, n2, c2, rfl, ps, q1, q2, q3, q4⟩)
    have sc : decide (sec < ((n1 / 512 : Nat) : Int)) = true := by simp; omega
    have sc2 : decide (sec < (n1 : Int) / 512) = true := by simp; omega
    have sc3 : sec < (n1 : Int) / 512 := by omega
    by_cases s2 : nb = 512
    case neg =>
      have s2b : ¬ (nb : Int) = 512 := by omega
      have sd : ((nb : Int) == 512) = false := by simp; omega
      have HT0 : Hid (doD dur (dataP ps) (1, sec, bs) = (dur, dataP ps)) := HD1.out.trans (if_neg (fun h => s2 (by have := h.2.2; rw [HNB.out] at this; exact this)))
      go_wp2_with fail
      rw [← hwa]
      clear hwa
      have hS : (fun wx : World => wx.cell? ⟨w.heap.size, 0, none⟩ = some (.slice a1 n1 c1) ∧ wx.cell? ⟨w.heap.size, 1, none⟩ = some (.slice a2 n2 c2) ∧ wx.cell? ⟨w.heap.size + 1, 0, none⟩ = some (.int .i64 1) ∧ wx.cell? ⟨w.heap.size + 1, 1, none⟩ = some (.int .i64 sec) ∧ wx.cell? ⟨w.heap.size + 1, 1 + 1, none⟩ = some (.slice av nb cv)) wa.drew := ⟨HB0.out.cell 0, HB0.out.cell 1, HB1.out.cell 0, HB1.out.cell 1, HB1.out.cell 2⟩
      refine wp_region_V (fun wx : World => wx.cell? ⟨w.heap.size, 0, none⟩ = some (.slice a1 n1 c1) ∧ wx.cell? ⟨w.heap.size, 1, none⟩ = some (.slice a2 n2 c2) ∧ wx.cell? ⟨w.heap.size + 1, 0, none⟩ = some (.int .i64 1) ∧ wx.cell? ⟨w.heap.size + 1, 1, none⟩ = some (.int .i64 sec) ∧ wx.cell? ⟨w.heap.size + 1, 1 + 1, none⟩ = some (.slice av nb cv)) 99 21 rfl (by kernel_rfl) ?_
      refine tk 0 10 hS ?_
      refine tk 1 11 hS ?_
      refine tk 2 12 hS ?_
      refine tk 3 13 hS ?_
      refine tk 4 14 hS ?_
      refine tk 5 15 hS ?_
      refine tk 6 16 hS ?_
      refine tk 7 17 hS ?_
      refine tk 8 18 hS ?_
      refine tk 9 19 hS ?_
      refine tk 10 20 hS ?_
      refine tk 11 21 hS ?_
      refine wpAnyV_one (i := 12) (by kernel_rfl) rfl (fun K hK => ?_)
      go_simp
      refine (l1Sectors_any a1 n1 c1 a2 n2 c2 _ hm1).mono ?_
      rintro e w1 ⟨rfl, hw1⟩
      have hk1 : Same wa w1 := by rw [hw1]; exact (Kept.refl _ _).drew.alloc _
      clear hw1
      go_wp2_with fail
      have hS1 : (fun wx : World => wx.cell? ⟨w.heap.size, 0, none⟩ = some (.slice a1 n1 c1) ∧ wx.cell? ⟨w.heap.size, 1, none⟩ = some (.slice a2 n2 c2) ∧ wx.cell? ⟨w.heap.size + 1, 0, none⟩ = some (.int .i64 1) ∧ wx.cell? ⟨w.heap.size + 1, 1, none⟩ = some (.int .i64 sec) ∧ wx.cell? ⟨w.heap.size + 1, 1 + 1, none⟩ = some (.slice av nb cv)) w1 := ⟨(HB0.out.same hk1).cell 0, (HB0.out.same hk1).cell 1, (HB1.out.same hk1).cell 0, (HB1.out.same hk1).cell 1, (HB1.out.same hk1).cell 2⟩
      refine hK.out _ _ (fun _ => hS1) ?_
      clear hK K
      try simp only [Act.put, sA, s0, sS]
      refine tk 13 23 hS1 ?_
      refine tk 14 24 hS1 ?_
      refine tk 15 25 hS1 ?_
      refine tk 16 26 hS1 ?_
      refine tk 17 27 hS1 ?_
      refine tk 18 28 hS1 ?_
      refine tk 19 29 hS1 ?_
      refine tk 20 30 hS1 ?_
      refine wpAnyV_done (by kernel_rfl) ?_
      try simp only [Act.put, sA, s0, sS]
      have HKW := (show Hid (Same wa w1) from hk1)
      obtain ⟨g0, g1⟩ := (HB0.out.same HKW.out).all2
      obtain ⟨z0, z1⟩ := (HB2.out.same HKW.out).all2
      have fz := (HB2.out.same HKW.out).frozen
      have lz := (HB2.out.same HKW.out).lt
      go_wp2
      refine bodyPost_ret (v := .agg #[.slice a1 n1 c1, .slice a2 n2 c2]) (by simp [results, Try.results71, go_sem, z0, z1]) rfl ?_
      have hst : Kept (fun b => b = w.heap.size + 1 + 1) w1 ((w1.setCell ⟨w.heap.size + 1 + 1, 0, none⟩ (.slice a1 n1 c1)).setCell ⟨w.heap.size + 1 + 1, 1, none⟩ (.slice a2 n2 c2)) := Kept.setCell (R := fun b => b = w.heap.size + 1 + 1) (Kept.setCell (R := fun b => b = w.heap.size + 1 + 1) (Kept.refl _ _) (p := ⟨w.heap.size + 1 + 1, 0, none⟩) (.inr rfl) _) (p := ⟨w.heap.size + 1 + 1, 1, none⟩) (.inr rfl) _
      have key : dataP ps = (doD dur (dataP ps) (1, sec, bs)).2 ∧ (∀ b, footD (.slice a1 n1 c1) (.slice a2 n2 c2) ps b → footD (.slice a1 n1 c1) (.slice a2 n2 c2) ps b ∨ w.heap.size ≤ b) ∧ OwnD 0 40 5 ((w1.setCell ⟨w.heap.size + 1 + 1, 0, none⟩ (.slice a1 n1 c1)).setCell ⟨w.heap.size + 1 + 1, 1, none⟩ (.slice a2 n2 c2)) (.slice a1 n1 c1) (.slice a2 n2 c2) (doD dur (dataP ps) (1, sec, bs)).1 ps ∧ Kept (fun b => (Value.slice a2 n2 c2).ownBlock = some b) w ((w1.setCell ⟨w.heap.size + 1 + 1, 0, none⟩ (.slice a1 n1 c1)).setCell ⟨w.heap.size + 1 + 1, 1, none⟩ (.slice a2 n2 c2)) := by
        refine ⟨by rw [HT0.out], fun b hb => .inl hb, ?_, (((HKA.out.trans HKW.out).mono (fun _ _ e => e.elim)).next hst (fun i hi e => by omega))⟩
        rw [HT0.out]
        exact ((HOA.out.same HKW.out).kept hst (fun b hb e => by have := HFL.out b hb; omega))
      first | exact ⟨a1, n1, c1, a2, n2, c2, ps, rfl, key⟩ | exact ⟨a1, n1, c1, a2, n2, c2, rfl, ps, key⟩ | (obtain ⟨q1, q2, q3, q4⟩ := key; exact ⟨a1, n1, c1, a2, n2, c2, rfl, ps, q1, q2, q3, q4⟩)
    subst s2
    have HT0 : Hid (doD dur (dataP ps) (1, sec, bs) = putD dur (dataP ps) sec bs) := HD1.out.trans (if_pos ⟨s0b, by rw [HN1.out]; exact s1, HNB.out⟩)
    go_wp2_with fail
    rw [← hwa]
    clear hwa
    have hS : (fun wx : World => wx.cell? ⟨w.heap.size, 0, none⟩ = some (.slice a1 n1 c1) ∧ wx.cell? ⟨w.heap.size, 1, none⟩ = some (.slice a2 n2 c2) ∧ wx.cell? ⟨w.heap.size + 1, 0, none⟩ = some (.int .i64 1) ∧ wx.cell? ⟨w.heap.size + 1, 1, none⟩ = some (.int .i64 sec) ∧ wx.cell? ⟨w.heap.size + 1, 1 + 1, none⟩ = some (.slice av 512 cv)) wa.drew := ⟨HB0.out.cell 0, HB0.out.cell 1, HB1.out.cell 0, HB1.out.cell 1, HB1.out.cell 2⟩
    refine wp_region_V (fun wx : World => wx.cell? ⟨w.heap.size, 0, none⟩ = some (.slice a1 n1 c1) ∧ wx.cell? ⟨w.heap.size, 1, none⟩ = some (.slice a2 n2 c2) ∧ wx.cell? ⟨w.heap.size + 1, 0, none⟩ = some (.int .i64 1) ∧ wx.cell? ⟨w.heap.size + 1, 1, none⟩ = some (.int .i64 sec) ∧ wx.cell? ⟨w.heap.size + 1, 1 + 1, none⟩ = some (.slice av 512 cv)) 99 21 rfl (by kernel_rfl) ?_
    refine tk 0 10 hS ?_
    refine tk 1 11 hS ?_
    refine tk 2 12 hS ?_
    refine tk 3 13 hS ?_
    refine tk 4 14 hS ?_
    refine tk 5 15 hS ?_
    refine tk 6 16 hS ?_
    refine tk 7 17 hS ?_
    refine tk 8 18 hS ?_
    refine tk 9 19 hS ?_
    refine tk 10 20 hS ?_
    refine tk 11 21 hS ?_
    refine wpAnyV_one (i := 12) (by kernel_rfl) rfl (fun K hK => ?_)
    go_simp
    refine (l1Sectors_any a1 n1 c1 a2 n2 c2 _ hm1).mono ?_
    rintro e w1 ⟨rfl, hw1⟩
    have hk1 : Same wa w1 := by rw [hw1]; exact (Kept.refl _ _).drew.alloc _
    clear hw1
    go_wp2_with fail
    have hS1 : (fun wx : World => wx.cell? ⟨w.heap.size, 0, none⟩ = some (.slice a1 n1 c1) ∧ wx.cell? ⟨w.heap.size, 1, none⟩ = some (.slice a2 n2 c2) ∧ wx.cell? ⟨w.heap.size + 1, 0, none⟩ = some (.int .i64 1) ∧ wx.cell? ⟨w.heap.size + 1, 1, none⟩ = some (.int .i64 sec) ∧ wx.cell? ⟨w.heap.size + 1, 1 + 1, none⟩ = some (.slice av 512 cv)) w1 := ⟨(HB0.out.same hk1).cell 0, (HB0.out.same hk1).cell 1, (HB1.out.same hk1).cell 0, (HB1.out.same hk1).cell 1, (HB1.out.same hk1).cell 2⟩
    refine hK.out _ _ (fun _ => hS1) ?_
    clear hK K
    try simp only [Act.put, sA, s0, sS]
    refine tk 13 23 hS1 ?_
    refine tk 14 24 hS1 ?_
    refine tk 15 25 hS1 ?_
    refine tk 16 26 hS1 ?_
    refine tk 17 27 hS1 ?_
    refine tk 18 28 hS1 ?_
    refine tk 19 29 hS1 ?_
    refine tk 20 30 hS1 ?_
    refine wpAnyV_done (by kernel_rfl) ?_
    try simp only [Act.put, sA, s0, sS]
    have HKW := (show Hid (Same wa w1) from hk1)
    obtain ⟨g0, g1⟩ := (HB0.out.same HKW.out).all2
    obtain ⟨o0, o1, o2⟩ := (HB1.out.same HKW.out).all3
    clear hk1 hS hS1
    go_wp2_with fail
    refine (l1Put_any (.slice a1 n1 c1) (.slice a2 n2 c2) dur ps sec (.slice av 512 cv) bs _ HDL.out HBL.out (HOA.out.same HKW.out) HVL.out (HUA.out.same HKW.out)).mono ?_
    rintro e w2 ⟨a, n, c, a', n', c', qs, rfl, hq, hf, hown, hk⟩
    have HQ := hid hq
    have HO2 := hid hown
    have HK2 := hid hk
    have hz1 := HKW.out.size
    have HF2 : Hid (∀ b, footD (.slice a n c) (.slice a' n' c') qs b → (footD (.slice a1 n1 c1) (.slice a2 n2 c2) ps b ∨ w.heap.size ≤ b) ∧ b ≠ w.heap.size + 1 + 1) := fun b hb => by
      rcases hf b hb with h | h
      · exact ⟨.inl h, by have := HFL.out b h; omega⟩
      · exact ⟨.inr (by omega), by omega⟩
    have HB22 := hid ((HB2.out.same HKW.out).kept hk (fun e => by have := HFL.out _ (.inr (.inl e)); omega))
    clear hq hf hown hk g0 g1 o0 o1 o2
    obtain ⟨z0, z1⟩ := HB22.out.all2
    have fz := HB22.out.frozen
    have lz := HB22.out.lt
    go_wp2
    refine bodyPost_ret (v := .agg #[.slice a n c, .slice a' n' c']) (by simp [results, Try.results71, go_sem, z0, z1]) rfl ?_
    have hst : Kept (fun b => b = w.heap.size + 1 + 1) w2 ((w2.setCell ⟨w.heap.size + 1 + 1, 0, none⟩ (.slice a n c)).setCell ⟨w.heap.size + 1 + 1, 1, none⟩ (.slice a' n' c')) := Kept.setCell (R := fun b => b = w.heap.size + 1 + 1) (Kept.setCell (R := fun b => b = w.heap.size + 1 + 1) (Kept.refl _ _) (p := ⟨w.heap.size + 1 + 1, 0, none⟩) (.inr rfl) _) (p := ⟨w.heap.size + 1 + 1, 1, none⟩) (.inr rfl) _
    have q1 : dataP qs = (doD dur (dataP ps) (1, sec, bs)).2 := by rw [HT0.out]; exact HQ.out
    have q3 : OwnD 0 40 5 ((w2.setCell ⟨w.heap.size + 1 + 1, 0, none⟩ (.slice a n c)).setCell ⟨w.heap.size + 1 + 1, 1, none⟩ (.slice a' n' c')) (.slice a n c) (.slice a' n' c') (doD dur (dataP ps) (1, sec, bs)).1 qs := by
      rw [HT0.out]
      exact HO2.out.kept hst (fun b hb e => (HF2.out b hb).2 e)
    have q4 : Kept (fun b => (Value.slice a2 n2 c2).ownBlock = some b) w ((w2.setCell ⟨w.heap.size + 1 + 1, 0, none⟩ (.slice a n c)).setCell ⟨w.heap.size + 1 + 1, 1, none⟩ (.slice a' n' c')) := (((HKA.out.trans HKW.out).mono (fun _ _ e => e.elim)).next HK2.out (fun i hi e => e)).next hst (fun i hi e => by omega)
    first | exact ⟨a, n, c, a', n', c', qs, rfl, q1, fun b hb => (HF2.out b hb).1, q3, q4⟩ | exact ⟨a, n, c, a', n', c', rfl, qs, q1, fun b hb => (HF2.out b hb).1, q3, q4⟩
end Go.Proofs.Ytfhdkbibcndmjaa

namespace Go.Proofs.Ytfhdkbibcndmjaa
set_option maxRecDepth 100000
set_option maxHeartbeats 8000000
open Go.RowKit
set_option linter.unusedVariables false
set_option linter.unusedSimpArgs false
theorem Plat.kept {R : Nat → Prop} {w w' : World} {B : Nat} {dv pv : Value} {dur : List Int} {ds : List (Int × List Int)} (h : Plat w B dv pv dur ds) (hk : Kept R w w') (hB : ¬ R B) (hd : ∀ b, dv.ownBlock = some b → ¬ R b) (hp : ∀ b, pv.ownBlock = some b → ¬ R b) : Plat w' B dv pv dur ds :=
  ⟨h.box.kept hk hB, hk.owns h.dur hd, hk.owns h.pend hp, h.a1, h.a2, h.a3⟩
theorem Plat.same {w w' : World} {B : Nat} {dv pv : Value} {dur : List Int} {ds : List (Int × List Int)} (h : Plat w B dv pv dur ds) (hk : Same w w') : Plat w' B dv pv dur ds := h.kept hk id (fun _ _ => id) (fun _ _ => id)
theorem doOp_any (B : Nat) (dv pv : Value) (dur : List Int) (ds : List (Int × List Int)) (kind sec : Int) (v : Value) (bs : List Int) (w : World) (hp : Plat w B dv pv dur ds) (hval : Valid dur.length ds) (hv : Rd .u8 w v bs) (hsep : bs ≠ [] → ∀ b, looks v b → b ≠ B ∧ dv.ownBlock ≠ some b ∧ pv.ownBlock ≠ some b) :
    Calls Try.prog 54 #[.pointer (some ⟨B, 0, none⟩), .agg #[.int .i64 kind, .int .i64 sec, v]] w fun e w' => e = .returned (.tuple #[]) ∧ (∃ pv', Plat w' B dv pv' (doD dur ds (kind, sec, bs)).1 (doD dur ds (kind, sec, bs)).2 ∧ ∀ b, pv'.ownBlock = some b → pv.ownBlock = some b ∨ w.heap.size ≤ b) ∧ Kept (fun b => b = B ∨ dv.ownBlock = some b ∨ pv.ownBlock = some b) w w' := by
  obtain ⟨av, cv, rfl⟩ := hv.form
  have hka : Same w (w.alloc (.cells #[.int .i64 kind, .int .i64 sec, .slice av bs.length cv] 76)) := (Kept.refl _ _).alloc _
  have hb : Blk (w.alloc (.cells #[.int .i64 kind, .int .i64 sec, .slice av bs.length cv] 76)) w.heap.size 76 [.int .i64 kind, .int .i64 sec, .slice av bs.length cv] := Blk.newL w [.int .i64 kind, .int .i64 sec, .slice av bs.length cv] 76
  have kw := write_any B dv pv dur ds sec (.slice av bs.length cv) bs _ (hp.same hka) hval (hv.same hka) hsep
  have ks := sync_any B dv pv dur ds _ (hp.same hka) hval
  have HP := hid hp
  have HKA := hid hka
  obtain ⟨o0, o1, o2⟩ := hb.all3
  clear hp hv hsep hka hb
  by_cases k1 : kind = 1
  · subst k1
    have HT : Hid (doD dur ds (1, sec, bs) = writeD dur ds sec bs) := by unfold Hid doD; rw [if_neg (by simp), if_pos rfl]
    clear ks
    go_enter Try.func54, Try.ntmps54
    go_wp2_with fail
    refine kw.mono ?_
    rintro e w1 ⟨rfl, ⟨pv', hp', hn'⟩, hk'⟩
    have H1 := hid hp'
    have H2 := hid hn'
    have H3 := hid hk'
    clear hp' hn' hk' kw
    go_wp2
    first | go_end0 | skip
    refine ⟨rfl, ⟨pv', by rw [HT.out]; exact H1.out, fun b hb => ?_⟩, (HKA.out.mono (fun _ _ e => e.elim)).next H3.out (fun i hi e => e)⟩
    rcases H2.out b hb with h | h
    · exact .inl h
    · simp only [World.size_alloc] at h
      exact .inr (by omega)
  by_cases k2 : kind = 2
  · subst k2
    have HT : Hid (doD dur ds (2, sec, bs) = (settleN (fun _ => true) dur ds ds.length, [])) := if_pos rfl
    clear kw
    go_enter Try.func54, Try.ntmps54
    go_wp2_with fail
    refine ks.mono ?_
    rintro e w1 ⟨rfl, hp', hk'⟩
    have H1 := hid hp'
    have H3 := hid hk'
    clear hp' hk' ks
    go_wp2
    first | go_end0 | skip
    refine ⟨rfl, ⟨.slice none 0 0, by rw [HT.out]; exact H1.out, fun b hb => by simp [Value.ownBlock] at hb⟩, (HKA.out.mono (fun _ _ e => e.elim)).next H3.out (fun i hi e => by rcases e with e | e; exact .inl e; exact .inr (.inl e))⟩
  · have HT : Hid (doD dur ds (kind, sec, bs) = (dur, ds)) := by unfold Hid doD; rw [if_neg k2, if_neg k1]
    clear kw ks
    go_enter Try.func54, Try.ntmps54
    go_wp2
    first | go_end0 | skip
    exact ⟨rfl, ⟨pv, by rw [HT.out]; exact HP.out.same HKA.out, fun b hb => .inl hb⟩, HKA.out.mono (fun _ _ e => e.elim)⟩
def usedO (limit : Int) (n : Nat) : Nat := if 0 ≤ limit ∧ limit < (n : Int) then limit.toNat else n
theorem usedO_le (limit : Int) (n : Nat) : usedO limit n ≤ n := by
  unfold usedO
  split
  · omega
  · exact Nat.le_refl _
def runD (dur : List Int) (ds : List (Int × List Int)) (ops : List (Int × Int × List Int)) : List Int × List (Int × List Int) := ops.foldl (fun x o => doD x.1 x.2 o) (dur, ds)
theorem runD_step {dur : List Int} {ds : List (Int × List Int)} {ops : List (Int × Int × List Int)} {k : Nat} (h : k < ops.length) : runD dur ds (ops.take (k + 1)) = doD (runD dur ds (ops.take k)).1 (runD dur ds (ops.take k)).2 ops[k] := by
  unfold runD
  rw [List.take_succ_eq_append_getElem h, List.foldl_append]
  rfl
theorem runD_valid {dur : List Int} {ds : List (Int × List Int)} (h : Valid dur.length ds) (ops : List (Int × Int × List Int)) : ∀ k, k ≤ ops.length → (runD dur ds (ops.take k)).1.length = dur.length ∧ Valid dur.length (runD dur ds (ops.take k)).2 := by
  intro k
  induction k with
  | zero => intro _; exact ⟨rfl, h⟩
  | succ k ih =>
    intro hk
    obtain ⟨h1, h2⟩ := ih (by omega)
    rw [runD_step (by omega)]
    have := doD_valid (op := ops[k]) (show Valid (runD dur ds (ops.take k)).1.length (runD dur ds (ops.take k)).2 from by rw [h1]; exact h2)
    rw [h1] at this
    exact this
structure IsRun (limit : Int) (dur : List Int) (ds : List (Int × List Int)) (ops : List (Int × Int × List Int)) (r : List Int) (qs : List (Int × List Int)) : Prop where
  yes : Valid dur.length ds → (r, qs) = runD dur ds (ops.take (usedO limit ops.length))
  no : ¬ Valid dur.length ds → r = dur ∧ qs = ds
theorem IsRun.one {limit : Int} {dur : List Int} {ds : List (Int × List Int)} {ops : List (Int × Int × List Int)} {r r' : List Int} {qs qs' : List (Int × List Int)} (h : IsRun limit dur ds ops r qs) (h' : IsRun limit dur ds ops r' qs') : r = r' ∧ qs = qs' := by
  by_cases hv : Valid dur.length ds
  · have := (h.yes hv).trans (h'.yes hv).symm
    simp only [Prod.mk.injEq] at this
    exact this
  · obtain ⟨e1, e2⟩ := h.no hv
    obtain ⟨e3, e4⟩ := h'.no hv
    exact ⟨e1.trans e3.symm, e2.trans e4.symm⟩
def allO (limit : Int) (n : Nat) : Bool := decide (usedO limit n = n)
end Go.Proofs.Ytfhdkbibcndmjaa
