import Derived.Test.YtnkollbhicmdhaaDoorG25
import Derived.Test.YtnkollbhicmdhaaDoorG00
import Derived.Test.YtnkollbhicmdhaaDoorG01
import Derived.Test.YtnkollbhicmdhaaDoorCards
import Derived.Test.YtnkollbhicmdhaaDoorTie
import Derived.ChangeSame
import Derived.ChangeVars
import Derived.JoinedOf
import Derived.RowKit
import Derived.RowKitTokens
import Derived.Stop.Joined
import Derived.SevenTiedAt
namespace Go.Proofs.YtnkollbhicmdhaaDoor
set_option maxRecDepth 100000
set_option maxHeartbeats 16000000
open Go.RowKit
set_option linter.unusedVariables false
set_option linter.unusedSimpArgs false
theorem fnMasters_law (v0 : Value) (cs : List Int) (v1 : Value) (ms : List Int) (a0 a1 a2 a3 a4 : Addr) (w : World) (hE : Errs5 w a0 a1 a2 a3 a4) (hv0 : Rd .u8 w v0 cs) (hB0 : IsB cs) (hv1 : Rd .u8 w v1 ms) (hB1 : IsB ms) :
    Calls Tryd.prog 3 #[v0, v1] w fun e w' => e = .returned (.bool true) ∧ Same w w' := by
  obtain ⟨av, cv, rfl⟩ := hv0.form
  obtain ⟨bv, dv1, rfl⟩ := hv1.form
  have hm0 := hv0.1
  have hm1 := hv1.1
  unfold maxLen at hm0 hm1
  by_cases h0 : (1048576 : Int) < (cs.length : Int)
  · go_enter Tryd.func3, Tryd.ntmps3
    go_wp2
    go_ret
    exact ⟨rfl, Kept.refl _ _⟩
  by_cases h1 : (1048576 : Int) < (ms.length : Int)
  · go_enter Tryd.func3, Tryd.ntmps3
    go_wp2
    go_ret
    exact ⟨rfl, Kept.refl _ _⟩
  have kD := drawPm_any (.slice av cs.length cv) cs w hB0 (by omega) hv0
  have kA := fun (j : Nat) (hj : j ≤ 1000) (n : Int) (hn : IsI n) wx (hx : Same w wx) => lwAt_any (.slice bv ms.length dv1) ms j n wx hB1 (by omega) (by omega) hn (hv1.same hx)
  have kK := fun wx (hx : Same w wx) => keep_any (.slice bv ms.length dv1) ms 2 wx hB1 (by omega) (by omega) (hv1.same hx)
  have HE0 := hid hE
  clear hv0 hv1 hB0 hB1 hm0 hm1 hE
  generalize cs.length = cn at kD h0
  generalize ms.length = mn at kA kK h1
  go_enter Tryd.func3, Tryd.ntmps3
  go_wp2_with fail
  refine kD.mono ?_
  rintro e w1 ⟨dv, pv, dur, ps, rfl, hd1, hd2, hd3, hdB, hrd, hk1⟩
  obtain ⟨da, dc, rfl⟩ := hrd.dur.form
  obtain ⟨pa, pc, rfl⟩ := hrd.pend.form
  have HRD := hid hrd
  have HD3 := hid hd3
  have HDB := hid hdB
  have HK1 := hid hk1
  obtain ⟨n, hn⟩ : ∃ n, dur.length = n := ⟨_, rfl⟩
  obtain ⟨np, hnp⟩ : ∃ n, ps.length = n := ⟨_, rfl⟩
  rw [hn, hnp] at HRD
  rw [hn, hnp]
  rw [hn] at hd1
  rw [hnp] at hd2
  have HN := hid hn
  have HNP := hid hnp
  clear hrd hd3 hdB hk1 kD hn hnp
  have HB2 := hid (Blk.new w1 #[.slice da n dc, .slice pa np pc] 25)
  have hk2 : Same w1 (w1.alloc (.cells #[.slice da n dc, .slice pa np pc] 25)) := (Kept.refl _ _).alloc _
  have HK2 := hid (HK1.out.trans hk2)
  have HRD2 := hid (HRD.out.same hk2)
  obtain ⟨D, hD⟩ : ∃ D, w1.heap.size = D := ⟨_, rfl⟩
  have hDw : w.heap.size ≤ D := by rw [← hD]; exact HK1.out.size
  rw [hD] at HB2
  have HDD := hid hD
  clear hD hk2
  have kP := implPick_any (.slice da n dc) (.slice pa np pc) dur ps a0 a1 a2 a3 a4 _ (HE0.out.same HK2.out) (by rw [HN.out]; omega) (fun p hp => by have := HD3.out p hp; omega) HDB.out HRD2.out
  go_wp2_with fail
  generalize w1.alloc (.cells #[.slice da n dc, .slice pa np pc] 25) = w2 at HB2 HK2 HRD2 kP ⊢
  try rw [HDD.out]
  clear HDD HRD HK1
  refine kP.mono ?_
  rintro e w3 ⟨⟨v, rfl, hpk⟩, hk3⟩
  obtain ⟨og, sl, s, ep, c, l, rfl⟩ := hpk.form
  have HPK := hid hpk
  have hk4 : Same w3 (w3.alloc (.cells #[.bool og, .int .i64 sl, .int .i64 s, .int .i64 ep, .int .i64 c, .int .i64 l] 30)) := (Kept.refl _ _).alloc _
  have HO4 := hid (Blk.new w3 #[.bool og, .int .i64 sl, .int .i64 s, .int .i64 ep, .int .i64 c, .int .i64 l] 30)
  have HB4 := hid ((HB2.out.same hk3).same hk4)
  have HK4 := hid ((HK2.out.trans hk3).trans hk4)
  have HRD4 := hid ((HRD2.out.same hk3).same hk4)
  obtain ⟨O, hO⟩ : ∃ D, w3.heap.size = D := ⟨_, rfl⟩
  rw [hO] at HO4
  have HOO := hid hO
  clear hO hk3 hk4 hpk kP HB2 HK2 HRD2
  go_upto_region 5 with fail
  try rw [HOO.out]
  generalize w3.alloc (.cells #[.bool og, .int .i64 sl, .int .i64 s, .int .i64 ep, .int .i64 c, .int .i64 l] 30) = w4 at HO4 HB4 HK4 HRD4 ⊢
  clear HOO
  go_cut [28] (fun v wx => v = .bool false ∧ Hid (Same w4 wx))
  case first =>
    refine wp_region_V (fun wx : World => wx.cell? ⟨O, 0, none⟩ = some (.bool og) ∧ wx.cell? ⟨O, 1, none⟩ = some (.int .i64 sl) ∧ wx.cell? ⟨O, 2, none⟩ = some (.int .i64 s) ∧ wx.cell? ⟨O, 3, none⟩ = some (.int .i64 ep) ∧ wx.cell? ⟨O, 4, none⟩ = some (.int .i64 c) ∧ wx.cell? ⟨O, 5, none⟩ = some (.int .i64 l) ∧ wx.cell? ⟨D, 0, none⟩ = some (.slice da n dc) ∧ wx.cell? ⟨D, 1, none⟩ = some (.slice pa np pc)) 99 4 rfl (by kernel_rfl) ?_
    have HV := (show Hid (Same w4 w4.drew) from (Kept.refl _ _).drew)
    generalize w4.drew = u1 at HV ⊢
    have hS : (fun wx : World => wx.cell? ⟨O, 0, none⟩ = some (.bool og) ∧ wx.cell? ⟨O, 1, none⟩ = some (.int .i64 sl) ∧ wx.cell? ⟨O, 2, none⟩ = some (.int .i64 s) ∧ wx.cell? ⟨O, 3, none⟩ = some (.int .i64 ep) ∧ wx.cell? ⟨O, 4, none⟩ = some (.int .i64 c) ∧ wx.cell? ⟨O, 5, none⟩ = some (.int .i64 l) ∧ wx.cell? ⟨D, 0, none⟩ = some (.slice da n dc) ∧ wx.cell? ⟨D, 1, none⟩ = some (.slice pa np pc)) u1 := ⟨(HO4.out.same HV.out).cell 0, (HO4.out.same HV.out).cell 1, (HO4.out.same HV.out).cell 2, (HO4.out.same HV.out).cell 3, (HO4.out.same HV.out).cell 4, (HO4.out.same HV.out).cell 5, (HB4.out.same HV.out).cell 0, (HB4.out.same HV.out).cell 1⟩
    refine tk 0 25 hS ?_
    refine tk 1 26 hS ?_
    refine wpAnyV_one (i := 2) (by kernel_rfl) rfl (fun K hK => ?_)
    go_simp
    refine (specPick_any (.slice da n dc) (.slice pa np pc) dur ps u1 (by rw [HN.out]; omega) (fun p hp => by have := HD3.out p hp; omega) HDB.out (HRD4.out.same HV.out)).mono ?_
    rintro e u2 ⟨⟨v, rfl, hpk⟩, hk'⟩
    obtain rfl := hpk.one HPK.out
    have HV' := hid (HV.out.trans hk')
    clear HV hk' hpk
    have HV := HV'
    have hS : (fun wx : World => wx.cell? ⟨O, 0, none⟩ = some (.bool og) ∧ wx.cell? ⟨O, 1, none⟩ = some (.int .i64 sl) ∧ wx.cell? ⟨O, 2, none⟩ = some (.int .i64 s) ∧ wx.cell? ⟨O, 3, none⟩ = some (.int .i64 ep) ∧ wx.cell? ⟨O, 4, none⟩ = some (.int .i64 c) ∧ wx.cell? ⟨O, 5, none⟩ = some (.int .i64 l) ∧ wx.cell? ⟨D, 0, none⟩ = some (.slice da n dc) ∧ wx.cell? ⟨D, 1, none⟩ = some (.slice pa np pc)) u2 := ⟨(HO4.out.same HV.out).cell 0, (HO4.out.same HV.out).cell 1, (HO4.out.same HV.out).cell 2, (HO4.out.same HV.out).cell 3, (HO4.out.same HV.out).cell 4, (HO4.out.same HV.out).cell 5, (HB4.out.same HV.out).cell 0, (HB4.out.same HV.out).cell 1⟩
    go_wp2_with fail
    refine hK.out _ _ (fun _ => hS) ?_
    clear hK K
    try simp only [Act.put, sA, s0, sS]
    refine tkV 3 28 (.bool false) hS ?_
    refine wpAnyV_done (by kernel_rfl) ?_
    clear hS
    go_wp2_with fail
    go_meet
    case rel => exact ⟨rfl, HV⟩
  case rest =>
  obtain ⟨w5, rfl⟩ : ∃ x, x = wc := ⟨wc, rfl⟩
  obtain ⟨rfl, hk5⟩ := hcut
  have HB5 := hid (HB4.out.same hk5.out)
  have HO5 := hid (HO4.out.same hk5.out)
  have HK5 := hid (HK4.out.trans hk5.out)
  have HRD5 := hid (HRD4.out.same hk5.out)
  clear HB4 HO4 HK4 HRD4 hk5
  obtain ⟨o0, o1, o2, o3, o4, o5⟩ := HO5.out.all6
  cases og with
  | false =>
    go_wp2
    go_ret
    exact ⟨rfl, HK5.out⟩
  | true =>
  obtain ⟨hval, hsl, hmf⟩ := picked_valid HPK.out
  by_cases hsq : 1099511627776 ≤ s
  · go_wp2
    go_ret
    exact ⟨rfl, HK5.out⟩
  have HVL := hid hval
  have HMF := hid hmf
  have hb := mF_good hmf
  obtain ⟨d0, d1⟩ := HB5.out.all2
  have kS := syA_any (.slice da n dc) (.slice pa np pc) dur ps w5 (by rw [HN.out]; omega) (by rw [HNP.out]; omega) HRD5.out hval
  clear hval hmf
  obtain ⟨Tt, hT⟩ : ∃ T, settleN (fun _ => true) dur (dataP ps) (dataP ps).length = T := ⟨_, rfl⟩
  have hTl : Tt.length = n := by rw [← hT, settle_len HVL.out]; exact HN.out
  have HTB := (show Hid (IsB Tt) from by unfold Hid; rw [← hT]; exact isB_settle HDB.out.1 (fun p hp => by obtain ⟨q, hq, rfl⟩ := List.mem_map.1 hp; exact HDB.out.2 q hq) _ (Nat.le_refl _))
  have HPT := (show Hid (1024 ≤ n → Valid Tt.length [] ∧ Picked Tt [] (resV true sl s ep c l)) from fun h => ⟨by rw [hTl, ← HN.out]; exact valid_nil HVL.out, by rw [← hT]; exact picked_sync HVL.out (by rw [HN.out]; exact h) HPK.out⟩)
  rw [hT] at kS
  have HTL := hid hTl
  clear hT hTl
  go_wp2_with fail
  refine kS.mono ?_
  rintro e w6 ⟨ra, rb, rc, rd', rfl, hrr, hrf, hk6⟩
  rw [HTL.out] at hrr hrf ⊢
  have HB6 := hid (HB5.out.same hk6)
  have HO6 := hid (HO5.out.same hk6)
  have HK6 := hid (HK5.out.trans hk6)
  have HR6 := hid hrr
  have hDl : D < w5.heap.size := HB5.out.lt
  have HRF := (show Hid (∀ b, (Value.slice ra n rc).ownBlock = some b → ¬ b = D) from fun b hb e => by have := hrf b hb; omega)
  have hOD : ¬ O = D := fun e => by
    have h1 := HB6.out; have h2 := HO6.out
    rw [e] at h2
    have h3 := h1.all2.1; have h4 := h2.all6.1
    rw [h3] at h4; cases h4
  clear kS hrr hrf hk6 d0 d1 o0 o1 o2 o3 o4 o5 HB5 HO5 HK5 HRD5 hDl
  obtain ⟨d0, d1⟩ := HB6.out.all2
  have fd := HB6.out.frozen
  have hkD : Kept (fun b => b = D) w6 ((w6.setCell ⟨D, 0, none⟩ (.slice ra n rc)).setCell ⟨D, 1, none⟩ (.slice rb 0 rd')) := ((Kept.refl (fun b => b = D) w6).setCell (p := ⟨D, 0, none⟩) (.inr rfl) _).setCell (p := ⟨D, 1, none⟩) (.inr rfl) _
  have HK7 := hid (HK6.out.next hkD (fun i hi e => by have e' : i = D := e; omega))
  have HB7 := hid ((HB6.out.stored 0 (.slice ra n rc)).stored 1 (.slice rb 0 rd'))
  have HO7 := hid (HO6.out.kept hkD (fun e => hOD e))
  have HR7 := hid (HR6.out.kept hkD (fun b hb e => HRF.out b hb e))
  clear hkD HR6 HRF
  go_upto_region 10 with fail
  generalize (w6.setCell ⟨D, 0, none⟩ (.slice ra n rc)).setCell ⟨D, 1, none⟩ (.slice rb 0 rd') = w7 at *
  clear d0 d1 fd HB6 HO6 HK6
  obtain ⟨d0, d1⟩ := HB7.out.all2
  by_cases hn2 : n < 1024
  · have hn3 : (n : Int) < 1024 := by omega
    go_wp2
    go_ret
    exact ⟨rfl, HK7.out⟩
  have hn3 : ¬ (n : Int) < 1024 := by omega
  obtain ⟨HVT, HPT⟩ : Hid (Valid Tt.length []) ∧ Hid (Picked Tt [] (resV true sl s ep c l)) := HPT.out (by omega)
  obtain ⟨o0, o1, o2, o3, o4, o5⟩ := HO7.out.all6
  have hk8 : Same w7 (w7.alloc (.cells #[.int .i64 s, .int .i64 ep, .int .i64 c, .int .i64 l] 28)) := (Kept.refl _ _).alloc _
  have HM8 := hid (Blk.new w7 #[.int .i64 s, .int .i64 ep, .int .i64 c, .int .i64 l] 28)
  obtain ⟨Mb, hMb⟩ : ∃ D, w7.heap.size = D := ⟨_, rfl⟩
  rw [hMb] at HM8
  have hDM : D < Mb := by rw [← hMb]; exact HB7.out.lt
  have hOM : O < Mb := by rw [← hMb]; exact HO7.out.lt
  have HRM := (show Hid (∀ b, (Value.slice ra n rc).ownBlock = some b → ¬ b = Mb) from fun b hb e => by
    rcases HR7.out.2 with ⟨h, _⟩ | ⟨b', off, c', e1, _, hx⟩
    · have := HTL.out; rw [h] at this; simp at this; omega
    · injection e1 with e1 _ _
      subst e1
      have h2 := World.block_lt_of_cell? w7 _ (hx 0 (by have := HTL.out; omega))
      have e3 : b' = b := by simpa [Value.ownBlock] using hb
      simp only at h2
      omega)
  have hMw : w.heap.size ≤ Mb := by rw [← hMb]; exact HK7.out.size
  have HI8 := (show Hid (FmI w (w7.alloc (.cells #[.int .i64 s, .int .i64 ep, .int .i64 c, .int .i64 l] 28)) D O Mb (.slice ra n rc) (.slice rb 0 rd') Tt sl s ep c l s c a0 a1 a2 a3 a4) from ⟨HB7.out.same hk8, HO7.out.same hk8, HM8.out, rdD_nil (HR7.out.same hk8) _ _, HE0.out.same (HK7.out.trans hk8), HK7.out.trans hk8⟩)
  have HMM := hid hMb
  clear hMb hk8 HM8
  go_upto_region 13 with fail
  try rw [HMM.out]
  generalize w7.alloc (.cells #[.int .i64 s, .int .i64 ep, .int .i64 c, .int .i64 l] 28) = w8 at HI8 ⊢
  clear HMM HB7 HO7 HK7 HR7 d0 d1 o0 o1 o2 o3 o4 o5
  have q1 : IntKind.i64.wrap (s + 1) = s + 1 := by rw [IntKind.wrap_i64]; omega
  obtain ⟨m0, m1, m2, m3⟩ := HI8.out.mbox.all4
  have fm := HI8.out.mbox.frozen
  have HPM := (show Hid (∀ wa wb sq cq sq' cq', Kept (fun b => b = Mb) wa wb → FmI w wa D O Mb (.slice ra n rc) (.slice rb 0 rd') Tt sl s ep c l sq cq a0 a1 a2 a3 a4 → Blk wb Mb 28 [.int .i64 sq', .int .i64 ep, .int .i64 cq', .int .i64 l] → FmI w wb D O Mb (.slice ra n rc) (.slice rb 0 rd') Tt sl s ep c l sq' cq' a0 a1 a2 a3 a4) from fun wa wb sq cq sq' cq' hk h hb => by
    have hkk : Same w wb := h.kept.next hk (fun i hi e => by have e' : i = Mb := e; omega)
    exact ⟨h.dbox.kept hk (fun e => by omega), h.obox.kept hk (fun e => by omega), hb, rdD_nil (h.rd.dur.kept hk (fun b hb e => HRM.out b hb e)) _ _, HE0.out.same hkk, hkk⟩)
  have HI9 := hid (HPM.out _ _ _ _ _ _ ((Kept.refl (fun b => b = Mb) w8).setCell (p := ⟨Mb, 0, none⟩) (.inr rfl) _) HI8.out (HI8.out.mbox.stored 0 (.int .i64 (s + 1))))
  go_upto_region 14 with fail
  generalize w8.setCell ⟨Mb, 0, none⟩ (.int .i64 (s + 1)) = w9 at HI9 ⊢
  clear HI8 m0 m1 m2 m3 fm q1
  go_cut [54] (fun v wx => ∃ c' : Int, v = .int .i64 c' ∧ c ≤ c' ∧ c' ≤ c + 900 ∧ Hid (FmI w wx D O Mb (.slice ra n rc) (.slice rb 0 rd') Tt sl s ep c l (s + 1) c' a0 a1 a2 a3 a4))
  case first =>
    refine wp_region_V (fun wx : World => wx.cell? ⟨Mb, 2, none⟩ = some (.int .i64 c)) 6 7 rfl (by kernel_rfl) ?_
    have HV := hid (HI9.out.same (Kept.refl _ _).drew)
    generalize w9.drew = u1 at HV ⊢
    have hS : (fun wx : World => wx.cell? ⟨Mb, 2, none⟩ = some (.int .i64 c)) u1 := HV.out.mbox.cell 2
    refine tk 0 50 hS ?_
    refine tk 1 51 hS ?_
    refine tk 2 52 hS ?_
    refine wpAnyV_one (i := 3) (by kernel_rfl) rfl (fun K hK => ?_)
    go_simp
    refine (kA 0 (by omega) 900 (by constructor <;> decide) u1 HV.out.kept).mono ?_
    rintro e u2 ⟨r, rfl, hr, hk'⟩
    obtain ⟨hr1, hr2⟩ := hr.2 (by decide)
    have HV2 := hid (HV.out.same hk')
    have hS : (fun wx : World => wx.cell? ⟨Mb, 2, none⟩ = some (.int .i64 c)) u2 := HV2.out.mbox.cell 2
    clear HV hk' hr
    go_wp2_with fail
    refine hK.out _ _ (fun _ => hS) ?_
    clear hK K
    try simp only [Act.put, sA, s0, sS]
    have q2 : IntKind.i64.wrap (c + r) = c + r := by rw [IntKind.wrap_i64]; omega
    refine tkV 4 54 (.int .i64 (c + r)) hS ?_
    refine tk 5 55 hS ?_
    obtain ⟨m0, m1, m2, m3⟩ := HV2.out.mbox.all4
    have fm := HV2.out.mbox.frozen
    have HE := hid (HPM.out _ _ _ _ _ _ ((Kept.refl (fun b => b = Mb) u2).setCell (p := ⟨Mb, 2, none⟩) (.inr rfl) _) HV2.out (HV2.out.mbox.stored 2 (.int .i64 (c + r))))
    refine wpAnyV_one (i := 6) (by kernel_rfl) rfl (fun K hK => ?_)
    go_simp
    refine hK.out _ _ (fun h => absurd rfl h) ?_
    clear hK K
    refine wpAnyV_done (by kernel_rfl) ?_
    try simp only [Act.put, sA, s0, sS]
    generalize u2.setCell ⟨Mb, 2, none⟩ (.int .i64 (c + r)) = u3 at HE ⊢
    clear hS m0 m1 m2 m3 fm HV2
    go_wp2_with fail
    go_meet
    case rel => exact ⟨c + r, rfl, by omega, by omega, HE⟩
  case rest =>
  obtain ⟨w10, rfl⟩ : ∃ x, x = wc := ⟨wc, rfl⟩
  obtain ⟨c', rfl, hc1, hc2, HI10⟩ := hcut
  clear HI9 HPM
  obtain ⟨m0, m1, m2, m3⟩ := HI10.out.mbox.all4
  have kF := specMF_any (s + 1) ep c' l w10
  by_cases hmf : mF (s + 1) ep c' l = 0
  case neg =>
    obtain ⟨mf, hmf'⟩ : ∃ x, mF (s + 1) ep c' l = x := ⟨_, rfl⟩
    rw [hmf'] at kF hmf
    have hO0 : (opsM sl (s + 1) ep c' l).length = 0 := by rw [opsM_no (fun h => hmf (hmf'.symm.trans h.1))]; rfl
    have e0 : (mf == 0) = false := by simp [hmf]
    go_wp2_with fail
    refine kF.mono ?_
    rintro e w11 ⟨rfl, hk'⟩
    have HI11 := hid (HI10.out.same hk')
    clear hk' kF m0 m1 m2 m3 HI10
    obtain ⟨m0, m1, m2, m3⟩ := HI11.out.mbox.all4
    obtain ⟨o0, o1, o2, o3, o4, o5⟩ := HI11.out.obox.all6
    have kO := moAns_any sl (s + 1) ep c' l a0 a1 a2 w11 HI11.out.errs.errs
    go_wp2_with fail
    refine kO.mono ?_
    rintro e w12 ⟨oa, oc, os, rfl, _, _, _, hk'⟩
    rw [hO0]
    have HK12 := hid (HI11.out.kept.trans hk')
    clear hk' kO
    go_wp2
    go_ret
    exact ⟨rfl, HK12.out⟩
  rw [hmf] at kF
  have hO2 : (opsM sl (s + 1) ep c' l).length = 2 := by rw [opsM_yes ⟨hmf, by omega, by omega⟩]; rfl
  have HMF := hid hmf
  clear hmf
  go_wp2_with fail
  refine kF.mono ?_
  rintro e w11 ⟨rfl, hk'⟩
  have HI11 := hid (HI10.out.same hk')
  clear hk' kF m0 m1 m2 m3 HI10
  obtain ⟨m0, m1, m2, m3⟩ := HI11.out.mbox.all4
  obtain ⟨o0, o1, o2, o3, o4, o5⟩ := HI11.out.obox.all6
  have kO := moAns_any sl (s + 1) ep c' l a0 a1 a2 w11 HI11.out.errs.errs
  go_wp2_with fail
  refine kO.mono ?_
  rintro e w12 ⟨oa, oc, os, rfl, hos, hog, hor, hk'⟩
  obtain ⟨og, rfl, hoc⟩ := hog (by omega)
  rw [hO2] at hor hoc ⊢
  have hosl : os.length = 2 := by rw [← hO2, ← hos, datOpS_length]
  have HOS := hid hos
  have HOL := hid hosl
  have HOR := hid hor
  have HI12 := hid (HI11.out.same hk')
  clear hk' kO HI11 hos hosl hor hog m0 m1 m2 m3 o0 o1 o2 o3 o4 o5
  go_wp2_with fail
  refine (kA 1 (by omega) 3 (by constructor <;> decide) w12 HI12.out.kept).mono ?_
  rintro e w13 ⟨kr, rfl, hr, hk'⟩
  obtain ⟨hr1, hr2⟩ := hr.2 (by decide)
  obtain ⟨Kk, rfl⟩ : ∃ m : Nat, kr = (m : Int) := ⟨kr.toNat, by omega⟩
  have hKk : Kk ≤ 2 := by omega
  have HI13 := hid (HI12.out.same hk')
  have HOR := hid (HOR.out.same hk')
  clear hk' hr HI12
  obtain ⟨d0, d1⟩ := HI13.out.dbox.all2
  have kR := runAns_any (.slice ra n rc) (.slice rb 0 rd') Tt [] og 0 oc os 2 (Kk : Int) w13 (by rw [HTL.out]; omega) (by simp) (fun p hp => by simp at hp) HI13.out.rd HVT.out HOL.out.symm (by rw [HOL.out]; exact hoc) HOR.out
  rw [HOL.out, usedO_at Kk 2 hKk, HOS.out] at kR
  obtain ⟨Y, hY⟩ : ∃ Y, runD Tt (dataP []) ((opsM sl (s + 1) ep c' l).take Kk) = Y := ⟨_, rfl⟩
  have HYV := (show Hid (Y.1.length = n ∧ Valid Y.1.length Y.2) from by
    have h := runD_valid (show Valid Tt.length (dataP []) from HVT.out) (opsM sl (s + 1) ep c' l) Kk (by omega)
    rw [hY] at h
    exact ⟨h.1.trans HTL.out, by rw [h.1]; exact h.2⟩)
  have HCR := (show Hid (∀ sel, (Kk < 2 ∧ settleN sel Y.1 Y.2 Y.2.length = Tt) ∨ settleN sel Y.1 Y.2 Y.2.length = putAt Tt ((1 - sl).toNat * 512) (mB (s + 1) ep c' l)) from fun sel => by
    have h := crash_M HVT.out (by rw [HTL.out]; omega) HMF.out hsl sel Kk hKk
    rw [show runD Tt [] ((opsM sl (s + 1) ep c' l).take Kk) = Y from hY] at h
    exact h)
  rw [hY] at kR
  clear hY
  have hfd : ∀ (bq : Bool) (uq : Int) (xd xp : Value) wx, (Instr.field 39 (.agg #[.bool bq, .int .i64 uq, xd, xp]) 2).run Tryd.prog wx = .ok (.agg #[xd, xp]) wx := fun bq uq xd xp wx => by kernel_rfl
  go_wp2_with fail
  refine kR.mono ?_
  rintro e w14 ⟨xd, xp, xq, rfl, hxq, hxr, _, hk'⟩
  obtain ⟨xa, xc, rfl⟩ := hxr.dur.form
  obtain ⟨xb, xe, rfl⟩ := hxr.pend.form
  have HI14 := hid (HI13.out.same hk')
  have HXR := hid hxr
  have HXQ := hid hxq
  clear hk' kR HI13 hxr hxq d0 d1
  go_wp2_with fail
  refine (kK w14 HI14.out.kept).mono ?_
  rintro e w15 ⟨ka, kn, kc, ks, rfl, hkn, hks, hko, _, hk'⟩
  have HKS := hid hks
  have hk60 : kn = 60 := hkn.trans hks
  subst hk60
  clear hkn hks
  have HI15 := hid (HI14.out.same hk')
  have HXR := hid (HXR.out.same hk')
  have HKO := hid hko.rd
  clear hk' HI14 hko
  have kC := crashAns_any (.slice xa Y.1.length xc) (.slice xb xq.length xe) Y.1 xq (.slice ka 60 kc) ks Y.2 w15 (by rw [HYV.out.1]; omega) (by have h := HYV.out.2.1.2.2.2; rw [← HXQ.out, dataP_length] at h; omega) HXR.out (by rw [HKS.out]; omega) HKO.out HXQ.out HYV.out.2
  go_wp2_with fail
  refine kC.mono ?_
  obtain ⟨Z, hZ⟩ : ∃ Z, settleN (keepS ks) Y.1 Y.2 Y.2.length = Z := ⟨_, rfl⟩
  have HZC := (show Hid ((Kk < 2 ∧ Z = Tt) ∨ Z = putAt Tt ((1 - sl).toNat * 512) (mB (s + 1) ep c' l)) from by have h := HCR.out (keepS ks); rw [hZ] at h; exact h)
  rw [hZ]
  rintro e w16 ⟨za, zb, zc, zd, rfl, hzr, hk'⟩
  have hpn := picked_new HVT.out (by rw [HTL.out]; omega) HPT.out HMF.out
  have hZl : Z.length = n := by
    rcases HZC.out with ⟨_, h⟩ | h
    · rw [h]; exact HTL.out
    · rw [h, hpn.1]; exact HTL.out
  have HZB := (show Hid (IsB Z) from by
    rcases HZC.out with ⟨_, h⟩ | h
    · unfold Hid; rw [h]; exact HTB.out
    · unfold Hid; rw [h]; exact isB_putAt HTB.out (mB_isB _ _ _ _) _)
  have HZP := (show Hid ((Kk < 2 ∧ Picked Z [] (resV true sl s ep c l)) ∨ Picked Z [] (resV true (1 - sl) (s + 1) ep c' l)) from by
    rcases HZC.out with ⟨h0, h⟩ | h
    · exact .inl ⟨h0, by rw [h]; exact HPT.out⟩
    · exact .inr (by rw [h]; exact hpn.2))
  clear hZ hpn HZC HCR HXR HKO kC
  rw [hZl] at hzr ⊢
  have hk17 : Same w16 (w16.alloc (.cells #[.slice za n zc, .slice zb 0 zd] 25)) := (Kept.refl _ _).alloc _
  have HX17 := hid (Blk.new w16 #[.slice za n zc, .slice zb 0 zd] 25)
  have HI17 := hid ((HI15.out.same hk').same hk17)
  have HZR := hid (hzr.same hk17)
  obtain ⟨Xb, hXb⟩ : ∃ D, w16.heap.size = D := ⟨_, rfl⟩
  rw [hXb] at HX17
  have HXX := hid hXb
  clear hXb hk' hk17 hzr HI15
  go_upto_region 20 with fail
  try rw [HXX.out]
  generalize w16.alloc (.cells #[.slice za n zc, .slice zb 0 zd] 25) = w17 at HX17 HI17 HZR ⊢
  clear HXX
  obtain ⟨z0, z1⟩ := HX17.out.all2
  have kP := implPick_any (.slice za n zc) (.slice zb 0 zd) Z [] a0 a1 a2 a3 a4 w17 HI17.out.errs (by rw [hZl]; omega) (fun p hp => by simp at hp) ⟨HZB.out, fun p hp => by simp at hp⟩ (rdD_nil HZR.out _ _)
  go_wp2_with fail
  refine kP.mono ?_
  rintro e w18 ⟨⟨v, rfl, hpk⟩, hk'⟩
  have HI18 := hid (HI17.out.same hk')
  clear hk' HI17 kP z0 z1 HX17
  obtain ⟨m0, m1, m2, m3⟩ := HI18.out.mbox.all4
  obtain ⟨o0, o1, o2, o3, o4, o5⟩ := HI18.out.obox.all6
  have lo : O < w18.heap.size := HI18.out.obox.lt
  have lm : Mb < w18.heap.size := HI18.out.mbox.lt
  have q5 : IntKind.i64.wrap (1 - sl) = 1 - sl := by rw [IntKind.wrap_i64]; omega
  have n1 : (1 - sl == sl) = false := by simp; omega
  have n2 : (1 - sl == 1 - sl) = true := by simp
  rcases HZP.out with ⟨hK2, hp⟩ | hp
  · have hv := hpk.one hp
    unfold resV at hv
    subst hv
    have hK3 : (Kk : Int) < 2 := by omega
    have HKE := (show Hid (∀ oa ob, Same w ((w18.alloc oa).alloc ob)) from fun oa ob => (HI18.out.kept.alloc oa).alloc ob)
    clear hpk hp HZP HI18
    go_wp2
    go_ret
    exact ⟨rfl, HKE.out _ _⟩
  · have hv := hpk.one hp
    unfold resV at hv
    subst hv
    have HKE := (show Hid (∀ oa ob, Same w ((w18.alloc oa).alloc ob)) from fun oa ob => (HI18.out.kept.alloc oa).alloc ob)
    clear hpk hp HZP HI18
    by_cases hK3 : (Kk : Int) < 2
    · go_wp2
      go_ret
      exact ⟨rfl, HKE.out _ _⟩
    · go_wp2
      go_ret
      exact ⟨rfl, HKE.out _ _⟩
end Go.Proofs.YtnkollbhicmdhaaDoor

namespace Go.Proofs.YtnkollbhicmdhaaDoor.fnMasters
open Go.ChangeShapes Go.WideShapes Go.ChangeAt Go.RowKit
set_option linter.unusedVariables false
theorem own : ownKnob Tryd.prog.godebug = none := by kernel_rfl
theorem laidOut : laidOutB Tryd.prog = true := by kernel_rfl
set_option maxRecDepth 100000 in
theorem lifted (os : Os) (started : os.Started) (H : Type) (enc : TypeId × Value → H) :
    ReturnsInHanded {} Tryd.checked os 3 .any (fun w args => (Rows.fnMastersSpec.pre enc Tryd.prog Tryd.f3 [] false w args ∧ laidMetH Tryd.prog [L0, L1, L2, L3, L4] w) ∧ sizedMet enc Tryd.prog Tryd.f3 (OpenSpec.ofChange Rows.fnMastersSpec) false w args)
      (Rows.fnMastersSpec.post enc Tryd.prog Tryd.f3 false true false false) := by
  refine returnsInHanded_of_change_and (C := Tryd.checked) (X := fun w _ => laidMetH Tryd.prog [L0, L1, L2, L3, L4] w) (fun _ _ _ hh h => h.of_heap hh) own started (by kernel_rfl) Tryd.func3
    (ChangeSpec.witness_at (enc := enc) (C := Tryd.checked) (os := os) (X := fun w _ => laidMetH Tryd.prog [L0, L1, L2, L3, L4] w) false (laidOn (World.holding Tryd.prog os ⟨laidOnObj, #[], []⟩) (World.holding Tryd.prog default ⟨#[], #[], []⟩).heap.size) #[.slice none 0 0, .slice none 0 0] 8 rfl (by kernel_rfl) (by kernel_rfl) (by kernel_rfl) (by kernel_rfl) (by kernel_rfl) (laid_met5 os _)) ?_
  intro W base args ds gs before hval0 hW _ _ hL _
  have hval : ∀ (j : Nat) t v, Tryd.f3.params[j]? = some t → args[j]? = some v → Value.okWide Tryd.prog W .any base t v := hval0
  have hW' := hW
  obtain ⟨p, q, hA0, hV0, rfl, hfz, hnd⟩ := hW
  have hA : DataW.TrodAll enc Tryd.prog W 0 (fun _ => true) true Tryd.f3.params.toList args.toList ds p := hA0
  have hL' : laidMet Tryd.prog [L0, L1, L2, L3, L4] W := hL
  obtain ⟨a0, a1, a2, hv0, hv1, hv2, hE⟩ := laid3 hL'
  obtain ⟨a3, hv3⟩ := laid_one hL'.tail.tail.tail
  obtain ⟨a4, hv4⟩ := laid_two hL'.tail.tail.tail.tail
  have hV : DataW.TrodVars enc Tryd.prog W (fun _ => true) [L3.1, L4.1, L0.1, L1.1, L2.1] gs q := hV0
  obtain ⟨rfl, rfl⟩ := hV.unique (vars5 enc hv0 hv1 hv2 hv3 hv4 _)
  rw [Tryd.params3] at hA hval
  obtain ⟨v0, vs0, d0, ds0, p0, q0, hargs, rfl, rfl, h0, r0⟩ := trodAll_cons hA
  obtain ⟨v1, vs1, d1, ds1, p1, q1, rfl, rfl, rfl, h1, r1⟩ := trodAll_cons r0
  obtain ⟨rfl, rfl, rfl⟩ := trodAll_nil r1
  obtain rfl : args = #[v0, v1] := by cases args; simp_all
  have k0 := h0
  have lt0 : ∀ x ∈ p0, x.block < W.heap.size := by obtain ⟨m, hm⟩ := k0; exact DataW.trod_lt m _ _ _ hm
  obtain ⟨x0, rd0, bd0⟩ := open_bytesB (hval 0 22 v0 rfl rfl) h0
  have k1 := h1
  have lt1 : ∀ x ∈ p1, x.block < W.heap.size := by obtain ⟨m, hm⟩ := k1; exact DataW.trod_lt m _ _ _ hm
  obtain ⟨x1, rd1, bd1⟩ := open_bytesB (hval 1 22 v1 rfl rfl) h1
  clear hA0 hval0
  refine (fnMasters_law v0 x0 v1 x1 a0 a1 a2 a3 a4 W ⟨hE.errs, by simpa using World.var?_cell Tryd.gn3 hv3 0, by simpa using World.var?_cell Tryd.gn4 hv4 0⟩ rd0 bd0 rd1 bd1).mono fun ex W' ⟨he, hk⟩ => ?_
  have bel : Below W.heap.size W W' := hk.below (Nat.le_refl _) (fun _ _ => id)
  subst he
  exact ⟨_, rfl, _, _, _, [], _, _, hW', trodAll_mk1 (shut_bool Tryd.underlying4 _), (trodAll_cons_mk (Below.trod laidOut (by kernel_rfl) (of_decide_eq_true (by kernel_rfl)) k0 bel lt0) (trodAll_cons_mk (Below.trod laidOut (by kernel_rfl) (of_decide_eq_true (by kernel_rfl)) k1 bel lt1) trodAll_mk0)), vars5 enc (var_same hk hv0) (var_same hk hv1) (var_same hk hv2) (var_same hk hv3) (var_same hk hv4) _, bel.frame _, fun h => by cases h⟩
theorem over : Rows.fnMastersRow.holds Tryd.pinned (OpenSpec.ofChange Rows.fnMastersSpec) :=
  OpenClaim.holds_of_wide 3 Tryd.f3 rfl rfl rfl rfl rfl rfl rfl ⟨rfl, rfl, rfl, rfl, rfl⟩ rfl rfl rfl rfl rfl (by kernel_rfl) Tryd.func3 (by kernel_rfl)
    (of_decide_eq_true (by kernel_rfl)) (by unfold Func.isWrapper; first | (rw [if_pos (by decide +kernel)]; kernel_rfl) | (rw [if_neg (by decide +kernel)]; exact ⟨rfl, rfl⟩))
    (fun os started H enc _ => lifted os started H enc)
end Go.Proofs.YtnkollbhicmdhaaDoor.fnMasters
namespace Go.Proofs.YtnkollbhicmdhaaDoor
open Go
theorem fnMasters_proved : Rows.FnMastersCardSaid :=
  Claim7.holds_tied_plain_at .later [] [.sentinel, .sentinel, .sentinel, .sentinel, .sentinel] true Rows.fnMastersCard.stood.harness false
    fnMasters.over (fun _ h => by cases h) (by kernel_rfl) (fun _ h => by cases h) fnMasters_row_tie rfl ⟨rfl, rfl⟩ (by kernel_rfl) rfl
    (fun f fn hf hfn => by
      obtain rfl : f = 3 := Option.some.inj ((show Tryd.prog.funcNamed "loop.example/s02544/laws.FnMasters" = some 3 by kernel_rfl).symm.trans hf) |>.symm
      obtain rfl : fn = Tryd.f3 := (Option.some.inj (Tryd.func3.symm.trans hfn)).symm
      exact ⟨by kernel_rfl, fun j t ht => by
        rw [Tryd.params3] at ht
        have h3 : t = 22 ∨ t = 22 := by
          rcases j with _ | j
          · exact .inl (by simpa using ht.symm)
          · rcases j with _ | j
            · exact .inr (by simpa using ht.symm)
            · simp at ht
        rcases h3 with rfl | rfl
        · exact (show Tryd.prog.wantsStandIn 22 = false by kernel_rfl)
        · exact (show Tryd.prog.wantsStandIn 22 = false by kernel_rfl)⟩)
    (by kernel_rfl)
#print axioms fnMasters_proved
end Go.Proofs.YtnkollbhicmdhaaDoor
