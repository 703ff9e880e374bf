import Derived.Test.YtcnaabjgjmodeaaFnPagesA
namespace Go.Proofs.Ytcnaabjgjmodeaa
set_option maxRecDepth 100000
set_option maxHeartbeats 16000000
open Go.RowKit
set_option linter.unusedVariables false
set_option linter.unusedSimpArgs false
theorem fnPages_law (v0 : Value) (cs : List Int) (w : World) (hv0 : Rd .u8 w v0 cs) (hB0 : IsB cs) :
    Calls Try.prog 3 #[v0] w fun e w' => e = .returned (.bool true) ∧ Same w w' := by
  obtain ⟨a0, c0, rfl⟩ := hv0.form
  have hm0 := hv0.1
  unfold maxLen at hm0
  by_cases h0 : (1048576 : Int) < (cs.length : Int)
  · go_enter Try.func3, Try.ntmps3
    go_wp2
    go_ret
    exact ⟨rfl, Kept.refl _ _⟩
  have kD := drawSet_any (.slice a0 cs.length c0) cs w hB0 (by omega) hv0
  clear hv0 hB0 hm0
  generalize cs.length = cn at kD h0
  go_enter Try.func3, Try.ntmps3
  go_wp2_with fail
  refine kD.mono ?_
  rintro e w1 ⟨b, off, n, c, bs, s, u, a, cd, d, lsn, rfl, hl, hn, hbb, hrd, hdl, hdb, hdr, hs, hlsn, hk1⟩
  obtain ⟨dn, hdn⟩ : ∃ n, d.length = n := ⟨_, rfl⟩
  rw [hdn] at hdr hdl ⊢
  have HDN := hid hdn
  have HL := hid hl
  have HBB := hid hbb
  have HDB := hid hdb
  have HRD := hid hrd
  have HDR := hid hdr
  have HK1 := hid hk1
  have hk2 : Same w1 (w1.alloc (.cells #[.bool u, .slice a dn cd] 24)) := (Kept.refl _ _).alloc _
  have HB2 := hid (Blk.new w1 #[.bool u, .slice a dn cd] 24)
  have HK2 := hid hk2
  have kS := implSet_any (.slice (some ⟨b, off, none⟩) n c) bs s u a cd d lsn _ hbb (by omega) (hrd.same hk2) (by omega) (by rw [hdn]; exact hdr.same hk2) hdb
  rw [hdn] at kS
  clear kD hdn hl hbb hdb hrd hdr hk1 hk2
  obtain ⟨R, hR⟩ : ∃ R, w1.heap.size = R := ⟨_, rfl⟩
  have HR := hid hR
  rw [hR] at HB2
  clear hR
  go_wp2_with fail
  generalize w1.alloc (.cells #[.bool u, .slice a dn cd] 24) = w2 at HB2 HK2 kS ⊢
  rw [HR.out]
  refine kS.mono ?_
  rintro e w3 ⟨ya, yc, rfl, _, ho3, hk3⟩
  obtain ⟨x, ys, hxy⟩ : ∃ x ys, pageSet bs s u d lsn = (x, ys) := ⟨_, _, rfl⟩
  have HXY := hid hxy
  rw [hxy] at ho3 ⊢
  dsimp only at ho3 ⊢
  obtain ⟨yn, hyn⟩ : ∃ n, ys.length = n := ⟨_, rfl⟩
  rw [hyn] at ho3 ⊢
  have HYN := hid hyn
  have hk4 : Same w3 (w3.alloc (.cells #[.int .i64 x, .slice ya yn yc] 28)) := (Kept.refl _ _).alloc _
  have HI := (show Hid (FpI w (w3.alloc (.cells #[.int .i64 x, .slice ya yn yc] 28)) (.slice (some ⟨b, off, none⟩) n c) bs R w3.heap.size u a dn cd d x ya yn yc ys) from ⟨((HRD.out.same HK2.out).same hk3).same hk4, (HB2.out.same hk3).same hk4, ((HDR.out.same HK2.out).same hk3).same hk4, Blk.new _ _ _, ho3.rd.same hk4, ((HK1.out.trans HK2.out).trans hk3).trans hk4⟩)
  clear kS hxy hyn ho3 hk3 hk4 HB2 HK2 HRD HDR HK1 HR
  obtain ⟨X, hX⟩ : ∃ X, w3.heap.size = X := ⟨_, rfl⟩
  rw [hX] at HI
  have HX := hid hX
  clear hX
  go_upto_region 5 with fail
  rw [HX.out]
  generalize w3.alloc (.cells #[.int .i64 x, .slice ya yn yc] 28) = w4 at HI ⊢
  clear HX
  by_cases hn4 : n = 4096
  case neg =>
    have hn5 : ¬ (n : Int) = 4096 := by omega
    have hb := set_bad (bad_own (bad_len (fun e => hn4 (HL.out.symm.trans e))) s u d lsn)
    rw [HXY.out] at hb
    injection hb with e1 e2
    have e3 := HYN.out
    rw [e2] at e3
    simp at e3
    subst e1 e3
    clear e2 HXY HYN
    obtain ⟨x0, x1⟩ := HI.out.xbox.all2
    go_wp2
    go_ret
    exact ⟨rfl, HI.out.kept⟩
  subst hn4
  have hc4 : 4096 ≤ c := (rd_page HI.out.page HL.out).1
  have g1 : (16 : Int) ≤ (c : Int) := by omega
  have n1 : ¬ c = 12 := by omega
  have cellP : ∀ wx, Rd .u8 wx (.slice (some ⟨b, off, none⟩) 4096 c) bs → ∀ (o m : Nat), o + m ≤ 4096 → Rd .u8 wx (.slice (some ⟨b, off + o, none⟩) m (c - o)) ((bs.drop o).take m) := fun wx h o m hom => Rd.part (n := m) (rd_page h HL.out).2 o m (by rw [HL.out]; exact hom) rfl (by omega) (by unfold maxLen; omega)
  have kG := specGet_any _ ((bs.drop 12).take 4) w4 (isB_take (isB_drop HBB.out _) _) (by rw [List.length_take, List.length_drop, HL.out]; decide) (cellP w4 HI.out.page 12 4 (by decide))
  have HCP := hid cellP
  clear cellP
  go_wp2_with fail
  refine kG.mono ?_
  rintro e w5 ⟨rfl, hk5⟩
  have HI5 := hid (HI.out.same hk5)
  obtain ⟨num, hnum⟩ : ∃ x, numAt bs 12 4 = x := ⟨_, rfl⟩
  have hnum' : getN ((bs.drop 12).take 4) = num := hnum
  rw [hnum']
  have HNM := hid hnum
  clear hk5 kG HI hnum hnum' n1 g1
  have kF := specFault_any (.slice (some ⟨b, off, none⟩) 4096 c) bs num w5 HBB.out (by rw [HL.out]; decide) HI5.out.page
  go_wp2_with fail
  refine kF.mono ?_
  rintro e w6 ⟨rfl, hk6⟩
  have HI6 := hid (HI5.out.same hk6)
  have hwh : (pageFault bs num == 0) = ownOK bs := by rw [← HNM.out]; exact fault_own HL.out
  clear hk6 kF HI5
  go_upto_region 9 with fail
  have hbad : Hid (setBad bs s u d lsn = setBad bs s u d lsn ∧ True) := ⟨rfl, trivial⟩
  clear hbad
  obtain ⟨x0, x1⟩ := HI6.out.xbox.all2
  obtain ⟨r0, r1⟩ := HI6.out.rbox.all2
  go_cut [9, 10] (fun o v wx => o = .bool (ownOK bs) ∧ v = .bool (!setBad bs s u d lsn) ∧ w6 = wx)
  case first =>
    as_aux_lemma =>
    have HB := fun (h : setBad bs s u d lsn = true) => (show (Value.bool false = .bool (!setBad bs s u d lsn)) from by rw [h]; rfl)
    have HX := (show Hid (∀ P : Prop, (setBad bs s u d lsn = false → P) → ¬ P → Value.bool false = .bool (!setBad bs s u d lsn)) from fun P h1 h2 => by
      cases h : setBad bs s u d lsn with
      | true => rfl
      | false => exact absurd (h1 h) h2)
    clear HB
    cases hok : ownOK bs with
    | false =>
      rw [hok] at hwh
      go_wp2_with fail
      go_meet
      case rel => exact ⟨by rw [hok], HX.out _ (fun h => (setBad_false h).1) (by rw [hok]; decide), rfl⟩
    | true =>
    rw [hok] at hwh
    by_cases h1 : 0 ≤ s
    case neg =>
      go_wp2_with fail
      go_meet
      case rel => exact ⟨by rw [hok], HX.out _ (fun h => (setBad_false h).2.1) (by omega), rfl⟩
    by_cases h2 : s < 32
    case neg =>
      go_wp2_with fail
      go_meet
      case rel => exact ⟨by rw [hok], HX.out _ (fun h => (setBad_false h).2.2.1) (by omega), rfl⟩
    by_cases h3 : 0 ≤ lsn
    case neg =>
      go_wp2_with fail
      go_meet
      case rel => exact ⟨by rw [hok], HX.out _ (fun h => (setBad_false h).2.2.2.1) (by omega), rfl⟩
    by_cases h4 : lsn ≤ 1099511627776
    case neg =>
      go_wp2_with fail
      go_meet
      case rel => exact ⟨by rw [hok], HX.out _ (fun h => (setBad_false h).2.2.2.2.1) (by omega), rfl⟩
    by_cases h5 : (dn : Int) ≤ 1000
    case neg =>
      go_wp2_with fail
      go_meet
      case rel => exact ⟨by rw [hok], HX.out _ (fun h => (setBad_false h).2.2.2.2.2.1) (by rw [HDN.out]; omega), rfl⟩
    cases u with
    | true =>
      have e := setBad_true hok h1 h2 h3 h4 (by rw [HDN.out]; omega) (.inl rfl) (d := d) (u := true)
      have HE := (show Hid (Value.bool true = .bool (!setBad bs s true d lsn)) from by unfold Hid; rw [e]; rfl)
      clear e HX
      go_wp2_with fail
      go_meet
      case rel => exact ⟨by rw [hok], HE.out, rfl⟩
    | false =>
      by_cases h6 : dn = 0
      · have e := setBad_true hok h1 h2 h3 h4 (by rw [HDN.out]; omega) (.inr (by rw [HDN.out]; exact h6)) (d := d) (u := false)
        have HE := (show Hid (Value.bool true = .bool (!setBad bs s false d lsn)) from by unfold Hid; rw [e]; rfl)
        have h7 : ((dn : Int) == 0) = true := by simp [h6]
        clear e HX
        go_wp2_with fail
        go_meet
        case rel => exact ⟨by rw [hok], HE.out, rfl⟩
      · have h7 : ((dn : Int) == 0) = false := by simp [h6]
        go_wp2_with fail
        go_meet
        case rel => exact ⟨by rw [hok], HX.out _ (fun h => (setBad_false h).2.2.2.2.2.2) (by rw [HDN.out]; simp [h6]), rfl⟩
  case rest =>
  obtain ⟨rfl, rfl, rfl⟩ := hcut
  cases hbad : setBad bs s u d lsn with
  | true =>
    have hb := set_bad hbad
    rw [HXY.out] at hb
    injection hb with e1 e2
    have e3 := HYN.out
    rw [e2] at e3
    simp at e3
    subst e1 e3
    clear e2 HXY HYN hbad
    have kC := implComp_any (.slice (some ⟨b, off, none⟩) 4096 c) bs w6 HBB.out (by rw [HL.out]; decide) HI6.out.page
    have hpc : ownOK bs = false → (pageCompact bs).length = 0 := fun h => by unfold pageCompact; rw [if_neg (by simp [h])]; rfl
    obtain ⟨pn, hpn⟩ : ∃ n, (pageCompact bs).length = n := ⟨_, rfl⟩
    rw [hpn] at kC hpc
    clear hpn x0 x1 r0 r1
    go_wp2_with fail
    refine kC.mono ?_
    rintro e w7 ⟨ca, cc, rfl, _, _, hk7⟩
    have HI7 := hid (HI6.out.same hk7)
    clear hk7 kC HI6
    obtain ⟨x0, x1⟩ := HI7.out.xbox.all2
    cases hok : ownOK bs with
    | true =>
      clear hpc
      go_wp2
      go_ret
      exact ⟨rfl, HI7.out.kept⟩
    | false =>
      have hp0 := hpc hok
      subst hp0
      clear hpc
      go_wp2
      go_ret
      exact ⟨rfl, HI7.out.kept⟩
  | false =>
  obtain ⟨hok, g1, g2, g3, g4, g5, g6⟩ := setBad_false hbad
  obtain ⟨x', ys', e', hxc⟩ := xc_of HBB.out HDB.out hbad
  rw [HXY.out] at e'
  injection e' with e1 e2
  subst e1 e2
  obtain ⟨S, rfl⟩ : ∃ S : Nat, s = (S : Int) := ⟨s.toNat, by omega⟩
  rw [Int.toNat_natCast] at hxc
  have HXC := hid hxc
  have HOK := hid hok
  clear hxc hok g6 hbad HXY x0 x1 r0 r1 hwh g3 g4 g5
  obtain ⟨U, hU⟩ : ∃ x, pageUsed bs = x := ⟨_, rfl⟩
  have hU2 : 0 ≤ U ∧ U ≤ 3948 := by
    rw [← hU]
    unfold pageUsed
    rw [if_pos HOK.out]
    exact (slOK_of HBB.out HOK.out).room 32 (Nat.le_refl _)
  obtain ⟨D0, hD0⟩ : ∃ x, pageGet bs (S : Int) = x := ⟨_, rfl⟩
  obtain ⟨GL, hGL⟩ : ∃ x, D0.2.length = x := ⟨_, rfl⟩
  have hGL2 : GL ≤ 1000 := by
    have h := get_length HBB.out HOK.out S (by omega)
    have h1 := (slOK_of HBB.out HOK.out).one S (by omega)
    rw [hD0, hGL] at h
    omega
  rw [hU, hD0, hGL, HDN.out] at HXC
  obtain ⟨L, hL⟩ : ∃ x, U - (GL : Int) + (dn : Int) = x := ⟨_, rfl⟩
  rw [hL] at HXC
  have HU := hid hU
  have HD0 := hid hD0
  have HGL := hid hGL
  clear hU hD0 hGL
  have q1 : IntKind.i64.wrap (U - (GL : Int)) = U - (GL : Int) := by rw [IntKind.wrap_i64]; omega
  have q2 : IntKind.i64.wrap (U - (GL : Int) + (dn : Int)) = L := by rw [IntKind.wrap_i64]; omega
  have q0 : -1000 ≤ L ∧ L ≤ 5000 := by omega
  clear hL
  go_upto_region 13 with fail
  go_cut [12] (fun v wx => v = .int .i64 L ∧ Hid (FpI w wx (.slice (some ⟨b, off, none⟩) 4096 c) bs R X u a dn cd d x ya yn yc ys))
  case first =>
    as_aux_lemma =>
    refine wp_region_V (fun wx : World => wx.cell? ⟨R, 1, none⟩ = some (.slice a dn cd)) 99 13 rfl (by kernel_rfl) ?_
    have HV := hid (HI6.out.same (Kept.refl _ _).drew)
    generalize w6.drew = v1 at HV ⊢
    have hS : (fun wx : World => wx.cell? ⟨R, 1, none⟩ = some (.slice a dn cd)) v1 := HV.out.rbox.cell 1
    clear HI6
    refine tk 0 104 hS ?_
    refine tk 2 106 hS ?_
    refine tk 3 107 hS ?_
    refine tk 8 112 hS ?_
    refine tk 9 113 hS ?_
    refine tk 10 114 hS ?_
    refine wpAnyV_one (i := 1) (by kernel_rfl) rfl (fun K hK => ?_)
    go_simp
    refine (implUsed_any (.slice (some ⟨b, off, none⟩) 4096 c) bs v1 HBB.out (by rw [HL.out]; decide) HV.out.page).mono ?_
    rintro e v2 ⟨rfl, hk2⟩
    have HV2 := hid (HV.out.same hk2)
    have hS : (fun wx : World => wx.cell? ⟨R, 1, none⟩ = some (.slice a dn cd)) v2 := HV2.out.rbox.cell 1
    rw [HU.out]
    clear hk2 HV
    go_wp2_with fail
    refine hK.out _ _ (fun _ => hS) ?_
    clear hK K
    try simp only [Act.put, sA, s0, sS]
    refine wpAnyV_one (i := 4) (by kernel_rfl) rfl (fun K hK => ?_)
    go_simp
    refine (getAns_any (.slice (some ⟨b, off, none⟩) 4096 c) bs (S : Int) D0 v2 HBB.out (by rw [HL.out]; decide) HV2.out.page HD0.out).mono ?_
    rintro e v3 ⟨ga, gc, rfl, _, hk3⟩
    have HV3 := hid (HV2.out.same hk3)
    have hS : (fun wx : World => wx.cell? ⟨R, 1, none⟩ = some (.slice a dn cd)) v3 := HV3.out.rbox.cell 1
    rw [HGL.out]
    clear hk3 HV2
    go_wp2_with fail
    refine hK.out _ _ (fun _ => hS) ?_
    clear hK K
    try simp only [Act.put, sA, s0, sS]
    have hfd : ∀ wx, (Instr.field 24 (.agg #[.bool D0.1, .slice ga GL gc]) 1).run Try.prog wx = .ok (.slice ga GL gc) wx := fun wx => by kernel_rfl
    refine tkV 5 109 (.slice ga GL gc) hS ?_
    refine tk 6 110 hS ?_
    refine tkV 7 111 (.int .i64 (U - (GL : Int))) hS ?_
    refine tkV 11 115 (.int .i64 L) hS ?_
    refine tk 12 12 hS ?_
    refine wpAnyV_done (by kernel_rfl) ?_
    clear hS
    go_wp2_with fail
    go_meet
    case rel => exact ⟨rfl, HV3⟩
  case rest =>
  as_aux_lemma =>
  obtain ⟨w7, rfl⟩ : ∃ x, x = wc := ⟨wc, rfl⟩
  obtain ⟨rfl, HI7⟩ := hcut
  clear HI6 q1 q2
  go_upto_region 14 with fail
  go_cut [147] (fun v wx => v = .bool false ∧ Hid (FpI w wx (.slice (some ⟨b, off, none⟩) 4096 c) bs R X u a dn cd d x ya yn yc ys))
  case first =>
    as_aux_lemma =>
    rcases HXC.out with ⟨rfl, hL⟩ | ⟨rfl, hL, hm⟩
    · obtain ⟨x0, x1⟩ := HI7.out.xbox.all2
      have e1 : ¬ L ≤ 3948 := by omega
      go_wp2_with fail
      go_meet
      case rel => exact ⟨rfl, HI7⟩
    · have HM := hid hm
      have hyl : yn = 4096 := by rw [← HYN.out]; exact hm.len
      subst hyl
      have e1 : ¬ 3948 < L := by omega
      obtain ⟨x0, x1⟩ := HI7.out.xbox.all2
      clear hm
      have kF := implFault_any (.slice ya 4096 yc) ys num w7 HM.out.isB (by rw [HM.out.len]; decide) HI7.out.ydat
      rw [show pageFault ys num = 0 from by rw [← HNM.out]; exact HM.out.fault] at kF
      go_wp2_with fail
      refine kF.mono ?_
      rintro e w8 ⟨rfl, hk'⟩
      have HI8 := hid (HI7.out.same hk')
      clear hk' HI7 x0 x1 kF
      obtain ⟨x0, x1⟩ := HI8.out.xbox.all2
      have kF := implLSN_any (.slice ya 4096 yc) ys w8 HM.out.isB (by rw [HM.out.len]; decide) HI8.out.ydat
      rw [HM.out.lsn] at kF
      go_wp2_with fail
      refine kF.mono ?_
      rintro e w9 ⟨rfl, hk'⟩
      have HI9 := hid (HI8.out.same hk')
      clear hk' HI8 x0 x1 kF
      obtain ⟨x0, x1⟩ := HI9.out.xbox.all2
      have kF := implUsed_any (.slice ya 4096 yc) ys w9 HM.out.isB (by rw [HM.out.len]; decide) HI9.out.ydat
      rw [HM.out.used] at kF
      go_wp2_with fail
      refine kF.mono ?_
      rintro e w10 ⟨rfl, hk'⟩
      have HI10 := hid (HI9.out.same hk')
      clear hk' HI9 x0 x1 kF
      go_wp2_with fail
      go_meet
      case rel => exact ⟨rfl, HI10⟩
  case rest =>
  obtain ⟨w8, rfl⟩ : ∃ x, x = wc := ⟨wc, rfl⟩
  obtain ⟨rfl, HI8⟩ := hcut
  clear HI7
  obtain ⟨hcm, hcb⟩ := comp_made HBB.out HOK.out
  have HCM := hid hcm
  have HCB := hid hcb
  have kC := implComp_any (.slice (some ⟨b, off, none⟩) 4096 c) bs w8 HBB.out (by rw [HL.out]; decide) HI8.out.page
  rw [show pageCompact bs = compB bs from if_pos HOK.out] at kC
  obtain ⟨C, hC⟩ : ∃ C, compB bs = C := ⟨_, rfl⟩
  rw [hC] at kC HCM HCB
  rw [show C.length = 4096 from by rw [← hC]; exact hcm.len] at kC
  clear hcm hcb hC
  go_wp2_with fail
  refine kC.mono ?_
  rintro e w9 ⟨ca, cc, rfl, _, ho9, hk9⟩
  obtain ⟨cg, rfl⟩ := own_some ho9 (by rw [HCM.out.len]; decide)
  have hcc : 4096 ≤ cc := ho9.caps.2
  have HCR := hid ho9.rd
  have HI9 := hid (HI8.out.same hk9)
  clear ho9 hk9 kC HI8
  go_upto_region 17 with fail
  go_cut [182] (fun v wx => v = .bool false ∧ Hid (Same w9 wx))
  case first =>
    as_aux_lemma =>
    have zN : (num : Int) = num := rfl
    clear zN
    have n1 : ¬ cc = 16 := by omega
    have g1 : (18 : Int) ≤ (cc : Int) := by omega
    have qU : IntKind.i64.wrap (4096 - U) = 4096 - U := by rw [IntKind.wrap_i64]; omega
    have HZ := (show Hid (Same w9 w9) from Kept.refl _ _)
    have lC : C.length ≤ 1099511627776 := by rw [HCM.out.len]; decide
    have lB : bs.length ≤ 1099511627776 := by rw [HL.out]; decide
    have kF := fun wx (h : Same w9 wx) => implFault_any (.slice (some ⟨cg, 0, none⟩) 4096 cc) C num wx HCM.out.isB lC (HCR.out.same h)
    rw [show pageFault C num = 0 from by rw [← HNM.out]; exact HCM.out.fault] at kF
    have kUC := fun wx (h : Same w9 wx) => implUsed_any (.slice (some ⟨cg, 0, none⟩) 4096 cc) C wx HCM.out.isB lC (HCR.out.same h)
    have kUB := fun wx (h : Same w9 wx) => implUsed_any (.slice (some ⟨b, off, none⟩) 4096 c) bs wx HBB.out lB (HI9.out.page.same h)
    rw [HCM.out.used, HU.out] at kUC
    rw [HU.out] at kUB
    obtain ⟨ls, hls⟩ : ∃ x, pageLSN bs = x := ⟨_, rfl⟩
    have kLC := fun wx (h : Same w9 wx) => implLSN_any (.slice (some ⟨cg, 0, none⟩) 4096 cc) C wx HCM.out.isB lC (HCR.out.same h)
    have kLB := fun wx (h : Same w9 wx) => implLSN_any (.slice (some ⟨b, off, none⟩) 4096 c) bs wx HBB.out lB (HI9.out.page.same h)
    rw [HCM.out.lsn, hls] at kLC
    rw [hls] at kLB
    have kG := fun wx (h : Same w9 wx) => specGet_any (.slice (some ⟨cg, 0 + 16, none⟩) 2 (cc - 16)) ((C.drop 16).take 2) wx (isB_take (isB_drop HCM.out.isB _) _) (by rw [List.length_take, List.length_drop, HCM.out.len]; decide) (Rd.part (n := 2) (rd_page (HCR.out.same h) HCM.out.len).2 16 2 (by rw [HCM.out.len]; decide) rfl (by omega) (by unfold maxLen; omega))
    rw [show getN ((C.drop 16).take 2) = 4096 - U from by rw [← HU.out]; exact HCB.out, Nat.zero_add] at kG
    obtain ⟨s1, s2, s3, s4⟩ := seal_two HCM.out.len HCM.out.isB
    have kS := fun wx (h : Same w9 wx) => implSeal_any (.slice (some ⟨cg, 0, none⟩) 4096 cc) C wx HCM.out.isB lC (HCR.out.same h)
    rw [s1, s3] at kS
    have kW := fun (v : Value) wx (h : Rd .u8 wx v (sealB C)) => implWhole_any v (sealB C) wx s2 (by rw [s3]; decide) h
    rw [s4] at kW
    clear hls lC lB s1 s2 s3 s4
    go_wp2_with fail
    refine (kF _ HZ.out).mono ?_
    rintro e wS ⟨rfl, hk'⟩
    have HZ' := hid (HZ.out.trans hk')
    clear hk' HZ
    have HZ := HZ'
    clear HZ'
    go_wp2_with fail
    refine (kUC _ HZ.out).mono ?_
    rintro e wS ⟨rfl, hk'⟩
    have HZ' := hid (HZ.out.trans hk')
    clear hk' HZ
    have HZ := HZ'
    clear HZ'
    go_wp2_with fail
    refine (kUB _ HZ.out).mono ?_
    rintro e wS ⟨rfl, hk'⟩
    have HZ' := hid (HZ.out.trans hk')
    clear hk' HZ
    have HZ := HZ'
    clear HZ'
    go_wp2_with fail
    refine (kLC _ HZ.out).mono ?_
    rintro e wS ⟨rfl, hk'⟩
    have HZ' := hid (HZ.out.trans hk')
    clear hk' HZ
    have HZ := HZ'
    clear HZ'
    go_wp2_with fail
    refine (kLB _ HZ.out).mono ?_
    rintro e wS ⟨rfl, hk'⟩
    have HZ' := hid (HZ.out.trans hk')
    clear hk' HZ
    have HZ := HZ'
    clear HZ'
    go_wp2_with fail
    refine (kG _ HZ.out).mono ?_
    rintro e wS ⟨rfl, hk'⟩
    have HZ' := hid (HZ.out.trans hk')
    clear hk' HZ
    have HZ := HZ'
    clear HZ'
    go_wp2_with fail
    refine (kUB _ HZ.out).mono ?_
    rintro e wS ⟨rfl, hk'⟩
    have HZ' := hid (HZ.out.trans hk')
    clear hk' HZ
    have HZ := HZ'
    clear HZ'
    go_wp2_with fail
    refine (kS _ HZ.out).mono ?_
    rintro e wS ⟨sa, sc, rfl, _, hoS, hk'⟩
    have HZ' := hid (HZ.out.trans hk')
    have HSR := hid hoS.rd
    clear hk' HZ hoS
    have HZ := HZ'
    clear HZ'
    go_wp2_with fail
    refine (kW _ _ HSR.out).mono ?_
    rintro e wT ⟨rfl, hk'⟩
    have HZ' := hid (HZ.out.trans hk')
    clear hk' HZ
    go_wp2_with fail
    go_meet
    case rel => exact ⟨rfl, HZ'⟩
  case rest =>
  as_aux_lemma =>
  obtain ⟨w10, rfl⟩ : ∃ x, x = wc := ⟨wc, rfl⟩
  obtain ⟨rfl, hk10⟩ := hcut
  have HI10 := hid (HI9.out.same hk10.out)
  have HCR := hid (HCR.out.same hk10.out)
  clear HI9 hk10
  go_wp2_with fail
  go_loopw [14] (fun i wr => ∃ (j : Nat), j ≤ 32 ∧ i = .int .i64 (j : Int) ∧ Hid (Same w10 wr)) (fun i _ => 32 - (intOf i).toNat)
  case atStart => exact ⟨0, Nat.zero_le _, rfl, Kept.refl _ _⟩
  case round =>
    as_aux_lemma =>
    obtain ⟨w11, rfl⟩ : ∃ x, x = wr := ⟨wr, rfl⟩
    obtain ⟨j, hj, rfl, HK⟩ := hrel
    by_cases hlt : j < 32
    case neg =>
      have hge : ¬ (j : Int) < 32 := by omega
      go_wp2
      go_ret
      exact ⟨rfl, (HI10.out.same HK.out).kept⟩
    obtain ⟨D, hD⟩ : ∃ D, pageGet bs (j : Int) = D := ⟨_, rfl⟩
    have HGC := (show Hid (pageGet C (j : Int) = D) from (HCM.out.get j hlt).trans hD)
    have HDD := hid hD
    obtain ⟨Dn, hDn⟩ : ∃ n, D.2.length = n := ⟨_, rfl⟩
    obtain ⟨Du, hDu⟩ : ∃ n, D.1 = n := ⟨_, rfl⟩
    have HDn := hid hDn
    have HDu := hid hDu
    have kGB := getAns_any (.slice (some ⟨b, off, none⟩) 4096 c) bs (j : Int) D w11 HBB.out (by rw [HL.out]; decide) (HI10.out.same HK.out).page hD
    clear hD hDn hDu
    have hlti : (j : Int) < 32 := by omega
    go_wp2_with fail
    refine kGB.mono ?_
    rintro e w12 ⟨ga, gc, rfl, hgr, hk12⟩
    rw [HDn.out] at hgr ⊢
    rw [HDu.out]
    have hk13 : Same w12 (w12.alloc (.cells #[.bool Du, .slice ga Dn gc] 24)) := (Kept.refl _ _).alloc _
    have HWB := hid (Blk.new w12 #[.bool Du, .slice ga Dn gc] 24)
    have HGR := hid (hgr.same hk13)
    have HK12 := hid (hk12.trans hk13)
    have HI12 := hid ((HI10.out.same HK.out).same (hk12.trans hk13))
    clear hgr hk12 hk13 kGB
    obtain ⟨Wb, hWb⟩ : ∃ x, w12.heap.size = x := ⟨_, rfl⟩
    rw [hWb] at HWB
    have HWS := hid hWb
    clear hWb
    go_upto_region 23 with fail
    rw [HWS.out]
    generalize w12.alloc (.cells #[.bool Du, .slice ga Dn gc] 24) = w12 at HWB HGR HK12 HI12 ⊢
    clear HWS
    go_cut [228] (fun v wx => v = .bool false ∧ Hid (Same w12 wx))
    case first =>
      as_aux_lemma =>
      rcases HXC.out with ⟨rfl, hL⟩ | ⟨rfl, hL, hm⟩
      · clear hL
        refine wp_region_V (fun wx : World => wx.cell? ⟨Wb, 0, none⟩ = some (.bool Du) ∧ wx.cell? ⟨Wb, 1, none⟩ = some (.slice ga Dn gc) ∧ wx.cell? ⟨X, 0, none⟩ = some (.int .i64 2) ∧ wx.cell? ⟨X, 1, none⟩ = some (.slice ya yn yc) ∧ wx.cell? ⟨R, 0, none⟩ = some (.bool u) ∧ wx.cell? ⟨R, 1, none⟩ = some (.slice a dn cd)) 99 39 rfl (by kernel_rfl) ?_
        have HV := (show Hid (Same w12 w12.drew) from (Kept.refl _ _).drew)
        generalize w12.drew = v1 at HV ⊢
        have hS : (fun wx : World => wx.cell? ⟨Wb, 0, none⟩ = some (.bool Du) ∧ wx.cell? ⟨Wb, 1, none⟩ = some (.slice ga Dn gc) ∧ wx.cell? ⟨X, 0, none⟩ = some (.int .i64 2) ∧ wx.cell? ⟨X, 1, none⟩ = some (.slice ya yn yc) ∧ wx.cell? ⟨R, 0, none⟩ = some (.bool u) ∧ wx.cell? ⟨R, 1, none⟩ = some (.slice a dn cd)) v1 := ⟨(HWB.out.same HV.out).cell 0, (HWB.out.same HV.out).cell 1, (HI12.out.xbox.same HV.out).cell 0, (HI12.out.xbox.same HV.out).cell 1, (HI12.out.rbox.same HV.out).cell 0, (HI12.out.rbox.same HV.out).cell 1⟩
        refine tk 0 190 hS ?_
        refine tk 1 191 hS ?_
        refine tk 3 193 hS ?_
        refine wpAnyV_one (i := 2) (by kernel_rfl) rfl (fun K hK => ?_)
        go_simp
        refine (getAns_any (.slice (some ⟨cg, 0, none⟩) 4096 cc) C (j : Int) D _ HCM.out.isB (by rw [HCM.out.len]; decide) (HCR.out.same ((HK.out.trans HK12.out).trans HV.out)) HGC.out).mono ?_
        rintro e v2 ⟨za, zc, rfl, hzr, hk'⟩
        have HV' := hid (HV.out.trans hk')
        clear HV hk'
        have HV := HV'
        clear HV'
        have HZR := hid hzr
        clear hzr
        rw [HDn.out] at HZR ⊢
        rw [HDu.out]
        have hS : (fun wx : World => wx.cell? ⟨Wb, 0, none⟩ = some (.bool Du) ∧ wx.cell? ⟨Wb, 1, none⟩ = some (.slice ga Dn gc) ∧ wx.cell? ⟨X, 0, none⟩ = some (.int .i64 2) ∧ wx.cell? ⟨X, 1, none⟩ = some (.slice ya yn yc) ∧ wx.cell? ⟨R, 0, none⟩ = some (.bool u) ∧ wx.cell? ⟨R, 1, none⟩ = some (.slice a dn cd)) v2 := ⟨(HWB.out.same HV.out).cell 0, (HWB.out.same HV.out).cell 1, (HI12.out.xbox.same HV.out).cell 0, (HI12.out.xbox.same HV.out).cell 1, (HI12.out.rbox.same HV.out).cell 0, (HI12.out.rbox.same HV.out).cell 1⟩
        go_wp2_with fail
        refine hK.out _ _ (fun _ => hS) ?_
        clear hK K
        try simp only [Act.put, sA, s0, sS]
        refine wpAnyV_one (i := 4) (by kernel_rfl) rfl (fun K hK => ?_)
        go_simp
        refine (sameRec_any Du za ga Dn zc gc D.2 _ HZR.out (HGR.out.same HV.out)).mono ?_
        rintro e v3 ⟨rfl, hk'⟩
        have HV' := hid (HV.out.trans hk')
        clear HV hk' HZR
        have HV := HV'
        clear HV'
        have hS : (fun wx : World => wx.cell? ⟨Wb, 0, none⟩ = some (.bool Du) ∧ wx.cell? ⟨Wb, 1, none⟩ = some (.slice ga Dn gc) ∧ wx.cell? ⟨X, 0, none⟩ = some (.int .i64 2) ∧ wx.cell? ⟨X, 1, none⟩ = some (.slice ya yn yc) ∧ wx.cell? ⟨R, 0, none⟩ = some (.bool u) ∧ wx.cell? ⟨R, 1, none⟩ = some (.slice a dn cd)) v3 := ⟨(HWB.out.same HV.out).cell 0, (HWB.out.same HV.out).cell 1, (HI12.out.xbox.same HV.out).cell 0, (HI12.out.xbox.same HV.out).cell 1, (HI12.out.rbox.same HV.out).cell 0, (HI12.out.rbox.same HV.out).cell 1⟩
        go_wp2_with fail
        refine hK.out _ _ (fun _ => hS) ?_
        clear hK K
        try simp only [Act.put, sA, s0, sS]
        refine tk 5 195 hS ?_
        refine tk 6 196 hS ?_
        refine tk 7 197 hS ?_
        refine tk 8 198 hS ?_
        refine tk 9 199 hS ?_
        refine tk 10 200 hS ?_
        refine tkS 11 201 hS ?_
        refine tkS 12 202 hS ?_
        refine tkS 13 203 hS ?_
        refine tkS 14 204 hS ?_
        refine tkS 15 205 hS ?_
        refine tkS 16 206 hS ?_
        refine tkS 17 207 hS ?_
        refine tkS 18 208 hS ?_
        refine tkS 19 209 hS ?_
        refine tkS 20 210 hS ?_
        refine tkS 21 211 hS ?_
        refine tkS 22 212 hS ?_
        refine tkS 23 213 hS ?_
        refine tkS 24 214 hS ?_
        refine tkS 25 215 hS ?_
        refine tkS 26 216 hS ?_
        refine tkS 27 217 hS ?_
        refine tkS 28 218 hS ?_
        refine tkS 29 219 hS ?_
        refine tkS 30 220 hS ?_
        refine tkS 31 221 hS ?_
        refine tkS 32 222 hS ?_
        refine tkS 33 223 hS ?_
        refine tkS 34 224 hS ?_
        refine tkS 35 225 hS ?_
        refine tkS 36 226 hS ?_
        refine tk 37 227 hS ?_
        refine tk 38 228 hS ?_
        refine wpAnyV_done (by kernel_rfl) ?_
        clear hS
        go_wp2_with fail
        go_meet
        case rel => exact ⟨rfl, HV⟩
      · have HM := hid hm
        have hyl : yn = 4096 := by rw [← HYN.out]; exact hm.len
        subst hyl
        clear hm hL
        by_cases hjs : j = S
        case neg =>
          have HGY := (show Hid (pageGet ys (j : Int) = D) from by have h := HM.out.get j hlt; rw [if_neg hjs, HDD.out] at h; exact h)
          have n1 : ((j : Int) != (S : Int)) = true := by simp; omega
          have n2 : ((j : Int) == (S : Int)) = false := by simp; omega
          refine wp_region_V (fun wx : World => wx.cell? ⟨Wb, 0, none⟩ = some (.bool Du) ∧ wx.cell? ⟨Wb, 1, none⟩ = some (.slice ga Dn gc) ∧ wx.cell? ⟨X, 0, none⟩ = some (.int .i64 0) ∧ wx.cell? ⟨X, 1, none⟩ = some (.slice ya 4096 yc) ∧ wx.cell? ⟨R, 0, none⟩ = some (.bool u) ∧ wx.cell? ⟨R, 1, none⟩ = some (.slice a dn cd)) 99 39 rfl (by kernel_rfl) ?_
          have HV := (show Hid (Same w12 w12.drew) from (Kept.refl _ _).drew)
          generalize w12.drew = v1 at HV ⊢
          have hS : (fun wx : World => wx.cell? ⟨Wb, 0, none⟩ = some (.bool Du) ∧ wx.cell? ⟨Wb, 1, none⟩ = some (.slice ga Dn gc) ∧ wx.cell? ⟨X, 0, none⟩ = some (.int .i64 0) ∧ wx.cell? ⟨X, 1, none⟩ = some (.slice ya 4096 yc) ∧ wx.cell? ⟨R, 0, none⟩ = some (.bool u) ∧ wx.cell? ⟨R, 1, none⟩ = some (.slice a dn cd)) v1 := ⟨(HWB.out.same HV.out).cell 0, (HWB.out.same HV.out).cell 1, (HI12.out.xbox.same HV.out).cell 0, (HI12.out.xbox.same HV.out).cell 1, (HI12.out.rbox.same HV.out).cell 0, (HI12.out.rbox.same HV.out).cell 1⟩
          refine tk 0 190 hS ?_
          refine tk 1 191 hS ?_
          refine tk 3 193 hS ?_
          refine wpAnyV_one (i := 2) (by kernel_rfl) rfl (fun K hK => ?_)
          go_simp
          refine (getAns_any (.slice (some ⟨cg, 0, none⟩) 4096 cc) C (j : Int) D _ HCM.out.isB (by rw [HCM.out.len]; decide) (HCR.out.same ((HK.out.trans HK12.out).trans HV.out)) HGC.out).mono ?_
          rintro e v2 ⟨za, zc, rfl, hzr, hk'⟩
          have HV' := hid (HV.out.trans hk')
          clear HV hk'
          have HV := HV'
          clear HV'
          have HZR := hid hzr
          clear hzr
          rw [HDn.out] at HZR ⊢
          rw [HDu.out]
          have hS : (fun wx : World => wx.cell? ⟨Wb, 0, none⟩ = some (.bool Du) ∧ wx.cell? ⟨Wb, 1, none⟩ = some (.slice ga Dn gc) ∧ wx.cell? ⟨X, 0, none⟩ = some (.int .i64 0) ∧ wx.cell? ⟨X, 1, none⟩ = some (.slice ya 4096 yc) ∧ wx.cell? ⟨R, 0, none⟩ = some (.bool u) ∧ wx.cell? ⟨R, 1, none⟩ = some (.slice a dn cd)) v2 := ⟨(HWB.out.same HV.out).cell 0, (HWB.out.same HV.out).cell 1, (HI12.out.xbox.same HV.out).cell 0, (HI12.out.xbox.same HV.out).cell 1, (HI12.out.rbox.same HV.out).cell 0, (HI12.out.rbox.same HV.out).cell 1⟩
          go_wp2_with fail
          refine hK.out _ _ (fun _ => hS) ?_
          clear hK K
          try simp only [Act.put, sA, s0, sS]
          refine wpAnyV_one (i := 4) (by kernel_rfl) rfl (fun K hK => ?_)
          go_simp
          refine (sameRec_any Du za ga Dn zc gc D.2 _ HZR.out (HGR.out.same HV.out)).mono ?_
          rintro e v3 ⟨rfl, hk'⟩
          have HV' := hid (HV.out.trans hk')
          clear HV hk' HZR
          have HV := HV'
          clear HV'
          have hS : (fun wx : World => wx.cell? ⟨Wb, 0, none⟩ = some (.bool Du) ∧ wx.cell? ⟨Wb, 1, none⟩ = some (.slice ga Dn gc) ∧ wx.cell? ⟨X, 0, none⟩ = some (.int .i64 0) ∧ wx.cell? ⟨X, 1, none⟩ = some (.slice ya 4096 yc) ∧ wx.cell? ⟨R, 0, none⟩ = some (.bool u) ∧ wx.cell? ⟨R, 1, none⟩ = some (.slice a dn cd)) v3 := ⟨(HWB.out.same HV.out).cell 0, (HWB.out.same HV.out).cell 1, (HI12.out.xbox.same HV.out).cell 0, (HI12.out.xbox.same HV.out).cell 1, (HI12.out.rbox.same HV.out).cell 0, (HI12.out.rbox.same HV.out).cell 1⟩
          go_wp2_with fail
          refine hK.out _ _ (fun _ => hS) ?_
          clear hK K
          try simp only [Act.put, sA, s0, sS]
          refine tk 5 195 hS ?_
          refine tk 6 196 hS ?_
          refine tk 7 197 hS ?_
          refine tk 8 198 hS ?_
          refine tk 9 199 hS ?_
          refine tk 10 200 hS ?_
          refine tk 11 201 hS ?_
          refine tk 12 202 hS ?_
          refine tk 13 203 hS ?_
          refine tk 14 204 hS ?_
          refine tk 15 205 hS ?_
          refine tk 16 206 hS ?_
          refine tk 17 207 hS ?_
          refine tk 19 209 hS ?_
          refine wpAnyV_one (i := 18) (by kernel_rfl) rfl (fun K hK => ?_)
          go_simp
          refine (getAns_any (.slice ya 4096 yc) ys (j : Int) D _ HM.out.isB (by rw [HM.out.len]; decide) (HI12.out.ydat.same HV.out) HGY.out).mono ?_
          rintro e v4 ⟨za, zc, rfl, hzr, hk'⟩
          have HV' := hid (HV.out.trans hk')
          clear HV hk'
          have HV := HV'
          clear HV'
          have HZR := hid hzr
          clear hzr
          rw [HDn.out] at HZR ⊢
          rw [HDu.out]
          have hS : (fun wx : World => wx.cell? ⟨Wb, 0, none⟩ = some (.bool Du) ∧ wx.cell? ⟨Wb, 1, none⟩ = some (.slice ga Dn gc) ∧ wx.cell? ⟨X, 0, none⟩ = some (.int .i64 0) ∧ wx.cell? ⟨X, 1, none⟩ = some (.slice ya 4096 yc) ∧ wx.cell? ⟨R, 0, none⟩ = some (.bool u) ∧ wx.cell? ⟨R, 1, none⟩ = some (.slice a dn cd)) v4 := ⟨(HWB.out.same HV.out).cell 0, (HWB.out.same HV.out).cell 1, (HI12.out.xbox.same HV.out).cell 0, (HI12.out.xbox.same HV.out).cell 1, (HI12.out.rbox.same HV.out).cell 0, (HI12.out.rbox.same HV.out).cell 1⟩
          go_wp2_with fail
          refine hK.out _ _ (fun _ => hS) ?_
          clear hK K
          try simp only [Act.put, sA, s0, sS]
          refine wpAnyV_one (i := 20) (by kernel_rfl) rfl (fun K hK => ?_)
          go_simp
          refine (sameRec_any Du za ga Dn zc gc D.2 _ HZR.out (HGR.out.same HV.out)).mono ?_
          rintro e v5 ⟨rfl, hk'⟩
          have HV' := hid (HV.out.trans hk')
          clear HV hk' HZR
          have HV := HV'
          clear HV'
          have hS : (fun wx : World => wx.cell? ⟨Wb, 0, none⟩ = some (.bool Du) ∧ wx.cell? ⟨Wb, 1, none⟩ = some (.slice ga Dn gc) ∧ wx.cell? ⟨X, 0, none⟩ = some (.int .i64 0) ∧ wx.cell? ⟨X, 1, none⟩ = some (.slice ya 4096 yc) ∧ wx.cell? ⟨R, 0, none⟩ = some (.bool u) ∧ wx.cell? ⟨R, 1, none⟩ = some (.slice a dn cd)) v5 := ⟨(HWB.out.same HV.out).cell 0, (HWB.out.same HV.out).cell 1, (HI12.out.xbox.same HV.out).cell 0, (HI12.out.xbox.same HV.out).cell 1, (HI12.out.rbox.same HV.out).cell 0, (HI12.out.rbox.same HV.out).cell 1⟩
          go_wp2_with fail
          refine hK.out _ _ (fun _ => hS) ?_
          clear hK K
          try simp only [Act.put, sA, s0, sS]
          refine tk 21 211 hS ?_
          refine tk 22 212 hS ?_
          refine tk 23 213 hS ?_
          refine tk 24 214 hS ?_
          refine tk 25 215 hS ?_
          refine tk 26 216 hS ?_
          refine tk 27 217 hS ?_
          refine tkS 28 218 hS ?_
          refine tkS 29 219 hS ?_
          refine tkS 30 220 hS ?_
          refine tkS 31 221 hS ?_
          refine tkS 32 222 hS ?_
          refine tkS 33 223 hS ?_
          refine tkS 34 224 hS ?_
          refine tk 35 225 hS ?_
          refine tk 36 226 hS ?_
          refine tk 37 227 hS ?_
          refine tk 38 228 hS ?_
          refine wpAnyV_done (by kernel_rfl) ?_
          clear hS
          go_wp2_with fail
          go_meet
          case rel => exact ⟨rfl, HV⟩
        have HGY := (show Hid (pageGet ys (j : Int) = (u, d)) from by have h := HM.out.get j hlt; rw [if_pos hjs] at h; exact h)
        have n1 : ((j : Int) != (S : Int)) = false := by simp; omega
        have n2 : ((j : Int) == (S : Int)) = true := by simp; omega
        clear hjs
        refine wp_region_V (fun wx : World => wx.cell? ⟨Wb, 0, none⟩ = some (.bool Du) ∧ wx.cell? ⟨Wb, 1, none⟩ = some (.slice ga Dn gc) ∧ wx.cell? ⟨X, 0, none⟩ = some (.int .i64 0) ∧ wx.cell? ⟨X, 1, none⟩ = some (.slice ya 4096 yc) ∧ wx.cell? ⟨R, 0, none⟩ = some (.bool u) ∧ wx.cell? ⟨R, 1, none⟩ = some (.slice a dn cd)) 99 39 rfl (by kernel_rfl) ?_
        have HV := (show Hid (Same w12 w12.drew) from (Kept.refl _ _).drew)
        generalize w12.drew = v1 at HV ⊢
        have hS : (fun wx : World => wx.cell? ⟨Wb, 0, none⟩ = some (.bool Du) ∧ wx.cell? ⟨Wb, 1, none⟩ = some (.slice ga Dn gc) ∧ wx.cell? ⟨X, 0, none⟩ = some (.int .i64 0) ∧ wx.cell? ⟨X, 1, none⟩ = some (.slice ya 4096 yc) ∧ wx.cell? ⟨R, 0, none⟩ = some (.bool u) ∧ wx.cell? ⟨R, 1, none⟩ = some (.slice a dn cd)) v1 := ⟨(HWB.out.same HV.out).cell 0, (HWB.out.same HV.out).cell 1, (HI12.out.xbox.same HV.out).cell 0, (HI12.out.xbox.same HV.out).cell 1, (HI12.out.rbox.same HV.out).cell 0, (HI12.out.rbox.same HV.out).cell 1⟩
        refine tk 0 190 hS ?_
        refine tk 1 191 hS ?_
        refine tk 3 193 hS ?_
        refine wpAnyV_one (i := 2) (by kernel_rfl) rfl (fun K hK => ?_)
        go_simp
        refine (getAns_any (.slice (some ⟨cg, 0, none⟩) 4096 cc) C (j : Int) D _ HCM.out.isB (by rw [HCM.out.len]; decide) (HCR.out.same ((HK.out.trans HK12.out).trans HV.out)) HGC.out).mono ?_
        rintro e v2 ⟨za, zc, rfl, hzr, hk'⟩
        have HV' := hid (HV.out.trans hk')
        clear HV hk'
        have HV := HV'
        clear HV'
        have HZR := hid hzr
        clear hzr
        rw [HDn.out] at HZR ⊢
        rw [HDu.out]
        have hS : (fun wx : World => wx.cell? ⟨Wb, 0, none⟩ = some (.bool Du) ∧ wx.cell? ⟨Wb, 1, none⟩ = some (.slice ga Dn gc) ∧ wx.cell? ⟨X, 0, none⟩ = some (.int .i64 0) ∧ wx.cell? ⟨X, 1, none⟩ = some (.slice ya 4096 yc) ∧ wx.cell? ⟨R, 0, none⟩ = some (.bool u) ∧ wx.cell? ⟨R, 1, none⟩ = some (.slice a dn cd)) v2 := ⟨(HWB.out.same HV.out).cell 0, (HWB.out.same HV.out).cell 1, (HI12.out.xbox.same HV.out).cell 0, (HI12.out.xbox.same HV.out).cell 1, (HI12.out.rbox.same HV.out).cell 0, (HI12.out.rbox.same HV.out).cell 1⟩
        go_wp2_with fail
        refine hK.out _ _ (fun _ => hS) ?_
        clear hK K
        try simp only [Act.put, sA, s0, sS]
        refine wpAnyV_one (i := 4) (by kernel_rfl) rfl (fun K hK => ?_)
        go_simp
        refine (sameRec_any Du za ga Dn zc gc D.2 _ HZR.out (HGR.out.same HV.out)).mono ?_
        rintro e v3 ⟨rfl, hk'⟩
        have HV' := hid (HV.out.trans hk')
        clear HV hk' HZR
        have HV := HV'
        clear HV'
        have hS : (fun wx : World => wx.cell? ⟨Wb, 0, none⟩ = some (.bool Du) ∧ wx.cell? ⟨Wb, 1, none⟩ = some (.slice ga Dn gc) ∧ wx.cell? ⟨X, 0, none⟩ = some (.int .i64 0) ∧ wx.cell? ⟨X, 1, none⟩ = some (.slice ya 4096 yc) ∧ wx.cell? ⟨R, 0, none⟩ = some (.bool u) ∧ wx.cell? ⟨R, 1, none⟩ = some (.slice a dn cd)) v3 := ⟨(HWB.out.same HV.out).cell 0, (HWB.out.same HV.out).cell 1, (HI12.out.xbox.same HV.out).cell 0, (HI12.out.xbox.same HV.out).cell 1, (HI12.out.rbox.same HV.out).cell 0, (HI12.out.rbox.same HV.out).cell 1⟩
        go_wp2_with fail
        refine hK.out _ _ (fun _ => hS) ?_
        clear hK K
        try simp only [Act.put, sA, s0, sS]
        refine tk 5 195 hS ?_
        refine tk 6 196 hS ?_
        refine tk 7 197 hS ?_
        refine tk 8 198 hS ?_
        refine tk 9 199 hS ?_
        refine tk 10 200 hS ?_
        refine tk 11 201 hS ?_
        refine tk 12 202 hS ?_
        refine tk 13 203 hS ?_
        refine tk 14 204 hS ?_
        refine tkS 15 205 hS ?_
        refine tkS 16 206 hS ?_
        refine tkS 17 207 hS ?_
        refine tkS 18 208 hS ?_
        refine tkS 19 209 hS ?_
        refine tkS 20 210 hS ?_
        refine tkS 21 211 hS ?_
        refine tk 22 212 hS ?_
        refine tk 23 213 hS ?_
        refine tk 24 214 hS ?_
        refine tk 25 215 hS ?_
        refine tk 26 216 hS ?_
        refine tk 27 217 hS ?_
        refine tk 28 218 hS ?_
        refine tk 29 219 hS ?_
        refine tk 30 220 hS ?_
        refine tk 32 222 hS ?_
        refine wpAnyV_one (i := 31) (by kernel_rfl) rfl (fun K hK => ?_)
        go_simp
        refine (getAns_any (.slice ya 4096 yc) ys (j : Int) (u, d) _ HM.out.isB (by rw [HM.out.len]; decide) (HI12.out.ydat.same HV.out) HGY.out).mono ?_
        rintro e v4 ⟨za, zc, rfl, hzr, hk'⟩
        have HV' := hid (HV.out.trans hk')
        clear HV hk'
        have HV := HV'
        clear HV'
        have HZR := hid hzr
        clear hzr
        rw [show (u, d).2.length = dn from HDN.out] at HZR ⊢
        have hS : (fun wx : World => wx.cell? ⟨Wb, 0, none⟩ = some (.bool Du) ∧ wx.cell? ⟨Wb, 1, none⟩ = some (.slice ga Dn gc) ∧ wx.cell? ⟨X, 0, none⟩ = some (.int .i64 0) ∧ wx.cell? ⟨X, 1, none⟩ = some (.slice ya 4096 yc) ∧ wx.cell? ⟨R, 0, none⟩ = some (.bool u) ∧ wx.cell? ⟨R, 1, none⟩ = some (.slice a dn cd)) v4 := ⟨(HWB.out.same HV.out).cell 0, (HWB.out.same HV.out).cell 1, (HI12.out.xbox.same HV.out).cell 0, (HI12.out.xbox.same HV.out).cell 1, (HI12.out.rbox.same HV.out).cell 0, (HI12.out.rbox.same HV.out).cell 1⟩
        go_wp2_with fail
        refine hK.out _ _ (fun _ => hS) ?_
        clear hK K
        try simp only [Act.put, sA, s0, sS]
        refine wpAnyV_one (i := 33) (by kernel_rfl) rfl (fun K hK => ?_)
        go_simp
        refine (sameRec_any u za a dn zc cd d _ HZR.out (HI12.out.dat.same HV.out)).mono ?_
        rintro e v5 ⟨rfl, hk'⟩
        have HV' := hid (HV.out.trans hk')
        clear HV hk' HZR
        have HV := HV'
        clear HV'
        have hS : (fun wx : World => wx.cell? ⟨Wb, 0, none⟩ = some (.bool Du) ∧ wx.cell? ⟨Wb, 1, none⟩ = some (.slice ga Dn gc) ∧ wx.cell? ⟨X, 0, none⟩ = some (.int .i64 0) ∧ wx.cell? ⟨X, 1, none⟩ = some (.slice ya 4096 yc) ∧ wx.cell? ⟨R, 0, none⟩ = some (.bool u) ∧ wx.cell? ⟨R, 1, none⟩ = some (.slice a dn cd)) v5 := ⟨(HWB.out.same HV.out).cell 0, (HWB.out.same HV.out).cell 1, (HI12.out.xbox.same HV.out).cell 0, (HI12.out.xbox.same HV.out).cell 1, (HI12.out.rbox.same HV.out).cell 0, (HI12.out.rbox.same HV.out).cell 1⟩
        go_wp2_with fail
        refine hK.out _ _ (fun _ => hS) ?_
        clear hK K
        try simp only [Act.put, sA, s0, sS]
        refine tk 34 224 hS ?_
        refine tk 35 225 hS ?_
        refine tk 36 226 hS ?_
        refine tk 37 227 hS ?_
        refine tk 38 228 hS ?_
        refine wpAnyV_done (by kernel_rfl) ?_
        clear hS
        go_wp2_with fail
        go_meet
        case rel => exact ⟨rfl, HV⟩
    case rest =>
    as_aux_lemma =>
    obtain ⟨w13, rfl⟩ : ∃ x, x = wc := ⟨wc, rfl⟩
    obtain ⟨rfl, HK13⟩ := hcut
    have HKE := hid ((HK.out.trans HK12.out).trans HK13.out)
    clear HI12 HK13 HK HK12
    go_wp2_with fail
    go_roundw
    case rel => exact ⟨j + 1, by omega, by go_num, HKE⟩
    case measure => simp [intOf]; omega
end Go.Proofs.Ytcnaabjgjmodeaa
