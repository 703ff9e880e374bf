import Derived.Test.YthbocacnfhpidaaG06
namespace Go.Proofs.Ythbocacnfhpidaa
set_option maxRecDepth 100000
set_option maxHeartbeats 8000000
open Go.RowKit
set_option linter.unusedVariables false
set_option linter.unusedSimpArgs false
theorem specPlan_any (v : Value) (ps : List StLogFrame) (x : FR) (w : World) (hv : RdFr w v ps) (hx : RdF 4 w x) (hLb : ps.length ≤ 1048576) :
    Calls Try.prog 6 #[v, x.v] w fun e w' => ∃ y : StUndoPlan, e = .returned y.val ∧ y.dat = planD (fs5 ps) (quad x.bs) ∧ (∀ b, FootL y.rows b → w.heap.size ≤ b) ∧ OwnL w' y.rows ∧ Same w w' := by
  obtain ⟨i3, hi3, hz30, hz31, hz32⟩ := info_parts Try.infoUndoStep
  obtain ⟨i4, hi4, hz40, hz41, hz42⟩ := info_parts Try.infoTxnEntry
  obtain ⟨va, vc, rfl⟩ := hv.form
  have HK0 := hid (sameA w [.int .i64 0, .slice none 0 0] 28)
  have HB0 := hid (Blk.newL w [.int .i64 0, .slice none 0 0] 28)
  have k0 := specRises_any _ ps _ (hv.same HK0.out)
  obtain ⟨xe, xa, n, xc, bs⟩ := x
  obtain ⟨ts, hts⟩ : ∃ ts, quad bs = ts := ⟨_, rfl⟩
  have hbs : bs = flat4 ts := by rw [← hts, flat4_quad n bs hx.2.1]
  dsimp only [FR.v] at hx ⊢
  rw [hts]
  have hl : ts.length = n := by rw [← hts]; exact quad_length n bs hx.2.1
  clear hts
  subst hbs
  have hnm : n ≤ maxLen := hx.1
  unfold maxLen at hnm
  have HV := hid hv
  have HX := hid hx
  have HL := hid hl
  clear hv hx hl
  obtain ⟨R, hR⟩ : ∃ R, planD (fs5 ps) ts = R := ⟨_, rfl⟩
  rw [hR]
  obtain ⟨B, hB⟩ : ∃ B, nbg fAfter (fs5 ps) = B := ⟨_, rfl⟩
  rw [hB] at k0
  have HR := hid hR
  have HBB := hid hB
  clear hR hB
  obtain ⟨L, hL⟩ : ∃ L, ps.length = L := ⟨_, rfl⟩
  rw [hL] at k0 hLb HV ⊢
  have HLL := hid hL
  clear hL
  go_enter Try.func6, Try.ntmps6
  go_wp2_with fail
  refine k0.mono ?_
  rintro e w1 ⟨rfl, hk1⟩
  have HK1 := hid (HK0.out.trans hk1)
  have HB1 := hid (HB0.out.same hk1)
  clear hk1 HB0 HK0 k0
  cases B with
  | true =>
    obtain ⟨r0, r1⟩ := HB1.out.all2
    have fr := HB1.out.frozen
    have lr := HB1.out.lt
    go_wp2
    refine bodyPost_ret (v := .agg #[.int .i64 2, .slice none 0 0]) (by simp [results, Try.results6, go_sem, r0, r1]) rfl ⟨⟨2, ⟨54, none, 0, 0, []⟩⟩, rfl, ?_, ?_, ?_, ?_⟩
    · rw [← HR.out]; simp [planD, puBad, HBB.out]; rfl
    · intro b hb
      have h := (FootL_one _ _).1 hb
      simp [FR.v, Value.ownBlock] at h
    · exact (OwQ.nil 3 _ _).rows
    · first
      | ((iterate 2 refine Kept.setCell ?_ (.inl (Nat.le_refl _)) _); exact HK1.out)
      | (refine Kept.drew ?_; (iterate 2 refine Kept.setCell ?_ (.inl (Nat.le_refl _)) _); exact HK1.out)
  | false =>
  by_cases h8 : 8 < n
  · have h8' : (8 : Int) < (n : Int) := by omega
    obtain ⟨r0, r1⟩ := HB1.out.all2
    have fr := HB1.out.frozen
    have lr := HB1.out.lt
    go_wp2
    refine bodyPost_ret (v := .agg #[.int .i64 2, .slice none 0 0]) (by simp [results, Try.results6, go_sem, r0, r1]) rfl ⟨⟨2, ⟨54, none, 0, 0, []⟩⟩, rfl, ?_, ?_, ?_, ?_⟩
    · have h8l : 8 < ts.length := by rw [HL.out]; exact h8
      rw [← HR.out]; simp [planD, puBad, h8l]; rfl
    · intro b hb
      have h := (FootL_one _ _).1 hb
      simp [FR.v, Value.ownBlock] at h
    · exact (OwQ.nil 3 _ _).rows
    · first
      | ((iterate 2 refine Kept.setCell ?_ (.inl (Nat.le_refl _)) _); exact HK1.out)
      | (refine Kept.drew ?_; (iterate 2 refine Kept.setCell ?_ (.inl (Nat.le_refl _)) _); exact HK1.out)
  have h8' : (n : Int) ≤ 8 := by omega
  go_wp2_with fail
  go_loopw [5] (fun i wr => ∃ j : Nat, j ≤ n ∧ i = .int .i64 j ∧ Hid (∀ k, k < j → tNeg (ts.getD k q4z) = false) ∧ Hid (∀ k, k + 1 < j → tAfter (ts.getD k q4z) (ts.getD (k + 1) q4z) = false) ∧ Hid (Blk wr w.heap.size 28 [.int .i64 0, .slice none 0 0]) ∧ Hid (Same w wr)) (fun i _ => n - (intOf i).toNat)
  case atStart => exact ⟨0, Nat.zero_le _, rfl, fun k h => by omega, fun k h => by omega, HB1, HK1⟩
  case round =>
    as_aux_lemma =>
    obtain ⟨j, hj, rfl, HA, HP, HBr, HKr⟩ := hrel
    clear HB1 HK1
    by_cases hlt : j < n
    · as_aux_lemma =>
      obtain ⟨b, off, ha, hc⟩ := HX.out.someQ (show 0 < n by omega)
      dsimp only at ha hc
      subst ha
      have hlj : j < ts.length := by rw [HL.out]; exact hlt
      obtain ⟨⟨a, s, l, u⟩, hq⟩ : ∃ q, ts.getD j q4z = q := ⟨_, rfl⟩
      have HQ := hid hq
      obtain ⟨d0, d1, d2, d3⟩ := (HX.out.same HKr.out).quad j hlj _ _ _ _ hq
      clear hq
      by_cases hu : u < 0
      · have hu' : (decide (u < 0)) = true := by simp [hu]
        go_wp2
        go_quiet (fail)
        obtain ⟨r0, r1⟩ := HBr.out.all2
        have fr := HBr.out.frozen
        have lr := HBr.out.lt
        go_wp2
        refine bodyPost_ret (v := .agg #[.int .i64 2, .slice none 0 0]) (by simp [results, Try.results6, go_sem, r0, r1]) rfl ⟨⟨2, ⟨54, none, 0, 0, []⟩⟩, rfl, ?_, ?_, ?_, ?_⟩
        · have h := any_yes (f := tNeg) (ls := ts) j hlj (by rw [HQ.out]; simp [tNeg, hu])
          rw [← HR.out]; simp [planD, puBad, h]; rfl
        · intro b hb
          have h := (FootL_one _ _).1 hb
          simp [FR.v, Value.ownBlock] at h
        · exact (OwQ.nil 3 _ _).rows
        · first
          | ((iterate 2 refine Kept.setCell ?_ (.inl (Nat.le_refl _)) _); exact HKr.out.drewN _)
          | (refine Kept.drew ?_; (iterate 2 refine Kept.setCell ?_ (.inl (Nat.le_refl _)) _); exact HKr.out.drewN _)
      · have hu2 : (decide (u < 0)) = false := decide_eq_false (by omega)
        by_cases hj0 : j = 0
        · have jz : (decide ((0 : Int) < (j : Int))) = false := decide_eq_false (by omega)
          have jy : (decide (0 < j)) = false := decide_eq_false (by omega)
          have HJ0 := hid hj0
          clear hj0
          go_wp2
          go_quiet (fail)
          go_wp2
          go_roundw
          case rel => exact ⟨j + 1, by omega, by go_num, fun k hk => by
            have := HJ0.out
            obtain rfl : k = j := by omega
            rw [HQ.out]; simp [tNeg]; omega, fun k hk => by have := HJ0.out; omega, hid HBr.out, hid (HKr.out.drewN _)⟩
          case measure => simp [intOf]; omega
        · obtain ⟨m, rfl⟩ : ∃ m, j = m + 1 := ⟨j - 1, by omega⟩
          have hlm : m < ts.length := by omega
          obtain ⟨⟨a2, s2, l2, u2⟩, hq⟩ : ∃ q, ts.getD m q4z = q := ⟨_, rfl⟩
          have HQ2 := hid hq
          obtain ⟨e0, e1, e2, e3⟩ := (HX.out.same HKr.out).quad m hlm _ _ _ _ hq
          clear hq
          have em : ((m + 1 : Nat) : Int) - 1 = (m : Int) := by omega
          have mm : (m : Int) < (n : Int) := by omega
          have mp : (decide ((0 : Int) < ((m + 1 : Nat) : Int))) = true := decide_eq_true (by omega)
          by_cases h1 : a ≤ a2
          · go_wp2
            go_quiet (fail)
            obtain ⟨r0, r1⟩ := HBr.out.all2
            have fr := HBr.out.frozen
            have lr := HBr.out.lt
            go_wp2
            refine bodyPost_ret (v := .agg #[.int .i64 2, .slice none 0 0]) (by simp [results, Try.results6, go_sem, r0, r1]) rfl ⟨⟨2, ⟨54, none, 0, 0, []⟩⟩, rfl, ?_, ?_, ?_, ?_⟩
            · have h := nbq_yes (f := tAfter) (ls := ts) m hlj (by rw [HQ.out, HQ2.out]; simp [tAfter, h1])
              rw [← HR.out]; simp [planD, puBad, h]; rfl
            · intro b hb
              have h := (FootL_one _ _).1 hb
              simp [FR.v, Value.ownBlock] at h
            · exact (OwQ.nil 3 _ _).rows
            · first
              | ((iterate 2 refine Kept.setCell ?_ (.inl (Nat.le_refl _)) _); exact HKr.out.drewN _)
              | (refine Kept.drew ?_; (iterate 2 refine Kept.setCell ?_ (.inl (Nat.le_refl _)) _); exact HKr.out.drewN _)
          · go_wp2
            go_quiet (fail)
            go_wp2
            go_roundw
            case rel => exact ⟨m + 1 + 1, by omega, by go_num, fun k hk => by
              by_cases hkm : k < m + 1
              · exact HA.out k hkm
              · obtain rfl : k = m + 1 := by omega
                rw [HQ.out]; simp [tNeg]; omega, fun k hk => by
              by_cases hkm : k + 1 < m + 1
              · exact HP.out k hkm
              · obtain rfl : k = m := by omega
                rw [HQ.out, HQ2.out]; simp [tAfter]; omega, hid HBr.out, hid (HKr.out.drewN _)⟩
            case measure => simp [intOf]; omega
    · as_aux_lemma =>
      obtain rfl : n = j := by omega
      have HG : Hid (puBad (fs5 ps) ts = false) := by
        unfold Hid
        rw [puBad, HBB.out, nbq_no (fun k hk => HP.out k (by rw [HL.out] at hk; omega)), any_no (fun k hk => HA.out k (by rw [HL.out] at hk; omega)), decide_eq_false (by rw [HL.out]; omega)]
        rfl
      obtain ⟨FS, hFS⟩ : ∃ FS, fs5 ps = FS := ⟨_, rfl⟩
      have HFS := hid hFS
      have HF5 : Hid (FS.length = L) := by unfold Hid; rw [← hFS, fs5_length, HLL.out]
      rw [hFS] at HR HBB HG
      clear hFS
      obtain ⟨F, hF⟩ : ∃ F, fuelU FS ts = F := ⟨_, rfl⟩
      have hFb : F ≤ 8 * (L + 1) := by rw [← hF, ← HF5.out]; exact fuel_le (by rw [HL.out]; omega)
      obtain ⟨⟨C, S3⟩, hPM⟩ : ∃ q, planM FS F (leftU ts) (endsU ts) = q := ⟨_, rfl⟩
      have HRC : Hid (R = (C, flat3U S3)) := by unfold Hid; rw [← HR.out, planD, if_neg (by rw [HG.out]; exact Bool.false_ne_true), hF, hPM]
      have HMU : Hid (mu FS (leftU ts) ≤ F) := by unfold Hid; rw [← hF]; exact Nat.le_refl _
      have HPM := hid hPM
      clear hPM hF HR HA HP
      have HP0 := (show Hid (PuM w ((wr.alloc (.cells #[.int .i64 0, .slice none 0 0] 28)).alloc (.cells #[] 52)) wr.heap.size (some ⟨wr.heap.size + 1, 0, none⟩) 0 0 [] none 0 0 []) from ⟨by have h := OwQ.made0 4 52 (wr.alloc (.cells #[.int .i64 0, .slice none 0 0] 28)); rw [World.size_alloc] at h; exact h, OwQ.nil _ _ _, fun b hb => by rw [ownBlk] at hb; have := Option.some.inj hb; omega, fun b hb => by simp [Value.ownBlock] at hb, fun b h1 h2 => by simp [Value.ownBlock] at h2, (HKr.out.alloc _).alloc _, HKr.out.size⟩)
      have HO0 := (show Hid (Blk ((wr.alloc (.cells #[.int .i64 0, .slice none 0 0] 28)).alloc (.cells #[] 52)) wr.heap.size 28 [.int .i64 0, .slice none 0 0]) from (Blk.newL wr [.int .i64 0, .slice none 0 0] 28).alloc _)
      have HZ0 := (show Hid (Blk ((wr.alloc (.cells #[.int .i64 0, .slice none 0 0] 28)).alloc (.cells #[] 52)) w.heap.size 28 [.int .i64 0, .slice none 0 0]) from (HBr.out.alloc _).alloc _)
      have hZO : w.heap.size < wr.heap.size := HBr.out.lt
      go_upto_region 10 with fail
      generalize ((wr.alloc (.cells #[.int .i64 0, .slice none 0 0] 28)).alloc (.cells #[] 52)) = w2 at *
      obtain ⟨O, hO⟩ : ∃ O, wr.heap.size = O := ⟨_, rfl⟩
      rw [hO] at HP0 HO0 hZO ⊢
      clear hO HBr HKr
      go_wp2_with fail
      go_loopw [7, 8] (fun lv i wx => ∃ (k : Nat) (la : Option Addr) (ln lc : Nat) (sa : Option Addr) (sn sc : Nat), k ≤ n ∧ lv = .slice la ln lc ∧ i = .int .i64 k ∧ Hid (PuM w wx O la ln lc (leftU (ts.take k)) sa sn sc (endsU (ts.take k))) ∧ Hid (Blk wx O 28 [.int .i64 0, .slice sa sn sc]) ∧ Hid (Blk wx w.heap.size 28 [.int .i64 0, .slice none 0 0])) (fun _ i _ => n - (intOf i).toNat)
      case atStart => exact ⟨0, _, 0, 0, none, 0, 0, Nat.zero_le _, rfl, rfl, HP0, HO0, HZ0⟩
      case round =>
        as_aux_lemma =>
        obtain ⟨k, la, ln, lc, sa, sn, sc, hk, rfl, rfl, HPr, HOr, HZr⟩ := hrel
        clear HP0 HO0 HZ0
        have hln : ln ≤ 8 := by have h1 := HPr.out.len4; have h2 := leftU_len (ts.take k); have h3 := List.length_take_le k ts; omega
        have hsn : sn ≤ 8 := by have h1 := HPr.out.len3; have h2 := endsU_len (ts.take k); have h3 := List.length_take_le k ts; omega
        by_cases hlt : k < n
        · as_aux_lemma =>
          obtain ⟨b, off, ha, hc⟩ := HX.out.someQ (show 0 < n by omega)
          dsimp only at ha hc
          subst ha
          have hlk : k < ts.length := by rw [HL.out]; exact hlt
          obtain ⟨⟨a, s, l, u⟩, hq⟩ : ∃ q, ts.getD k q4z = q := ⟨_, rfl⟩
          have HQ := hid hq
          obtain ⟨d0, d1, d2, d3⟩ := (HX.out.same HPr.out.keep).quad k hlk _ _ _ _ hq
          have HTK := hid (take_snoc hlk)
          rw [hq] at HTK
          clear hq
          have hOl := HOr.out.lt
          have hOc := HOr.out.c1
          have HPM0 := (show Hid (∀ b, (Value.slice sa sn sc).ownBlock = some b → O < b) from HPr.out.f3)
          by_cases hd : s = 2 ∨ u = 0
          · have HDN : Hid (isDone (a, s, l, u) = true) := by unfold Hid isDone; simp; exact hd
            have hbw : b < w.heap.size := block_lt_of_cell (HX.out.quad k hlk _ _ _ _ HQ.out).1
            have HREL := (show Hid (leftU (ts.take (k + 1)) = leftU (ts.take k) ∧ endsU (ts.take (k + 1)) = endsU (ts.take k) ++ [(5, a, 0)]) from by
              have h4 := leftU_snoc (ts.take k) (a, s, l, u)
              have h3 := endsU_snoc (ts.take k) (a, s, l, u)
              rw [← HTK.out, if_pos HDN.out] at h4 h3
              exact ⟨h4, h3⟩)
            by_cases hs2 : s = 2
            · have hs2' : (s == 2) = true := by simp [hs2]
              clear hd hs2
              go_wp2_with fail
              refine wp_region_V (fun wx : World => wx.cell? ⟨O, 1, none⟩ = some (.slice sa sn sc) ∧ wx.cell? ⟨b, off + k * 4, none⟩ = some (.int .i64 a)) 11 12 rfl (by kernel_rfl) ?_
              have hd0 : Same wr wr.drew := (Kept.refl _ _).drew
              generalize wr.drew = wd at *
              have HD0 := hid hd0
              have hSd : Same wr wd := hd0
              clear hd0
              have hS : (fun wx : World => wx.cell? ⟨O, 1, none⟩ = some (.slice sa sn sc) ∧ wx.cell? ⟨b, off + k * 4, none⟩ = some (.int .i64 a)) wd := ⟨hSd.cellOf hOc id, hSd.cellOf d0 id⟩
              refine tk 0 77 hS ?_
              refine tk 1 78 hS ?_
              refine tk 2 79 hS ?_
              refine tk 3 80 hS ?_
              refine tk 4 81 hS ?_
              refine tk 5 82 hS ?_
              refine tk 6 83 hS ?_
              refine tk 7 84 hS ?_
              refine wpAnyV_one (i := 8) (by kernel_rfl) rfl (fun Kc hK => ?_)
              go_simp
              have hS : (fun wx : World => wx.cell? ⟨O, 1, none⟩ = some (.slice sa sn sc) ∧ wx.cell? ⟨b, off + k * 4, none⟩ = some (.int .i64 a)) (wd.alloc (.cells #[.int .i64 5, .int .i64 a, .int .i64 0] 54)) := ⟨(hSd.alloc _).cellOf hOc id, (hSd.alloc _).cellOf d0 id⟩
              refine hK.out _ _ (fun _ => hS) ?_
              clear hK Kc
              try simp only [Act.put, sA, s0, sS]
              have HKO := (show Hid ((wd.alloc (.cells #[.int .i64 5, .int .i64 a, .int .i64 0] 54)).ownsRow 0 54 3 (.slice sa sn sc) sn (vals .i64 (flat3U (endsU (ts.take k))))) from HPr.out.own3.same (HD0.out.alloc _))
              have HN5 := hid (Blk.newL wd [.int .i64 5, .int .i64 a, .int .i64 0] 54)
              refine wpAnyV_one (i := 9) (by kernel_rfl) rfl (fun Kc hK => ?_)
              refine step_append_lies _ (by rfl) (.tmp 78) (.tmp 85) 26 (by rfl) 0 54 i3 _ 3 24 Try.underlying26 hi3 hz30 hz31 hz32 rfl (by omega) (.slice sa sn sc) sn (vals .i64 (flat3U (endsU (ts.take k)))) (by rfl) (by exact HKO.out) ⟨wd.heap.size, 0, none⟩ 1 1 [.int .i64 5, .int .i64 a, .int .i64 0] (by rfl) (by rfl) (World.news_of_block (cs := #[.int .i64 5, .int .i64 a, .int .i64 0]) (t := 54) (fr := (0, 0)) (by exact HN5.out)) (by simp [Value.oneCell']) (by omega) (by unfold maxLen; omega) (by omega) (Nat.zero_le _) (wd.heap.size + 1) (by simp) ?_
              intro g5 cap5 w5 hown5 hgrow5 hat5 hlt5
              have hP5 := HPr.out.app3 HD0.out hOl hown5 hgrow5 hat5
              have HP5 := hid hP5.1
              have HK5 := hid hP5.2
              clear hown5 hgrow5 hat5 hP5
              have hn0 : ¬ (Value.slice sa sn sc).ownBlock = some O := fun e => by have := HPM0.out _ e; omega
              have hn1 : ¬ (Value.slice sa sn sc).ownBlock = some b := fun e => by have := HPM0.out _ e; omega
              have hS : (fun wx : World => wx.cell? ⟨O, 1, none⟩ = some (.slice sa sn sc) ∧ wx.cell? ⟨b, off + k * 4, none⟩ = some (.int .i64 a)) w5 := ⟨HK5.out.cellOf hOc hn0, HK5.out.cellOf d0 hn1⟩
              refine hK.out _ _ (fun _ => hS) ?_
              clear hK Kc
              try simp only [Act.put, sA, s0, sS]
              refine tk 10 87 hS ?_
              have HB5 := hid (HOr.out.kept HK5.out (fun e => by have := HPM0.out _ e; omega))
              have HZ5 := hid (HZr.out.kept HK5.out (fun e => by have := HPM0.out _ e; omega))
              have fB5 := HB5.out.frozen
              obtain ⟨u0, u1⟩ := HB5.out.all2
              refine wpAnyV_one (i := 11) (by kernel_rfl) rfl (fun Kc hK => ?_)
              go_simp
              refine hK.out _ _ (fun h => absurd rfl h) ?_
              clear hK Kc
              refine wpAnyV_done (by kernel_rfl) ?_
              try simp only [Act.put, sA, s0, sS]
              have hk56 : Kept (fun b => b = O) w5 (w5.setCell ⟨O, 1, none⟩ (.slice (some ⟨g5, 0, none⟩) (sn + 1) cap5)) := Kept.setCell (R := fun b => b = O) (Kept.refl _ _) (p := ⟨O, 1, none⟩) (.inr rfl) _
              have HP6 := hid (HP5.out.put hk56 (by omega) (by omega))
              have HB6 := (show Hid (Blk (w5.setCell ⟨O, 1, none⟩ (.slice (some ⟨g5, 0, none⟩) (sn + 1) cap5)) O 28 [.int .i64 0, .slice (some ⟨g5, 0, none⟩) (sn + 1) cap5]) from HB5.out.stored 1 _)
              have HZ6 := hid (HZ5.out.kept hk56 (by omega))
              clear hk56 HB5 HZ5 HP5 u0 u1 fB5
              go_wp2_with fail
              go_roundw
              case rel => exact ⟨k + 1, la, ln, lc, some ⟨g5, 0, none⟩, sn + 1, cap5, by omega, rfl, by go_num, by rw [HREL.out.1, HREL.out.2]; exact HP6, HB6, HZ6⟩
              case measure => simp [intOf]; omega
            · have hs2' : (s == 2) = false := by simp [hs2]
              have hu0 : (u == 0) = true := by simp; exact hd.resolve_left hs2
              clear hd hs2
              go_wp2_with fail
              refine wp_region_V (fun wx : World => wx.cell? ⟨O, 1, none⟩ = some (.slice sa sn sc) ∧ wx.cell? ⟨b, off + k * 4, none⟩ = some (.int .i64 a)) 11 12 rfl (by kernel_rfl) ?_
              have hd0 : Same wr wr.drew := (Kept.refl _ _).drew
              generalize wr.drew = wd at *
              have HD0 := hid hd0
              have hSd : Same wr wd := hd0
              clear hd0
              have hS : (fun wx : World => wx.cell? ⟨O, 1, none⟩ = some (.slice sa sn sc) ∧ wx.cell? ⟨b, off + k * 4, none⟩ = some (.int .i64 a)) wd := ⟨hSd.cellOf hOc id, hSd.cellOf d0 id⟩
              refine tk 0 77 hS ?_
              refine tk 1 78 hS ?_
              refine tk 2 79 hS ?_
              refine tk 3 80 hS ?_
              refine tk 4 81 hS ?_
              refine tk 5 82 hS ?_
              refine tk 6 83 hS ?_
              refine tk 7 84 hS ?_
              refine wpAnyV_one (i := 8) (by kernel_rfl) rfl (fun Kc hK => ?_)
              go_simp
              have hS : (fun wx : World => wx.cell? ⟨O, 1, none⟩ = some (.slice sa sn sc) ∧ wx.cell? ⟨b, off + k * 4, none⟩ = some (.int .i64 a)) (wd.alloc (.cells #[.int .i64 5, .int .i64 a, .int .i64 0] 54)) := ⟨(hSd.alloc _).cellOf hOc id, (hSd.alloc _).cellOf d0 id⟩
              refine hK.out _ _ (fun _ => hS) ?_
              clear hK Kc
              try simp only [Act.put, sA, s0, sS]
              have HKO := (show Hid ((wd.alloc (.cells #[.int .i64 5, .int .i64 a, .int .i64 0] 54)).ownsRow 0 54 3 (.slice sa sn sc) sn (vals .i64 (flat3U (endsU (ts.take k))))) from HPr.out.own3.same (HD0.out.alloc _))
              have HN5 := hid (Blk.newL wd [.int .i64 5, .int .i64 a, .int .i64 0] 54)
              refine wpAnyV_one (i := 9) (by kernel_rfl) rfl (fun Kc hK => ?_)
              refine step_append_lies _ (by rfl) (.tmp 78) (.tmp 85) 26 (by rfl) 0 54 i3 _ 3 24 Try.underlying26 hi3 hz30 hz31 hz32 rfl (by omega) (.slice sa sn sc) sn (vals .i64 (flat3U (endsU (ts.take k)))) (by rfl) (by exact HKO.out) ⟨wd.heap.size, 0, none⟩ 1 1 [.int .i64 5, .int .i64 a, .int .i64 0] (by rfl) (by rfl) (World.news_of_block (cs := #[.int .i64 5, .int .i64 a, .int .i64 0]) (t := 54) (fr := (0, 0)) (by exact HN5.out)) (by simp [Value.oneCell']) (by omega) (by unfold maxLen; omega) (by omega) (Nat.zero_le _) (wd.heap.size + 1) (by simp) ?_
              intro g5 cap5 w5 hown5 hgrow5 hat5 hlt5
              have hP5 := HPr.out.app3 HD0.out hOl hown5 hgrow5 hat5
              have HP5 := hid hP5.1
              have HK5 := hid hP5.2
              clear hown5 hgrow5 hat5 hP5
              have hn0 : ¬ (Value.slice sa sn sc).ownBlock = some O := fun e => by have := HPM0.out _ e; omega
              have hn1 : ¬ (Value.slice sa sn sc).ownBlock = some b := fun e => by have := HPM0.out _ e; omega
              have hS : (fun wx : World => wx.cell? ⟨O, 1, none⟩ = some (.slice sa sn sc) ∧ wx.cell? ⟨b, off + k * 4, none⟩ = some (.int .i64 a)) w5 := ⟨HK5.out.cellOf hOc hn0, HK5.out.cellOf d0 hn1⟩
              refine hK.out _ _ (fun _ => hS) ?_
              clear hK Kc
              try simp only [Act.put, sA, s0, sS]
              refine tk 10 87 hS ?_
              have HB5 := hid (HOr.out.kept HK5.out (fun e => by have := HPM0.out _ e; omega))
              have HZ5 := hid (HZr.out.kept HK5.out (fun e => by have := HPM0.out _ e; omega))
              have fB5 := HB5.out.frozen
              obtain ⟨u0, u1⟩ := HB5.out.all2
              refine wpAnyV_one (i := 11) (by kernel_rfl) rfl (fun Kc hK => ?_)
              go_simp
              refine hK.out _ _ (fun h => absurd rfl h) ?_
              clear hK Kc
              refine wpAnyV_done (by kernel_rfl) ?_
              try simp only [Act.put, sA, s0, sS]
              have hk56 : Kept (fun b => b = O) w5 (w5.setCell ⟨O, 1, none⟩ (.slice (some ⟨g5, 0, none⟩) (sn + 1) cap5)) := Kept.setCell (R := fun b => b = O) (Kept.refl _ _) (p := ⟨O, 1, none⟩) (.inr rfl) _
              have HP6 := hid (HP5.out.put hk56 (by omega) (by omega))
              have HB6 := (show Hid (Blk (w5.setCell ⟨O, 1, none⟩ (.slice (some ⟨g5, 0, none⟩) (sn + 1) cap5)) O 28 [.int .i64 0, .slice (some ⟨g5, 0, none⟩) (sn + 1) cap5]) from HB5.out.stored 1 _)
              have HZ6 := hid (HZ5.out.kept hk56 (by omega))
              clear hk56 HB5 HZ5 HP5 u0 u1 fB5
              go_wp2_with fail
              go_roundw
              case rel => exact ⟨k + 1, la, ln, lc, some ⟨g5, 0, none⟩, sn + 1, cap5, by omega, rfl, by go_num, by rw [HREL.out.1, HREL.out.2]; exact HP6, HB6, HZ6⟩
              case measure => simp [intOf]; omega
          · have HDN : Hid (isDone (a, s, l, u) = false) := by unfold Hid isDone; simp only [Bool.or_eq_false_iff, decide_eq_false_iff_not]; exact ⟨fun h => hd (.inl h), fun h => hd (.inr h)⟩
            have hs2 : (s == 2) = false := by simp; exact fun h => hd (.inl h)
            have hu0 : (u == 0) = false := by simp; exact fun h => hd (.inr h)
            clear hd
            have HKO5 := (show Hid ((wr.alloc (.cells #[.int .i64 a, .int .i64 s, .int .i64 l, .int .i64 u] 52)).ownsRow 0 52 4 (.slice la ln lc) ln (vals .i64 (flat4 (leftU (ts.take k))))) from HPr.out.own4.same ((Kept.refl _ _).alloc _))
            have HN5 := hid (Blk.newL wr [.int .i64 a, .int .i64 s, .int .i64 l, .int .i64 u] 52)
            go_wp2_with (at_builtin; refine wpList_append_lies _ rfl (.tmp 88) (.tmp 93) 32 rfl 0 52 i4 _ 4 32 Try.underlying32 hi4 hz40 hz41 hz42 rfl (by omega) (.slice la ln lc) ln (vals .i64 (flat4 (leftU (ts.take k)))) rfl (by exact HKO5.out) ⟨wr.heap.size, 0, none⟩ 1 1 [.int .i64 a, .int .i64 s, .int .i64 l, .int .i64 u] rfl rfl (World.news_of_block (cs := #[.int .i64 a, .int .i64 s, .int .i64 l, .int .i64 u]) (t := 52) (fr := (0, 0)) (by exact HN5.out)) (by simp [Value.oneCell']) (by omega) (by unfold maxLen; omega) (by omega) (Nat.zero_le _) (wr.heap.size + 1) (by simp) ?_; intro g5 cap5 w5 hown5 hgrow5 hat5 hlt5; have hP5 := HPr.out.app4 (Kept.refl _ _) hOl hown5 hgrow5 hat5; have HP5 := hid hP5.1; have HK5 := hid hP5.2; clear hown5 hgrow5 hat5 hP5)
            go_roundw
            case rel =>
              have h4 := leftU_snoc (ts.take k) (a, s, l, u)
              have h3 := endsU_snoc (ts.take k) (a, s, l, u)
              rw [← HTK.out, if_neg (by rw [HDN.out]; exact Bool.false_ne_true)] at h4 h3
              exact ⟨k + 1, some ⟨g5, 0, none⟩, ln + 1, cap5, sa, sn, sc, by omega, rfl, by go_num, by rw [h4, h3]; exact HP5, hid (HOr.out.kept HK5.out (fun e => by have := HPr.out.f4 _ e; omega)), hid (HZr.out.kept HK5.out (fun e => by have := HPr.out.f4 _ e; omega))⟩
            case measure => simp [intOf]; omega
        · as_aux_lemma =>
          obtain rfl : n = k := by omega
          have htk : ts.take n = ts := by rw [← HL.out, List.take_length]
          rw [htk] at HPr
          clear htk
          have hOl := HOr.out.lt
          go_wp2_with fail
          go_loopw [7] (fun lv wx => ∃ (la : Option Addr) (ln lc : Nat) (sa : Option Addr) (sn sc : Nat) (left : List Q4) (st : List U3) (f : Nat), lv = .slice la ln lc ∧ sn + 2 * f ≤ 8 + 2 * F ∧ ln ≤ 8 ∧ Hid (mu FS left ≤ f) ∧ Hid (planM FS f left st = (C, S3)) ∧ Hid (PuM w wx O la ln lc left sa sn sc st) ∧ Hid (Blk wx O 28 [.int .i64 0, .slice sa sn sc]) ∧ Hid (Blk wx w.heap.size 28 [.int .i64 0, .slice none 0 0])) (fun lv wx => muOf FS wx lv)
          case atStart => exact ⟨la, ln, lc, sa, sn, sc, leftU ts, endsU ts, F, rfl, by omega, hln, HMU, HPM, HPr, HOr, HZr⟩
          case round =>
            as_aux_lemma =>
            clear HPr HOr HZr HMU HPM hln hsn hOl
            obtain ⟨la, ln, lc, sa, sn, sc, left, st, f, rfl, hsf, hln, HMU, HPM, HPr, HOr, HZr⟩ := hrel
            obtain ⟨w6, hw6⟩ : ∃ w6, w6 = wr := ⟨_, rfl⟩
            subst hw6
            have hOl := HOr.out.lt
            have HLN := hid HPr.out.len4
            by_cases h0 : 0 < ln
            · as_aux_lemma =>
              have hp0 : 0 < left.length := by rw [HLN.out]; exact h0
              obtain ⟨f, rfl⟩ : ∃ f', f = f' + 1 := ⟨f - 1, by have := mu_pos (fs := FS) hp0; have := HMU.out; omega⟩
              obtain ⟨g, rfl, hlc, hOg, hgl, _⟩ := HPr.out.cells 0 hp0
              have h0' : (0 : Int) < (ln : Int) := by omega
              go_wp2_with fail
              go_loopw [9, 10] (fun kv iv wx => ∃ i K : Nat, 1 ≤ i ∧ i ≤ ln ∧ K < ln ∧ iv = .int .i64 i ∧ kv = .int .i64 K ∧ Hid (gJ left i = K) ∧ Hid (Same w6 wx)) (fun _ iv _ => ln - (intOf iv).toNat)
              case atStart => exact ⟨1, 0, by omega, by omega, h0, rfl, rfl, by simp [Hid, gJ], Kept.refl _ _⟩
              case round =>
                as_aux_lemma =>
                obtain ⟨i, K, hi1, hi, hK, rfl, rfl, HGJ, HS1⟩ := hrel
                by_cases hlt : i < ln
                · obtain ⟨⟨a1, s1, l1, u1⟩, hq1⟩ : ∃ q, left.getD i q4z = q := ⟨_, rfl⟩
                  obtain ⟨⟨a2, s2, l2, u2⟩, hq2⟩ : ∃ q, left.getD K q4z = q := ⟨_, rfl⟩
                  obtain ⟨x0, x1, x2, x3⟩ := (HPr.out.same HS1.out).at4 i (by rw [HLN.out]; omega) _ _ _ _ hq1
                  obtain ⟨y0, y1, y2, y3⟩ := (HPr.out.same HS1.out).at4 K (by rw [HLN.out]; omega) _ _ _ _ hq2
                  have HST := (show Hid (gJ left (i + 1) = if u2 < u1 then i else K) from by unfold Hid gJ; rw [HGJ.out, hq1, hq2])
                  clear hq1 hq2
                  by_cases hu : u2 < u1
                  · have hu' : (decide (u2 < u1)) = true := decide_eq_true hu
                    go_wp2
                    go_quiet (fail)
                    go_wp2
                    go_roundw
                    case rel => exact ⟨i + 1, i, by omega, by omega, by omega, by go_num, rfl, by have h := HST.out; rw [if_pos hu] at h; exact h, hid (HS1.out.drewN _)⟩
                    case measure => simp [intOf]; omega
                  · have hu' : (decide (u2 < u1)) = false := decide_eq_false hu
                    go_wp2
                    go_quiet (fail)
                    go_wp2
                    go_roundw
                    case rel => exact ⟨i + 1, K, by omega, by omega, by omega, by go_num, rfl, by have h := HST.out; rw [if_neg (by omega)] at h; exact h, hid (HS1.out.drewN _)⟩
                    case measure => simp [intOf]; omega
                · as_aux_lemma =>
                  obtain rfl : ln = i := by omega
                  have HGM : Hid (gmx left = K) := by unfold Hid gmx; rw [HLN.out]; exact HGJ.out
                  clear HGJ
                  have HPs := hid (HPr.out.same HS1.out)
                  have HOs := hid (HOr.out.same HS1.out)
                  have HZs := hid (HZr.out.same HS1.out)
                  have HMW := hid (HPr.out.muOf FS)
                  clear HPr HOr HZr
                  have hOl := HOs.out.lt
                  obtain ⟨w7, hw7⟩ : ∃ w7, w7 = wr := ⟨_, rfl⟩
                  subst hw7
                  have hKl : K < left.length := by rw [HLN.out]; exact hK
                  obtain ⟨⟨a, s, l, u⟩, hq⟩ : ∃ q, left.getD K q4z = q := ⟨_, rfl⟩
                  have HQ := hid hq
                  have HCB := (show Hid (stepU FS (a, s, l, u) = none → C = 1 ∧ S3 = []) from fun h => by
                    have hp := HPM.out
                    rw [planM_step hp0, HGM.out, hq, h] at hp
                    injection hp with h1 h2
                    exact ⟨h1.symm, h2.symm⟩)
                  have HCG := (show Hid (∀ ss nx, stepU FS (a, s, l, u) = some (ss, nx) → (if nx = 0 then planM FS f (left.eraseIdx K) (st ++ ss ++ [(5, a, 0)]) else planM FS f (left.set K (a, s, l, nx)) (st ++ ss)) = (C, S3)) from fun ss nx h => by
                    have hp := HPM.out
                    rw [planM_step hp0, HGM.out, hq, h] at hp
                    exact hp)
                  clear hq HPM
                  go_wp2_with fail
                  go_loopw [11, 12] (fun av iv wx => ∃ (i : Nat) (A : Int), i ≤ L ∧ iv = .int .i64 i ∧ av = .int .i64 A ∧ Hid ((A = -1 ∧ ∀ j (h : j < ps.length), j < i → (f5 ps[j]).1 ≠ u) ∨ ∃ (j : Nat) (h : j < ps.length), A = j ∧ (f5 ps[j]).1 = u) ∧ Hid (Same w7 wx)) (fun _ iv _ => L - (intOf iv).toNat)
                  case atStart => exact ⟨0, -1, Nat.zero_le _, rfl, rfl, .inl ⟨rfl, fun j h hj => by omega⟩, Kept.refl _ _⟩
                  case round =>
                    as_aux_lemma =>
                    obtain ⟨i, A, hi, rfl, rfl, HA, HS2⟩ := hrel
                    by_cases hlt : i < L
                    · as_aux_lemma =>
                      obtain ⟨b, off, ha, hc⟩ := RdFr.cs HLL.out HV.out (by omega)
                      subst ha
                      have hip : i < ps.length := by rw [HLL.out]; exact hlt
                      have cl := (hc.same (HPs.out.keep.trans HS2.out)).lsn i hip
                      obtain ⟨x0, x1, x2, x3⟩ := (HPs.out.same HS2.out).at4 K hKl _ _ _ _ HQ.out
                      obtain ⟨X, hX⟩ : ∃ X, (f5 ps[i]).1 = X := ⟨_, rfl⟩
                      rw [hX] at cl
                      have HX5 := hid hX
                      clear hX hc
                      by_cases hu : X = u
                      · have hu' : (X == u) = true := by simp [hu]
                        have HUU := hid hu
                        clear hu
                        go_wp2
                        go_quiet (fail)
                        go_wp2
                        go_roundw
                        case rel => exact ⟨i + 1, (i : Int), by omega, by go_num, rfl, .inr ⟨i, hip, rfl, HX5.out.trans HUU.out⟩, hid (HS2.out.drewN _)⟩
                        case measure => simp [intOf]; omega
                      · have hu' : (X == u) = false := by simp [hu]
                        have HUU := hid hu
                        clear hu
                        go_wp2
                        go_quiet (fail)
                        go_wp2
                        go_roundw
                        case rel =>
                          refine ⟨i + 1, A, by omega, by go_num, rfl, ?_, hid (HS2.out.drewN _)⟩
                          rcases HA.out with ⟨h1, h2⟩ | h
                          · refine .inl ⟨h1, fun j h hj => ?_⟩
                            by_cases hji : j < i
                            · exact h2 j h hji
                            · obtain rfl : j = i := by omega
                              rw [HX5.out]; exact HUU.out
                          · exact .inr h
                        case measure => simp [intOf]; omega
                    · as_aux_lemma =>
                      obtain rfl : L = i := by omega
                      have HPt := hid (HPs.out.same HS2.out)
                      have HOt := hid (HOs.out.same HS2.out)
                      have HZt := hid (HZs.out.same HS2.out)
                      have hOl2 := HOt.out.lt
                      have HMW2 := HMW
                      clear HPs HOs HZs HS2 HS1 HMW
                      obtain ⟨w8, hw8⟩ : ∃ w8, w8 = wr := ⟨_, rfl⟩
                      subst hw8
                      rcases HA.out with ⟨hA1, hA2⟩ | ⟨j, hjp, hA1, hA2⟩
                      · as_aux_lemma =>
                        have HNO := (show Hid (C = 1 ∧ S3 = []) from HCB.out (by
                          unfold stepU
                          rw [findF_none (fun i hi => by
                            have hi2 : i < ps.length := by rw [← fs5_length ps, HFS.out]; exact hi
                            have h := hA2 i hi2 (by rw [HLL.out] at hi2; exact hi2)
                            have e := fs5_at ps i hi2
                            simp only [HFS.out] at e
                            rw [e]; exact h)]))
                        subst hA1
                        clear HA hA2
                        obtain ⟨r0, r1⟩ := HZt.out.all2
                        have fr := HZt.out.frozen
                        have lr := HZt.out.lt
                        go_wp2
                        refine bodyPost_ret (v := .agg #[.int .i64 1, .slice none 0 0]) (by simp [results, Try.results6, go_sem, r0, r1]) rfl ⟨⟨1, ⟨54, none, 0, 0, []⟩⟩, rfl, ?_, ?_, ?_, ?_⟩
                        · rw [HRC.out, HNO.out.1, HNO.out.2]; rfl
                        · intro b hb
                          have h := (FootL_one _ _).1 hb
                          simp [FR.v, Value.ownBlock] at h
                        · exact (OwQ.nil 3 _ _).rows
                        · first
                          | ((iterate 2 refine Kept.setCell ?_ (.inl (Nat.le_refl _)) _); exact HPt.out.keep)
                          | (refine Kept.drew ?_; (iterate 2 refine Kept.setCell ?_ (.inl (Nat.le_refl _)) _); exact HPt.out.keep)
                      · as_aux_lemma =>
                        subst hA1
                        clear HA
                        have hjL : j < L := by rw [← HLL.out]; exact hjp
                        obtain ⟨b, off, ha, hc⟩ := RdFr.cs HLL.out HV.out (by omega)
                        subst ha
                        have hcw := hc.same HPt.out.keep
                        have HRG := hid (hcw.rec j hjp)
                        have cl := hcw.lsn j hjp
                        have hbw : b < w.heap.size := block_lt_of_cell (hc.lsn j hjp)
                        rw [hA2] at cl
                        have HFD : Hid (findF FS u = some (f5 ps[j])) := by
                          unfold Hid
                          have hjf : j < FS.length := by rw [HF5.out]; exact hjL
                          have e := fs5_at ps j hjp
                          simp only [HFS.out] at e
                          have h := findF_at HBB.out hjf
                          rw [e, hA2] at h
                          exact h
                        obtain ⟨⟨X0, kd, tx, pv, un⟩, hf5⟩ : ∃ q, f5 ps[j] = q := ⟨_, rfl⟩
                        rw [hf5] at HFD
                        obtain ⟨cs, hcs⟩ : ∃ cs, recCells ps[j].record = cs := ⟨_, rfl⟩
                        have HCL : Hid (cs.length = 14) := by unfold Hid; rw [← hcs]; rfl
                        have HONE : Hid (cs.toArray.all (·.oneCell') = true) := by unfold Hid; rw [← hcs]; exact recCells_one _
                        have HC5 : Hid (cs[0]? = some (.int .i64 kd) ∧ cs[1]? = some (.int .i64 tx) ∧ cs[2]? = some (.int .i64 pv) ∧ cs[9]? = some (.int .i64 un)) := by
                          unfold Hid
                          simp only [f5, Prod.mk.injEq] at hf5
                          obtain ⟨_, h1, h2, h3, h4⟩ := hf5
                          rw [← hcs, ← h1, ← h2, ← h3, ← h4]
                          exact ⟨rfl, rfl, rfl, rfl⟩
                        have HI : Hid ((Try.prog.info? 58).map (·.size) = some cs.length) := by unfold Hid; rw [HCL.out]; kernel_rfl
                        rw [hcs] at HRG
                        clear hcs hf5 hA2 hcw hc
                        go_upto_region 32 with (first | (refine wpList_load_mid rfl 58 _ rfl b (off + j * 16 + 2) rfl cs _ HRG.out Try.underlying58 rfl HI.out ?_) | (refine wpList_store_mid rfl 58 _ _ rfl w8.heap.size 0 cs.toArray rfl rfl ((Blk.new w8 _ _).there 0 _ (by rw [List.size_toArray, HCL.out]; decide)) (by rw [List.size_toArray, HCL.out]; kernel_rfl) HONE.out ?_; rw [List.toList_toArray]))
                        generalize hW : World.setCells _ w8.heap.size 0 cs = w9
                        have hbx : Blk w9 w8.heap.size 58 cs ∧ Same w8 w9 := by rw [← hW]; exact box_newL w8 _ cs _ (by rw [HCL.out]; rfl)
                        obtain ⟨hb9, hk9⟩ := hbx
                        clear hW
                        have HP9 := hid (HPt.out.same hk9)
                        have HO9 := hid (HOt.out.same hk9)
                        have HZ9 := hid (HZt.out.same hk9)
                        have hOl9 := HO9.out.lt
                        have hOR : O < w8.heap.size := hOl2
                        have HSR := (show Hid (∀ b, (Value.slice sa sn sc).ownBlock = some b → b < w8.heap.size) from HPt.out.own3.lt)
                        have hRl := hb9.lt
                        have cl9 := hk9.cellOf cl id
                        obtain ⟨RB, hRB⟩ : ∃ RB, w8.heap.size = RB := ⟨_, rfl⟩
                        rw [hRB] at hb9 hOR hRl HSR ⊢
                        have HBR := hid hb9
                        have r0 : w9.cell? ⟨RB, 0, none⟩ = some (.int .i64 kd) := by rw [hb9.cell]; exact HC5.out.1
                        have r1 : w9.cell? ⟨RB, 1, none⟩ = some (.int .i64 tx) := by rw [hb9.cell]; exact HC5.out.2.1
                        have r2 : w9.cell? ⟨RB, 2, none⟩ = some (.int .i64 pv) := by rw [hb9.cell]; exact HC5.out.2.2.1
                        have r9 : w9.cell? ⟨RB, 9, none⟩ = some (.int .i64 un) := by rw [hb9.cell]; exact HC5.out.2.2.2
                        have HSU : Hid (stepU FS (a, s, l, u) = if (kd = 1 ∨ kd = 2) ∧ tx = a then (if backTo (X0, kd, tx, pv, un) < u then some (backSt (X0, kd, tx, pv, un) (a, s, l, u), backTo (X0, kd, tx, pv, un)) else none) else none) := by unfold Hid stepU; simp only [HFD.out]
                        obtain ⟨x0, x1, x2, x3⟩ := HP9.out.at4 K hKl _ _ _ _ HQ.out
                        clear hRB hb9 hk9 HRG HI HONE HCL HC5 HPt HOt HZt hOl2 cl
                        by_cases hT : tx = a
                        · by_cases hKK : kd = 1 ∨ kd = 2
                          · have hT' : (tx != a) = false := by simp [hT]
                            try simp only [Act.put]
                            go_cut [159] (fun v wx => v = .bool false ∧ Hid (Same w9 wx))
                            case first =>
                              as_aux_lemma =>
                              by_cases hk1 : kd = 1
                              · have hk1' : (kd != 1) = false := by simp [hk1]
                                clear hKK hk1 hT
                                go_wp2_with fail
                                refine wp_region_V (fun wx : World => wx.cell? ⟨RB, 1, none⟩ = some (.int .i64 tx) ∧ wx.cell? ⟨g, K * 4, none⟩ = some (.int .i64 a) ∧ wx.cell? ⟨RB, 0, none⟩ = some (.int .i64 kd)) 99 18 rfl (by kernel_rfl) ?_
                                have hS : (fun wx : World => wx.cell? ⟨RB, 1, none⟩ = some (.int .i64 tx) ∧ wx.cell? ⟨g, K * 4, none⟩ = some (.int .i64 a) ∧ wx.cell? ⟨RB, 0, none⟩ = some (.int .i64 kd)) w9.drew := ⟨r1, x0, r0⟩
                                refine tk 0 142 hS ?_
                                refine tk 1 143 hS ?_
                                refine tk 2 144 hS ?_
                                refine tk 3 145 hS ?_
                                refine tk 4 146 hS ?_
                                refine tk 5 147 hS ?_
                                refine tk 6 148 hS ?_
                                refine tkV 7 149 (.bool false) hS ?_
                                refine tk 8 150 hS ?_
                                refine tk 9 151 hS ?_
                                refine tk 10 152 hS ?_
                                refine tkV 11 153 (.bool false) hS ?_
                                refine tk 12 154 hS ?_
                                refine tkS 13 155 hS ?_
                                refine tkS 14 156 hS ?_
                                refine tkS 15 157 hS ?_
                                refine tk 16 158 hS ?_
                                refine tk 17 159 hS ?_
                                refine wpAnyV_done (by kernel_rfl) ?_
                                go_wp2_with fail
                                go_meet
                                case rel => exact ⟨rfl, hid ((Kept.refl _ _).drew)⟩
                              · have hk1' : (kd != 1) = true := by simp [hk1]
                                have hk2' : (kd != 2) = false := by simp; exact hKK.resolve_left hk1
                                clear hKK hk1 hT
                                go_wp2_with fail
                                refine wp_region_V (fun wx : World => wx.cell? ⟨RB, 1, none⟩ = some (.int .i64 tx) ∧ wx.cell? ⟨g, K * 4, none⟩ = some (.int .i64 a) ∧ wx.cell? ⟨RB, 0, none⟩ = some (.int .i64 kd)) 99 18 rfl (by kernel_rfl) ?_
                                have hS : (fun wx : World => wx.cell? ⟨RB, 1, none⟩ = some (.int .i64 tx) ∧ wx.cell? ⟨g, K * 4, none⟩ = some (.int .i64 a) ∧ wx.cell? ⟨RB, 0, none⟩ = some (.int .i64 kd)) w9.drew := ⟨r1, x0, r0⟩
                                refine tk 0 142 hS ?_
                                refine tk 1 143 hS ?_
                                refine tk 2 144 hS ?_
                                refine tk 3 145 hS ?_
                                refine tk 4 146 hS ?_
                                refine tk 5 147 hS ?_
                                refine tk 6 148 hS ?_
                                refine tkV 7 149 (.bool false) hS ?_
                                refine tk 8 150 hS ?_
                                refine tk 9 151 hS ?_
                                refine tk 10 152 hS ?_
                                refine tkV 11 153 (.bool true) hS ?_
                                refine tk 12 154 hS ?_
                                refine tk 13 155 hS ?_
                                refine tk 14 156 hS ?_
                                refine tkV 15 157 (.bool false) hS ?_
                                refine tk 16 158 hS ?_
                                refine tk 17 159 hS ?_
                                refine wpAnyV_done (by kernel_rfl) ?_
                                go_wp2_with fail
                                go_meet
                                case rel => exact ⟨rfl, hid ((Kept.refl _ _).drew)⟩
                            case rest =>
                              as_aux_lemma =>
                              obtain ⟨rfl, HS3⟩ := hcut
                              obtain ⟨w10, hw10⟩ : ∃ w10, w10 = wc := ⟨_, rfl⟩
                              subst hw10
                              have HPa := hid (HP9.out.same HS3.out)
                              have HOa := hid (HO9.out.same HS3.out)
                              have HZa := hid (HZ9.out.same HS3.out)
                              have r0 := HS3.out.cellOf r0 id
                              have r1 := HS3.out.cellOf r1 id
                              have r2 := HS3.out.cellOf r2 id
                              have r9 := HS3.out.cellOf r9 id
                              have cl9 := HS3.out.cellOf cl9 id
                              have hOl10 := HOa.out.lt
                              have hOc := HOa.out.c1
                              have HPM0 := (show Hid (∀ b, (Value.slice sa sn sc).ownBlock = some b → O < b) from HPa.out.f3)
                              clear HP9 HO9 HZ9 HS3 hOl9 x0 x1 x2 x3
                              go_upto_if 165 with fail
                              go_cut [14] (fun nv wx => ∃ (sa' : Option Addr) (sn' sc' : Nat), nv = .int .i64 (backTo (X0, kd, tx, pv, un)) ∧ sn' ≤ sn + 1 ∧ Hid (PuM w wx O (some ⟨g, 0, none⟩) ln lc left sa' sn' sc' (st ++ backSt (X0, kd, tx, pv, un) (a, s, l, u))) ∧ Hid (Blk wx O 28 [.int .i64 0, .slice sa' sn' sc']) ∧ Hid (Blk wx w.heap.size 28 [.int .i64 0, .slice none 0 0]))
                              case first =>
                                as_aux_lemma =>
                                by_cases hk1 : kd = 1
                                · have hk1' : (kd == 1) = true := by simp [hk1]
                                  have HBS : Hid (backTo (X0, kd, tx, pv, un) = pv ∧ backSt (X0, kd, tx, pv, un) (a, s, l, u) = [(2, tx, u)]) := by unfold Hid backTo backSt; simp [hk1, hT]
                                  clear hKK hk1 hT
                                  go_wp2_with fail
                                  refine wp_region_V (fun wx : World => wx.cell? ⟨O, 1, none⟩ = some (.slice sa sn sc) ∧ wx.cell? ⟨RB, 1, none⟩ = some (.int .i64 tx) ∧ wx.cell? ⟨b, off + j * 16, none⟩ = some (.int .i64 u)) 13 14 rfl (by kernel_rfl) ?_
                                  have hd0 : Same w10 w10.drew := (Kept.refl _ _).drew
                                  generalize w10.drew = wd at *
                                  have HD0 := hid hd0
                                  have hSd : Same w10 wd := hd0
                                  clear hd0
                                  have hS : (fun wx : World => wx.cell? ⟨O, 1, none⟩ = some (.slice sa sn sc) ∧ wx.cell? ⟨RB, 1, none⟩ = some (.int .i64 tx) ∧ wx.cell? ⟨b, off + j * 16, none⟩ = some (.int .i64 u)) wd := ⟨hSd.cellOf hOc id, hSd.cellOf r1 id, hSd.cellOf cl9 id⟩
                                  refine tk 0 168 hS ?_
                                  refine tk 1 169 hS ?_
                                  refine tk 2 170 hS ?_
                                  refine tk 3 171 hS ?_
                                  refine tk 4 172 hS ?_
                                  refine tk 5 173 hS ?_
                                  refine tk 6 174 hS ?_
                                  refine tk 7 175 hS ?_
                                  refine tk 8 176 hS ?_
                                  refine tk 9 177 hS ?_
                                  refine wpAnyV_one (i := 10) (by kernel_rfl) rfl (fun Kc hK => ?_)
                                  go_simp
                                  have hS : (fun wx : World => wx.cell? ⟨O, 1, none⟩ = some (.slice sa sn sc) ∧ wx.cell? ⟨RB, 1, none⟩ = some (.int .i64 tx) ∧ wx.cell? ⟨b, off + j * 16, none⟩ = some (.int .i64 u)) (wd.alloc (.cells #[.int .i64 2, .int .i64 tx, .int .i64 u] 54)) := ⟨(hSd.alloc _).cellOf hOc id, (hSd.alloc _).cellOf r1 id, (hSd.alloc _).cellOf cl9 id⟩
                                  refine hK.out _ _ (fun _ => hS) ?_
                                  clear hK Kc
                                  try simp only [Act.put, sA, s0, sS]
                                  have HKO := (show Hid ((wd.alloc (.cells #[.int .i64 2, .int .i64 tx, .int .i64 u] 54)).ownsRow 0 54 3 (.slice sa sn sc) sn (vals .i64 (flat3U st))) from HPa.out.own3.same (HD0.out.alloc _))
                                  have HN5 := hid (Blk.newL wd [.int .i64 2, .int .i64 tx, .int .i64 u] 54)
                                  refine wpAnyV_one (i := 11) (by kernel_rfl) rfl (fun Kc hK => ?_)
                                  refine step_append_lies _ (by rfl) (.tmp 169) (.tmp 178) 26 (by rfl) 0 54 i3 _ 3 24 Try.underlying26 hi3 hz30 hz31 hz32 rfl (by omega) (.slice sa sn sc) sn (vals .i64 (flat3U st)) (by rfl) (by exact HKO.out) ⟨wd.heap.size, 0, none⟩ 1 1 [.int .i64 2, .int .i64 tx, .int .i64 u] (by rfl) (by rfl) (World.news_of_block (cs := #[.int .i64 2, .int .i64 tx, .int .i64 u]) (t := 54) (fr := (0, 0)) (by exact HN5.out)) (by simp [Value.oneCell']) (by omega) (by unfold maxLen; omega) (by omega) (Nat.zero_le _) (wd.heap.size + 1) (by simp) ?_
                                  intro g5 cap5 w5 hown5 hgrow5 hat5 hlt5
                                  have hP5 := HPa.out.app3 HD0.out hOl10 hown5 hgrow5 hat5
                                  have HP5 := hid hP5.1
                                  have HK5 := hid hP5.2
                                  clear hown5 hgrow5 hat5 hP5
                                  have hn0 : ¬ (Value.slice sa sn sc).ownBlock = some O := fun e => by have := HPM0.out _ e; omega
                                  have hn1 : ¬ (Value.slice sa sn sc).ownBlock = some RB := fun e => by have := HSR.out _ e; omega
                                  have hn2 : ¬ (Value.slice sa sn sc).ownBlock = some b := fun e => by have := HPM0.out _ e; omega
                                  have hS : (fun wx : World => wx.cell? ⟨O, 1, none⟩ = some (.slice sa sn sc) ∧ wx.cell? ⟨RB, 1, none⟩ = some (.int .i64 tx) ∧ wx.cell? ⟨b, off + j * 16, none⟩ = some (.int .i64 u)) w5 := ⟨HK5.out.cellOf hOc hn0, HK5.out.cellOf r1 hn1, HK5.out.cellOf cl9 hn2⟩
                                  refine hK.out _ _ (fun _ => hS) ?_
                                  clear hK Kc
                                  try simp only [Act.put, sA, s0, sS]
                                  refine tk 12 180 hS ?_
                                  have HB5 := hid (HOa.out.kept HK5.out (fun e => by have := HPM0.out _ e; omega))
                                  have HZ5 := hid (HZa.out.kept HK5.out (fun e => by have := HPM0.out _ e; omega))
                                  have fB5 := HB5.out.frozen
                                  obtain ⟨u0, u1⟩ := HB5.out.all2
                                  refine wpAnyV_one (i := 13) (by kernel_rfl) rfl (fun Kc hK => ?_)
                                  go_simp
                                  refine hK.out _ _ (fun h => absurd rfl h) ?_
                                  clear hK Kc
                                  refine wpAnyV_done (by kernel_rfl) ?_
                                  try simp only [Act.put, sA, s0, sS]
                                  have hk56 : Kept (fun b => b = O) w5 (w5.setCell ⟨O, 1, none⟩ (.slice (some ⟨g5, 0, none⟩) (sn + 1) cap5)) := Kept.setCell (R := fun b => b = O) (Kept.refl _ _) (p := ⟨O, 1, none⟩) (.inr rfl) _
                                  have HP6 := hid (HP5.out.put hk56 (by omega) (by omega))
                                  have HB6 := (show Hid (Blk (w5.setCell ⟨O, 1, none⟩ (.slice (some ⟨g5, 0, none⟩) (sn + 1) cap5)) O 28 [.int .i64 0, .slice (some ⟨g5, 0, none⟩) (sn + 1) cap5]) from HB5.out.stored 1 _)
                                  have HZ6 := hid (HZ5.out.kept hk56 (by omega))
                                  clear hk56 HB5 HZ5 HP5 u0 u1 fB5
                                  go_wp2_with fail
                                  go_meet
                                  case rel => exact ⟨some ⟨g5, 0, none⟩, sn + 1, cap5, by rw [HBS.out.1], Nat.le_refl _, by rw [HBS.out.2]; exact HP6, HB6, HZ6⟩
                                · have hk1' : (kd == 1) = false := by simp [hk1]
                                  have HBS : Hid (backTo (X0, kd, tx, pv, un) = un ∧ backSt (X0, kd, tx, pv, un) (a, s, l, u) = []) := by unfold Hid backTo backSt; simp [hk1]
                                  clear hKK hk1 hT
                                  go_wp2_with fail
                                  go_meet
                                  case rel => exact ⟨sa, sn, sc, by rw [HBS.out.1], Nat.le_succ _, by rw [HBS.out.2, List.append_nil]; exact HPa, HOa, HZa⟩
                              case rest =>
                                as_aux_lemma =>
                                clear HPa HOa HZa r0 r1 r2 r9 cl9 hOl10 hOc HPM0
                                obtain ⟨sa1, sn1, sc1, hnv, hsn1, HPb, HOb, HZb⟩ := hcut
                                subst hnv
                                obtain ⟨w11, hw11⟩ : ∃ w11, w11 = wc := ⟨_, rfl⟩
                                subst hw11
                                rw [if_pos ⟨hKK, hT⟩] at HSU
                                obtain ⟨NX, hNX⟩ : ∃ NX, backTo (X0, kd, tx, pv, un) = NX := ⟨_, rfl⟩
                                obtain ⟨ST, hST⟩ : ∃ ST, st ++ backSt (X0, kd, tx, pv, un) (a, s, l, u) = ST := ⟨_, rfl⟩
                                rw [hST] at HPb
                                rw [hNX] at HSU ⊢
                                have HSTe := hid hST
                                clear hNX hST hKK hT
                                obtain ⟨x0, x1, x2, x3⟩ := HPb.out.at4 K hKl _ _ _ _ HQ.out
                                have hOl11 := HOb.out.lt
                                have hgf : ∀ j, w11.frozen? ⟨g, j, none⟩ = false := by
                                  obtain ⟨g', e, _, _, _, _, _, _, _, hf⟩ := HPb.out.cells K hKl
                                  injection e with e
                                  injection e with e
                                  subst e
                                  exact hf
                                by_cases hN : NX < u
                                · as_aux_lemma =>
                                  rw [if_pos hN] at HSU
                                  have HGO := hid (HCG.out _ _ HSU.out)
                                  have HE12 : Hid (updU (left.getD K q4z) NX = (a, s, l, NX)) := by unfold Hid; rw [HQ.out]; rfl
                                  have HMUL : Hid (mu FS (updU (left.getD K q4z) NX :: left.eraseIdx K) < mu FS left ∧ mu FS (left.eraseIdx K) < mu FS left) := by
                                    have h1 := mu_upd (fs := FS) hp0 (ss := backSt (X0, kd, tx, pv, un) (a, s, l, u)) (nx := NX) (by rw [HGM.out, HQ.out]; exact HSU.out)
                                    have h2 := mu_erase (fs := FS) hp0
                                    rw [HGM.out] at h1 h2
                                    exact ⟨h1, h2⟩
                                  have HPc := (show Hid (PuM w (w11.setCell ⟨g, K * 4 + 3, none⟩ (.int .i64 NX)) O (some ⟨g, 0, none⟩) ln lc (left.set K (a, s, l, NX)) sa1 sn1 sc1 ST) from by have h := HPb.out.set4 K hKl NX; rw [HE12.out] at h; exact h)
                                  have hk12 : Kept (fun b => b = g) w11 (w11.setCell ⟨g, K * 4 + 3, none⟩ (.int .i64 NX)) := Kept.setCell (R := fun b => b = g) (Kept.refl _ _) (p := ⟨g, K * 4 + 3, none⟩) (.inr rfl) _
                                  have HOc := hid (HOb.out.kept hk12 (by omega))
                                  have HZc := hid (HZb.out.kept hk12 (by omega))
                                  clear hk12 HPb HOb HZb
                                  go_upto_region 41 with fail
                                  generalize w11.setCell ⟨g, K * 4 + 3, none⟩ (.int .i64 NX) = w12 at *
                                  clear x0 x1 x2 x3 hgf hOl11
                                  have hOl12 := HOc.out.lt
                                  by_cases hz : NX = 0
                                  · as_aux_lemma =>
                                    have hz' : (NX == 0) = true := by simp [hz]
                                    rw [if_pos hz, HSTe.out] at HGO
                                    clear hz
                                    have hK2 : K < (left.set K (a, s, l, NX)).length := by simpa using hKl
                                    obtain ⟨x0, x1, x2, x3⟩ := HPc.out.at4 K hK2 a s l NX (by rw [List.getD_eq_getElem?_getD, List.getElem?_set_self hKl]; rfl)
                                    have hOc := HOc.out.c1
                                    have HPM0 := (show Hid (∀ b, (Value.slice sa1 sn1 sc1).ownBlock = some b → O < b) from HPc.out.f3)
                                    go_wp2_with fail
                                    refine wp_region_V (fun wx : World => wx.cell? ⟨O, 1, none⟩ = some (.slice sa1 sn1 sc1) ∧ wx.cell? ⟨g, K * 4, none⟩ = some (.int .i64 a)) 11 12 rfl (by kernel_rfl) ?_
                                    have hd0 : Same w12 w12.drew := (Kept.refl _ _).drew
                                    generalize w12.drew = wd at *
                                    have HD0 := hid hd0
                                    have hSd : Same w12 wd := hd0
                                    clear hd0
                                    have hS : (fun wx : World => wx.cell? ⟨O, 1, none⟩ = some (.slice sa1 sn1 sc1) ∧ wx.cell? ⟨g, K * 4, none⟩ = some (.int .i64 a)) wd := ⟨hSd.cellOf hOc id, hSd.cellOf x0 id⟩
                                    refine tk 0 196 hS ?_
                                    refine tk 1 197 hS ?_
                                    refine tk 2 198 hS ?_
                                    refine tk 3 199 hS ?_
                                    refine tk 4 200 hS ?_
                                    refine tk 5 201 hS ?_
                                    refine tk 6 202 hS ?_
                                    refine tk 7 203 hS ?_
                                    refine wpAnyV_one (i := 8) (by kernel_rfl) rfl (fun Kc hK => ?_)
                                    go_simp
                                    have hS : (fun wx : World => wx.cell? ⟨O, 1, none⟩ = some (.slice sa1 sn1 sc1) ∧ wx.cell? ⟨g, K * 4, none⟩ = some (.int .i64 a)) (wd.alloc (.cells #[.int .i64 5, .int .i64 a, .int .i64 0] 54)) := ⟨(hSd.alloc _).cellOf hOc id, (hSd.alloc _).cellOf x0 id⟩
                                    refine hK.out _ _ (fun _ => hS) ?_
                                    clear hK Kc
                                    try simp only [Act.put, sA, s0, sS]
                                    have HKO := (show Hid ((wd.alloc (.cells #[.int .i64 5, .int .i64 a, .int .i64 0] 54)).ownsRow 0 54 3 (.slice sa1 sn1 sc1) sn1 (vals .i64 (flat3U ST))) from HPc.out.own3.same (HD0.out.alloc _))
                                    have HN5 := hid (Blk.newL wd [.int .i64 5, .int .i64 a, .int .i64 0] 54)
                                    refine wpAnyV_one (i := 9) (by kernel_rfl) rfl (fun Kc hK => ?_)
                                    refine step_append_lies _ (by rfl) (.tmp 197) (.tmp 204) 26 (by rfl) 0 54 i3 _ 3 24 Try.underlying26 hi3 hz30 hz31 hz32 rfl (by omega) (.slice sa1 sn1 sc1) sn1 (vals .i64 (flat3U ST)) (by rfl) (by exact HKO.out) ⟨wd.heap.size, 0, none⟩ 1 1 [.int .i64 5, .int .i64 a, .int .i64 0] (by rfl) (by rfl) (World.news_of_block (cs := #[.int .i64 5, .int .i64 a, .int .i64 0]) (t := 54) (fr := (0, 0)) (by exact HN5.out)) (by simp [Value.oneCell']) (by omega) (by unfold maxLen; omega) (by omega) (Nat.zero_le _) (wd.heap.size + 1) (by simp) ?_
                                    intro g5 cap5 w5 hown5 hgrow5 hat5 hlt5
                                    have hP5 := HPc.out.app3 HD0.out hOl12 hown5 hgrow5 hat5
                                    have HP5 := hid hP5.1
                                    have HK5 := hid hP5.2
                                    clear hown5 hgrow5 hat5 hP5
                                    have hn0 : ¬ (Value.slice sa1 sn1 sc1).ownBlock = some O := fun e => by have := HPM0.out _ e; omega
                                    have hn1 : ¬ (Value.slice sa1 sn1 sc1).ownBlock = some g := fun e => HPc.out.ap _ (ownBlk _ _ _) e
                                    have hS : (fun wx : World => wx.cell? ⟨O, 1, none⟩ = some (.slice sa1 sn1 sc1) ∧ wx.cell? ⟨g, K * 4, none⟩ = some (.int .i64 a)) w5 := ⟨HK5.out.cellOf hOc hn0, HK5.out.cellOf x0 hn1⟩
                                    refine hK.out _ _ (fun _ => hS) ?_
                                    clear hK Kc
                                    try simp only [Act.put, sA, s0, sS]
                                    refine tk 10 206 hS ?_
                                    have HB5 := hid (HOc.out.kept HK5.out (fun e => by have := HPM0.out _ e; omega))
                                    have HZ5 := hid (HZc.out.kept HK5.out (fun e => by have := HPM0.out _ e; omega))
                                    have fB5 := HB5.out.frozen
                                    obtain ⟨u0, u1⟩ := HB5.out.all2
                                    refine wpAnyV_one (i := 11) (by kernel_rfl) rfl (fun Kc hK => ?_)
                                    go_simp
                                    refine hK.out _ _ (fun h => absurd rfl h) ?_
                                    clear hK Kc
                                    refine wpAnyV_done (by kernel_rfl) ?_
                                    try simp only [Act.put, sA, s0, sS]
                                    have hk56 : Kept (fun b => b = O) w5 (w5.setCell ⟨O, 1, none⟩ (.slice (some ⟨g5, 0, none⟩) (sn1 + 1) cap5)) := Kept.setCell (R := fun b => b = O) (Kept.refl _ _) (p := ⟨O, 1, none⟩) (.inr rfl) _
                                    have HP6 := hid (HP5.out.put hk56 (by omega) (by omega))
                                    have HB6 := (show Hid (Blk (w5.setCell ⟨O, 1, none⟩ (.slice (some ⟨g5, 0, none⟩) (sn1 + 1) cap5)) O 28 [.int .i64 0, .slice (some ⟨g5, 0, none⟩) (sn1 + 1) cap5]) from HB5.out.stored 1 _)
                                    have HZ6 := hid (HZ5.out.kept hk56 (by omega))
                                    clear hk56 HB5 HZ5 HP5 u0 u1 fB5
                                    generalize w5.setCell ⟨O, 1, none⟩ (.slice (some ⟨g5, 0, none⟩) (sn1 + 1) cap5) = w13 at *
                                    clear hS HK5 x0 x1 x2 x3 hOc HPM0 hSd HD0 HKO HN5 hn0 hn1 HPc HOc HZc
                                    have hOl13 := HB6.out.lt
                                    go_wp2_with fail
                                    refine wp_region_V (fun _ : World => True) 99 11 rfl (by kernel_rfl) ?_
                                    have hd0 : Same w13 w13.drew := (Kept.refl _ _).drew
                                    generalize w13.drew = wd at *
                                    have HP7 := hid (HP6.out.same hd0)
                                    have HB7 := hid (HB6.out.same hd0)
                                    have HZ7 := hid (HZ6.out.same hd0)
                                    have HD7 := hid hd0
                                    clear hd0 HP6 HB6 HZ6
                                    have hS : (fun _ : World => True) wd := trivial
                                    have HOF := (show Hid (OwnF 4 52 wd g ln lc (flat4 (left.set K (a, s, l, NX)))) from HP7.out.own4)
                                    have hKc : (K : Int) ≤ (lc : Int) := by omega
                                    have hK1 : (K : Int) + 1 ≤ (ln : Int) := by omega
                                    have hK1c : (K : Int) + 1 ≤ (lc : Int) := by omega
                                    have hK1z : 0 ≤ (K : Int) + 1 := by omega
                                    have hK1t : ((K : Int) + 1).toNat = K + 1 := by omega
                                    have hK1w : IntKind.i64.wrap ((K : Int) + 1) = (K : Int) + 1 := by rw [IntKind.wrap_i64]; omega
                                    obtain ⟨a7, ha7⟩ : ∃ a7 : Option Addr, (if lc = K + 1 then some (⟨g, 0, none⟩ : Addr) else some ⟨g, (K + 1) * 4, none⟩) = a7 := ⟨_, rfl⟩
                                    refine tk 1 208 hS ?_
                                    refine tk 2 209 hS ?_
                                    refine tkV 3 210 (.slice (some ⟨g, 0, none⟩) K lc) hS ?_
                                    refine tk 5 212 hS ?_
                                    refine tk 6 213 hS ?_
                                    refine tkV 7 214 (.int .i64 ((K : Int) + 1)) hS ?_
                                    refine tkV 8 215 (.slice a7 (ln - (K + 1)) (lc - (K + 1))) hS ?_
                                    obtain ⟨ad7, had7, hadc⟩ : ∃ ad7 : Addr, a7 = some ad7 ∧ (0 < ln - (K + 1) → ad7 = ⟨g, (K + 1) * 4, none⟩) := by
                                      rw [← ha7]
                                      by_cases h : lc = K + 1
                                      · exact ⟨_, if_pos h, fun h2 => by omega⟩
                                      · exact ⟨_, if_neg h, fun _ => rfl⟩
                                    subst had7
                                    clear ha7
                                    have HL2 : Hid ((left.set K (a, s, l, NX)).length = ln) := by unfold Hid; rw [List.length_set, HLN.out]
                                    have HCELL := (show Hid (∀ j, j < ln * 4 → wd.cell? ⟨g, j, none⟩ = some (.int .i64 ((flat4 (left.set K (a, s, l, NX))).getD j 0))) from fun j hj => HOF.out.cell j hj)
                                    have hgl2 : g < wd.heap.size := HP7.out.own4.lt g (ownBlk _ _ _)
                                    refine wpAnyV_one (i := 0) (by kernel_rfl) rfl (fun Kc hK => ?_)
                                    go_simp
                                    refine hK.out _ _ (fun _ => trivial) ?_
                                    clear hK Kc
                                    try simp only [Act.put, sA, s0, sS]
                                    have HKA := (show Hid (Same wd (wd.alloc (.cells #[] 52))) from (Kept.refl _ _).alloc _)
                                    obtain ⟨a8, c8, w14, hr8, ho8, hg8⟩ := appB (ty := 32) (madeB 52 wd wd.heap.size (Nat.le_refl _)) (by rw [World.size_alloc]; omega) Try.underlying32 hi4 hz40 hz41 hz42 rfl ⟨g, 0, none⟩ K lc (flat4 ((left.set K (a, s, l, NX)).take K)) (by rw [flat4_length, List.length_take, HL2.out]; omega) (fun j hj => by
                                      rw [addr_add, Nat.zero_add, ← flat4_take, getD_take hj]
                                      exact HKA.out.cellOf (HCELL.out j (by omega)) id) (by omega)
                                    rw [Nat.zero_add] at hr8 ho8
                                    have HKB := (show Hid (Same wd w14) from HKA.out.next (Kept.of_grown hg8 (fun k e => e)) (fun b hb e => by rw [ownBlk] at e; have := Option.some.inj e; omega))
                                    refine wpAnyV_one (i := 4) (by kernel_rfl) rfl (fun Kc hK => ?_)
                                    refine step_append_runQ (by rfl) (.tmp 207) (.tmp 210) 32 32 (by rfl) _ _ (by rfl) (by rfl) _ _ hr8 ?_
                                    refine hK.out _ _ (fun _ => trivial) ?_
                                    clear hK Kc
                                    try simp only [List.getElem_toArray, List.getElem_cons_succ, List.getElem_cons_zero]
                                    try simp only [Act.put, sA, s0, sS]
                                    obtain ⟨a9, c9, w15, hr9, ho9, hg9⟩ := appB (ty := 32) ho8 (HKB.out.size) Try.underlying32 hi4 hz40 hz41 hz42 rfl ad7 (ln - (K + 1)) (lc - (K + 1)) (flat4 ((left.set K (a, s, l, NX)).drop (K + 1))) (by rw [flat4_length, List.length_drop, HL2.out]) (fun j hj => by
                                      rw [hadc (by omega), addr_add, ← flat4_drop, getD_drop]
                                      exact HKB.out.cellOf (HCELL.out _ (by omega)) id) (by omega)
                                    obtain ⟨NL, hNL⟩ : ∃ NL, K + (ln - (K + 1)) = NL := ⟨_, rfl⟩
                                    rw [hNL] at hr9 ho9
                                    have hNLb : NL ≤ 8 := by omega
                                    clear hNL
                                    have HKC := (show Hid (Same wd w15) from HKB.out.next (Kept.of_grown hg9 (fun k e => e)) (fun b hb e => by have := ownB_le ho8 b e; omega))
                                    refine wpAnyV_one (i := 9) (by kernel_rfl) rfl (fun Kc hK => ?_)
                                    refine step_append_runQ (by rfl) (.tmp 211) (.tmp 215) 32 32 (by rfl) _ _ (by rfl) (by rfl) _ _ hr9 ?_
                                    refine hK.out _ _ (fun _ => trivial) ?_
                                    clear hK Kc
                                    try simp only [List.getElem_toArray, List.getElem_cons_succ, List.getElem_cons_zero]
                                    try simp only [Act.put, sA, s0, sS]
                                    have HO9 := hid (erase_own ho9)
                                    have HN9 := (show Hid (∀ b, (Value.slice a9 (NL) c9).ownBlock = some b → wd.heap.size ≤ b) from ownB_le ho9)
                                    have hOd : O < wd.heap.size := Nat.lt_of_lt_of_le hOl13 HD7.out.size
                                    have HPe := hid (HP7.out.erased HKC.out HO9.out HN9.out hOd)
                                    have HBe := hid (HB7.out.same HKC.out)
                                    have HZe := hid (HZ7.out.same HKC.out)
                                    clear hr8 ho8 hg8 hr9 ho9 hg9 HKA HKB HKC HO9 HN9 HP7 HB7 HZ7 HCELL HOF hadc hK1t hK1w hK1 hK1c hK1z hz' hKc hN h0' hgl2 hK2
                                    have hS : (fun _ : World => True) w15 := trivial
                                    refine tk 10 7 hS ?_
                                    refine wpAnyV_done (by kernel_rfl) ?_
                                    go_wp2_with fail
                                    go_roundw
                                    case rel =>
                                      refine ⟨a9, NL, c9, some ⟨g5, 0, none⟩, sn1 + 1, cap5, left.eraseIdx K, ST ++ [(5, a, 0)], f, rfl, by omega, hNLb, ?_, HGO, HPe, HBe, HZe⟩
                                      unfold Hid
                                      have := HMUL.out.2
                                      have := HMU.out
                                      omega
                                    case measure =>
                                      rw [HPe.out.muOf FS, HMW2.out]
                                      exact HMUL.out.2
                                  · as_aux_lemma =>
                                    have hz' : (NX == 0) = false := by simp [hz]
                                    rw [if_neg hz, HSTe.out] at HGO
                                    clear hz
                                    go_wp2_with fail
                                    go_roundw
                                    case rel =>
                                      refine ⟨some ⟨g, 0, none⟩, ln, lc, sa1, sn1, sc1, left.set K (a, s, l, NX), ST, f, rfl, by omega, hln, ?_, HGO, HPc, HOc, HZc⟩
                                      unfold Hid
                                      rw [mu_perm FS (set_perm hKl _), ← HE12.out]
                                      have := HMUL.out.1
                                      have := HMU.out
                                      omega
                                    case measure =>
                                      rw [HPc.out.muOf FS, HMW2.out, mu_perm FS (set_perm hKl _), ← HE12.out]
                                      exact HMUL.out.1
                                · as_aux_lemma =>
                                  have HNO := (show Hid (C = 1 ∧ S3 = []) from HCB.out (by rw [HSU.out, if_neg hN]))
                                  have hN' : u ≤ NX := by omega
                                  clear hN
                                  obtain ⟨r0, r1⟩ := HZb.out.all2
                                  have fr := HZb.out.frozen
                                  have lr := HZb.out.lt
                                  go_wp2
                                  refine bodyPost_ret (v := .agg #[.int .i64 1, .slice none 0 0]) (by simp [results, Try.results6, go_sem, r0, r1]) rfl ⟨⟨1, ⟨54, none, 0, 0, []⟩⟩, rfl, ?_, ?_, ?_, ?_⟩
                                  · rw [HRC.out, HNO.out.1, HNO.out.2]; rfl
                                  · intro b hb
                                    have h := (FootL_one _ _).1 hb
                                    simp [FR.v, Value.ownBlock] at h
                                  · exact (OwQ.nil 3 _ _).rows
                                  · first
                                    | ((iterate 2 refine Kept.setCell ?_ (.inl (Nat.le_refl _)) _); exact HPb.out.keep)
                                    | (refine Kept.drew ?_; (iterate 2 refine Kept.setCell ?_ (.inl (Nat.le_refl _)) _); exact HPb.out.keep)
                          · as_aux_lemma =>
                            have HNO := (show Hid (C = 1 ∧ S3 = []) from HCB.out (by rw [HSU.out, if_neg (fun h => hKK h.1)]))
                            have hT' : (tx != a) = false := by simp [hT]
                            have hk1' : (kd != 1) = true := by simp; exact fun h => hKK (.inl h)
                            have hk2' : (kd != 2) = true := by simp; exact fun h => hKK (.inr h)
                            clear hKK hT
                            go_wp2_with fail
                            refine wp_region_V (fun wx : World => wx.cell? ⟨RB, 1, none⟩ = some (.int .i64 tx) ∧ wx.cell? ⟨g, K * 4, none⟩ = some (.int .i64 a) ∧ wx.cell? ⟨RB, 0, none⟩ = some (.int .i64 kd)) 99 18 rfl (by kernel_rfl) ?_
                            have hS : (fun wx : World => wx.cell? ⟨RB, 1, none⟩ = some (.int .i64 tx) ∧ wx.cell? ⟨g, K * 4, none⟩ = some (.int .i64 a) ∧ wx.cell? ⟨RB, 0, none⟩ = some (.int .i64 kd)) w9.drew := ⟨r1, x0, r0⟩
                            refine tk 0 142 hS ?_
                            refine tk 1 143 hS ?_
                            refine tk 2 144 hS ?_
                            refine tk 3 145 hS ?_
                            refine tk 4 146 hS ?_
                            refine tk 5 147 hS ?_
                            refine tk 6 148 hS ?_
                            refine tkV 7 149 (.bool false) hS ?_
                            refine tk 8 150 hS ?_
                            refine tk 9 151 hS ?_
                            refine tk 10 152 hS ?_
                            refine tkV 11 153 (.bool true) hS ?_
                            refine tk 12 154 hS ?_
                            refine tk 13 155 hS ?_
                            refine tk 14 156 hS ?_
                            refine tkV 15 157 (.bool true) hS ?_
                            refine tk 16 158 hS ?_
                            refine tk 17 159 hS ?_
                            refine wpAnyV_done (by kernel_rfl) ?_
                            obtain ⟨r0, r1⟩ := HZ9.out.all2
                            have fr := HZ9.out.frozen
                            have lr := HZ9.out.lt
                            go_wp2
                            refine bodyPost_ret (v := .agg #[.int .i64 1, .slice none 0 0]) (by simp [results, Try.results6, go_sem, r0, r1]) rfl ⟨⟨1, ⟨54, none, 0, 0, []⟩⟩, rfl, ?_, ?_, ?_, ?_⟩
                            · rw [HRC.out, HNO.out.1, HNO.out.2]; rfl
                            · intro b hb
                              have h := (FootL_one _ _).1 hb
                              simp [FR.v, Value.ownBlock] at h
                            · exact (OwQ.nil 3 _ _).rows
                            · first
                              | ((iterate 2 refine Kept.setCell ?_ (.inl (Nat.le_refl _)) _); exact HP9.out.keep.drew)
                              | (refine Kept.drew ?_; (iterate 2 refine Kept.setCell ?_ (.inl (Nat.le_refl _)) _); exact HP9.out.keep)
                        · as_aux_lemma =>
                          have HNO := (show Hid (C = 1 ∧ S3 = []) from HCB.out (by rw [HSU.out, if_neg (fun h => hT h.2)]))
                          have hT' : (tx != a) = true := by simp [hT]
                          clear hT
                          go_wp2_with fail
                          refine wp_region_V (fun wx : World => wx.cell? ⟨RB, 1, none⟩ = some (.int .i64 tx) ∧ wx.cell? ⟨g, K * 4, none⟩ = some (.int .i64 a) ∧ wx.cell? ⟨RB, 0, none⟩ = some (.int .i64 kd)) 99 18 rfl (by kernel_rfl) ?_
                          have hS : (fun wx : World => wx.cell? ⟨RB, 1, none⟩ = some (.int .i64 tx) ∧ wx.cell? ⟨g, K * 4, none⟩ = some (.int .i64 a) ∧ wx.cell? ⟨RB, 0, none⟩ = some (.int .i64 kd)) w9.drew := ⟨r1, x0, r0⟩
                          refine tk 0 142 hS ?_
                          refine tk 1 143 hS ?_
                          refine tk 2 144 hS ?_
                          refine tk 3 145 hS ?_
                          refine tk 4 146 hS ?_
                          refine tk 5 147 hS ?_
                          refine tk 6 148 hS ?_
                          refine tkV 7 149 (.bool true) hS ?_
                          refine tk 8 150 hS ?_
                          refine tkS 9 151 hS ?_
                          refine tkS 10 152 hS ?_
                          refine tkS 11 153 hS ?_
                          refine tkS 12 154 hS ?_
                          refine tkS 13 155 hS ?_
                          refine tkS 14 156 hS ?_
                          refine tkS 15 157 hS ?_
                          refine tkS 16 158 hS ?_
                          refine tk 17 159 hS ?_
                          refine wpAnyV_done (by kernel_rfl) ?_
                          obtain ⟨r0, r1⟩ := HZ9.out.all2
                          have fr := HZ9.out.frozen
                          have lr := HZ9.out.lt
                          go_wp2
                          refine bodyPost_ret (v := .agg #[.int .i64 1, .slice none 0 0]) (by simp [results, Try.results6, go_sem, r0, r1]) rfl ⟨⟨1, ⟨54, none, 0, 0, []⟩⟩, rfl, ?_, ?_, ?_, ?_⟩
                          · rw [HRC.out, HNO.out.1, HNO.out.2]; rfl
                          · intro b hb
                            have h := (FootL_one _ _).1 hb
                            simp [FR.v, Value.ownBlock] at h
                          · exact (OwQ.nil 3 _ _).rows
                          · first
                            | ((iterate 2 refine Kept.setCell ?_ (.inl (Nat.le_refl _)) _); exact HP9.out.keep.drew)
                            | (refine Kept.drew ?_; (iterate 2 refine Kept.setCell ?_ (.inl (Nat.le_refl _)) _); exact HP9.out.keep)
            · obtain rfl : ln = 0 := by omega
              have hln0 : left = [] := List.length_eq_zero_iff.1 HLN.out
              subst hln0
              have HCS : Hid (C = 0 ∧ S3 = st) := by
                have h := HPM.out
                have h2 : planM FS f [] st = (0, st) := by cases f <;> rfl
                rw [h2] at h
                injection h with h3 h4
                exact ⟨h3.symm, h4.symm⟩
              obtain ⟨q0, q1⟩ := HOr.out.all2
              obtain ⟨r0, r1⟩ := HZr.out.all2
              have fr := HZr.out.frozen
              have lr := HZr.out.lt
              go_wp2
              refine bodyPost_ret (v := .agg #[.int .i64 0, .slice sa sn sc]) (by simp [results, Try.results6, go_sem, r0, r1]) rfl ⟨⟨0, ⟨54, sa, sn, sc, flat3U st⟩⟩, rfl, ?_, ?_, ?_, ?_⟩
              · rw [HRC.out, HCS.out.1, HCS.out.2]; rfl
              · intro b hb
                have h := HPr.out.f3 b ((FootL_one _ _).1 hb)
                omega
              · refine (OwQ.rows (HPr.out.own3.kept (R := fun b => b = w.heap.size) ?_ (fun b hb e => by have := HPr.out.f3 b hb; omega)))
                (iterate 2 refine Kept.setCell (R := fun b => b = w.heap.size) ?_ (.inr rfl) _)
                exact Kept.refl _ _
              · (iterate 2 refine Kept.setCell ?_ (.inl (Nat.le_refl _)) _)
                exact HPr.out.keep
end Go.Proofs.Ythbocacnfhpidaa
