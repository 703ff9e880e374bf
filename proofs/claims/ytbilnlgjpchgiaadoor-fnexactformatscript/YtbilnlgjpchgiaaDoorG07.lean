import Derived.Test.YtbilnlgjpchgiaaDoorG05
import Derived.Test.YtbilnlgjpchgiaaDoorG06
import Derived.Test.YtbilnlgjpchgiaaDoorG01
import Derived.Test.YtbilnlgjpchgiaaDoorProg
import Derived.Deep.DeepCutAuto
import Derived.Shelf.Strconv.Itoa4
import Derived.Shelf.Strings.OnBuilder
import Derived.Shelf.Strings.BuilderK
import Derived.Shelf.Strings.Fields
import Derived.Shelf.Strings.SplitShaped
import Derived.Ground.NamesProg
namespace Go.Proofs.YtbilnlgjpchgiaaDoor
set_option maxRecDepth 100000
set_option maxHeartbeats 8000000
set_option linter.unusedVariables false
set_option linter.unusedSimpArgs false
open Go.RowKit Go.Shelf
abbrev IsG (p f l : Int) : Prop := (-9223372036854775808 ≤ p ∧ p ≤ 9223372036854775807) ∧ (-9223372036854775808 ≤ f ∧ f ≤ 9223372036854775807) ∧ (-9223372036854775808 ≤ l ∧ l ≤ 9223372036854775807)
theorem totS_app (a b : List StDat) : totS (a ++ b) = totS a + totS b := by simp [totS]
theorem totS_one (d : StDat) : totS [d] = d.2.2.2.2.1.length := by simp [totS]
theorem totS_size : ∀ ps : List StStep, totS (datSp ps) ≤ sizeSp ps
  | [] => by simp [totS, datSp, sizeSp]
  | p :: ps => by
    have h := totS_size ps
    have e : datSp (p :: ps) = [p.dat] ++ datSp ps := rfl
    rw [e, totS_app, totS_one]
    have h2 : sizeSp (p :: ps) = p.szs + sizeSp ps := rfl
    rw [h2]
    unfold StStep.szs
    simp only [StStep.dat]
    omega
theorem totS_nn : ∀ ds : List StDat, 0 ≤ totS ds
  | [] => by simp [totS]
  | d :: ds => by
    have h := totS_nn ds
    have e : d :: ds = [d] ++ ds := rfl
    rw [e, totS_app, totS_one]
    omega
theorem datSp_take (ps : List StStep) (k : Nat) (h : k < ps.length) : datSp (ps.take (k + 1)) = datSp (ps.take k) ++ [ps[k].dat] := by
  unfold datSp
  rw [List.take_succ_eq_append_getElem h, List.map_append]
  rfl
theorem wd_len (d : StDat) (h1 : d.2.2.2.2.1.length ≤ 1048576) (h2 : d.2.2.2.2.2.length ≤ 1048576) (ht : -9223372036854775808 ≤ d.2.1 ∧ d.2.1 ≤ 9223372036854775807) (hi : -9223372036854775808 ≤ d.2.2.1 ∧ d.2.2.1 ≤ 9223372036854775807) (hc : -9223372036854775808 ≤ d.2.2.2.1 ∧ d.2.2.2.1 ≤ 9223372036854775807) : (lnS d).length ≤ 3000000 := by
  have a1 := itoa_len _ ht.1 ht.2
  have a2 := itoa_len _ hi.1 hi.2
  have a3 := itoa_len _ hc.1 hc.2
  have a4 : (hxW d.2.2.2.2.1).length ≤ 2097152 := by unfold hxW u8s; rw [List.length_map]; exact hx_len _ h1
  have a5 := kp_len _ h2
  have a6 : ∀ k, (nmW k).length ≤ 10 := fun k => by unfold nmW; repeat' split
                                                    all_goals simp
  have n1 := a6 d.1
  have n2 := a6 2
  have n3 := a6 3
  have n4 := a6 10
  have n5 := a6 11
  unfold lnS wdS
  rw [List.length_append]
  simp only [List.length_cons, List.length_nil]
  split
  · rw [join3]; simp only [List.length_append, List.length_cons]; omega
  split
  · rw [join4]; simp only [List.length_append, List.length_cons]; omega
  split
  · rw [join3]; simp only [List.length_append, List.length_cons]; omega
  split
  · rw [join2]; simp only [List.length_append, List.length_cons]; omega
  split
  · rw [join2]; simp only [List.length_append, List.length_cons]; omega
  split
  · rw [join2]; simp only [List.length_append, List.length_cons]; omega
  · simp only [Lib.join, List.intercalate, List.intersperse, List.flatten_cons, List.flatten_nil, List.append_nil]; omega
theorem noTxt_geo {p f l : Int} {ds : List StDat} (h : geoF p f l ≠ 0) : scT p f l ds = [] := by
  unfold scT noTxt
  rw [if_pos (by simp [h])]
theorem noTxt_len {p f l : Int} {ds : List StDat} (h : 400 < ds.length) : scT p f l ds = [] := by
  unfold scT noTxt
  rw [if_pos (by simp [h])]
theorem noTxt_bad {p f l : Int} {ds : List StDat} {d : StDat} (h : d ∈ ds) (hb : badS d = true) : scT p f l ds = [] := by
  unfold scT noTxt
  rw [if_pos (by simp only [Bool.or_eq_true]; exact .inr (List.any_eq_true.2 ⟨d, h, hb⟩))]
theorem noTxt_tot {p f l : Int} {ds : List StDat} (h : 100000 < totS ds) : scT p f l ds = [] := by
  unfold scT noTxt
  rw [if_pos (by simp [h])]
theorem scT_some {p f l : Int} {ds : List StDat} (h1 : geoF p f l = 0) (h2 : ¬ 400 < ds.length) (h3 : ds.any badS = false) (h4 : ¬ 100000 < totS ds) : scT p f l ds = gLn p f l ++ ds.flatMap lnS := by
  unfold scT noTxt
  rw [if_neg (by rw [h1, h3]; simp; omega)]
theorem specScript_any (p f l : Int) (v : Value) (ps : List StStep) (w : World) (hg : IsG p f l) (hp : RdSp w v ps) (hok : ∀ x ∈ ps, x.ok) (hn : (ps.length : Int) + sizeSp ps ≤ 1048576) :
    Calls Tryd.prog 6 #[.agg #[.int .i64 p, .int .i64 f, .int .i64 l], v] w fun e w' => e = .returned (.string (Tx (scT p f l (datSp ps)))) ∧ Same w w' := by
  obtain ⟨a, c, rfl⟩ := hp.form
  have HC := (show Hid (∀ k, (h : k < ps.length) → ∃ b off, a = some ⟨b, off, none⟩ ∧ ∀ i, i < 6 → w.cell? ⟨b, off + (k * 6 + i), none⟩ = (kSp.cells ps[k])[i]?) from fun k h => by
    rcases hp.row.row with ⟨e, a, c, e2⟩ | ⟨b, off, c, e2, hc⟩
    · rw [e] at h; simp at h
    · injection e2 with e2
      exact ⟨b, off, e2, fun i hi => hc k i h hi⟩)
  have hnn := sizeSp_nonneg ps
  have HP := hid hp
  have HOK := (show Hid (∀ x ∈ ps, x.ok) from hok)
  have HSZ := (show Hid (∀ x ∈ ps, x.szs ≤ 1048576) from fun x hx => by have := sizeSp_mem ps x hx; omega)
  have HTT := (show Hid (∀ k, 0 ≤ totS (datSp (ps.take k)) ∧ totS (datSp (ps.take k)) ≤ 1048576) from fun k => by
    have h1 := totS_size (ps.take k)
    have h2 := sizeSp_append (ps.take k) (ps.drop k)
    rw [List.take_append_drop] at h2
    have h3 := sizeSp_nonneg (ps.drop k)
    have h4 := totS_nn (datSp (ps.take k))
    omega)
  have b0 := Blk.newL w [.int .i64 p, .int .i64 f, .int .i64 l] 27
  have HK0 := hid (sameA w [.int .i64 p, .int .i64 f, .int .i64 l] 27)
  have g0 := b0.cell 0; have g1 := b0.cell 1; have g2 := b0.cell 2
  dsimp only [List.getElem?_cons_zero, List.getElem?_cons_succ] at g0 g1 g2
  have k0 := fun wx => specGeo_any p f l wx
  have HB0 := hid b0
  have HGB := hid hg
  clear b0 hok hp hg
  by_cases hge : geoF p f l = 0
  case neg =>
    have HE := hid (noTxt_geo (ds := datSp ps) hge)
    have hge' : (geoF p f l != 0) = true := by simpa using hge
    obtain ⟨R, hR⟩ : ∃ R, geoF p f l = R := ⟨_, rfl⟩
    rw [hR] at hge' k0
    clear hge hR
    go_enter Tryd.func6, Tryd.ntmps6
    go_wp2_with (first | (go_at_call 17; (with_reducible refine (k0 _).mono ?_); rintro e w1 ⟨rfl, hk1⟩; have HK1 := hid (HK0.out.trans hk1); clear hk1 k0))
    go_ret
    exact ⟨by rw [HE.out]; rfl, HK1.out⟩
  case pos =>
  have HG := hid hge
  rw [hge] at k0
  clear hge
  generalize hl : ps.length = len at hn HP ⊢
  have HL := hid hl
  clear hl
  by_cases h4 : 400 < len
  · have HE := hid (noTxt_len (p := p) (f := f) (l := l) (ds := datSp ps) (by rw [datSp_length, HL.out]; exact h4))
    have h4' : (400 : Int) < (len : Int) := by omega
    go_enter Tryd.func6, Tryd.ntmps6
    go_wp2_with (first | (go_at_call 17; (with_reducible refine (k0 _).mono ?_); rintro e w1 ⟨rfl, hk1⟩; have HK1 := hid (HK0.out.trans hk1); clear hk1 k0))
    go_ret
    exact ⟨by rw [HE.out]; rfl, HK1.out⟩
  have h4' : ¬ (400 : Int) < (len : Int) := by omega
  go_enter Tryd.func6, Tryd.ntmps6
  go_wp2_with (first | (go_at_call 17; (with_reducible refine (k0 _).mono ?_); rintro e w1 ⟨rfl, hk1⟩; have HK1 := hid (HK0.out.trans hk1); have HB1 := hid (HB0.out.same hk1); clear hk1 k0 g0 g1 g2))
  go_loopw [5, 6] (fun u i wr => ∃ (k : Nat), k ≤ len ∧ i = .int .i64 (k : Int) ∧ u = .int .i64 (totS (datSp (ps.take k))) ∧ Hid ((datSp (ps.take k)).any badS = false) ∧ Hid (Same w wr) ∧ Hid (Blk wr w.heap.size 27 [.int .i64 p, .int .i64 f, .int .i64 l])) (fun _ i _ => len - (intOf i).toNat)
  case atStart => exact ⟨0, Nat.zero_le _, rfl, by simp [datSp, totS], by simp [Hid, datSp], HK1, HB1⟩
  case round =>
    obtain ⟨k, hk, rfl, rfl, HA, HK, HB⟩ := hrel
    by_cases hlt : k < len
    · have hlp : k < ps.length := by rw [HL.out]; exact hlt
      have hki : (k : Int) < (len : Int) := by omega
      obtain ⟨b, off, rfl, hc⟩ := HC.out k hlp
      have hrd := (HP.out.data _ (List.getElem_mem hlp)).same HK.out
      have hsz := HSZ.out _ (List.getElem_mem hlp)
      have HDT := hid (datSp_take ps k hlp)
      have HMM := (show Hid (ps[k].dat ∈ datSp ps) from List.mem_map.2 ⟨ps[k], List.getElem_mem hlp, rfl⟩)
      have ht1 := (HTT.out k).1
      have ht2 := (HTT.out k).2
      have ht3 := (HTT.out (k + 1)).2
      have HT4 := (show Hid (totS (datSp (ps.take (k + 1))) = totS (datSp (ps.take k)) + (ps[k].data.bs.length : Int)) from by unfold Hid; rw [datSp_take ps k hlp, totS_app, totS_one]; rfl)
      rw [HT4.out] at ht3
      obtain ⟨P, hP⟩ : ∃ P, ps[k] = P := ⟨_, rfl⟩
      rw [hP] at hc hrd hsz HDT HMM ht3 HT4
      have c0 : wr.cell? ⟨b, off + k * 6, none⟩ = some (.int .i64 P.kd) := HK.out.cellOf (p := ⟨b, off + k * 6, none⟩) (hc 0 (by decide)) id
      have c1 : wr.cell? ⟨b, off + k * 6 + 1, none⟩ = some (.int .i64 P.tx) := HK.out.cellOf (p := ⟨b, off + k * 6 + 1, none⟩) (by have h := hc 1 (by decide); rw [← Nat.add_assoc] at h; exact h) id
      have c2 : wr.cell? ⟨b, off + k * 6 + 2, none⟩ = some (.int .i64 P.rid) := HK.out.cellOf (p := ⟨b, off + k * 6 + 2, none⟩) (by have h := hc 2 (by decide); rw [← Nat.add_assoc] at h; exact h) id
      have c3 : wr.cell? ⟨b, off + k * 6 + 3, none⟩ = some (.int .i64 P.cnt) := HK.out.cellOf (p := ⟨b, off + k * 6 + 3, none⟩) (by have h := hc 3 (by decide); rw [← Nat.add_assoc] at h; exact h) id
      have c4 : wr.cell? ⟨b, off + k * 6 + 4, none⟩ = some (.slice P.data.a P.data.bs.length P.data.c) := HK.out.cellOf (p := ⟨b, off + k * 6 + 4, none⟩) (by have h := hc 4 (by decide); rw [← Nat.add_assoc] at h; exact h) id
      have c5 : wr.cell? ⟨b, off + k * 6 + 5, none⟩ = some (.slice P.keep.a P.keep.n P.keep.c) := HK.out.cellOf (p := ⟨b, off + k * 6 + 5, none⟩) (by have h := hc 5 (by decide); rw [← Nat.add_assoc] at h; exact h) id
      have HD4 := (show Hid (wr.cell? ⟨b, off + k * 6 + 4, none⟩ = some (.slice P.data.a P.data.bs.length P.data.c) ∧ wr.cell? ⟨b, off + k * 6 + 5, none⟩ = some (.slice P.keep.a P.keep.n P.keep.c)) from ⟨c4, c5⟩)
      have kf : Calls Tryd.prog 18 #[.agg #[.int .i64 P.kd, .int .i64 P.tx, .int .i64 P.rid, .int .i64 P.cnt, (.slice P.data.a P.data.bs.length P.data.c), (.slice P.keep.a P.keep.n P.keep.c)]] wr fun e w' => e = .returned (.int .i64 (stepFd P.dat)) ∧ Same wr w' := specStepD_any P wr trivial (by omega) hrd
      have HKB := (show Hid (P.keep.n ≤ 1048576) from by unfold StStep.szs at hsz; unfold Hid; omega)
      have HRD := hid hrd
      clear hrd hc hP hsz
      obtain ⟨F, hF⟩ : ∃ F, stepFd P.dat = F := ⟨_, rfl⟩
      have HF := hid hF
      rw [hF] at kf
      clear hF
      by_cases hF0 : F = 0
      case neg =>
        have hF0' : (F != 0) = true := by simpa using hF0
        have HE := hid (noTxt_bad (p := p) (f := f) (l := l) HMM.out (by unfold badS; rw [HF.out, hF0']; rfl))
        clear hF0
        go_wp2_with (first | (go_at_call 18; (with_reducible refine kf.mono ?_); rintro e w2 ⟨rfl, hk2⟩; have HK2 := hid (HK.out.trans hk2); clear hk2 kf))
        go_ret
        exact ⟨by rw [HE.out]; rfl, HK2.out⟩
      case pos =>
      subst hF0
      go_wp2_with (first | (go_at_call 18; (with_reducible refine kf.mono ?_); rintro e w2 ⟨rfl, hk2⟩; have HK2 := hid (HK.out.trans hk2); have HB2 := hid (HB.out.same hk2); have HR2 := hid (HRD.out.same hk2); have d4 := hk2.cellOf HD4.out.1 id; have d5 := hk2.cellOf HD4.out.2 id; clear hk2 kf c0 c1 c2 c3 c4 c5))
      have hkn : P.keep.n = P.keep.bs.length := by have := HR2.out.2.2.1; omega
      have HKC := (show Hid (∀ j, (h : j < P.keep.bs.length) → ∃ b2 off2, P.keep.a = some ⟨b2, off2, none⟩ ∧ w2.cell? ⟨b2, off2 + j, none⟩ = some (.int .i64 P.keep.bs[j])) from fun j h => by
        rcases HR2.out.2.2.2 with h0 | ⟨b2, off2, e, _, hc⟩
        · omega
        · refine ⟨b2, off2, e, ?_⟩
          rw [hc j (by omega), List.getD_eq_getElem?_getD, List.getElem?_eq_getElem h]
          rfl)
      have hkm := HKB.out
      clear HKB
      obtain ⟨ka, hka⟩ : ∃ x, P.keep.a = x := ⟨_, rfl⟩
      obtain ⟨kn, hkn2⟩ : ∃ x, P.keep.n = x := ⟨_, rfl⟩
      rw [hka] at d5 HKC
      rw [hka]
      rw [hkn2] at d5 hkm hkn
      rw [hkn2]
      have HKN := hid hkn
      have HKQ := hid (And.intro hka hkn2)
      clear hka hkn hkn2
      go_loopw [7] (fun i wx => ∃ (j : Nat), j ≤ kn ∧ i = .int .i64 (j : Int) ∧ w2 = wx ∧ Hid ((P.keep.bs.take j).any noDig = false)) (fun i _ => kn - (intOf i).toNat)
      case atStart => exact ⟨0, Nat.zero_le _, rfl, rfl, by simp [Hid]⟩
      case round =>
        obtain ⟨j, hj, rfl, rfl, HN⟩ := hrel
        by_cases hjl : j < kn
        · have hjp : j < P.keep.bs.length := by rw [← HKN.out]; exact hjl
          have hji : (j : Int) < (kn : Int) := by omega
          obtain ⟨b2, off2, rfl, hx⟩ := HKC.out j hjp
          obtain ⟨x, hxx⟩ : ∃ x, P.keep.bs[j] = x := ⟨_, rfl⟩
          have HTK := hid (List.take_succ_eq_append_getElem hjp)
          have HXM := (show Hid (x ∈ P.keep.bs) from by rw [← hxx]; exact List.getElem_mem hjp)
          rw [hxx] at hx HTK
          clear hxx
          by_cases hx0 : x = 0
          · subst hx0
            go_wp2
            go_roundw
            case rel => exact ⟨j + 1, by omega, by go_num, trivial, by have h1 := HTK.out; have h2 := HN.out; unfold Hid; rw [h1, List.any_append, h2]; rfl⟩
            case measure => simp [intOf]; omega
          have hx0' : (x != 0) = true := by simpa using hx0
          by_cases hx1 : x = 1
          · subst hx1
            go_wp2
            go_roundw
            case rel => exact ⟨j + 1, by omega, by go_num, trivial, by have h1 := HTK.out; have h2 := HN.out; unfold Hid; rw [h1, List.any_append, h2]; rfl⟩
            case measure => simp [intOf]; omega
          have hx1' : (x != 1) = true := by simpa using hx1
          have HE := hid (noTxt_bad (p := p) (f := f) (l := l) HMM.out (by unfold badS; rw [HF.out]; exact List.any_eq_true.2 ⟨x, HXM.out, by unfold noDig; rw [hx0', hx1']; rfl⟩))
          clear hx0 hx1
          go_wp2
          go_ret
          exact ⟨by rw [HE.out]; rfl, HK2.out⟩
        · have hjn : ¬ (j : Int) < (kn : Int) := by omega
          have HAN := (show Hid ((datSp (ps.take (k + 1))).any badS = false) from by
            have h1 := HN.out
            have h2 : j = P.keep.bs.length := by have := HKN.out; omega
            rw [h2, List.take_length] at h1
            unfold Hid
            rw [HDT.out, List.any_append, HA.out]
            simp only [List.any_cons, List.any_nil, Bool.or_false, Bool.false_or]
            unfold badS
            rw [HF.out]
            exact h1)
          go_wp2
          go_roundw
          case rel => exact ⟨k + 1, by omega, by go_num, by rw [HT4.out], HAN, HK2, HB2⟩
          case measure => simp [intOf]; omega
    · have hge : ¬ (k : Int) < (len : Int) := by omega
      have hkl : k = ps.length := by have := HL.out; omega
      have HA2 := (show Hid ((datSp ps).any badS = false) from by have h := HA.out; rw [hkl, List.take_length] at h; exact h)
      have HT2 := (show Hid (totS (datSp (ps.take k)) = totS (datSp ps)) from by unfold Hid; rw [hkl, List.take_length])
      rw [HT2.out]
      obtain ⟨tt, htt⟩ : ∃ x, totS (datSp ps) = x := ⟨_, rfl⟩
      rw [htt]
      by_cases hto : 100000 < tt
      · have HE := hid (noTxt_tot (p := p) (f := f) (l := l) (by rw [htt]; exact hto))
        clear htt
        go_wp2
        go_ret
        exact ⟨by rw [HE.out]; rfl, HK.out⟩
      have HE := hid (scT_some (p := p) (f := f) (l := l) (ds := datSp ps) HG.out (by rw [datSp_length, HL.out]; exact h4) HA2.out (by rw [htt]; exact hto))
      clear htt hkl
      go_upto_region 17 with fail
      have g0 := HB.out.cell 0
      have g1 := HB.out.cell 1
      have g2 := HB.out.cell 2
      dsimp only [List.getElem?_cons_zero, List.getElem?_cons_succ] at g0 g1 g2
      have hGB := HGB.out
      have l0 := itoa_len p hGB.1.1 hGB.1.2
      have l1 := itoa_len f hGB.2.1.1 hGB.2.1.2
      have l2 := itoa_len l hGB.2.2.1 hGB.2.2.2
      have n0 := fun wx => numS_any p hGB.1.1 hGB.1.2 wx
      have n1 := fun wx => numS_any f hGB.2.1.1 hGB.2.1.2 wx
      have n2 := fun wx => numS_any l hGB.2.2.1 hGB.2.2.2 wx
      clear hGB
      have HTX := (show Hid (gLn p f l = [104, 101, 97, 112, 32] ++ Lib.itoa p ++ [32] ++ Lib.itoa f ++ [32] ++ Lib.itoa l ++ [10]) from by unfold Hid gLn; rw [join4]; simp)
      obtain ⟨T0, hT0⟩ : ∃ T, Lib.itoa p = T := ⟨_, rfl⟩
      obtain ⟨T1, hT1⟩ : ∃ T, Lib.itoa f = T := ⟨_, rfl⟩
      obtain ⟨T2, hT2⟩ : ∃ T, Lib.itoa l = T := ⟨_, rfl⟩
      rw [hT0] at l0 n0 HTX
      rw [hT1] at l1 n1 HTX
      rw [hT2] at l2 n2 HTX
      clear hT0 hT1 hT2
      let Y1 : World → Prop := fun wx : World => wx.cell? ⟨w.heap.size, 0, none⟩ = some (.int .i64 p) ∧ wx.cell? ⟨w.heap.size, 1, none⟩ = some (.int .i64 f) ∧ wx.cell? ⟨w.heap.size, 2, none⟩ = some (.int .i64 l)
      have hS : Y1 wr.drew := ⟨g0, g1, g2⟩
      have HSS := (show Hid (∀ wx, Same wr wx → wx.cell? ⟨w.heap.size, 0, none⟩ = some (.int .i64 p) ∧ wx.cell? ⟨w.heap.size, 1, none⟩ = some (.int .i64 f) ∧ wx.cell? ⟨w.heap.size, 2, none⟩ = some (.int .i64 l)) from fun wx h => ⟨h.cellOf g0 id, h.cellOf g1 id, h.cellOf g2 id⟩)
      refine wp_region_V Y1 99 17 rfl (by kernel_rfl) ?_
      have HKW := (show Hid (Same wr wr.drew) from (Kept.refl _ _).drew)
      clear g0 g1 g2
      generalize wr.drew = u at hS HKW ⊢
      refine tk 0 70 hS ?_
      refine tk 1 71 hS ?_
      refine tk 5 75 hS ?_
      refine tk 6 76 hS ?_
      refine tk 10 80 hS ?_
      refine tk 11 81 hS ?_
      refine wpAnyV_one (i := 2) (by kernel_rfl) rfl (fun K hK => ?_)
      go_simp
      refine (n0 _).mono ?_
      rintro e u1 ⟨rfl, hk1⟩
      have HW1 := hid (HKW.out.trans hk1)
      have hS1 := HSS.out _ HW1.out
      refine hK.out _ _ (fun _ => hS1) ?_
      clear hK K hk1 n0 hS
      try simp only [Act.put, sA, s0, sS]
      have z1 : ¬ 9223372036854775807 < 5 + T0.length := by omega
      have z2 : ¬ 9223372036854775807 < 5 + T0.length + 1 := by omega
      refine tkV 3 73 (.string ((⟨#[104, 101, 97, 112, 32]⟩ : ByteArray) ++ Tx T0)) hS1 ?_
      refine tkV 4 74 (.string ((⟨#[104, 101, 97, 112, 32]⟩ : ByteArray) ++ Tx T0 ++ ⟨#[32]⟩)) hS1 ?_
      refine wpAnyV_one (i := 7) (by kernel_rfl) rfl (fun K hK => ?_)
      go_simp
      refine (n1 _).mono ?_
      rintro e u2 ⟨rfl, hk1⟩
      have HW2 := hid (HW1.out.trans hk1)
      have hS2 := HSS.out _ HW2.out
      refine hK.out _ _ (fun _ => hS2) ?_
      clear hK K hk1 n1 hS1
      try simp only [Act.put, sA, s0, sS]
      have z3 : ¬ 9223372036854775807 < 5 + T0.length + 1 + T1.length := by omega
      have z4 : ¬ 9223372036854775807 < 5 + T0.length + 1 + T1.length + 1 := by omega
      refine tkV 8 78 (.string ((⟨#[104, 101, 97, 112, 32]⟩ : ByteArray) ++ Tx T0 ++ ⟨#[32]⟩ ++ Tx T1)) hS2 ?_
      refine tkV 9 79 (.string ((⟨#[104, 101, 97, 112, 32]⟩ : ByteArray) ++ Tx T0 ++ ⟨#[32]⟩ ++ Tx T1 ++ ⟨#[32]⟩)) hS2 ?_
      refine wpAnyV_one (i := 12) (by kernel_rfl) rfl (fun K hK => ?_)
      go_simp
      refine (n2 _).mono ?_
      rintro e u3 ⟨rfl, hk1⟩
      have HW3 := hid (HW2.out.trans hk1)
      have hS3 := HSS.out _ HW3.out
      refine hK.out _ _ (fun _ => hS3) ?_
      clear hK K hk1 n2 hS2
      try simp only [Act.put, sA, s0, sS]
      have z5 : ¬ 9223372036854775807 < 5 + T0.length + 1 + T1.length + 1 + T2.length := by omega
      have z6 : ¬ 9223372036854775807 < 5 + T0.length + 1 + T1.length + 1 + T2.length + 1 := by omega
      refine tkV 13 83 (.string ((⟨#[104, 101, 97, 112, 32]⟩ : ByteArray) ++ Tx T0 ++ ⟨#[32]⟩ ++ Tx T1 ++ ⟨#[32]⟩ ++ Tx T2)) hS3 ?_
      refine tkV 14 84 (.string ((⟨#[104, 101, 97, 112, 32]⟩ : ByteArray) ++ Tx T0 ++ ⟨#[32]⟩ ++ Tx T1 ++ ⟨#[32]⟩ ++ Tx T2 ++ ⟨#[10]⟩)) hS3 ?_
      have ht : ((⟨#[104, 101, 97, 112, 32]⟩ : ByteArray) ++ Tx T0 ++ ⟨#[32]⟩ ++ Tx T1 ++ ⟨#[32]⟩ ++ Tx T2 ++ ⟨#[10]⟩) = Tx (gLn p f l) := by
        rw [HTX.out, show (⟨#[104, 101, 97, 112, 32]⟩ : ByteArray) = Tx [104, 101, 97, 112, 32] from rfl, show (⟨#[32]⟩ : ByteArray) = Tx [32] from rfl, show (⟨#[10]⟩ : ByteArray) = Tx [10] from rfl]
        simp only [tx_app]
      rw [ht]
      have HGL := (show Hid ((gLn p f l).length ≤ 100) from by unfold Hid; rw [HTX.out]; simp only [List.length_append, List.length_cons, List.length_nil]; omega)
      obtain ⟨cap, u4, hcv, HBF, HW4⟩ := run_toBuf u3 (gLn p f l)
      have HW5 := hid (HW3.out.trans HW4)
      have hS4 := HSS.out _ HW5.out
      have HBF := hid HBF
      clear HW4 ht z1 z2 z3 z4 z5 z6 l0 l1 l2
      generalize hgl : gLn p f l = GL at hcv HBF HGL ⊢
      have HGE := hid hgl
      clear hgl
      refine wpAnyV_one (i := 15) (by kernel_rfl) rfl (fun K hK => ?_)
      go_simp
      refine hK.out _ _ (fun _ => hS4) ?_
      clear hK K hcv hS3
      try simp only [Act.put, sA, s0, sS]
      refine tk 16 8 hS4 ?_
      refine wpAnyV_done (by kernel_rfl) ?_
      have hu3 := (show w.heap.size ≤ u3.heap.size from (HK.out.trans HW3.out).size)
      have HK4 := hid (HK.out.trans HW5.out)
      generalize u3.heap.size = G at HBF hu3 ⊢
      clear hS4 HW5 HW3 HW2 HW1 HSS HKW
      go_wp2_with fail
      go_loopw [8, 9] (fun o i wx => ∃ (k : Nat) (g cap : Nat) (L : List UInt8), k ≤ len ∧ i = .int .i64 (k : Int) ∧ o = .slice (some ⟨g, 0, none⟩) L.length cap ∧ w.heap.size ≤ g ∧ Hid (L = GL ++ (datSp (ps.take k)).flatMap lnS ∧ L.length ≤ 100 + k * 3000000 ∧ Buf wx g cap L ∧ Same w wx)) (fun _ i _ => len - (intOf i).toNat)
      case atStart => exact ⟨0, G, cap, GL, Nat.zero_le _, rfl, rfl, hu3, by simp [datSp], by have := HGL.out; omega, HBF, HK4⟩
      case round =>
        obtain ⟨k, g, cap, L, hk, rfl, rfl, hgn, HI⟩ := hrel
        by_cases hlt : k < len
        · have hlp : k < ps.length := by rw [HL.out]; exact hlt
          have hki : (k : Int) < (len : Int) := by omega
          obtain ⟨hLe, hLn, hBf, hKx⟩ := HI.out
          obtain ⟨b, off, rfl, hc⟩ := HC.out k hlp
          have hrd := (HP.out.data _ (List.getElem_mem hlp)).same hKx
          have hsz := HSZ.out _ (List.getElem_mem hlp)
          have hokP := HOK.out _ (List.getElem_mem hlp)
          have HDT := hid (datSp_take ps k hlp)
          have hnb : badS ps[k].dat = false := by
            cases hb : badS ps[k].dat with
            | false => rfl
            | true => have h := HA2.out; have h2 : (datSp ps).any badS = true := List.any_eq_true.2 ⟨ps[k].dat, List.mem_map.2 ⟨ps[k], List.getElem_mem hlp, rfl⟩, hb⟩; rw [h2] at h; exact h
          obtain ⟨P, hP⟩ : ∃ P, ps[k] = P := ⟨_, rfl⟩
          rw [hP] at hc hrd hsz HDT hokP hnb
          unfold badS at hnb
          rw [Bool.or_eq_false_iff] at hnb
          have hst : stepFd P.dat = 0 := by simpa using hnb.1
          have hln : StStep.ln wr P := by
            unfold StStep.szs at hsz
            have h2 := hrd.2.2.1
            refine ⟨hokP, hrd, by omega, by omega, fun d hd => ?_⟩
            have h3 := hnb.2
            rw [List.any_eq_false] at h3
            have h4 := h3 d hd
            unfold noDig at h4
            simp at h4
            omega
          have kl : Calls Tryd.prog 20 #[.agg #[.int .i64 P.kd, .int .i64 P.tx, .int .i64 P.rid, .int .i64 P.cnt, P.data.v, P.keep.v]] wr fun e w' => e = .returned (.string (Tx (lnS P.dat))) ∧ Same wr w' := lineS_any P wr (stepFd_kind hst) hln
          have hll : (lnS P.dat).length ≤ 3000000 := wd_len P.dat hln.dl hln.kl hokP.tx hokP.rid hokP.cnt
          have c0 : wr.cell? ⟨b, off + k * 6, none⟩ = some (.int .i64 P.kd) := hKx.cellOf (p := ⟨b, off + k * 6, none⟩) (hc 0 (by decide)) id
          have c1 : wr.cell? ⟨b, off + k * 6 + 1, none⟩ = some (.int .i64 P.tx) := hKx.cellOf (p := ⟨b, off + k * 6 + 1, none⟩) (by have h := hc 1 (by decide); rw [← Nat.add_assoc] at h; exact h) id
          have c2 : wr.cell? ⟨b, off + k * 6 + 2, none⟩ = some (.int .i64 P.rid) := hKx.cellOf (p := ⟨b, off + k * 6 + 2, none⟩) (by have h := hc 2 (by decide); rw [← Nat.add_assoc] at h; exact h) id
          have c3 : wr.cell? ⟨b, off + k * 6 + 3, none⟩ = some (.int .i64 P.cnt) := hKx.cellOf (p := ⟨b, off + k * 6 + 3, none⟩) (by have h := hc 3 (by decide); rw [← Nat.add_assoc] at h; exact h) id
          have c4 : wr.cell? ⟨b, off + k * 6 + 4, none⟩ = some P.data.v := hKx.cellOf (p := ⟨b, off + k * 6 + 4, none⟩) (by have h := hc 4 (by decide); rw [← Nat.add_assoc] at h; exact h) id
          have c5 : wr.cell? ⟨b, off + k * 6 + 5, none⟩ = some P.keep.v := hKx.cellOf (p := ⟨b, off + k * 6 + 5, none⟩) (by have h := hc 5 (by decide); rw [← Nat.add_assoc] at h; exact h) id
          have HFL := (show Hid (L ++ lnS P.dat = GL ++ (datSp (ps.take (k + 1))).flatMap lnS) from by unfold Hid; rw [HDT.out, List.flatMap_append, ← List.append_assoc, ← hLe]; simp)
          obtain ⟨M, hM⟩ : ∃ M, lnS P.dat = M := ⟨_, rfl⟩
          rw [hM] at kl hll HFL
          have HBf := hid hBf
          have HLn := (show Hid (L.length ≤ 100 + k * 3000000) from hLn)
          have HLL := (show Hid (M.length ≤ 3000000) from hll)
          have HKx := hid hKx
          clear hc hrd hsz hokP hnb hst hln hP hM hLe hLn hBf hKx hll
          go_wp2_with (first
            | (go_at_call 20; (with_reducible refine kl.mono ?_); rintro e w2 ⟨rfl, hk2⟩; have HK2 := hid (HKx.out.trans hk2); have HB2 := hid (HBf.out.same hk2); clear hk2 kl c0 c1 c2 c3 c4 c5)
            | (at_builtin; refine wpList_appS rfl (.tmp 92) (.tmp 97) rfl g cap L M (by rfl) (by rfl) HB2.out (by have := HLn.out; have := HLL.out; omega) ?_; intro g2 cap2 w3 hbf3 hk3 hg3; have HB3 := hid hbf3; have HK3 := (show Hid (Same w w3) from HK2.out.next hk3 (fun i hi e => by omega)); have HG3 := (show Hid (w.heap.size ≤ g2) from by have h5 := HK2.out.size; unfold Hid; omega); clear hbf3 hk3 hg3))
          go_roundw
          case rel => exact ⟨k + 1, g2, cap2, L ++ M, by omega, by go_num, by simp, HG3.out, HFL.out, by have := HLn.out; have := HLL.out; simp; omega, HB3.out, HK3.out⟩
          case measure => simp [intOf]; omega
        · have hge2 : ¬ (k : Int) < (len : Int) := by omega
          obtain ⟨hLe, hLn, hBf, hKx⟩ := HI.out
          have hkl : k = ps.length := by have := HL.out; omega
          have hcv := conv_buf hBf
          have HFIN := (show Hid (L = scT p f l (datSp ps)) from by unfold Hid; rw [HE.out, HGE.out, hLe, hkl, List.take_length])
          have HKx := hid hKx
          clear hLe hLn hBf hKx hkl
          go_wp2
          go_ret
          exact ⟨by rw [HFIN.out]; rfl, HKx.out⟩
def idxG {E : Type} (f : E → Bool) : Nat → List E → Int
  | _, [] => -1
  | k, p :: ps => if f p = true then (k : Int) else idxG f (k + 1) ps
theorem idxG_at {E : Type} {f : E → Bool} {ps : List E} {k : Nat} (hk : k < ps.length) :
    idxG f k (ps.drop k) = if f ps[k] = true then (k : Int) else idxG f (k + 1) (ps.drop (k + 1)) := by
  rw [List.drop_eq_getElem_cons hk]
  rfl
theorem idxG_end {E : Type} {f : E → Bool} {ps : List E} : idxG f ps.length (ps.drop ps.length) = -1 := by
  rw [List.drop_length]
  rfl
theorem idxG_any {E : Type} (f : E → Bool) (ps : List E) (k : Nat) : decide (0 ≤ idxG f k ps) = ps.any f := by
  induction ps generalizing k with
  | nil => rfl
  | cons p ps ih =>
    rw [List.any_cons]
    by_cases h : f p = true
    · have e : idxG f k (p :: ps) = k := if_pos h
      rw [e, h]; simp
    · have e : idxG f k (p :: ps) = idxG f (k + 1) ps := if_neg h
      rw [e, ih (k + 1), show f p = false from by simpa using h]; simp
def EntersT (fid : FuncId) : Prop := ∀ (args : Array Value) (wx : World), (callFunc fid args).run Tryd.prog wx = .ok (.enter fid args) wx
theorem noDig_any (x : Int) (w : World) : Calls Tryd.prog 63 #[.int .i64 x] w fun e w' => e = .returned (.bool (noDig x)) ∧ Same w w' := by
  unfold noDig
  by_cases h0 : x = 0
  · subst h0
    go_enter Tryd.func63, Tryd.ntmps63
    go_wp2
    go_ret
    exact ⟨rfl, Kept.refl _ _⟩
  have h0' : (x != 0) = true := by simpa using h0
  rw [h0', Bool.true_and]
  clear h0
  go_enter Tryd.func63, Tryd.ntmps63
  go_wp2
  go_ret
  exact ⟨rfl, Kept.refl _ _⟩
theorem enters_nd : EntersT 63 := fun args wx => by simp [callFunc, go_sem, Tryd.func63, Tryd.f63]
theorem enters_nl : EntersT 25 := fun args wx => by simp [callFunc, go_sem, Tryd.func25, Tryd.f25]
theorem indexTI_any (fid : FuncId) (f : Int → Bool) (v : Value) (ps : List Int) (w : World) (hm : ps.length ≤ 1048576) (hfm : ∃ a c, v = .slice a ps.length c) (hv : ps.length ≠ 0 → Rd .i64 w v ps) (hent : EntersT fid) (hf : ∀ (p : Int) (wx : World), p ∈ ps → Same w wx → Calls Tryd.prog fid #[.int .i64 p] wx fun e w' => e = .returned (.bool (f p)) ∧ Same wx w') :
    Calls Tryd.prog 82 #[v, .func (.func fid) #[] #[]] w fun e w' => e = .returned (.int .i64 (idxG f 0 ps)) ∧ Same w w' := by
  have hmax := hm
  obtain ⟨a, c, rfl⟩ := hfm
  have HC := (show Hid (∀ k, (h : k < ps.length) → ∃ b off, a = some ⟨b, off, none⟩ ∧ w.cell? ⟨b, off + k, none⟩ = some (.int .i64 ps[k])) from fun k h => by
    rcases (hv (by omega)).2 with ⟨e, _⟩ | ⟨b, off, c', e1, _, hx⟩
    · rw [e] at h; simp at h
    · injection e1 with e1 e2 e3
      refine ⟨b, off, e1, ?_⟩
      rw [hx k h, List.getD_eq_getElem?_getD, List.getElem?_eq_getElem h]
      rfl)
  have HF := hid hf
  obtain ⟨R, hR⟩ : ∃ R, idxG f 0 ps = R := ⟨_, rfl⟩
  have HR : Hid (idxG f 0 (ps.drop 0) = R) := by rw [List.drop_zero]; exact hR
  rw [hR]
  have hent' : ∀ (args : Array Value) (wx : World), (callFunc fid args).run Tryd.prog wx = .ok (.enter fid args) wx := hent
  clear hf hR hent hv hm
  generalize hl : ps.length = len at hmax ⊢
  have HL : Hid (ps.length = len) := hl
  clear hl
  go_enter Tryd.func82, Tryd.ntmps82
  go_wp2
  go_loopw [8] (fun i wr => ∃ k : Nat, k ≤ len ∧ i = .int .i64 k ∧ Hid (idxG f k (ps.drop k) = R) ∧ Hid (Same w wr)) (fun i _ => len - (intOf i).toNat)
  case atStart => exact ⟨0, Nat.zero_le _, rfl, HR, Kept.refl _ _⟩
  case round =>
    obtain ⟨k, hk, rfl, HA, HK⟩ := hrel
    by_cases hlt : k < len
    · have hlp : k < ps.length := by rw [HL.out]; exact hlt
      obtain ⟨b, off, rfl, hc⟩ := HC.out k hlp
      have HA2 : Hid ((if f ps[k] = true then (k : Int) else idxG f (k + 1) (ps.drop (k + 1))) = R) := by have h := HA.out; rw [idxG_at hlp] at h; exact h
      have kf := HF.out ps[k] wr (List.getElem_mem hlp) HK.out
      obtain ⟨P, hP⟩ : ∃ P, ps[k] = P := ⟨_, rfl⟩
      rw [hP] at hc HA2 kf
      have d0 : wr.cell? ⟨b, off + k, none⟩ = some (.int .i64 P) := HK.out.cellOf hc id
      clear hc hP
      cases hb : f P with
      | true =>
        have HE : Hid ((k : Int) = R) := by have h := HA2.out; rw [if_pos hb] at h; exact h
        rw [hb] at kf
        clear HA2 HA hb
        go_wp2_with fail
        refine kf.mono ?_
        rintro e w1 ⟨rfl, hk1⟩
        have HK1 := hid (HK.out.trans hk1)
        clear d0 kf hk1
        go_wp2
        go_ret
        exact ⟨by rw [← HE.out]; rfl, HK1.out⟩
      | false =>
        have HE : Hid (idxG f (k + 1) (ps.drop (k + 1)) = R) := by have h := HA2.out; rw [if_neg (by simp [hb])] at h; exact h
        rw [hb] at kf
        clear HA2 HA hb
        go_wp2_with fail
        refine kf.mono ?_
        rintro e w1 ⟨rfl, hk1⟩
        have HK1 := hid (HK.out.trans hk1)
        clear d0 kf hk1
        go_wp2
        go_roundw
        case rel => exact ⟨k + 1, by omega, by go_num, HE, HK1⟩
        case measure => simp [intOf]; omega
    · obtain rfl : len = k := by omega
      have he : (-1 : Int) = R := by have h := HA.out; rw [← HL.out, idxG_end] at h; exact h
      go_wp2
      go_ret
      exact ⟨by rw [← he]; rfl, HK.out⟩
theorem containsTI_any (fid : FuncId) (f : Int → Bool) (v : Value) (ps : List Int) (w : World) (hm : ps.length ≤ 1048576) (hfm : ∃ a c, v = .slice a ps.length c) (hv : ps.length ≠ 0 → Rd .i64 w v ps) (hent : EntersT fid) (hf : ∀ (p : Int) (wx : World), p ∈ ps → Same w wx → Calls Tryd.prog fid #[.int .i64 p] wx fun e w' => e = .returned (.bool (f p)) ∧ Same wx w') :
    Calls Tryd.prog 62 #[v, .func (.func fid) #[] #[]] w fun e w' => e = .returned (.bool (ps.any f)) ∧ Same w w' := by
  have k0 := indexTI_any fid f v ps w hm hfm hv hent hf
  have hx := idxG_any f ps 0
  obtain ⟨a, c, rfl⟩ := hfm
  generalize idxG f 0 ps = r at k0 hx
  rw [← hx]
  clear hx hv hf hent
  go_enter Tryd.func62, Tryd.ntmps62
  go_wp2_with fail
  refine k0.mono ?_
  rintro e w1 ⟨rfl, hk1⟩
  go_wp2
  go_ret
  exact ⟨rfl, hk1⟩
theorem indexTS_any (fid : FuncId) (f : StStep → Bool) (v : Value) (ps : List StStep) (w : World) (hv : RdSp w v ps) (hent : EntersT fid) (hf : ∀ (p : StStep) (wx : World), p ∈ ps → Same w wx → Calls Tryd.prog fid #[.agg #[.int .i64 p.kd, .int .i64 p.tx, .int .i64 p.rid, .int .i64 p.cnt, p.data.v, p.keep.v]] wx fun e w' => e = .returned (.bool (f p)) ∧ Same wx w') :
    Calls Tryd.prog 60 #[v, .func (.func fid) #[] #[]] w fun e w' => e = .returned (.int .i64 (idxG f 0 ps)) ∧ Same w w' := by
  have hmax := hv.row.max
  unfold maxLen at hmax
  obtain ⟨a, c, rfl⟩ := hv.form
  have HC := (show Hid (∀ k, (h : k < ps.length) → ∃ b off, a = some ⟨b, off, none⟩ ∧ ∀ i, i < 6 → w.cell? ⟨b, off + (k * 6 + i), none⟩ = (kSp.cells ps[k])[i]?) from fun k h => by
    rcases hv.row.row with ⟨e, a, c, e2⟩ | ⟨b, off, c, e2, hc⟩
    · rw [e] at h; simp at h
    · injection e2 with e2
      exact ⟨b, off, e2, fun i hi => hc k i h hi⟩)
  have HF := hid hf
  obtain ⟨R, hR⟩ : ∃ R, idxG f 0 ps = R := ⟨_, rfl⟩
  have HR : Hid (idxG f 0 (ps.drop 0) = R) := by rw [List.drop_zero]; exact hR
  rw [hR]
  have hent' : ∀ (args : Array Value) (wx : World), (callFunc fid args).run Tryd.prog wx = .ok (.enter fid args) wx := hent
  clear hf hR hent hv
  generalize hl : ps.length = len at hmax ⊢
  have HL : Hid (ps.length = len) := hl
  clear hl
  go_enter Tryd.func60, Tryd.ntmps60
  go_wp2
  go_loopw [8] (fun i wr => ∃ k : Nat, k ≤ len ∧ i = .int .i64 k ∧ Hid (idxG f k (ps.drop k) = R) ∧ Hid (Same w wr)) (fun i _ => len - (intOf i).toNat)
  case atStart => exact ⟨0, Nat.zero_le _, rfl, HR, Kept.refl _ _⟩
  case round =>
    obtain ⟨k, hk, rfl, HA, HK⟩ := hrel
    by_cases hlt : k < len
    · have hlp : k < ps.length := by rw [HL.out]; exact hlt
      obtain ⟨b, off, rfl, hc⟩ := HC.out k hlp
      have HA2 : Hid ((if f ps[k] = true then (k : Int) else idxG f (k + 1) (ps.drop (k + 1))) = R) := by have h := HA.out; rw [idxG_at hlp] at h; exact h
      have kf := HF.out ps[k] wr (List.getElem_mem hlp) HK.out
      obtain ⟨P, hP⟩ : ∃ P, ps[k] = P := ⟨_, rfl⟩
      rw [hP] at hc HA2 kf
      have d0 : wr.cell? ⟨b, off + k * 6, none⟩ = some (.int .i64 P.kd) := HK.out.cellOf (p := ⟨b, off + k * 6, none⟩) (hc 0 (by decide)) id
      have d1 : wr.cell? ⟨b, off + k * 6 + 1, none⟩ = some (.int .i64 P.tx) := HK.out.cellOf (p := ⟨b, off + k * 6 + 1, none⟩) (by have h := hc 1 (by decide); rw [← Nat.add_assoc] at h; exact h) id
      have d2 : wr.cell? ⟨b, off + k * 6 + 2, none⟩ = some (.int .i64 P.rid) := HK.out.cellOf (p := ⟨b, off + k * 6 + 2, none⟩) (by have h := hc 2 (by decide); rw [← Nat.add_assoc] at h; exact h) id
      have d3 : wr.cell? ⟨b, off + k * 6 + 3, none⟩ = some (.int .i64 P.cnt) := HK.out.cellOf (p := ⟨b, off + k * 6 + 3, none⟩) (by have h := hc 3 (by decide); rw [← Nat.add_assoc] at h; exact h) id
      have d4 : wr.cell? ⟨b, off + k * 6 + 4, none⟩ = some (P.data.v) := HK.out.cellOf (p := ⟨b, off + k * 6 + 4, none⟩) (by have h := hc 4 (by decide); rw [← Nat.add_assoc] at h; exact h) id
      have d5 : wr.cell? ⟨b, off + k * 6 + 5, none⟩ = some (P.keep.v) := HK.out.cellOf (p := ⟨b, off + k * 6 + 5, none⟩) (by have h := hc 5 (by decide); rw [← Nat.add_assoc] at h; exact h) id
      clear hc hP
      cases hb : f P with
      | true =>
        have HE : Hid ((k : Int) = R) := by have h := HA2.out; rw [if_pos hb] at h; exact h
        rw [hb] at kf
        clear HA2 HA hb
        go_wp2_with fail
        refine kf.mono ?_
        rintro e w1 ⟨rfl, hk1⟩
        have HK1 := hid (HK.out.trans hk1)
        clear d0 d1 d2 d3 d4 d5 kf hk1
        go_wp2
        go_ret
        exact ⟨by rw [← HE.out]; rfl, HK1.out⟩
      | false =>
        have HE : Hid (idxG f (k + 1) (ps.drop (k + 1)) = R) := by have h := HA2.out; rw [if_neg (by simp [hb])] at h; exact h
        rw [hb] at kf
        clear HA2 HA hb
        go_wp2_with fail
        refine kf.mono ?_
        rintro e w1 ⟨rfl, hk1⟩
        have HK1 := hid (HK.out.trans hk1)
        clear d0 d1 d2 d3 d4 d5 kf hk1
        go_wp2
        go_roundw
        case rel => exact ⟨k + 1, by omega, by go_num, HE, HK1⟩
        case measure => simp [intOf]; omega
    · obtain rfl : len = k := by omega
      have he : (-1 : Int) = R := by have h := HA.out; rw [← HL.out, idxG_end] at h; exact h
      go_wp2
      go_ret
      exact ⟨by rw [← he]; rfl, HK.out⟩
theorem containsTS_any (fid : FuncId) (f : StStep → Bool) (v : Value) (ps : List StStep) (w : World) (hv : RdSp w v ps) (hent : EntersT fid) (hf : ∀ (p : StStep) (wx : World), p ∈ ps → Same w wx → Calls Tryd.prog fid #[.agg #[.int .i64 p.kd, .int .i64 p.tx, .int .i64 p.rid, .int .i64 p.cnt, p.data.v, p.keep.v]] wx fun e w' => e = .returned (.bool (f p)) ∧ Same wx w') :
    Calls Tryd.prog 24 #[v, .func (.func fid) #[] #[]] w fun e w' => e = .returned (.bool (ps.any f)) ∧ Same w w' := by
  have k0 := indexTS_any fid f v ps w hv hent hf
  have hx := idxG_any f ps 0
  obtain ⟨a, c, rfl⟩ := hv.form
  generalize idxG f 0 ps = r at k0 hx
  rw [← hx]
  clear hx hv hf hent
  go_enter Tryd.func24, Tryd.ntmps24
  go_wp2_with fail
  refine k0.mono ?_
  rintro e w1 ⟨rfl, hk1⟩
  go_wp2
  go_ret
  exact ⟨rfl, hk1⟩
theorem wrongStep_any (x : StStep) (w : World) (hn : x.szs ≤ 1073741824) (hv : StStep.rd w x) :
    Calls Tryd.prog 61 #[.agg #[.int .i64 x.kd, .int .i64 x.tx, .int .i64 x.rid, .int .i64 x.cnt, x.data.v, x.keep.v]] w fun e w' => e = .returned (.bool (stepFd x.dat != 0)) ∧ Same w w' := by
  have kf : ∀ wx, Same w wx → Calls Tryd.prog 81 #[.agg #[.int .i64 x.kd, .int .i64 x.tx, .int .i64 x.rid, .int .i64 x.cnt, x.data.v, x.keep.v]] wx fun e w' => e = .returned (.int .i64 (stepFd x.dat)) ∧ Same wx w' := fun wx hk => implStepD_any x wx trivial hn (hv.same hk)
  have HK0 := hid (sameA w [.int .i64 x.kd, .int .i64 x.tx, .int .i64 x.rid, .int .i64 x.cnt, x.data.v, x.keep.v] 61)
  obtain ⟨R, hR⟩ : ∃ R, stepFd x.dat = R := ⟨_, rfl⟩
  rw [hR] at kf ⊢
  obtain ⟨kd, tx, rid, cnt, ⟨d1, d2, d3, d4⟩, ⟨e1, e2, e3, e4, e5⟩⟩ := x
  dsimp only [BS.v, FR.v] at *
  clear hR hv
  go_enter Tryd.func61, Tryd.ntmps61
  go_wp2_with fail
  refine (kf _ HK0.out).mono ?_
  rintro e w1 ⟨rfl, hk1⟩
  have HK1 := hid (HK0.out.trans hk1)
  clear hk1
  go_wp2
  go_ret
  exact ⟨rfl, HK1.out⟩
theorem hasNoLine_any (x : StStep) (w : World) (hn : x.szs ≤ 1048576) (hv : StStep.rd w x) :
    Calls Tryd.prog 25 #[.agg #[.int .i64 x.kd, .int .i64 x.tx, .int .i64 x.rid, .int .i64 x.cnt, x.data.v, x.keep.v]] w fun e w' => e = .returned (.bool (badS x.dat)) ∧ Same w w' := by
  have kw : ∀ wx, Same w wx → Calls Tryd.prog 61 #[.agg #[.int .i64 x.kd, .int .i64 x.tx, .int .i64 x.rid, .int .i64 x.cnt, x.data.v, x.keep.v]] wx fun e w' => e = .returned (.bool (stepFd x.dat != 0)) ∧ Same wx w' := fun wx hk => wrongStep_any x wx (by omega) (hv.same hk)
  have kc : ∀ wx, Same w wx → Calls Tryd.prog 62 #[x.keep.v, .func (.func 63) #[] #[]] wx fun e w' => e = .returned (.bool (x.keep.bs.any noDig)) ∧ Same wx w' := fun wx hk =>
    containsTI_any _ noDig x.keep.v x.keep.bs wx (by have := hv.2.2.1; unfold StStep.szs at hn; omega) hv.2.formK ((hv.2.same hk).intsK) enters_nd (fun p wy _ _ => noDig_any p wy)
  have HB := (show Hid (badS x.dat = ((stepFd x.dat != 0) || x.keep.bs.any noDig)) from rfl)
  rw [HB.out]
  have HK0 := hid (sameA w [.int .i64 x.kd, .int .i64 x.tx, .int .i64 x.rid, .int .i64 x.cnt, x.data.v, x.keep.v] 61)
  have b0 := Blk.newL w [.int .i64 x.kd, .int .i64 x.tx, .int .i64 x.rid, .int .i64 x.cnt, x.data.v, x.keep.v] 61
  obtain ⟨R, hR⟩ : ∃ R, (stepFd x.dat != 0) = R := ⟨_, rfl⟩
  obtain ⟨Q, hQ⟩ : ∃ Q, x.keep.bs.any noDig = Q := ⟨_, rfl⟩
  rw [hR] at kw ⊢
  rw [hQ] at kc ⊢
  obtain ⟨kd, tx, rid, cnt, ⟨d1, d2, d3, d4⟩, ⟨e1, e2, e3, e4, e5⟩⟩ := x
  dsimp only [BS.v, FR.v] at *
  have HB0 := hid b0
  clear hR hQ hv HB b0
  cases R with
  | true =>
    go_enter Tryd.func25, Tryd.ntmps25
    go_wp2_with (first | (go_at_call 61; (with_reducible refine (kw _ HK0.out).mono ?_); rintro e w1 ⟨rfl, hk1⟩; have HK1 := hid (HK0.out.trans hk1); clear hk1 kw))
    go_ret
    exact ⟨rfl, HK1.out⟩
  | false =>
    go_enter Tryd.func25, Tryd.ntmps25
    go_wp2_with (first
      | (go_at_call 61; (with_reducible refine (kw _ HK0.out).mono ?_); rintro e w1 ⟨rfl, hk1⟩; have HK1 := hid (HK0.out.trans hk1); have c5 := (HB0.out.same hk1).cell 5; dsimp only [List.getElem?_cons_zero, List.getElem?_cons_succ] at c5; clear hk1 kw)
      | (go_at_call 62; (with_reducible refine (kc _ HK1.out).mono ?_); rintro e w2 ⟨rfl, hk2⟩; have HK2 := hid (HK1.out.trans hk2); clear hk2 kc))
    go_ret
    exact ⟨rfl, HK2.out⟩
theorem allData_any (v : Value) (ps : List StStep) (w : World) (hp : RdSp w v ps) (hn : (ps.length : Int) + sizeSp ps ≤ 1048576) :
    Calls Tryd.prog 59 #[v] w fun e w' => e = .returned (.int .i64 (totS (datSp ps))) ∧ Same w w' := by
  obtain ⟨a, c, rfl⟩ := hp.form
  have HC := (show Hid (∀ k, (h : k < ps.length) → ∃ b off, a = some ⟨b, off, none⟩ ∧ ∀ i, i < 6 → w.cell? ⟨b, off + (k * 6 + i), none⟩ = (kSp.cells ps[k])[i]?) from fun k h => by
    rcases hp.row.row with ⟨e, a, c, e2⟩ | ⟨b, off, c, e2, hc⟩
    · rw [e] at h; simp at h
    · injection e2 with e2
      exact ⟨b, off, e2, fun i hi => hc k i h hi⟩)
  have hnn := sizeSp_nonneg ps
  have HTT := (show Hid (∀ k, 0 ≤ totS (datSp (ps.take k)) ∧ totS (datSp (ps.take k)) ≤ 1048576) from fun k => by
    have h1 := totS_size (ps.take k)
    have h2 := sizeSp_append (ps.take k) (ps.drop k)
    rw [List.take_append_drop] at h2
    have h3 := sizeSp_nonneg (ps.drop k)
    have h4 := totS_nn (datSp (ps.take k))
    omega)
  clear hp
  generalize hl : ps.length = len at hn ⊢
  have HL := hid hl
  clear hl
  go_enter Tryd.func59, Tryd.ntmps59
  go_wp2
  go_loopw [3, 5, 8] (fun u y i wr => ∃ (k : Nat), k ≤ len ∧ i = .int .i64 (k : Int) ∧ u = .int .i64 (totS (datSp (ps.take k))) ∧ Hid (Same w wr)) (fun _ _ i _ => len - (intOf i).toNat)
  case atStart => exact ⟨0, Nat.zero_le _, rfl, by simp [datSp, totS], Kept.refl _ _⟩
  case round =>
    obtain ⟨k, hk, rfl, rfl, HK⟩ := hrel
    by_cases hlt : k < len
    · have hlp : k < ps.length := by rw [HL.out]; exact hlt
      have hki : (k : Int) < (len : Int) := by omega
      obtain ⟨b, off, rfl, hc⟩ := HC.out k hlp
      have ht1 := (HTT.out k).1
      have ht2 := (HTT.out k).2
      have ht3 := (HTT.out (k + 1)).2
      have HT4 := (show Hid (totS (datSp (ps.take (k + 1))) = totS (datSp (ps.take k)) + (ps[k].data.bs.length : Int)) from by unfold Hid; rw [datSp_take ps k hlp, totS_app, totS_one]; rfl)
      rw [HT4.out] at ht3
      obtain ⟨P, hP⟩ : ∃ P, ps[k] = P := ⟨_, rfl⟩
      rw [hP] at hc ht3 HT4
      have d0 : wr.cell? ⟨b, off + k * 6, none⟩ = some (.int .i64 P.kd) := HK.out.cellOf (p := ⟨b, off + k * 6, none⟩) (hc 0 (by decide)) id
      have d1 : wr.cell? ⟨b, off + k * 6 + 1, none⟩ = some (.int .i64 P.tx) := HK.out.cellOf (p := ⟨b, off + k * 6 + 1, none⟩) (by have h := hc 1 (by decide); rw [← Nat.add_assoc] at h; exact h) id
      have d2 : wr.cell? ⟨b, off + k * 6 + 2, none⟩ = some (.int .i64 P.rid) := HK.out.cellOf (p := ⟨b, off + k * 6 + 2, none⟩) (by have h := hc 2 (by decide); rw [← Nat.add_assoc] at h; exact h) id
      have d3 : wr.cell? ⟨b, off + k * 6 + 3, none⟩ = some (.int .i64 P.cnt) := HK.out.cellOf (p := ⟨b, off + k * 6 + 3, none⟩) (by have h := hc 3 (by decide); rw [← Nat.add_assoc] at h; exact h) id
      have d4 : wr.cell? ⟨b, off + k * 6 + 4, none⟩ = some (.slice P.data.a P.data.bs.length P.data.c) := HK.out.cellOf (p := ⟨b, off + k * 6 + 4, none⟩) (by have h := hc 4 (by decide); rw [← Nat.add_assoc] at h; exact h) id
      have d5 : wr.cell? ⟨b, off + k * 6 + 5, none⟩ = some (.slice P.keep.a P.keep.n P.keep.c) := HK.out.cellOf (p := ⟨b, off + k * 6 + 5, none⟩) (by have h := hc 5 (by decide); rw [← Nat.add_assoc] at h; exact h) id
      clear hc hP
      go_wp2
      go_roundw
      case rel => refine ⟨k + 1, by omega, by go_num, by rw [HT4.out], ?_⟩; repeat (first | exact HK.out | refine Kept.setCell ?_ (.inl (by have := HK.out.size; simp; omega)) _ | refine Kept.alloc ?_ _)
      case measure => simp [intOf]; omega
    · have hge : ¬ (k : Int) < (len : Int) := by omega
      have HE := (show Hid (totS (datSp (ps.take k)) = totS (datSp ps)) from by unfold Hid; rw [show k = ps.length from by have := HL.out; omega, List.take_length])
      go_wp2
      go_ret
      exact ⟨by rw [← HE.out]; rfl, HK.out⟩
theorem tooMuch_any (v : Value) (ps : List StStep) (w : World) (hp : RdSp w v ps) (hn : (ps.length : Int) + sizeSp ps ≤ 1048576) :
    Calls Tryd.prog 23 #[v] w fun e w' => e = .returned (.bool (decide (400 < (datSp ps).length) || decide (100000 < totS (datSp ps)))) ∧ Same w w' := by
  have ka := allData_any v ps w hp hn
  obtain ⟨a, c, rfl⟩ := hp.form
  have hnn := sizeSp_nonneg ps
  rw [datSp_length]
  obtain ⟨t, ht⟩ : ∃ t, totS (datSp ps) = t := ⟨_, rfl⟩
  rw [ht] at ka ⊢
  clear ht hp
  generalize ps.length = len at hn ka ⊢
  by_cases h4 : 400 < len
  · have h4' : (400 : Int) < (len : Int) := by omega
    rw [decide_eq_true h4]
    go_enter Tryd.func23, Tryd.ntmps23
    go_wp2
    go_ret
    exact ⟨rfl, Kept.refl _ _⟩
  · have h4' : ¬ (400 : Int) < (len : Int) := by omega
    rw [decide_eq_false h4, Bool.false_or]
    go_enter Tryd.func23, Tryd.ntmps23
    go_wp2_with (first | (go_at_call 59; (with_reducible refine ka.mono ?_); rintro e w1 ⟨rfl, hk1⟩; have HK1 := hid hk1; clear hk1 ka))
    go_ret
    exact ⟨rfl, HK1.out⟩
def Tryd.layInt_ren : Go.Shelf.Ren := ⟨fun | 173 => 75 | 246 => 92 | 283 => 101 | 284 => 102 | 285 => 103 | 286 => 104 | 129 => 110 | 317 => 109 | 318 => 111 | 319 => 112 | 320 => 113 | 337 => 114 | 338 => 115 | n => n, fun | 2 => 2 | 3 => 3 | 9 => 9 | 4 => 4 | 171 => 166 | 0 => 0 | 53 => 167 | 37 => 34 | 5 => 5 | 173 => 170 | 212 => 187 | 51 => 159 | 20 => 20 | 213 => 188 | 46 => 151 | 232 => 194 | 233 => 195 | n => n, fun | 17 => 3 | 18 => 5 | 19 => 6 | n => n⟩
theorem Tryd.layInt : Go.Proofs.LaysM.n173 Tryd.prog Tryd.layInt_ren := {
  mixed := by kernel_rfl
  f129 := Tryd.func110.trans (congrArg some (by kernel_rfl))
  f173 := Tryd.func75.trans (congrArg some (by kernel_rfl))
  f246 := Tryd.func92.trans (congrArg some (by kernel_rfl))
  f283 := Tryd.func101.trans (congrArg some (by kernel_rfl))
  f284 := Tryd.func102.trans (congrArg some (by kernel_rfl))
  f285 := Tryd.func103.trans (congrArg some (by kernel_rfl))
  f286 := Tryd.func104.trans (congrArg some (by kernel_rfl))
  f317 := Tryd.func109.trans (congrArg some (by kernel_rfl))
  f318 := Tryd.func111.trans (congrArg some (by kernel_rfl))
  f319 := Tryd.func112.trans (congrArg some (by kernel_rfl))
  f320 := Tryd.func113.trans (congrArg some (by kernel_rfl))
  f337 := Tryd.func114.trans (congrArg some (by kernel_rfl))
  f338 := Tryd.func115.trans (congrArg some (by kernel_rfl))
  t0 := Tryd.underlying0
  a0 := Tryd.isAgg0
  z0 := Tryd.sizeOf0
  v0 := Tryd.zeroValue0
  t2 := Tryd.underlying2
  a2 := Tryd.isAgg2
  z2 := Tryd.sizeOf2
  v2 := Tryd.zeroValue2
  t3 := Tryd.underlying3
  a3 := Tryd.isAgg3
  z3 := Tryd.sizeOf3
  v3 := Tryd.zeroValue3
  t4 := Tryd.underlying4
  a4 := Tryd.isAgg4
  z4 := Tryd.sizeOf4
  v4 := Tryd.zeroValue4
  t5 := Tryd.underlying5
  a5 := Tryd.isAgg5
  z5 := Tryd.sizeOf5
  v5 := Tryd.zeroValue5
  t9 := Tryd.underlying9
  a9 := Tryd.isAgg9
  z9 := Tryd.sizeOf9
  v9 := Tryd.zeroValue9
  t20 := Tryd.underlying20
  a20 := Tryd.isAgg20
  z20 := Tryd.sizeOf20
  v20 := Tryd.zeroValue20
  t37 := Tryd.underlying34
  a37 := Tryd.isAgg34
  z37 := Tryd.sizeOf34
  v37 := Tryd.zeroValue34
  t46 := Tryd.underlying151
  a46 := Tryd.isAgg151
  z46 := Tryd.sizeOf151
  v46 := Tryd.zeroValue151
  t51 := Tryd.underlying159
  a51 := Tryd.isAgg159
  z51 := Tryd.sizeOf159
  v51 := Tryd.zeroValue159
  t53 := Tryd.underlying167
  a53 := Tryd.isAgg167
  z53 := Tryd.sizeOf167
  v53 := Tryd.zeroValue167
  t171 := Tryd.underlying166
  a171 := Tryd.isAgg166
  z171 := Tryd.sizeOf166
  v171 := Tryd.zeroValue166
  t173 := Tryd.underlying170
  a173 := Tryd.isAgg170
  z173 := Tryd.sizeOf170
  v173 := Tryd.zeroValue170
  t212 := Tryd.underlying187
  a212 := Tryd.isAgg187
  z212 := Tryd.sizeOf187
  v212 := Tryd.zeroValue187
  t213 := Tryd.underlying188
  a213 := Tryd.isAgg188
  z213 := Tryd.sizeOf188
  t232 := Tryd.underlying194
  a232 := Tryd.isAgg194
  z232 := Tryd.sizeOf194
  v232 := Tryd.zeroValue194
  t233 := Tryd.underlying195
  a233 := Tryd.isAgg195
  z233 := Tryd.sizeOf195
  v233 := Tryd.zeroValue195
  g17 := by kernel_rfl
  g18 := by kernel_rfl
  g19 := by kernel_rfl
  i0 := by kernel_rfl
  i2 := by kernel_rfl
  i3 := by kernel_rfl
  i4 := by kernel_rfl
  i5 := by kernel_rfl
  i9 := by kernel_rfl
  i20 := by kernel_rfl
  i37 := by kernel_rfl
  i46 := by kernel_rfl
  i51 := by kernel_rfl
  i53 := by kernel_rfl
  i171 := by kernel_rfl
  i173 := by kernel_rfl
  i212 := by kernel_rfl
  i232 := by kernel_rfl
  i233 := by kernel_rfl
  m17 := by kernel_rfl
  m18 := by kernel_rfl
  m19 := by kernel_rfl }
def Tryd.layFields_ren : Go.Shelf.Ren := ⟨fun | 157 => 65 | 229 => 84 | 199 => 85 | 261 => 97 | 311 => 106 | 312 => 107 | n => n, fun | 9 => 9 | 31 => 110 | 3 => 3 | 5 => 5 | 4 => 4 | 119 => 140 | 0 => 0 | 40 => 142 | 152 => 156 | 21 => 21 | 154 => 158 | 51 => 159 | 141 => 161 | 196 => 176 | 193 => 173 | 198 => 179 | 49 => 177 | 194 => 174 | 201 => 182 | 226 => 191 | 46 => 151 | 227 => 192 | n => n, fun | 0 => 1 | 6 => 2 | n => n⟩
theorem Tryd.layFields : Go.Proofs.LaysM.n157 Tryd.prog Tryd.layFields_ren := {
  mixed := by kernel_rfl
  f157 := Tryd.func65.trans (congrArg some (by kernel_rfl))
  f199 := Tryd.func85.trans (congrArg some (by kernel_rfl))
  f229 := Tryd.func84.trans (congrArg some (by kernel_rfl))
  f261 := Tryd.func97.trans (congrArg some (by kernel_rfl))
  f311 := Tryd.func106.trans (congrArg some (by kernel_rfl))
  f312 := Tryd.func107.trans (congrArg some (by kernel_rfl))
  t0 := Tryd.underlying0
  a0 := Tryd.isAgg0
  z0 := Tryd.sizeOf0
  v0 := Tryd.zeroValue0
  t3 := Tryd.underlying3
  a3 := Tryd.isAgg3
  z3 := Tryd.sizeOf3
  v3 := Tryd.zeroValue3
  t4 := Tryd.underlying4
  a4 := Tryd.isAgg4
  z4 := Tryd.sizeOf4
  v4 := Tryd.zeroValue4
  t5 := Tryd.underlying5
  a5 := Tryd.isAgg5
  z5 := Tryd.sizeOf5
  v5 := Tryd.zeroValue5
  t9 := Tryd.underlying9
  a9 := Tryd.isAgg9
  z9 := Tryd.sizeOf9
  v9 := Tryd.zeroValue9
  t21 := Tryd.underlying21
  a21 := Tryd.isAgg21
  z21 := Tryd.sizeOf21
  v21 := Tryd.zeroValue21
  t31 := Tryd.underlying110
  a31 := Tryd.isAgg110
  z31 := Tryd.sizeOf110
  v31 := Tryd.zeroValue110
  t40 := Tryd.underlying142
  a40 := Tryd.isAgg142
  z40 := Tryd.sizeOf142
  v40 := Tryd.zeroValue142
  t46 := Tryd.underlying151
  a46 := Tryd.isAgg151
  z46 := Tryd.sizeOf151
  v46 := Tryd.zeroValue151
  t49 := Tryd.underlying177
  a49 := Tryd.isAgg177
  z49 := Tryd.sizeOf177
  v49 := Tryd.zeroValue177
  t51 := Tryd.underlying159
  a51 := Tryd.isAgg159
  z51 := Tryd.sizeOf159
  v51 := Tryd.zeroValue159
  t119 := Tryd.underlying140
  a119 := Tryd.isAgg140
  z119 := Tryd.sizeOf140
  t141 := Tryd.underlying161
  a141 := Tryd.isAgg161
  z141 := Tryd.sizeOf161
  v141 := Tryd.zeroValue161
  t152 := Tryd.underlying156
  a152 := Tryd.isAgg156
  z152 := Tryd.sizeOf156
  v152 := Tryd.zeroValue156
  t154 := Tryd.underlying158
  a154 := Tryd.isAgg158
  z154 := Tryd.sizeOf158
  v154 := Tryd.zeroValue158
  t193 := Tryd.underlying173
  a193 := Tryd.isAgg173
  z193 := Tryd.sizeOf173
  v193 := Tryd.zeroValue173
  t194 := Tryd.underlying174
  a194 := Tryd.isAgg174
  z194 := Tryd.sizeOf174
  v194 := Tryd.zeroValue174
  t196 := Tryd.underlying176
  a196 := Tryd.isAgg176
  z196 := Tryd.sizeOf176
  v196 := Tryd.zeroValue176
  t198 := Tryd.underlying179
  a198 := Tryd.isAgg179
  z198 := Tryd.sizeOf179
  v198 := Tryd.zeroValue179
  t201 := Tryd.underlying182
  a201 := Tryd.isAgg182
  z201 := Tryd.sizeOf182
  v201 := Tryd.zeroValue182
  t226 := Tryd.underlying191
  a226 := Tryd.isAgg191
  z226 := Tryd.sizeOf191
  v226 := Tryd.zeroValue191
  t227 := Tryd.underlying192
  a227 := Tryd.isAgg192
  z227 := Tryd.sizeOf192
  v227 := Tryd.zeroValue192
  g0 := by kernel_rfl
  g6 := by kernel_rfl
  i0 := by kernel_rfl
  i3 := by kernel_rfl
  i4 := by kernel_rfl
  i5 := by kernel_rfl
  i9 := by kernel_rfl
  i21 := by kernel_rfl
  i31 := by kernel_rfl
  i40 := by kernel_rfl
  i46 := by kernel_rfl
  i49 := by kernel_rfl
  i51 := by kernel_rfl
  i141 := by kernel_rfl
  i152 := by kernel_rfl
  i154 := by kernel_rfl
  i193 := by kernel_rfl
  i194 := by kernel_rfl
  i196 := by kernel_rfl
  i198 := by kernel_rfl
  i201 := by kernel_rfl
  i226 := by kernel_rfl
  i227 := by kernel_rfl
  m0 := by kernel_rfl
  m6 := by kernel_rfl }
def Tryd.layJoin_ren : Go.Shelf.Ren := ⟨fun | 156 => 74 | 165 => 91 | 166 => 26 | 169 => 29 | 240 => 64 | 241 => 100 | 276 => 83 | 277 => 108 | n => n, fun | 31 => 110 | 9 => 9 | 3 => 3 | 4 => 4 | 0 => 0 | 20 => 20 | 72 => 70 | 76 => 73 | 70 => 68 | 37 => 34 | 75 => 72 | 127 => 114 | 164 => 138 | 5 => 5 | 80 => 76 | n => n, fun | n => n⟩
theorem Tryd.layJoin : Go.Proofs.Lays.n156 Tryd.prog Tryd.layJoin_ren := {
  mixed := by kernel_rfl
  f156 := Tryd.func74.trans (congrArg some (by kernel_rfl))
  f165 := Tryd.func91.trans (congrArg some (by kernel_rfl))
  f166 := Tryd.func26.trans (congrArg some (by kernel_rfl))
  f169 := Tryd.func29.trans (congrArg some (by kernel_rfl))
  f240 := Tryd.func64.trans (congrArg some (by kernel_rfl))
  f241 := Tryd.func100.trans (congrArg some (by kernel_rfl))
  f276 := Tryd.func83.trans (congrArg some (by kernel_rfl))
  f277 := Tryd.func108.trans (congrArg some (by kernel_rfl))
  t0 := Tryd.underlying0
  a0 := Tryd.isAgg0
  z0 := Tryd.sizeOf0
  v0 := Tryd.zeroValue0
  t3 := Tryd.underlying3
  a3 := Tryd.isAgg3
  z3 := Tryd.sizeOf3
  v3 := Tryd.zeroValue3
  t4 := Tryd.underlying4
  a4 := Tryd.isAgg4
  z4 := Tryd.sizeOf4
  v4 := Tryd.zeroValue4
  t9 := Tryd.underlying9
  a9 := Tryd.isAgg9
  z9 := Tryd.sizeOf9
  v9 := Tryd.zeroValue9
  t20 := Tryd.underlying20
  a20 := Tryd.isAgg20
  z20 := Tryd.sizeOf20
  v20 := Tryd.zeroValue20
  t31 := Tryd.underlying110
  a31 := Tryd.isAgg110
  z31 := Tryd.sizeOf110
  v31 := Tryd.zeroValue110
  t37 := Tryd.underlying34
  a37 := Tryd.isAgg34
  z37 := Tryd.sizeOf34
  v37 := Tryd.zeroValue34
  t70 := Tryd.underlying68
  a70 := Tryd.isAgg68
  z70 := Tryd.sizeOf68
  v70 := Tryd.zeroValue68
  t72 := Tryd.underlying70
  a72 := Tryd.isAgg70
  z72 := Tryd.sizeOf70
  v72 := Tryd.zeroValue70
  t75 := Tryd.underlying72
  a75 := Tryd.isAgg72
  z75 := Tryd.sizeOf72
  v75 := Tryd.zeroValue72
  t76 := Tryd.underlying73
  a76 := Tryd.isAgg73
  z76 := Tryd.sizeOf73
  v76 := Tryd.zeroValue73
  t127 := Tryd.underlying114
  a127 := Tryd.isAgg114
  z127 := Tryd.sizeOf114
  v127 := Tryd.zeroValue114
  t164 := Tryd.underlying138
  a164 := Tryd.isAgg138
  z164 := Tryd.sizeOf138
  v164 := Tryd.zeroValue138 }
def Tryd.layStr_ren : Go.Shelf.Ren := ⟨fun | 169 => 29 | n => n, fun | 70 => 68 | 9 => 9 | 0 => 0 | 72 => 70 | 37 => 34 | 127 => 114 | 3 => 3 | 5 => 5 | n => n, fun | n => n⟩
theorem Tryd.layStr : Go.Proofs.Lays.n169 Tryd.prog Tryd.layStr_ren := {
  mixed := by kernel_rfl
  f169 := Tryd.func29.trans (congrArg some (by kernel_rfl))
  t0 := Tryd.underlying0
  a0 := Tryd.isAgg0
  z0 := Tryd.sizeOf0
  v0 := Tryd.zeroValue0
  t3 := Tryd.underlying3
  a3 := Tryd.isAgg3
  z3 := Tryd.sizeOf3
  v3 := Tryd.zeroValue3
  t9 := Tryd.underlying9
  a9 := Tryd.isAgg9
  z9 := Tryd.sizeOf9
  v9 := Tryd.zeroValue9
  t37 := Tryd.underlying34
  a37 := Tryd.isAgg34
  z37 := Tryd.sizeOf34
  v37 := Tryd.zeroValue34
  t70 := Tryd.underlying68
  a70 := Tryd.isAgg68
  z70 := Tryd.sizeOf68
  v70 := Tryd.zeroValue68
  t72 := Tryd.underlying70
  a72 := Tryd.isAgg70
  z72 := Tryd.sizeOf70
  v72 := Tryd.zeroValue70
  t127 := Tryd.underlying114
  a127 := Tryd.isAgg114
  z127 := Tryd.sizeOf114
  v127 := Tryd.zeroValue114 }
theorem Tryd.layWrite : Go.Proofs.Lays.n166 Tryd.prog Tryd.layJoin_ren := { Tryd.layJoin with }
theorem Tryd.extraJ : Builder.Extra Tryd.prog Tryd.layJoin_ren := {
  sizeBuilder := by kernel_rfl
  liesBuilder := by kernel_rfl
  t5 := Tryd.underlying5
  a5 := Tryd.isAgg5
  z5 := Tryd.sizeOf5
  v5 := Tryd.zeroValue5
  infoByte := by kernel_rfl
  cellsByte := by kernel_rfl
  sizeByte := by kernel_rfl
  neB5 := by decide }
theorem Tryd.extraS : Builder.Extra Tryd.prog Tryd.layStr_ren := {
  sizeBuilder := by kernel_rfl
  liesBuilder := by kernel_rfl
  t5 := Tryd.underlying5
  a5 := Tryd.isAgg5
  z5 := Tryd.sizeOf5
  v5 := Tryd.zeroValue5
  infoByte := by kernel_rfl
  cellsByte := by kernel_rfl
  sizeByte := by kernel_rfl
  neB5 := by decide }
end Go.Proofs.YtbilnlgjpchgiaaDoor
