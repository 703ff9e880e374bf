import Derived.Test.YthbocacnfhpidaaPuK
import Derived.Test.YthbocacnfhpidaaG06
import Derived.Test.YthbocacnfhpidaaG05
import Derived.Deep.RegionWith
import Derived.Deep.DeepMust
import Derived.Deep.DeepCutAuto
namespace Go.Proofs.Ythbocacnfhpidaa
set_option maxRecDepth 100000
set_option maxHeartbeats 8000000
open Go.RowKit
set_option linter.unusedVariables false
set_option linter.unusedSimpArgs false
def muU (fs : List F5) (w : World) (U : Nat) : Nat := match w.cell? ⟨U, 1, none⟩ with
  | some v => muOf fs w v
  | none => 0
theorem UgE.muU {w wr : World} {U : Nat} {fv : Value} {left : List Q4} {st : List U3} (h : UgE w wr U fv left st) (fs : List F5) : muU fs wr U = mu fs left := by
  obtain ⟨la, ln, lc, sa, sn, sc, hP, hB⟩ := h
  unfold Go.Proofs.Ythbocacnfhpidaa.muU
  rw [hB.c1]
  exact hP.muOf fs
def doneE (q : Q4) : Q4 := if q.2.1 = 2 then (q.1, q.2.1, q.2.2.1, 0) else q
theorem keep_left (ts : List Q4) (q : Q4) : keepL (doneE q) (leftU ts) = leftU (ts ++ [q]) ∧ keepS (doneE q) (endsU ts) = endsU (ts ++ [q]) := by
  rw [leftU_snoc, endsU_snoc]
  unfold keepL keepS doneE isDone
  by_cases h : q.2.1 = 2
  · simp [h]
  · by_cases h2 : q.2.2.2 = 0
    · simp [h, h2]
    · simp [h, h2]
theorem planP_go {fs : List F5} {n : Nat} {left : List Q4} {st : List U3} {ss : List U3} {nx : Int} (h : 0 < left.length) (hs : stepU fs (left.getD (gmx left) q4z) = some (ss, nx)) : planP fs (n + 1) left st = planP fs n (keepL (updU (left.getD (gmx left) q4z) nx) (left.eraseIdx (gmx left))) (keepS (updU (left.getD (gmx left) q4z) nx) (st ++ ss)) ∧ mu fs (keepL (updU (left.getD (gmx left) q4z) nx) (left.eraseIdx (gmx left))) < mu fs left ∧ (keepL (updU (left.getD (gmx left) q4z) nx) (left.eraseIdx (gmx left))).length ≤ left.length ∧ (keepS (updU (left.getD (gmx left) q4z) nx) (st ++ ss)).length ≤ st.length + 2 := by
  have hl := gmx_lt h
  have hss := stepU_ss hs
  have hle : (left.eraseIdx (gmx left)).length = left.length - 1 := by rw [List.length_eraseIdx]; simp [hl]
  rw [planP_step h, hs]
  have e1 : ∀ X : List Q4, keepL (updU (left.getD (gmx left) q4z) nx) X = if nx = 0 then X else X ++ [updU (left.getD (gmx left) q4z) nx] := fun _ => rfl
  have e2 : ∀ X : List U3, keepS (updU (left.getD (gmx left) q4z) nx) X = if nx = 0 then X ++ [(5, (left.getD (gmx left) q4z).1, 0)] else X := fun _ => rfl
  rw [e1, e2]
  by_cases h0 : nx = 0
  · simp only [if_pos h0]
    exact ⟨trivial, mu_erase h, by omega, by simp; omega⟩
  · simp only [if_neg h0]
    refine ⟨trivial, ?_, by simp; omega, by simp; omega⟩
    rw [mu_perm fs (snoc_perm _ _)]
    exact mu_upd h hs
theorem implPlan_any (v : Value) (ps : List StLogFrame) (x : FR) (w : World) (hv : RdFr w v ps) (hx : RdF 4 w x) (hLb : ps.length ≤ 1048576) :
    Calls Try.prog 9 #[v, x.v] w fun e w' => ∃ y : StUndoPlan, e = .returned y.val ∧ y.dat = planD (fs5 ps) (quad x.bs) ∧ (∀ b, FootL y.rows b → w.heap.size ≤ b) ∧ OwnL w' y.rows ∧ Same w w' := by
  obtain ⟨va, vc, rfl⟩ := hv.form
  have HK0 := hid (sameA w [.int .i64 0, .slice none 0 0] 28)
  have HB0 := hid (Blk.newL w [.int .i64 0, .slice none 0 0] 28)
  obtain ⟨xe, xa, n, xc, bs⟩ := x
  obtain ⟨ts, hts⟩ : ∃ ts, quad bs = ts := ⟨_, rfl⟩
  have hbs : bs = flat4 ts := by rw [← hts, flat4_quad n bs hx.2.1]
  dsimp only [FR.v] at hx ⊢
  rw [hts]
  have hl : ts.length = n := by rw [← hts]; exact quad_length n bs hx.2.1
  clear hts
  subst hbs
  have hnm : n ≤ maxLen := hx.1
  unfold maxLen at hnm
  obtain ⟨L, hL⟩ : ∃ L, ps.length = L := ⟨_, rfl⟩
  rw [hL] at hLb hv ⊢
  have k1 := neighF_any va vc L ps _ hL hLb (hv.same HK0.out)
  have HV := hid hv
  have HX := hid hx
  have HL := hid hl
  have HLL := hid hL
  clear hv hx hl hL
  obtain ⟨R, hR⟩ : ∃ R, planD (fs5 ps) ts = R := ⟨_, rfl⟩
  rw [hR]
  have HR := hid hR
  clear hR
  obtain ⟨FS, hFS⟩ : ∃ FS, fs5 ps = FS := ⟨_, rfl⟩
  have HFS := hid hFS
  have HF5 : Hid (FS.length = L) := by unfold Hid; rw [← hFS, fs5_length, HLL.out]
  rw [hFS] at HR k1
  clear hFS
  obtain ⟨B1, hB1⟩ : ∃ B, nbg fAfter FS = B := ⟨_, rfl⟩
  obtain ⟨B2, hB2⟩ : ∃ B, nbg tAfter ts = B := ⟨_, rfl⟩
  obtain ⟨B3, hB3⟩ : ∃ B, ts.any tNeg = B := ⟨_, rfl⟩
  have HB1' := hid hB1
  have HB2' := hid hB2
  have HB3' := hid hB3
  rw [hB1] at k1
  clear hB1 hB2 hB3
  go_enter Try.func9, Try.ntmps9
  go_wp2_with fail
  refine k1.mono ?_
  rintro ee w1 ⟨rfl, hk1⟩
  have HK1 := hid (HK0.out.trans hk1)
  have HZ1 := hid (HB0.out.same hk1)
  clear hk1 HB0 HK0 k1
  cases B1 with
  | true =>
    obtain ⟨r0, r1⟩ := HZ1.out.all2
    have fr := HZ1.out.frozen
    have lr := HZ1.out.lt
    go_wp2
    refine bodyPost_ret (v := .agg #[.int .i64 2, .slice none 0 0]) (by simp [results, Try.results9, go_sem, r0, r1]) rfl ⟨⟨2, ⟨54, none, 0, 0, []⟩⟩, rfl, ?_, ?_, ?_, ?_⟩
    · rw [← HR.out]; simp [planD, puBad, HB1'.out]; rfl
    · intro b hb
      have h := (FootL_one _ _).1 hb
      simp [FR.v, Value.ownBlock] at h
    · exact (OwQ.nil 3 _ _).rows
    · (iterate 2 refine Kept.setCell ?_ (.inl (Nat.le_refl _)) _)
      exact HK1.out
  | false =>
  have k2 := neighT_any xe xa xc n ts w1 HL.out (HX.out.same HK1.out)
  rw [HB2'.out] at k2
  go_wp2_with fail
  refine k2.mono ?_
  rintro ee w2 ⟨rfl, hk2⟩
  have HK2 := hid (HK1.out.trans hk2)
  have HZ2 := hid (HZ1.out.same hk2)
  clear hk2 HK1 HZ1 k2
  cases B2 with
  | true =>
    obtain ⟨r0, r1⟩ := HZ2.out.all2
    have fr := HZ2.out.frozen
    have lr := HZ2.out.lt
    go_wp2
    refine bodyPost_ret (v := .agg #[.int .i64 2, .slice none 0 0]) (by simp [results, Try.results9, go_sem, r0, r1]) rfl ⟨⟨2, ⟨54, none, 0, 0, []⟩⟩, rfl, ?_, ?_, ?_, ?_⟩
    · rw [← HR.out]; simp [planD, puBad, HB2'.out]; rfl
    · intro b hb
      have h := (FootL_one _ _).1 hb
      simp [FR.v, Value.ownBlock] at h
    · exact (OwQ.nil 3 _ _).rows
    · (iterate 2 refine Kept.setCell ?_ (.inl (Nat.le_refl _)) _)
      exact HK2.out
  | false =>
  by_cases h8 : 8 < n
  · have h8' : (decide ((8 : Int) < (n : Int))) = true := decide_eq_true (by omega)
    obtain ⟨r0, r1⟩ := HZ2.out.all2
    have fr := HZ2.out.frozen
    have lr := HZ2.out.lt
    go_wp2
    refine bodyPost_ret (v := .agg #[.int .i64 2, .slice none 0 0]) (by simp [results, Try.results9, go_sem, r0, r1]) rfl ⟨⟨2, ⟨54, none, 0, 0, []⟩⟩, rfl, ?_, ?_, ?_, ?_⟩
    · have h8l : 8 < ts.length := by rw [HL.out]; exact h8
      rw [← HR.out]; simp [planD, puBad, h8l]; rfl
    · intro b hb
      have h := (FootL_one _ _).1 hb
      simp [FR.v, Value.ownBlock] at h
    · exact (OwQ.nil 3 _ _).rows
    · (iterate 2 refine Kept.setCell ?_ (.inl (Nat.le_refl _)) _)
      exact HK2.out
  have h8' : (decide ((8 : Int) < (n : Int))) = false := decide_eq_false (by omega)
  have k3 := containsT_any xe xa xc n ts w2 HL.out (HX.out.same HK2.out)
  rw [HB3'.out] at k3
  go_wp2_with fail
  refine k3.mono ?_
  rintro ee w3 ⟨rfl, hk3⟩
  have HK3 := hid (HK2.out.trans hk3)
  have HZ3 := hid (HZ2.out.same hk3)
  clear hk3 HK2 HZ2 k3
  cases B3 with
  | true =>
    obtain ⟨r0, r1⟩ := HZ3.out.all2
    have fr := HZ3.out.frozen
    have lr := HZ3.out.lt
    go_wp2
    refine bodyPost_ret (v := .agg #[.int .i64 2, .slice none 0 0]) (by simp [results, Try.results9, go_sem, r0, r1]) rfl ⟨⟨2, ⟨54, none, 0, 0, []⟩⟩, rfl, ?_, ?_, ?_, ?_⟩
    · rw [← HR.out]; simp [planD, puBad, HB3'.out]; rfl
    · intro b hb
      have h := (FootL_one _ _).1 hb
      simp [FR.v, Value.ownBlock] at h
    · exact (OwQ.nil 3 _ _).rows
    · (iterate 2 refine Kept.setCell ?_ (.inl (Nat.le_refl _)) _)
      exact HK3.out
  | false =>
  have HG : Hid (puBad FS ts = false) := by unfold Hid; rw [puBad, HB1'.out, HB2'.out, HB3'.out, decide_eq_false (by rw [HL.out]; omega)]; rfl
  obtain ⟨FU, hF⟩ : ∃ FU, fuelU FS ts = FU := ⟨_, rfl⟩
  have hFb : FU ≤ 8 * (L + 1) := by rw [← hF, ← HF5.out]; exact fuel_le (by rw [HL.out]; omega)
  obtain ⟨⟨C, S3⟩, hPM⟩ : ∃ q, planP FS FU (leftU ts) (endsU ts) = q := ⟨_, rfl⟩
  have HRC : Hid (R = (C, flat3U S3)) := by unfold Hid; rw [← HR.out, planD, if_neg (by rw [HG.out]; exact Bool.false_ne_true), plan_eq HG.out, hF, hPM]
  have HMU : Hid (mu FS (leftU ts) ≤ FU) := by unfold Hid; rw [← hF]; exact Nat.le_refl _
  have HPM := hid hPM
  clear hPM hF HR HG
  have HU0 := (show Hid (UgE w (w3.alloc (.cells #[.slice va L vc, .slice none 0 0, .slice none 0 0] 72)) w3.heap.size (.slice va L vc) [] []) from ⟨none, 0, 0, none, 0, 0, ⟨OwQ.nil _ _ _, OwQ.nil _ _ _, fun b hb => by simp [Value.ownBlock] at hb, fun b hb => by simp [Value.ownBlock] at hb, fun b h1 _ => by simp [Value.ownBlock] at h1, HK3.out.alloc _, HK3.out.size⟩, Blk.newL w3 [.slice va L vc, .slice none 0 0, .slice none 0 0] 72⟩)
  have HZ4 := (show Hid (Blk (w3.alloc (.cells #[.slice va L vc, .slice none 0 0, .slice none 0 0] 72)) w.heap.size 28 [.int .i64 0, .slice none 0 0]) from HZ3.out.alloc _)
  have hZU : w.heap.size < w3.heap.size := HZ3.out.lt
  go_upto_region 4 with fail
  generalize (w3.alloc (.cells #[.slice va L vc, .slice none 0 0, .slice none 0 0] 72)) = w4 at *
  obtain ⟨U, hU⟩ : ∃ U, w3.heap.size = U := ⟨_, rfl⟩
  rw [hU] at HU0 hZU ⊢
  clear hU HZ3 HK3 h8'
  go_wp2_with fail
  go_loopw [29] (fun iv wx => ∃ k : Nat, k ≤ n ∧ iv = .int .i64 k ∧ Hid (UgE w wx U (.slice va L vc) (leftU (ts.take k)) (endsU (ts.take k))) ∧ Hid (Blk wx w.heap.size 28 [.int .i64 0, .slice none 0 0])) (fun iv _ => n - (intOf iv).toNat)
  case atStart => exact ⟨0, Nat.zero_le _, rfl, HU0, HZ4⟩
  case round =>
    as_aux_lemma =>
    obtain ⟨k, hk, rfl, HUr, HZr⟩ := hrel
    clear HU0 HZ4
    by_cases hlt : k < n
    · as_aux_lemma =>
      obtain ⟨b, off, ha, hc⟩ := HX.out.someQ (show 0 < n by omega)
      dsimp only at ha hc
      subst ha
      have hlk : k < ts.length := by rw [HL.out]; exact hlt
      obtain ⟨⟨a, s, l, u⟩, hq⟩ : ∃ q, ts.getD k q4z = q := ⟨_, rfl⟩
      obtain ⟨la0, ln0, lc0, sa0, sn0, sc0, hPr, hBr⟩ := HUr.out
      obtain ⟨d0, d1, d2, d3⟩ := (HX.out.same hPr.keep).quad k hlk _ _ _ _ hq
      have HTK := hid (take_snoc hlk)
      rw [hq] at HTK
      have HKL := hid (keep_left (ts.take k) (a, s, l, u))
      rw [← HTK.out] at HKL
      have hUl := hBr.lt
      have hA : Same wr (wr.alloc (.cells #[.int .i64 a, .int .i64 s, .int .i64 l, .int .i64 u] 52)) := (Kept.refl _ _).alloc _
      have HE := hid (Blk.newL wr [.int .i64 a, .int .i64 s, .int .i64 l, .int .i64 u] 52)
      have HU5 := (show Hid (UgE w (wr.alloc (.cells #[.int .i64 a, .int .i64 s, .int .i64 l, .int .i64 u] 52)) U (.slice va L vc) (leftU (ts.take k)) (endsU (ts.take k))) from by
        obtain ⟨la, ln, lc, sa, sn, sc, h1, h2⟩ := HUr.out
        exact ⟨la, ln, lc, sa, sn, sc, h1.same hA, h2.same hA⟩)
      have HZ5 := hid (HZr.out.same hA)
      have hUw := hPr.low
      have hll : (leftU (ts.take k)).length ≤ 8 := by have h2 := leftU_len (ts.take k); have h3 := List.length_take_le k ts; omega
      have hsl : (endsU (ts.take k)).length ≤ 8 := by have h2 := endsU_len (ts.take k); have h3 := List.length_take_le k ts; omega
      have HOLD := (show Hid (∀ la ln lc sa sn sc, PuM w (wr.alloc (.cells #[.int .i64 a, .int .i64 s, .int .i64 l, .int .i64 u] 52)) U la ln lc (leftU (ts.take k)) sa sn sc (endsU (ts.take k)) → Blk (wr.alloc (.cells #[.int .i64 a, .int .i64 s, .int .i64 l, .int .i64 u] 52)) U 72 [.slice va L vc, .slice la ln lc, .slice sa sn sc] → (∀ b, (Value.slice la ln lc).ownBlock = some b → b ≠ wr.heap.size) ∧ (∀ b, (Value.slice sa sn sc).ownBlock = some b → b ≠ wr.heap.size)) from fun la ln lc sa sn sc h1 h2 => by
        have e2 : (Value.slice la ln lc) = .slice la0 ln0 lc0 := Option.some.inj (h2.c1.symm.trans (hBr.same hA).c1)
        have e3 : (Value.slice sa sn sc) = .slice sa0 sn0 sc0 := Option.some.inj (h2.c2.symm.trans (hBr.same hA).c2)
        rw [e2, e3]
        exact ⟨fun b hb e => by have := hPr.own4.lt b hb; omega, fun b hb e => by have := hPr.own3.lt b hb; omega⟩)
      clear hq hPr hBr hA HUr HZr
      go_upto_region 7 with fail
      obtain ⟨E, hE⟩ : ∃ E, wr.heap.size = E := ⟨_, rfl⟩
      rw [hE] at HE hUl HOLD ⊢
      generalize wr.alloc (.cells #[.int .i64 a, .int .i64 s, .int .i64 l, .int .i64 u] 52) = w5 at *
      obtain ⟨e0, e1, e2, e3⟩ := HE.out.all4
      have fe := HE.out.frozen
      have hEl := HE.out.lt
      clear hE d0 d1 d2 d3
      by_cases hs : s = 2
      · have hs' : (s == 2) = true := by simp [hs]
        have HDE : Hid (doneE (a, s, l, u) = (a, s, l, 0)) := by unfold Hid doneE; simp [hs]
        rw [HDE.out] at HKL
        clear hs HDE
        have hk6 : Kept (fun b => b = E) w5 (w5.setCell ⟨E, 3, none⟩ (.int .i64 0)) := Kept.setCell (R := fun b => b = E) (Kept.refl _ _) (p := ⟨E, 3, none⟩) (.inr rfl) _
        have HU6 := (show Hid (UgE w (w5.setCell ⟨E, 3, none⟩ (.int .i64 0)) U (.slice va L vc) (leftU (ts.take k)) (endsU (ts.take k))) from by
          obtain ⟨la, ln, lc, sa, sn, sc, h1, h2⟩ := HU5.out
          exact ⟨la, ln, lc, sa, sn, sc, h1.far hk6 (fun b hb e => by have := HOLD.out la ln lc sa sn sc h1 h2; exact absurd e (this.1 b hb)) (fun b hb e => by have := HOLD.out la ln lc sa sn sc h1 h2; exact absurd e (this.2 b hb)) (by omega), h2.kept hk6 (by omega)⟩)
        have HZ6 := hid (HZ5.out.kept hk6 (by omega))
        have HE6 := (show Hid (Blk (w5.setCell ⟨E, 3, none⟩ (.int .i64 0)) E 52 [.int .i64 a, .int .i64 s, .int .i64 l, .int .i64 0]) from HE.out.stored 3 _)
        clear hk6 HU5 HZ5
        go_upto_region 9 with fail
        generalize w5.setCell ⟨E, 3, none⟩ (.int .i64 0) = w6 at *
        clear e0 e1 e2 e3 fe
        obtain ⟨e0, e1, e2, e3⟩ := HE6.out.all4
        have kk := keep_any w U (.slice va L vc) (leftU (ts.take k)) (endsU (ts.take k)) (a, s, l, 0) w6 HU6.out (by omega) (by omega)
        dsimp only [enV] at kk
        rw [HKL.out.1, HKL.out.2] at kk
        go_wp2_with fail
        refine kk.mono ?_
        rintro ee w7 ⟨rfl, hU7, hk7⟩
        have HU7 := hid hU7
        have HZ7 := hid (HZ6.out.kept hk7 (by omega))
        clear hU7 hk7 kk
        go_wp2
        go_roundw
        case rel => exact ⟨k + 1, by omega, by go_num, HU7, HZ7⟩
        case measure => simp [intOf]; omega
      · have hs' : (s == 2) = false := by simp [hs]
        have HDE : Hid (doneE (a, s, l, u) = (a, s, l, u)) := by unfold Hid doneE; simp [hs]
        rw [HDE.out] at HKL
        clear hs HDE
        have kk := keep_any w U (.slice va L vc) (leftU (ts.take k)) (endsU (ts.take k)) (a, s, l, u) w5 HU5.out (by omega) (by omega)
        dsimp only [enV] at kk
        rw [HKL.out.1, HKL.out.2] at kk
        go_wp2_with fail
        refine kk.mono ?_
        rintro ee w7 ⟨rfl, hU7, hk7⟩
        have HU7 := hid hU7
        have HZ7 := hid (HZ5.out.kept hk7 (by omega))
        clear hU7 hk7 kk
        go_wp2
        go_roundw
        case rel => exact ⟨k + 1, by omega, by go_num, HU7, HZ7⟩
        case measure => simp [intOf]; omega
    · as_aux_lemma =>
      obtain rfl : n = k := by omega
      have htk : ts.take n = ts := by rw [← HL.out, List.take_length]
      rw [htk] at HUr
      clear htk
      have hln0 : (leftU ts).length ≤ 8 := by have h2 := leftU_len ts; rw [HL.out] at h2; omega
      have hsn0 : (endsU ts).length ≤ 8 := by have h2 := endsU_len ts; rw [HL.out] at h2; omega
      go_wp2_with fail
      go_loopw [46] (fun _ wx => ∃ (left : List Q4) (st : List U3) (f : Nat), left.length ≤ 8 ∧ st.length + 2 * f ≤ 8 + 2 * FU ∧ Hid (mu FS left ≤ f) ∧ Hid (planP FS f left st = (C, S3)) ∧ Hid (UgE w wx U (.slice va L vc) left st) ∧ Hid (Blk wx w.heap.size 28 [.int .i64 0, .slice none 0 0])) (fun _ wx => muU FS wx U)
      case atStart => exact ⟨leftU ts, endsU ts, FU, hln0, by omega, HMU, HPM, HUr, HZr⟩
      case round =>
        as_aux_lemma =>
        clear HUr HZr HMU HPM hln0 hsn0
        obtain ⟨left, st, f, hlb, hsb, HMU, HPM, HUr, HZr⟩ := hrel
        obtain ⟨la, ln, lc, sa, sn, sc, hPr, hBr⟩ := HUr.out
        have HLN := hid hPr.len4
        have hU1 := hBr.c1
        have hU2 := hBr.c2
        have HMW := hid (HUr.out.muU FS)
        have hUl := hBr.lt
        have hUw := hPr.low
        by_cases h0 : 0 < ln
        · have hp0 : 0 < left.length := by rw [HLN.out]; exact h0
          have h0' : (0 : Int) < (ln : Int) := by omega
          obtain ⟨f, rfl⟩ : ∃ f', f = f' + 1 := ⟨f - 1, by have := mu_pos (fs := FS) hp0; have := HMU.out; omega⟩
          clear hPr hBr
          obtain ⟨w6, hw6⟩ : ∃ w6, w6 = wr := ⟨_, rfl⟩
          subst hw6
          have kt := takeG_any w U (.slice va L vc) left st w6 HUr.out hp0 (by omega)
          obtain ⟨⟨a, s, l, u⟩, hq⟩ : ∃ q, left.getD (gmx left) q4z = q := ⟨_, rfl⟩
          rw [hq] at kt
          dsimp only [enV] at kt
          have HQ := hid hq
          clear hq
          go_wp2_with fail
          refine kt.mono ?_
          rintro ee w7 ⟨rfl, hU7, hk7⟩
          have HZ7 := hid (HZr.out.kept hk7 (by omega))
          have kg := goBack_any w U va vc L ps (left.eraseIdx (gmx left)) st (a, s, l, u) w7 HLL.out hLb HV.out (by rw [HFS.out]; exact HB1'.out) hU7 (by have := List.length_eraseIdx_le left (gmx left); omega) (by omega)
          rw [HFS.out] at kg
          dsimp only [enV] at kg
          have HK7 := (show Hid (Same w w7) from by obtain ⟨_, _, _, _, _, _, h1, _⟩ := hU7; exact h1.keep)
          clear hU7 hk7 kt hU1 hU2 HUr HZr
          go_wp2_with fail
          refine kg.mono ?_
          rintro ee w8 ⟨hk8, hg8⟩
          have HZ8 := hid (HZ7.out.kept hk8 (by omega))
          have HK8 := (show Hid (Same w w8) from HK7.out.next hk8 (fun b hb e => by omega))
          clear kg hk8 HZ7 HK7
          rcases hg8 with ⟨hno, rfl⟩ | ⟨ss, nx, hst, rfl, hU8⟩
          · have HNO := (show Hid (C = 1 ∧ S3 = []) from by
              have hp := HPM.out
              rw [planP_step hp0, HQ.out, hno] at hp
              injection hp with h1 h2
              exact ⟨h1.symm, h2.symm⟩)
            clear hno
            obtain ⟨r0, r1⟩ := HZ8.out.all2
            have fr := HZ8.out.frozen
            have lr := HZ8.out.lt
            go_wp2
            refine bodyPost_ret (v := .agg #[.int .i64 1, .slice none 0 0]) (by simp [results, Try.results9, go_sem, r0, r1]) rfl ⟨⟨1, ⟨54, none, 0, 0, []⟩⟩, rfl, ?_, ?_, ?_, ?_⟩
            · rw [HRC.out, HNO.out.1, HNO.out.2]; rfl
            · intro b hb
              have h := (FootL_one _ _).1 hb
              simp [FR.v, Value.ownBlock] at h
            · exact (OwQ.nil 3 _ _).rows
            · (iterate 2 refine Kept.setCell ?_ (.inl (Nat.le_refl _)) _)
              exact HK8.out
          · have hgo := planP_go (fs := FS) (n := f) (st := st) (ss := ss) (nx := nx) hp0 (by rw [HQ.out]; exact hst)
            rw [HQ.out] at hgo
            obtain ⟨hg1, hg2, hg3, hg4⟩ := hgo
            have HP8 := hid (hg1.symm.trans HPM.out)
            have HU8 := hid hU8
            have HG2 := hid hg2
            have HM8 : Hid (mu FS (keepL (updU (a, s, l, u) nx) (left.eraseIdx (gmx left))) ≤ f) := by unfold Hid; have := HMU.out; omega
            clear hst hU8 hg1 hg2
            obtain ⟨left2, hl2⟩ : ∃ X, keepL (updU (a, s, l, u) nx) (left.eraseIdx (gmx left)) = X := ⟨_, rfl⟩
            obtain ⟨st2, hs2⟩ : ∃ X, keepS (updU (a, s, l, u) nx) (st ++ ss) = X := ⟨_, rfl⟩
            rw [hl2] at HP8 HU8 HG2 HM8 hg3
            rw [hs2] at HP8 HU8 hg4
            clear hl2 hs2
            go_wp2
            go_roundw
            case rel => exact ⟨left2, st2, f, by omega, by omega, HM8, HP8, HU8, HZ8⟩
            case measure => rw [HU8.out.muU FS, HMW.out]; exact HG2.out
        · obtain rfl : ln = 0 := by omega
          have hln0 : left = [] := List.length_eq_zero_iff.1 HLN.out
          subst hln0
          have HCS : Hid (C = 0 ∧ S3 = st) := by
            have h := HPM.out
            have h2 : planP FS f [] st = (0, st) := by cases f <;> rfl
            rw [h2] at h
            injection h with h3 h4
            exact ⟨h3.symm, h4.symm⟩
          have HPr := hid hPr
          have HBr := hid hBr
          clear hPr hBr HUr
          obtain ⟨r0, r1⟩ := HZr.out.all2
          have fr := HZr.out.frozen
          have lr := HZr.out.lt
          go_wp2
          refine bodyPost_ret (v := .agg #[.int .i64 0, .slice sa sn sc]) (by simp [results, Try.results9, go_sem, r0, r1]) rfl ⟨⟨0, ⟨54, sa, sn, sc, flat3U st⟩⟩, rfl, ?_, ?_, ?_, ?_⟩
          · rw [HRC.out, HCS.out.1, HCS.out.2]; rfl
          · intro b hb
            have h := HPr.out.f3 b ((FootL_one _ _).1 hb)
            omega
          · refine (OwQ.rows (HPr.out.own3.kept (R := fun b => b = w.heap.size) ?_ (fun b hb e => by have := HPr.out.f3 b hb; omega)))
            (iterate 2 refine Kept.setCell (R := fun b => b = w.heap.size) ?_ (.inr rfl) _)
            exact Kept.refl _ _
          · (iterate 2 refine Kept.setCell ?_ (.inl (Nat.le_refl _)) _)
            exact HPr.out.keep
end Go.Proofs.Ythbocacnfhpidaa

namespace Go.Proofs.Ythbocacnfhpidaa
set_option maxRecDepth 100000
set_option maxHeartbeats 8000000
open Go Go.RowKit
set_option linter.unusedVariables false
set_option linter.unusedSimpArgs false
theorem eqLogFrameS_own (va vb : Value) (ps qs : List StLogFrame) (w : World) (hn : ps.length ≤ 1125899906842624) (hs : datFr ps = datFr qs) (hsm : ∀ p ∈ ps, p.size ≤ 1125899906842624)
    (ha : OwnFr w va ps) (hb : OwnFr w vb qs) :
    Calls Try.prog 11 #[va, vb] w fun e w' => e = .returned (.bool true) ∧ Same w w' := by
  have hlen : qs.length = ps.length := by rw [← datFr_length, ← datFr_length, hs]
  by_cases hz : ps.length = 0
  · obtain rfl : ps = [] := List.length_eq_zero_iff.1 hz
    obtain rfl : qs = [] := List.length_eq_zero_iff.1 hlen
    obtain ⟨aa, ca, rfl⟩ : ∃ aa ca, va = .slice aa 0 ca := by rcases ha.own.form with ⟨rfl, _⟩ | ⟨g, cap, rfl, _⟩ <;> exact ⟨_, _, rfl⟩
    obtain ⟨ab, cb, rfl⟩ : ∃ aa ca, vb = .slice aa 0 ca := by rcases hb.own.form with ⟨rfl, _⟩ | ⟨g, cap, rfl, _⟩ <;> exact ⟨_, _, rfl⟩
    clear ha hb hn hz hs
    go_enter Try.func11, Try.ntmps11
    go_wp2
    refine wp_loop_rounds 1 ?_
    rw [rounds_succ]
    go_wp2
    go_ret
    exact ⟨rfl, Kept.refl _ _⟩
  · obtain ⟨ga, ca, rfl⟩ : ∃ g cap, va = .slice (some ⟨g, 0, none⟩) ps.length cap := by
      rcases ha.own.form with ⟨_, h⟩ | ⟨g, cap, h, _⟩
      · simp [h] at hz
      · exact ⟨g, cap, h⟩
    obtain ⟨gb, cb, rfl⟩ : ∃ g cap, vb = .slice (some ⟨g, 0, none⟩) ps.length cap := by
      rcases hb.own.form with ⟨_, h⟩ | ⟨g, cap, h, _⟩
      · simp [h] at hlen; omega
      · exact ⟨g, cap, by rw [h, hlen]⟩
    have HA := hid ha
    have HB := hid hb
    have HQ : Hid (qs.length = ps.length) := hlen
    have HS : Hid (datFr ps = datFr qs) := hs
    have HM : Hid (∀ p ∈ ps, p.size ≤ 1125899906842624) := hsm
    clear ha hb hs hlen hsm
    generalize hl : ps.length = len at hn hz HA HB ⊢
    have HL : Hid (ps.length = len) := hl
    clear hl
    go_enter Try.func11, Try.ntmps11
    go_wp2
    go_loopw [5] (fun i wr => ∃ (k : Nat), k ≤ len ∧ i = .int .i64 k ∧ Hid (Same w wr)) (fun i _ => len - (intOf i).toNat)
    case atStart => exact ⟨0, Nat.zero_le _, rfl, Kept.refl _ _⟩
    case round =>
      obtain ⟨k, hk, rfl, HK⟩ := hrel
      by_cases hlt : k < len
      · have hlp : k < ps.length := by rw [HL.out]; exact hlt
        have hlq : k < qs.length := by rw [HQ.out]; exact hlp
        have hoa := (HA.out.same HK.out).own
        have hob := (HB.out.same HK.out).own
        have hdd := datFr_at HS.out k hlp hlq
        have s3 := HM.out _ (List.getElem_mem hlp)
        have hra := (HA.out.same HK.out).rows.mem _ (List.getElem_mem hlp)
        have hrb := (HB.out.same HK.out).rows.mem _ (List.getElem_mem hlq)
        obtain ⟨P, hP⟩ : ∃ P, ps[k] = P := ⟨_, rfl⟩
        obtain ⟨Q, hQ⟩ : ∃ Q, qs[k] = Q := ⟨_, rfl⟩
        rw [hP] at hdd s3 hra
        rw [hQ] at hdd hrb
        have ha0 : wr.cell? ⟨ga, k * 16, none⟩ = some (.int .i64 P.lsn) := by have h := hoa.cell HL.out.symm k 0 hlp (by decide); rw [hP] at h; exact h
        have ha1 : wr.cell? ⟨ga, k * 16 + 1, none⟩ = some (.int .i64 P.epoch) := by have h := hoa.cell HL.out.symm k 1 hlp (by decide); rw [hP] at h; exact h
        have ha2 : wr.cell? ⟨ga, k * 16 + 2, none⟩ = some (.int .i64 P.record.kind) := by have h := hoa.cell HL.out.symm k 2 hlp (by decide); rw [hP] at h; exact h
        have ha3 : wr.cell? ⟨ga, k * 16 + 3, none⟩ = some (.int .i64 P.record.txn) := by have h := hoa.cell HL.out.symm k 3 hlp (by decide); rw [hP] at h; exact h
        have ha4 : wr.cell? ⟨ga, k * 16 + 4, none⟩ = some (.int .i64 P.record.prev) := by have h := hoa.cell HL.out.symm k 4 hlp (by decide); rw [hP] at h; exact h
        have ha5 : wr.cell? ⟨ga, k * 16 + 5, none⟩ = some (.int .i64 P.record.page) := by have h := hoa.cell HL.out.symm k 5 hlp (by decide); rw [hP] at h; exact h
        have ha6 : wr.cell? ⟨ga, k * 16 + 6, none⟩ = some (.int .i64 P.record.slot) := by have h := hoa.cell HL.out.symm k 6 hlp (by decide); rw [hP] at h; exact h
        have ha7 : wr.cell? ⟨ga, k * 16 + 7, none⟩ = some (.bool P.record.before.used) := by have h := hoa.cell HL.out.symm k 7 hlp (by decide); rw [hP] at h; exact h
        have ha8 : wr.cell? ⟨ga, k * 16 + 8, none⟩ = some (P.record.before.data.v) := by have h := hoa.cell HL.out.symm k 8 hlp (by decide); rw [hP] at h; exact h
        have ha9 : wr.cell? ⟨ga, k * 16 + 9, none⟩ = some (.bool P.record.after.used) := by have h := hoa.cell HL.out.symm k 9 hlp (by decide); rw [hP] at h; exact h
        have ha10 : wr.cell? ⟨ga, k * 16 + 10, none⟩ = some (P.record.after.data.v) := by have h := hoa.cell HL.out.symm k 10 hlp (by decide); rw [hP] at h; exact h
        have ha11 : wr.cell? ⟨ga, k * 16 + 11, none⟩ = some (.int .i64 P.record.uN) := by have h := hoa.cell HL.out.symm k 11 hlp (by decide); rw [hP] at h; exact h
        have ha12 : wr.cell? ⟨ga, k * 16 + 12, none⟩ = some (.int .i64 P.record.nT) := by have h := hoa.cell HL.out.symm k 12 hlp (by decide); rw [hP] at h; exact h
        have ha13 : wr.cell? ⟨ga, k * 16 + 13, none⟩ = some (P.record.txns.v) := by have h := hoa.cell HL.out.symm k 13 hlp (by decide); rw [hP] at h; exact h
        have ha14 : wr.cell? ⟨ga, k * 16 + 14, none⟩ = some (P.record.dirty.v) := by have h := hoa.cell HL.out.symm k 14 hlp (by decide); rw [hP] at h; exact h
        have ha15 : wr.cell? ⟨ga, k * 16 + 15, none⟩ = some (P.record.image.v) := by have h := hoa.cell HL.out.symm k 15 hlp (by decide); rw [hP] at h; exact h
        have hb0 : wr.cell? ⟨gb, k * 16, none⟩ = some (.int .i64 Q.lsn) := by have h := hob.cell (by rw [HQ.out, HL.out]) k 0 hlq (by decide); rw [hQ] at h; exact h
        have hb1 : wr.cell? ⟨gb, k * 16 + 1, none⟩ = some (.int .i64 Q.epoch) := by have h := hob.cell (by rw [HQ.out, HL.out]) k 1 hlq (by decide); rw [hQ] at h; exact h
        have hb2 : wr.cell? ⟨gb, k * 16 + 2, none⟩ = some (.int .i64 Q.record.kind) := by have h := hob.cell (by rw [HQ.out, HL.out]) k 2 hlq (by decide); rw [hQ] at h; exact h
        have hb3 : wr.cell? ⟨gb, k * 16 + 3, none⟩ = some (.int .i64 Q.record.txn) := by have h := hob.cell (by rw [HQ.out, HL.out]) k 3 hlq (by decide); rw [hQ] at h; exact h
        have hb4 : wr.cell? ⟨gb, k * 16 + 4, none⟩ = some (.int .i64 Q.record.prev) := by have h := hob.cell (by rw [HQ.out, HL.out]) k 4 hlq (by decide); rw [hQ] at h; exact h
        have hb5 : wr.cell? ⟨gb, k * 16 + 5, none⟩ = some (.int .i64 Q.record.page) := by have h := hob.cell (by rw [HQ.out, HL.out]) k 5 hlq (by decide); rw [hQ] at h; exact h
        have hb6 : wr.cell? ⟨gb, k * 16 + 6, none⟩ = some (.int .i64 Q.record.slot) := by have h := hob.cell (by rw [HQ.out, HL.out]) k 6 hlq (by decide); rw [hQ] at h; exact h
        have hb7 : wr.cell? ⟨gb, k * 16 + 7, none⟩ = some (.bool Q.record.before.used) := by have h := hob.cell (by rw [HQ.out, HL.out]) k 7 hlq (by decide); rw [hQ] at h; exact h
        have hb8 : wr.cell? ⟨gb, k * 16 + 8, none⟩ = some (Q.record.before.data.v) := by have h := hob.cell (by rw [HQ.out, HL.out]) k 8 hlq (by decide); rw [hQ] at h; exact h
        have hb9 : wr.cell? ⟨gb, k * 16 + 9, none⟩ = some (.bool Q.record.after.used) := by have h := hob.cell (by rw [HQ.out, HL.out]) k 9 hlq (by decide); rw [hQ] at h; exact h
        have hb10 : wr.cell? ⟨gb, k * 16 + 10, none⟩ = some (Q.record.after.data.v) := by have h := hob.cell (by rw [HQ.out, HL.out]) k 10 hlq (by decide); rw [hQ] at h; exact h
        have hb11 : wr.cell? ⟨gb, k * 16 + 11, none⟩ = some (.int .i64 Q.record.uN) := by have h := hob.cell (by rw [HQ.out, HL.out]) k 11 hlq (by decide); rw [hQ] at h; exact h
        have hb12 : wr.cell? ⟨gb, k * 16 + 12, none⟩ = some (.int .i64 Q.record.nT) := by have h := hob.cell (by rw [HQ.out, HL.out]) k 12 hlq (by decide); rw [hQ] at h; exact h
        have hb13 : wr.cell? ⟨gb, k * 16 + 13, none⟩ = some (Q.record.txns.v) := by have h := hob.cell (by rw [HQ.out, HL.out]) k 13 hlq (by decide); rw [hQ] at h; exact h
        have hb14 : wr.cell? ⟨gb, k * 16 + 14, none⟩ = some (Q.record.dirty.v) := by have h := hob.cell (by rw [HQ.out, HL.out]) k 14 hlq (by decide); rw [hQ] at h; exact h
        have hb15 : wr.cell? ⟨gb, k * 16 + 15, none⟩ = some (Q.record.image.v) := by have h := hob.cell (by rw [HQ.out, HL.out]) k 15 hlq (by decide); rw [hQ] at h; exact h
        have HD := hid hdd
        have HS3 := hid s3
        have HDA := hid hra
        have HDB := hid hrb
        clear hoa hob hdd hra hrb s3 hP hQ
        go_wp2_with fail
        have hS : (fun wx : World => (wx.cell? ⟨ga, k * 16, none⟩ = some (.int .i64 P.lsn) ∧ wx.cell? ⟨ga, k * 16 + 1, none⟩ = some (.int .i64 P.epoch) ∧ wx.cell? ⟨ga, k * 16 + 2, none⟩ = some (.int .i64 P.record.kind) ∧ wx.cell? ⟨ga, k * 16 + 3, none⟩ = some (.int .i64 P.record.txn) ∧ wx.cell? ⟨ga, k * 16 + 4, none⟩ = some (.int .i64 P.record.prev) ∧ wx.cell? ⟨ga, k * 16 + 5, none⟩ = some (.int .i64 P.record.page) ∧ wx.cell? ⟨ga, k * 16 + 6, none⟩ = some (.int .i64 P.record.slot) ∧ wx.cell? ⟨ga, k * 16 + 7, none⟩ = some (.bool P.record.before.used) ∧ wx.cell? ⟨ga, k * 16 + 8, none⟩ = some (P.record.before.data.v) ∧ wx.cell? ⟨ga, k * 16 + 9, none⟩ = some (.bool P.record.after.used) ∧ wx.cell? ⟨ga, k * 16 + 10, none⟩ = some (P.record.after.data.v) ∧ wx.cell? ⟨ga, k * 16 + 11, none⟩ = some (.int .i64 P.record.uN) ∧ wx.cell? ⟨ga, k * 16 + 12, none⟩ = some (.int .i64 P.record.nT) ∧ wx.cell? ⟨ga, k * 16 + 13, none⟩ = some (P.record.txns.v) ∧ wx.cell? ⟨ga, k * 16 + 14, none⟩ = some (P.record.dirty.v) ∧ wx.cell? ⟨ga, k * 16 + 15, none⟩ = some (P.record.image.v)) ∧ (wx.cell? ⟨gb, k * 16, none⟩ = some (.int .i64 Q.lsn) ∧ wx.cell? ⟨gb, k * 16 + 1, none⟩ = some (.int .i64 Q.epoch) ∧ wx.cell? ⟨gb, k * 16 + 2, none⟩ = some (.int .i64 Q.record.kind) ∧ wx.cell? ⟨gb, k * 16 + 3, none⟩ = some (.int .i64 Q.record.txn) ∧ wx.cell? ⟨gb, k * 16 + 4, none⟩ = some (.int .i64 Q.record.prev) ∧ wx.cell? ⟨gb, k * 16 + 5, none⟩ = some (.int .i64 Q.record.page) ∧ wx.cell? ⟨gb, k * 16 + 6, none⟩ = some (.int .i64 Q.record.slot) ∧ wx.cell? ⟨gb, k * 16 + 7, none⟩ = some (.bool Q.record.before.used) ∧ wx.cell? ⟨gb, k * 16 + 8, none⟩ = some (Q.record.before.data.v) ∧ wx.cell? ⟨gb, k * 16 + 9, none⟩ = some (.bool Q.record.after.used) ∧ wx.cell? ⟨gb, k * 16 + 10, none⟩ = some (Q.record.after.data.v) ∧ wx.cell? ⟨gb, k * 16 + 11, none⟩ = some (.int .i64 Q.record.uN) ∧ wx.cell? ⟨gb, k * 16 + 12, none⟩ = some (.int .i64 Q.record.nT) ∧ wx.cell? ⟨gb, k * 16 + 13, none⟩ = some (Q.record.txns.v) ∧ wx.cell? ⟨gb, k * 16 + 14, none⟩ = some (Q.record.dirty.v) ∧ wx.cell? ⟨gb, k * 16 + 15, none⟩ = some (Q.record.image.v))) wr.drew := ⟨⟨ha0, ha1, ha2, ha3, ha4, ha5, ha6, ha7, ha8, ha9, ha10, ha11, ha12, ha13, ha14, ha15⟩, ⟨hb0, hb1, hb2, hb3, hb4, hb5, hb6, hb7, hb8, hb9, hb10, hb11, hb12, hb13, hb14, hb15⟩⟩
        refine wp_region_V (fun wx : World => (wx.cell? ⟨ga, k * 16, none⟩ = some (.int .i64 P.lsn) ∧ wx.cell? ⟨ga, k * 16 + 1, none⟩ = some (.int .i64 P.epoch) ∧ wx.cell? ⟨ga, k * 16 + 2, none⟩ = some (.int .i64 P.record.kind) ∧ wx.cell? ⟨ga, k * 16 + 3, none⟩ = some (.int .i64 P.record.txn) ∧ wx.cell? ⟨ga, k * 16 + 4, none⟩ = some (.int .i64 P.record.prev) ∧ wx.cell? ⟨ga, k * 16 + 5, none⟩ = some (.int .i64 P.record.page) ∧ wx.cell? ⟨ga, k * 16 + 6, none⟩ = some (.int .i64 P.record.slot) ∧ wx.cell? ⟨ga, k * 16 + 7, none⟩ = some (.bool P.record.before.used) ∧ wx.cell? ⟨ga, k * 16 + 8, none⟩ = some (P.record.before.data.v) ∧ wx.cell? ⟨ga, k * 16 + 9, none⟩ = some (.bool P.record.after.used) ∧ wx.cell? ⟨ga, k * 16 + 10, none⟩ = some (P.record.after.data.v) ∧ wx.cell? ⟨ga, k * 16 + 11, none⟩ = some (.int .i64 P.record.uN) ∧ wx.cell? ⟨ga, k * 16 + 12, none⟩ = some (.int .i64 P.record.nT) ∧ wx.cell? ⟨ga, k * 16 + 13, none⟩ = some (P.record.txns.v) ∧ wx.cell? ⟨ga, k * 16 + 14, none⟩ = some (P.record.dirty.v) ∧ wx.cell? ⟨ga, k * 16 + 15, none⟩ = some (P.record.image.v)) ∧ (wx.cell? ⟨gb, k * 16, none⟩ = some (.int .i64 Q.lsn) ∧ wx.cell? ⟨gb, k * 16 + 1, none⟩ = some (.int .i64 Q.epoch) ∧ wx.cell? ⟨gb, k * 16 + 2, none⟩ = some (.int .i64 Q.record.kind) ∧ wx.cell? ⟨gb, k * 16 + 3, none⟩ = some (.int .i64 Q.record.txn) ∧ wx.cell? ⟨gb, k * 16 + 4, none⟩ = some (.int .i64 Q.record.prev) ∧ wx.cell? ⟨gb, k * 16 + 5, none⟩ = some (.int .i64 Q.record.page) ∧ wx.cell? ⟨gb, k * 16 + 6, none⟩ = some (.int .i64 Q.record.slot) ∧ wx.cell? ⟨gb, k * 16 + 7, none⟩ = some (.bool Q.record.before.used) ∧ wx.cell? ⟨gb, k * 16 + 8, none⟩ = some (Q.record.before.data.v) ∧ wx.cell? ⟨gb, k * 16 + 9, none⟩ = some (.bool Q.record.after.used) ∧ wx.cell? ⟨gb, k * 16 + 10, none⟩ = some (Q.record.after.data.v) ∧ wx.cell? ⟨gb, k * 16 + 11, none⟩ = some (.int .i64 Q.record.uN) ∧ wx.cell? ⟨gb, k * 16 + 12, none⟩ = some (.int .i64 Q.record.nT) ∧ wx.cell? ⟨gb, k * 16 + 13, none⟩ = some (Q.record.txns.v) ∧ wx.cell? ⟨gb, k * 16 + 14, none⟩ = some (Q.record.dirty.v) ∧ wx.cell? ⟨gb, k * 16 + 15, none⟩ = some (Q.record.image.v))) 99 10 rfl (by kernel_rfl) ?_
        refine tk 0 17 hS ?_
        refine tk 1 18 hS ?_
        refine tkV 2 19 (.pointer (some ⟨ga, k * 16, none⟩)) hS ?_
        refine tk 3 20 hS ?_
        refine tk 4 21 hS ?_
        refine tk 5 22 hS ?_
        refine tkV 6 23 (.pointer (some ⟨gb, k * 16, none⟩)) hS ?_
        refine tk 7 24 hS ?_
        refine wpAnyV_one (i := 8) (by kernel_rfl) rfl (fun K hK => ?_)
        go_simp
        refine (eqLogFrame_own P Q _ HS3.out HD.out (HDA.out.same (Kept.refl _ _).drew) (HDB.out.same (Kept.refl _ _).drew)).mono ?_
        rintro e w1 ⟨rfl, hk1⟩
        have HK1 : Hid (Same w w1) := HK.out.drew.trans hk1
        have HK7 : Hid (Same wr w1) := (Kept.refl _ _).drew.trans hk1
        refine hK.out _ _ (fun _ => ⟨⟨(HK7.out.cellOf ha0 id), (HK7.out.cellOf ha1 id), (HK7.out.cellOf ha2 id), (HK7.out.cellOf ha3 id), (HK7.out.cellOf ha4 id), (HK7.out.cellOf ha5 id), (HK7.out.cellOf ha6 id), (HK7.out.cellOf ha7 id), (HK7.out.cellOf ha8 id), (HK7.out.cellOf ha9 id), (HK7.out.cellOf ha10 id), (HK7.out.cellOf ha11 id), (HK7.out.cellOf ha12 id), (HK7.out.cellOf ha13 id), (HK7.out.cellOf ha14 id), (HK7.out.cellOf ha15 id)⟩, ⟨(HK7.out.cellOf hb0 id), (HK7.out.cellOf hb1 id), (HK7.out.cellOf hb2 id), (HK7.out.cellOf hb3 id), (HK7.out.cellOf hb4 id), (HK7.out.cellOf hb5 id), (HK7.out.cellOf hb6 id), (HK7.out.cellOf hb7 id), (HK7.out.cellOf hb8 id), (HK7.out.cellOf hb9 id), (HK7.out.cellOf hb10 id), (HK7.out.cellOf hb11 id), (HK7.out.cellOf hb12 id), (HK7.out.cellOf hb13 id), (HK7.out.cellOf hb14 id), (HK7.out.cellOf hb15 id)⟩⟩) ?_
        clear hK K
        try simp only [Act.put, sA, s0, sS]
        refine wpAnyV_one (i := 9) (by kernel_rfl) rfl (fun K hK => ?_)
        go_simp
        refine hK.out _ _ (fun h => ⟨⟨(HK7.out.cellOf ha0 id), (HK7.out.cellOf ha1 id), (HK7.out.cellOf ha2 id), (HK7.out.cellOf ha3 id), (HK7.out.cellOf ha4 id), (HK7.out.cellOf ha5 id), (HK7.out.cellOf ha6 id), (HK7.out.cellOf ha7 id), (HK7.out.cellOf ha8 id), (HK7.out.cellOf ha9 id), (HK7.out.cellOf ha10 id), (HK7.out.cellOf ha11 id), (HK7.out.cellOf ha12 id), (HK7.out.cellOf ha13 id), (HK7.out.cellOf ha14 id), (HK7.out.cellOf ha15 id)⟩, ⟨(HK7.out.cellOf hb0 id), (HK7.out.cellOf hb1 id), (HK7.out.cellOf hb2 id), (HK7.out.cellOf hb3 id), (HK7.out.cellOf hb4 id), (HK7.out.cellOf hb5 id), (HK7.out.cellOf hb6 id), (HK7.out.cellOf hb7 id), (HK7.out.cellOf hb8 id), (HK7.out.cellOf hb9 id), (HK7.out.cellOf hb10 id), (HK7.out.cellOf hb11 id), (HK7.out.cellOf hb12 id), (HK7.out.cellOf hb13 id), (HK7.out.cellOf hb14 id), (HK7.out.cellOf hb15 id)⟩⟩) ?_
        clear hK K hk1
        try simp only [Act.put, sA, s0, sS]
        refine wpAnyV_done (by kernel_rfl) ?_
        go_wp2
        go_roundw
        case rel => exact ⟨k + 1, by omega, by go_num, HK1⟩
        case measure => simp [intOf]; omega
      · go_wp2
        go_ret
        exact ⟨rfl, HK.out⟩
end Go.Proofs.Ythbocacnfhpidaa

namespace Go.Proofs.Ythbocacnfhpidaa
set_option maxRecDepth 100000
set_option maxHeartbeats 8000000
open Go Go.RowKit
set_option linter.unusedVariables false
set_option linter.unusedSimpArgs false
theorem szLogFrameS_any (v : Value) (ps : List StLogFrame) (left : Int) (w : World) (h0 : 0 ≤ left) (h1 : left ≤ 1048576) (hp : RdFr w v ps) :
    Calls Try.prog 4 #[v, .int .i64 left] w fun e w' => ∃ r : Int, e = .returned (.int .i64 r) ∧ (r = -1 ∨ (r = left - ps.length - sizeFr ps ∧ 0 ≤ r)) ∧ Same w w' := by
  have hn := hp.row.max
  unfold maxLen at hn
  rcases hp.row.row with ⟨rfl, a, c, rfl⟩ | ⟨b, off, c, rfl, hc⟩
  · clear hp hn
    go_enter Try.func4, Try.ntmps4
    go_wp2
    refine wp_loop_rounds 1 ?_
    rw [rounds_succ]
    go_wp2
    go_ret
    exact ⟨_, rfl, .inr ⟨by simp [sizeFr], by omega⟩, Kept.refl _ _⟩
  · have HP := hid hp
    have HC : Hid (∀ j i, (h : j < ps.length) → i < 16 → w.cell? ⟨b, off + (j * 16 + i), none⟩ = (kFr.cells ps[j])[i]?) := hc
    clear hp hc
    generalize hl : ps.length = len at hn HP ⊢
    have HL : Hid (ps.length = len) := hl
    clear hl
    by_cases h : left < len
    · go_enter Try.func4, Try.ntmps4
      go_wp2
      go_ret
      exact ⟨_, rfl, .inl rfl, Kept.refl _ _⟩
    · go_enter Try.func4, Try.ntmps4
      go_wp2
      go_loopw [1, 5] (fun u i wr => ∃ (k : Nat) (r : Int), k ≤ len ∧ i = .int .i64 k ∧ u = .int .i64 r ∧ 0 ≤ r ∧ r ≤ left ∧ Hid (r = left - len - sizeFr (ps.take k)) ∧ Hid (Same w wr)) (fun _ i _ => len - (intOf i).toNat)
      case atStart => exact ⟨0, left - len, Nat.zero_le _, rfl, rfl, by omega, by omega, by simp [sizeFr, Hid], Kept.refl _ _⟩
      case round =>
        obtain ⟨k, r, hk, rfl, rfl, hr0, hr1, HR, HK⟩ := hrel
        by_cases hlt : k < len
        · have hlp : k < ps.length := by rw [HL.out]; exact hlt
          have HST := hid (sizeFr_step ps k hlp)
          have hrd := (HP.out.data _ (List.getElem_mem hlp)).same HK.out
          obtain ⟨P, hP⟩ : ∃ P, ps[k] = P := ⟨_, rfl⟩
          rw [hP] at HST hrd
          have q0 : wr.cell? ⟨b, off + k * 16, none⟩ = some (.int .i64 P.lsn) := HK.out.cellOf (p := ⟨b, off + k * 16, none⟩) (by have h := HC.out k 0 hlp (by decide); rw [hP] at h; exact h) id
          have q1 : wr.cell? ⟨b, off + k * 16 + 1, none⟩ = some (.int .i64 P.epoch) := HK.out.cellOf (p := ⟨b, off + k * 16 + 1, none⟩) (by have h := HC.out k 1 hlp (by decide); rw [hP, ← Nat.add_assoc] at h; exact h) id
          have q2 : wr.cell? ⟨b, off + k * 16 + 2, none⟩ = some (.int .i64 P.record.kind) := HK.out.cellOf (p := ⟨b, off + k * 16 + 2, none⟩) (by have h := HC.out k 2 hlp (by decide); rw [hP, ← Nat.add_assoc] at h; exact h) id
          have q3 : wr.cell? ⟨b, off + k * 16 + 3, none⟩ = some (.int .i64 P.record.txn) := HK.out.cellOf (p := ⟨b, off + k * 16 + 3, none⟩) (by have h := HC.out k 3 hlp (by decide); rw [hP, ← Nat.add_assoc] at h; exact h) id
          have q4 : wr.cell? ⟨b, off + k * 16 + 4, none⟩ = some (.int .i64 P.record.prev) := HK.out.cellOf (p := ⟨b, off + k * 16 + 4, none⟩) (by have h := HC.out k 4 hlp (by decide); rw [hP, ← Nat.add_assoc] at h; exact h) id
          have q5 : wr.cell? ⟨b, off + k * 16 + 5, none⟩ = some (.int .i64 P.record.page) := HK.out.cellOf (p := ⟨b, off + k * 16 + 5, none⟩) (by have h := HC.out k 5 hlp (by decide); rw [hP, ← Nat.add_assoc] at h; exact h) id
          have q6 : wr.cell? ⟨b, off + k * 16 + 6, none⟩ = some (.int .i64 P.record.slot) := HK.out.cellOf (p := ⟨b, off + k * 16 + 6, none⟩) (by have h := HC.out k 6 hlp (by decide); rw [hP, ← Nat.add_assoc] at h; exact h) id
          have q7 : wr.cell? ⟨b, off + k * 16 + 7, none⟩ = some (.bool P.record.before.used) := HK.out.cellOf (p := ⟨b, off + k * 16 + 7, none⟩) (by have h := HC.out k 7 hlp (by decide); rw [hP, ← Nat.add_assoc] at h; exact h) id
          have q8 : wr.cell? ⟨b, off + k * 16 + 8, none⟩ = some (P.record.before.data.v) := HK.out.cellOf (p := ⟨b, off + k * 16 + 8, none⟩) (by have h := HC.out k 8 hlp (by decide); rw [hP, ← Nat.add_assoc] at h; exact h) id
          have q9 : wr.cell? ⟨b, off + k * 16 + 9, none⟩ = some (.bool P.record.after.used) := HK.out.cellOf (p := ⟨b, off + k * 16 + 9, none⟩) (by have h := HC.out k 9 hlp (by decide); rw [hP, ← Nat.add_assoc] at h; exact h) id
          have q10 : wr.cell? ⟨b, off + k * 16 + 10, none⟩ = some (P.record.after.data.v) := HK.out.cellOf (p := ⟨b, off + k * 16 + 10, none⟩) (by have h := HC.out k 10 hlp (by decide); rw [hP, ← Nat.add_assoc] at h; exact h) id
          have q11 : wr.cell? ⟨b, off + k * 16 + 11, none⟩ = some (.int .i64 P.record.uN) := HK.out.cellOf (p := ⟨b, off + k * 16 + 11, none⟩) (by have h := HC.out k 11 hlp (by decide); rw [hP, ← Nat.add_assoc] at h; exact h) id
          have q12 : wr.cell? ⟨b, off + k * 16 + 12, none⟩ = some (.int .i64 P.record.nT) := HK.out.cellOf (p := ⟨b, off + k * 16 + 12, none⟩) (by have h := HC.out k 12 hlp (by decide); rw [hP, ← Nat.add_assoc] at h; exact h) id
          have q13 : wr.cell? ⟨b, off + k * 16 + 13, none⟩ = some (P.record.txns.v) := HK.out.cellOf (p := ⟨b, off + k * 16 + 13, none⟩) (by have h := HC.out k 13 hlp (by decide); rw [hP, ← Nat.add_assoc] at h; exact h) id
          have q14 : wr.cell? ⟨b, off + k * 16 + 14, none⟩ = some (P.record.dirty.v) := HK.out.cellOf (p := ⟨b, off + k * 16 + 14, none⟩) (by have h := HC.out k 14 hlp (by decide); rw [hP, ← Nat.add_assoc] at h; exact h) id
          have q15 : wr.cell? ⟨b, off + k * 16 + 15, none⟩ = some (P.record.image.v) := HK.out.cellOf (p := ⟨b, off + k * 16 + 15, none⟩) (by have h := HC.out k 15 hlp (by decide); rw [hP, ← Nat.add_assoc] at h; exact h) id
          have HRD := hid hrd
          clear hrd hP
          go_wp2_with fail
          refine (szLogFrame_any P r _ hr0 (by omega) HRD.out).mono ?_
          rintro e w1 ⟨r1, rfl, hr2, hk1⟩
          have HK1 : Hid (Same w w1) := HK.out.trans hk1
          clear q0 q1 q2 q3 q4 q5 q6 q7 q8 q9 q10 q11 q12 q13 q14 q15 hk1
          rcases hr2 with rfl | ⟨hr2, hr3⟩
          · go_wp2
            go_ret
            exact ⟨_, rfl, .inl rfl, HK1.out⟩
          · have hr4 : r1 ≤ left := by have := P.szs_le; omega
            have HR1 : Hid (r1 = r - P.szs) := hr2
            clear hr2
            go_wp2
            go_roundw
            case rel => exact ⟨k + 1, r1, by omega, by go_num, rfl, hr3, hr4, by have h1 := HR1.out; have h2 := HR.out; have h3 := HST.out; unfold Hid; omega, HK1⟩
            case measure => simp [intOf]; omega
        · go_wp2
          go_ret
          obtain rfl : k = len := by omega
          have h1 := HR.out
          have h2 := HL.out
          rw [← h2, List.take_length] at h1
          exact ⟨r, rfl, .inr ⟨by omega, hr0⟩, HK.out⟩
end Go.Proofs.Ythbocacnfhpidaa
