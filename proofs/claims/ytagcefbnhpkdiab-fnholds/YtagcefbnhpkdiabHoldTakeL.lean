/-
  The program's HoldTake (by tools/gen/holdtakel.py).
-/
import Derived.Test.YtagcefbnhpkdiabHoldIns
import Derived.Test.YtagcefbnhpkdiabVariad
namespace Go.Proofs.Ytagcefbnhpkdiab
set_option maxRecDepth 100000
set_option maxHeartbeats 4000000
open Go.RowKit
set_option linter.unusedVariables false
set_option linter.unusedSimpArgs false

/-- Into holds of one's own, at any place. -/
theorem insertH_any (xa : Option Addr) (n c k vb : Nat) (bs : List Int) (p q r : Int) (w : World) (hn : n ≤ 1048576) (hk : k ≤ n) (ho : OwnL w (FR.rows 3 ⟨53, xa, n, c, bs⟩)) (hb : Blk w vb 53 [.int .i64 p, .int .i64 q, .int .i64 r]) (hap : ∀ b, FootL (FR.rows 3 ⟨53, xa, n, c, bs⟩) b → vb ≠ b) :
    Calls Try.prog 58 #[.slice xa n c, .int .i64 k, .slice (some ⟨vb, 0, none⟩) 1 1] w fun e w' => ∃ a' c', e = .returned (.slice a' (n + 1) c') ∧ OwnL w' (FR.rows 3 ⟨53, a', n + 1, c', bs.take (k * 3) ++ (p :: q :: r :: bs.drop (k * 3))⟩) ∧ (∀ b, FootL (FR.rows 3 ⟨53, a', n + 1, c', bs.take (k * 3) ++ (p :: q :: r :: bs.drop (k * 3))⟩) b → FootL (FR.rows 3 ⟨53, xa, n, c, bs⟩) b ∨ w.heap.size ≤ b) ∧ Kept (FootL (FR.rows 3 ⟨53, xa, n, c, bs⟩)) w w' := by
  have hl : bs.length = n * 3 := FR.own_len ho
  by_cases hkn : k = n
  · subst hkn
    have h := insertEnd_any xa k c vb bs p q r w hn ho hb
    rw [List.take_of_length_le (by omega), List.drop_eq_nil_of_le (by omega)]
    exact h
  rcases FR.own_form ho with ⟨h1, _, _⟩ | ⟨g, h1, h2, h3, h4⟩
  · dsimp only at h1; omega
  dsimp only at h1 h2 h3 h4
  subst h1
  have hf : FootL (FR.rows 3 ⟨53, some ⟨g, 0, none⟩, n, c, bs⟩) g := (FootL_one _ _).2 rfl
  by_cases hc : n + 1 ≤ c
  · refine (insertRoom_any g n c k vb bs p q r w hn (by omega) hc h4 hb (hap g hf)).mono ?_
    rintro e w1 ⟨rfl, ho1, hk1⟩
    exact ⟨_, _, rfl, ho1.out, fun b hb1 => by have := FootL_fr hb1; subst this; exact .inl hf, hk1.mono (fun b _ e => by subst e; exact hf)⟩
  · obtain rfl : c = n := by omega
    refine (insertGrow_any g c k vb bs p q r w hn (by omega) h4 hb).mono ?_
    rintro e w1 ⟨c', rfl, ho1, hk1⟩
    exact ⟨_, _, rfl, ho1.out, fun b hb1 => by have := FootL_fr hb1; subst this; exact .inr (Nat.le_refl _), hk1.mono (fun b _ e => e.elim)⟩
theorem flat_set (ls : List T3) (k : Nat) (h : k < ls.length) (p q r : Int) : (((flat3 ls).set (k * 3) p).set (k * 3 + 1) q).set (k * 3 + 2) r = flat3 (ls.set k (p, q, r)) := by
  induction ls generalizing k with
  | nil => simp at h
  | cons a t ih =>
    obtain ⟨a1, a2, a3⟩ := a
    cases k with
    | zero => simp [flat3]
    | succ k =>
      have := ih k (by simpa using h)
      rw [show (k + 1) * 3 = k * 3 + 3 from by omega]
      simp only [flat3, List.set_cons_succ]
      rw [← this]
theorem flat_take (ls : List T3) (k : Nat) (h : k ≤ ls.length) : (flat3 ls).take (k * 3) = flat3 (ls.take k) := by
  induction ls generalizing k with
  | nil => obtain rfl : k = 0 := by simpa using h
           rfl
  | cons a t ih =>
    obtain ⟨a1, a2, a3⟩ := a
    cases k with
    | zero => simp [flat3]
    | succ k =>
      have := ih k (by simpa using h)
      rw [show (k + 1) * 3 = k * 3 + 3 from by omega]
      simp only [flat3, List.take_succ_cons]
      rw [← this]
theorem flat_drop (ls : List T3) (k : Nat) (h : k ≤ ls.length) : (flat3 ls).drop (k * 3) = flat3 (ls.drop k) := by
  induction ls generalizing k with
  | nil => obtain rfl : k = 0 := by simpa using h
           rfl
  | cons a t ih =>
    obtain ⟨a1, a2, a3⟩ := a
    cases k with
    | zero => simp [flat3]
    | succ k =>
      have := ih k (by simpa using h)
      rw [show (k + 1) * 3 = k * 3 + 3 from by omega]
      simp only [flat3, List.drop_succ_cons]
      rw [← this]

theorem implHoldTake_any (x : FR) (txn id be af : Int) (w : World) (hv : RdF 3 w x) :
    Calls Try.prog 27 #[x.v, .int .i64 txn, .int .i64 id, .int .i64 be, .int .i64 af] w fun e w' => ∃ y : FR, e = .returned y.v ∧ y.bs = takeH (tri x.bs) txn id be af ∧ (∀ b, FootL (FR.rows 3 y) b → w.heap.size ≤ b) ∧ OwnL w' (FR.rows 3 y) ∧ Same w w' := by
  have k0 := implHoldsFault_any x w hv
  have k1 := isTxn8_any txn
  have k2 := isId8_any id
  have k3 := isLength_any be
  have k4 := isLength_any af
  have HV := hid hv
  obtain ⟨xe, xa, n, xc, bs⟩ := x
  have hbl : bs.length = n * 3 := hv.2.1
  dsimp only [FR.v] at k0 ⊢
  clear hv
  obtain ⟨R, hR⟩ : ∃ R, takeH (tri bs) txn id be af = R := ⟨_, rfl⟩
  rw [hR]
  unfold takeH at hR
  obtain ⟨q, hq⟩ : ∃ q, holdsF (tri bs) = q := ⟨_, rfl⟩
  rw [hq] at k0 hR
  have fin : ∀ w1, Same w w1 → R = [] → ∃ y : FR, Ending.returned (.slice none 0 0) = .returned y.v ∧ y.bs = R ∧ (∀ b, FootL (FR.rows 3 y) b → w.heap.size ≤ b) ∧ OwnL w1 (FR.rows 3 y) ∧ Same w w1 := fun w1 hk hr =>
    ⟨⟨53, none, 0, 0, []⟩, rfl, hr.symm, fun b hb => by have := (FootL_one _ _).1 hb; simp [FR.v, Value.ownBlock] at this, FR.own_nil _, hk⟩
  by_cases h0 : q = 0
  case neg =>
    rw [if_neg (fun h => h0 h.1)] at hR
    clear k1 k2 k3 k4 hq hbl
    go_enter Try.func27, Try.ntmps27
    go_wp2_with fail
    refine k0.mono ?_
    rintro e w1 ⟨rfl, hk1⟩
    go_wp2
    go_ret
    exact fin _ hk1 hR.symm
  subst h0
  cases f0 : inB txn 1 2147483647 with
  | false =>
    rw [f0] at k1 hR
    rw [if_neg (by simp)] at hR
    clear hq hbl
    go_enter Try.func27, Try.ntmps27
    go_wp2_with fail
    refine k0.mono ?_
    rintro e w1 ⟨rfl, hk1⟩
    go_wp2_with fail
    refine (k1 _).mono ?_
    rintro e w2 ⟨rfl, rfl⟩
    go_wp2
    go_ret
    exact fin _ hk1 hR.symm
  | true =>
  rw [f0] at k1 hR
  cases f1 : inB id 0 511 with
  | false =>
    rw [f1] at k2 hR
    rw [if_neg (by simp)] at hR
    clear hq hbl
    go_enter Try.func27, Try.ntmps27
    go_wp2_with fail
    refine k0.mono ?_
    rintro e w1 ⟨rfl, hk1⟩
    go_wp2_with fail
    refine (k1 _).mono ?_
    rintro e w2 ⟨rfl, rfl⟩
    go_wp2_with fail
    refine (k2 _).mono ?_
    rintro e w2 ⟨rfl, rfl⟩
    go_wp2
    go_ret
    exact fin _ hk1 hR.symm
  | true =>
  rw [f1] at k2 hR
  cases f2 : inB be (-1) 1000 with
  | false =>
    rw [f2] at k3 hR
    rw [if_neg (by simp)] at hR
    clear hq hbl
    go_enter Try.func27, Try.ntmps27
    go_wp2_with fail
    refine k0.mono ?_
    rintro e w1 ⟨rfl, hk1⟩
    go_wp2_with fail
    refine (k1 _).mono ?_
    rintro e w2 ⟨rfl, rfl⟩
    go_wp2_with fail
    refine (k2 _).mono ?_
    rintro e w2 ⟨rfl, rfl⟩
    go_wp2_with fail
    refine (k3 _).mono ?_
    rintro e w2 ⟨rfl, rfl⟩
    go_wp2
    go_ret
    exact fin _ hk1 hR.symm
  | true =>
  rw [f2] at k3 hR
  cases f3 : inB af (-1) 1000 with
  | false =>
    rw [f3] at k4 hR
    rw [if_neg (by simp)] at hR
    clear hq hbl
    go_enter Try.func27, Try.ntmps27
    go_wp2_with fail
    refine k0.mono ?_
    rintro e w1 ⟨rfl, hk1⟩
    go_wp2_with fail
    refine (k1 _).mono ?_
    rintro e w2 ⟨rfl, rfl⟩
    go_wp2_with fail
    refine (k2 _).mono ?_
    rintro e w2 ⟨rfl, rfl⟩
    go_wp2_with fail
    refine (k3 _).mono ?_
    rintro e w2 ⟨rfl, rfl⟩
    go_wp2_with fail
    refine (k4 _).mono ?_
    rintro e w2 ⟨rfl, rfl⟩
    go_wp2
    go_ret
    exact fin _ hk1 hR.symm
  | true =>
  rw [f3] at k4 hR
  rw [if_pos ⟨rfl, rfl, rfl, rfl, rfl⟩] at hR
  have hn := holdsF_len hq
  rw [tri_length n bs hbl] at hn
  have HRI := hid (holdsF_ris hq)
  have HR := hid hR
  have HBL := hid hbl
  obtain ⟨e1, e2⟩ := (show -1 ≤ be ∧ be ≤ 1000 from by simpa [inB] using f2)
  obtain ⟨e3, e4⟩ := (show -1 ≤ af ∧ af ≤ 1000 from by simpa [inB] using f3)
  clear hR hbl f0 f1 f2 f3 fin
  have HMO : Hid (mostH (tri bs) id be af = maxI (holdOf id (tri bs)) (grI 0 [be, af])) := by
    unfold Hid mostH maxI
    simp only [grI]
    repeat' split
    all_goals omega
  have kg := fun (wx : World) h => greatest_any 0 (.slice (some ⟨wx.heap.size, 0, none⟩) 2 2) [be, af] (wx.alloc (.cells #[.int .i64 be, .int .i64 af] 2)) h
  have HRD : Hid (∀ wx : World, Rd .i64 (wx.alloc (.cells #[.int .i64 be, .int .i64 af] 2)) (.slice (some ⟨wx.heap.size, 0, none⟩) 2 2) [be, af]) := fun wx => rd_new wx 2 [be, af] (by unfold maxLen; simp)
  obtain ⟨m0, hm0⟩ : ∃ m0, grI 0 [be, af] = m0 := ⟨_, rfl⟩
  simp only [hm0] at kg
  rw [hm0] at HMO
  have HM0 : Hid (0 ≤ m0) := by
    unfold Hid
    rw [← hm0]
    simp only [grI]
    repeat' split
    all_goals omega
  clear hm0
  go_enter Try.func27, Try.ntmps27
  go_wp2_with fail
  refine k0.mono ?_
  rintro e w1 ⟨rfl, hk1⟩
  have HK1 := hid hk1
  clear hk1 k0 hq
  go_wp2_with fail
  refine (k1 _).mono ?_
  rintro e wz ⟨rfl, rfl⟩
  go_wp2_with fail
  refine (k2 _).mono ?_
  rintro e wz ⟨rfl, rfl⟩
  go_wp2_with fail
  refine (k3 _).mono ?_
  rintro e wz ⟨rfl, rfl⟩
  go_wp2_with fail
  refine (k4 _).mono ?_
  rintro e wz ⟨rfl, rfl⟩
  clear k1 k2 k3 k4
  go_wp2_with fail
  refine (kg _ (HRD.out _)).mono ?_
  rintro e w2 ⟨rfl, hk2⟩
  have HK2 := hid ((HK1.out.alloc (.cells #[.int .i64 be, .int .i64 af] 2)).trans hk2)
  clear hk2 kg HRD HK1
  go_wp2_with fail
  have HB3 := (show Hid (Blk (w2.alloc (.cells #[.int .i64 id, .int .i64 txn, .int .i64 m0] 53)) w2.heap.size 53 [.int .i64 id, .int .i64 txn, .int .i64 m0]) from Blk.newL w2 _ _)
  have HK3 := (show Hid (Same w (w2.alloc (.cells #[.int .i64 id, .int .i64 txn, .int .i64 m0] 53))) from HK2.out.alloc _)
  have hw2 : w.heap.size ≤ w2.heap.size := HK2.out.size
  generalize w2.alloc (.cells #[.int .i64 id, .int .i64 txn, .int .i64 m0] 53) = w3 at HB3 HK3 ⊢
  generalize w2.heap.size = tb at HB3 hw2 ⊢
  clear HK2
  have kc := cloneH_any ⟨xe, xa, n, xc, bs⟩ w3 (by dsimp only; omega) (HV.out.same HK3.out)
  dsimp only [FR.v] at kc
  refine kc.mono ?_
  rintro e w4 ⟨ya, yc, rfl, ho, hfr, hk4⟩
  have hw3 := HB3.out.lt
  have kf := findHold_any ⟨53, ya, n, yc, bs⟩ id w4 (FR.own_rd ho) (by dsimp only; omega) HRI.out
  dsimp only [FR.v] at kf
  have HO := hid ho
  have HFR : Hid (∀ b, FootL (FR.rows 3 ⟨53, ya, n, yc, bs⟩) b → w3.heap.size ≤ b) := hfr
  have HK4 := hid (HK3.out.trans hk4)
  have HB4 := hid (HB3.out.same hk4)
  have hw34 := HK3.out.size
  clear kc ho hfr hk4 HB3 HK3
  go_wp2_with fail
  refine kf.mono ?_
  rintro e w5 ⟨k, rfl, hlb, hk5⟩
  have HLB := hid hlb
  have HO5 := hid (HO.out.same hk5)
  have HK5 := hid (HK4.out.trans hk5)
  have HB5 := hid (HB4.out.same hk5)
  obtain ⟨b0, b1, b2⟩ := HB5.out.all3
  have hkn : k ≤ n := by have := hlb.1; rw [tri_length n bs HBL.out] at this; exact this
  have HHO := hid (holdOf_lb id (tri bs) k HRI.out hlb)
  have HIN : ∀ m, Hid (insH (id, txn, m) false (tri bs) = if fndH id (tri bs) k = true then (tri bs).set k (id, txn, m) else (tri bs).take k ++ (id, txn, m) :: (tri bs).drop k) := fun m => insH_lb (id, txn, m) (tri bs) k HRI.out hlb
  clear kf hlb hk5 HO HK4 HB4
  cases hfd : fndH id (tri bs) k with
  | false =>
    rw [hfd] at HHO
    simp only [hfd] at HIN
    have HRR : Hid (R = bs.take (k * 3) ++ (id :: txn :: m0 :: bs.drop (k * 3))) := by
      have h1 := HHO.out
      rw [if_neg Bool.false_ne_true] at h1
      have h2 := HMO.out
      rw [h1, show maxI (-1) m0 = m0 from by
        unfold maxI
        rw [if_neg (by
          have := HM0.out
          omega)]] at h2
      have h3 := (HIN m0).out
      rw [if_neg Bool.false_ne_true] at h3
      have hll : k ≤ (tri bs).length := by rw [tri_length n bs HBL.out]; exact hkn
      unfold Hid
      rw [← HR.out, h2, h3, flat3_append]
      have e1 := flat_take (tri bs) k hll
      have e2 := flat_drop (tri bs) k hll
      rw [flat3_tri n bs HBL.out] at e1 e2
      rw [e1, e2]
      rfl
    clear HHO HIN HMO hfd
    go_wp2_with fail
    have ki := insertH_any ya n yc k w5.heap.size bs id txn m0 (w5.alloc (.cells #[.int .i64 id, .int .i64 txn, .int .i64 m0] 53)) (by omega) hkn (HO5.out.same ((Kept.refl _ _).alloc _)) (Blk.newL w5 _ _) (fun b hb e => by have := HO5.out.lt b hb; omega)
    have HK6 := (show Hid (Same w (w5.alloc (.cells #[.int .i64 id, .int .i64 txn, .int .i64 m0] 53))) from HK5.out.alloc _)
    have hs6 : w.heap.size ≤ (w5.alloc (.cells #[.int .i64 id, .int .i64 txn, .int .i64 m0] 53)).heap.size := HK6.out.size
    refine ki.mono ?_
    rintro e w7 ⟨za, zc, rfl, ho7, hf7, hk7⟩
    have HO7 := hid ho7
    have HF7 : Hid (∀ b, FootL (FR.rows 3 ⟨53, za, n + 1, zc, bs.take (k * 3) ++ (id :: txn :: m0 :: bs.drop (k * 3))⟩) b → w.heap.size ≤ b) := fun b hb => by
      rcases hf7 b hb with h | h
      · exact Nat.le_trans hw34 (HFR.out b h)
      · exact Nat.le_trans hs6 h
    have HK7 : Hid (Same w w7) := HK6.out.next hk7 (fun i hi h => absurd (HFR.out i h) (by omega))
    clear ki ho7 hf7 hk7 b0 b1 b2
    go_wp2
    go_ret
    exact ⟨⟨53, za, n + 1, zc, bs.take (k * 3) ++ (id :: txn :: m0 :: bs.drop (k * 3))⟩, rfl, HRR.out.symm, HF7.out, HO7.out, HK7.out⟩
  | true =>
    obtain ⟨hkl, hki⟩ := fndH_some hfd
    have hkn2 : k < n := by rw [tri_length n bs HBL.out] at hkl; exact hkl
    rcases FR.own_form HO5.out with ⟨h1, _, _⟩ | ⟨g, h1, h2, h3, h4⟩
    · dsimp only at h1; omega
    dsimp only at h1 h2 h3 h4
    subst h1
    have HO6 := hid h4
    clear h4
    obtain ⟨⟨x1, y1, z1⟩, hx1⟩ : ∃ q, (tri bs)[k] = q := ⟨_, rfl⟩
    obtain ⟨da0, da1, da2⟩ := (FR.own_rd HO5.out).tri k hkl _ _ _ hx1
    rw [Nat.zero_add] at da0 da1 da2
    have hgf := HFR.out g ((FootL_one _ _).2 rfl)
    have htg : tb ≠ g := by omega
    obtain ⟨m1, hm1⟩ : ∃ m1, grI m0 [z1] = m1 := ⟨_, rfl⟩
    have HRR : Hid (R = ((bs.set (k * 3) id).set (k * 3 + 1) txn).set (k * 3 + 2) m1) := by
      have h1 := HHO.out
      rw [if_pos hfd, show (tri bs).getD k (0, 0, 0) = (x1, y1, z1) from by rw [← hx1]; simp [List.getD, hkl]] at h1
      have h2 := HMO.out
      rw [h1] at h2
      have h3 := (HIN m1).out
      rw [if_pos hfd] at h3
      have e1 : maxI z1 m0 = m1 := by rw [← hm1]; rfl
      dsimp only at h2
      rw [e1] at h2
      unfold Hid
      rw [← HR.out, h2, h3, ← flat_set _ _ hkl, flat3_tri n bs HBL.out]
    have kg := fun (wx : World) h => greatest_any m0 (.slice (some ⟨wx.heap.size, 0, none⟩) 1 1) [z1] (wx.alloc (.cells #[.int .i64 z1] 2)) h
    have HRD : Hid (∀ wx : World, Rd .i64 (wx.alloc (.cells #[.int .i64 z1] 2)) (.slice (some ⟨wx.heap.size, 0, none⟩) 1 1) [z1]) := fun wx => rd_new wx 2 [z1] (by unfold maxLen; simp)
    simp only [hm1] at kg
    clear HHO HIN HMO hfd hm1 hx1 hki hkl
    go_wp2_with fail
    have hS : (fun wx : World => wx.cell? ⟨tb, 2, none⟩ = some (.int .i64 m0) ∧ wx.cell? ⟨g, k * 3 + 2, none⟩ = some (.int .i64 z1)) w5.drew := ⟨b2, da2⟩
    refine wp_region_V (fun wx : World => wx.cell? ⟨tb, 2, none⟩ = some (.int .i64 m0) ∧ wx.cell? ⟨g, k * 3 + 2, none⟩ = some (.int .i64 z1)) 10 11 rfl (by kernel_rfl) ?_
    refine tk 0 60 hS ?_
    refine tk 1 61 hS ?_
    refine tk 2 62 hS ?_
    refine tk 3 63 hS ?_
    refine tk 4 64 hS ?_
    refine tk 5 65 hS ?_
    refine tk 6 66 hS ?_
    refine wpAnyV_one (i := 7) (by kernel_rfl) rfl (fun K hK => ?_)
    go_simp
    have k7 : Calls Try.prog 57 #[.int .i64 m0, .slice (some ⟨w5.heap.size, 0, none⟩) 1 1] (w5.alloc (.cells #[.int .i64 z1] 2)).drew fun e w' => e = .returned (.int .i64 m1) ∧ Same (w5.alloc (.cells #[.int .i64 z1] 2)).drew w' := kg w5.drew (HRD.out _)
    have HKa : Hid (Same w5 (w5.alloc (.cells #[.int .i64 z1] 2)).drew) := ((Kept.refl _ _).alloc _).drew
    generalize (w5.alloc (.cells #[.int .i64 z1] 2)).drew = w6 at k7 HKa ⊢
    have hS : (fun wx : World => wx.cell? ⟨tb, 2, none⟩ = some (.int .i64 m0) ∧ wx.cell? ⟨g, k * 3 + 2, none⟩ = some (.int .i64 z1)) w6 := ⟨HKa.out.cellOf b2 (fun h => h), HKa.out.cellOf da2 (fun h => h)⟩
    refine hK.out _ _ (fun _ => hS) ?_
    clear hK K kg HRD
    try simp only [Act.put, sA, s0, sS]
    refine wpAnyV_one (i := 8) (by kernel_rfl) rfl (fun K hK => ?_)
    go_simp
    refine k7.mono ?_
    rintro e w7 ⟨rfl, hk7⟩
    have HK57 := hid (HKa.out.trans hk7)
    have HK7 := hid (HK5.out.trans HK57.out)
    have HO7 := hid (HO6.out.same HK57.out)
    have HB7 := hid (HB5.out.same HK57.out)
    have hS : (fun wx : World => wx.cell? ⟨tb, 2, none⟩ = some (.int .i64 m0) ∧ wx.cell? ⟨g, k * 3 + 2, none⟩ = some (.int .i64 z1)) w7 := ⟨HK57.out.cellOf b2 (fun h => h), HK57.out.cellOf da2 (fun h => h)⟩
    have hf7 : w7.frozen? ⟨tb, 2, none⟩ = false := HB7.out.frozen 2
    obtain ⟨c0, c1, c2⟩ := HB7.out.all3
    refine hK.out _ _ (fun _ => hS) ?_
    clear hK K k7 hk7 b0 b1 b2 da0 da1 da2 HKa
    try simp only [Act.put, sA, s0, sS]
    refine tk 9 69 hS ?_
    refine wpAnyV_one (i := 10) (by kernel_rfl) rfl (fun K hK => ?_)
    go_simp
    refine hK.out _ _ (fun h => absurd rfl h) ?_
    clear hK K
    refine wpAnyV_done (by kernel_rfl) ?_
    try simp only [Act.put, sA, s0, sS]
    have HB8 := (show Hid (Blk (w7.setCell ⟨tb, 2, none⟩ (.int .i64 m1)) tb 53 [.int .i64 id, .int .i64 txn, .int .i64 m1]) from HB7.out.stored 2 (.int .i64 m1))
    have HK78 := (show Hid (Kept (fun b => b = tb) w7 (w7.setCell ⟨tb, 2, none⟩ (.int .i64 m1))) from Kept.setCell (R := fun b => b = tb) (Kept.refl _ _) (.inr rfl) _)
    generalize w7.setCell ⟨tb, 2, none⟩ (.int .i64 m1) = w8 at HB8 HK78 ⊢
    have HK8 := (show Hid (Same w w8) from HK7.out.next HK78.out (fun i hi e => by omega))
    have HO8 := (show Hid (OwnF 3 53 w8 g n yc bs) from HO7.out.kept HK78.out (fun e => htg e.symm))
    clear hS c0 c1 c2 hf7 HB7 HO7 HK7
    obtain ⟨c0, c1, c2⟩ := HB8.out.all3
    have f0 := HO8.out.frozen (k * 3)
    have f1 := HO8.out.frozen (k * 3 + 1)
    have f2 := HO8.out.frozen (k * 3 + 2)
    have d0 := HO8.out.cell (k * 3) (by omega)
    have d1 := HO8.out.cell (k * 3 + 1) (by omega)
    have d2 := HO8.out.cell (k * 3 + 2) (by omega)
    go_wp2
    have HO9 := (show Hid (OwnF 3 53 (((w8.setCell ⟨g, k * 3, none⟩ (.int .i64 id)).setCell ⟨g, k * 3 + 1, none⟩ (.int .i64 txn)).setCell ⟨g, k * 3 + 2, none⟩ (.int .i64 m1)) g n yc (((bs.set (k * 3) id).set (k * 3 + 1) txn).set (k * 3 + 2) m1)) from ((HO8.out.stored (k * 3) id).stored (k * 3 + 1) txn).stored (k * 3 + 2) m1)
    have hgw : w.heap.size ≤ g := Nat.le_trans hw34 hgf
    have HK9 := (show Hid (Same w (((w8.setCell ⟨g, k * 3, none⟩ (.int .i64 id)).setCell ⟨g, k * 3 + 1, none⟩ (.int .i64 txn)).setCell ⟨g, k * 3 + 2, none⟩ (.int .i64 m1))) from ((HK8.out.setCell (.inl hgw) _).setCell (.inl hgw) _).setCell (.inl hgw) _)
    go_ret
    exact ⟨⟨53, some ⟨g, 0, none⟩, n, yc, ((bs.set (k * 3) id).set (k * 3 + 1) txn).set (k * 3 + 2) m1⟩, rfl, HRR.out.symm, fun b hb => by have := FootL_fr hb; omega, HO9.out.out, HK9.out⟩
end Go.Proofs.Ytagcefbnhpkdiab
