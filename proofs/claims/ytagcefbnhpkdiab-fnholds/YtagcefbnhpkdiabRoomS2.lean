/-
  spec.RoomLeft, spec.RoomFor.
-/
import Derived.Test.YtagcefbnhpkdiabRoomS
namespace Go.Proofs.Ytagcefbnhpkdiab
set_option maxRecDepth 100000
set_option maxHeartbeats 8000000
open Go.RowKit
set_option linter.unusedVariables false
set_option linter.unusedSimpArgs false

theorem roomB_yes {zs : List Int} {hs : List T3} {page : Int} (h : roomB zs hs page = true) : lenOK zs = true ∧ holdsF hs = 0 ∧ 0 ≤ page ∧ page ≤ ((zs.length : Int) / 32) - 1 := by
  unfold roomB at h
  simp only [Bool.and_eq_true, decide_eq_true_eq] at h
  obtain ⟨h1, h2, h3⟩ := h
  have h4 : 0 ≤ page ∧ page ≤ ((zs.length : Int) / 32) - 1 := by simpa [inB] using h3
  exact ⟨h1, h2, h4.1, h4.2⟩
theorem specRoomLeft_any (v : Value) (zs : List Int) (x : FR) (page : Int) (w : World) (hv : Rd .i64 w v zs) (hx : RdF 3 w x) :
    Calls Try.prog 15 #[v, x.v, .int .i64 page] w fun e w' => e = .returned (.int .i64 (roomL zs (tri x.bs) page)) ∧ Same w w' := by
  have k0 := specRoomB_any v zs x page w hv hx
  have k1 := fun wx (hk : Same w wx) id => specHold_any x id wx (hx.same hk)
  obtain ⟨a, c, rfl⟩ := hv.form
  obtain ⟨xe, xa, xn, xc, bs⟩ := x
  dsimp only [FR.v] at k0 k1 ⊢
  unfold roomL
  have HV := hid hv
  clear hv hx
  cases f0 : roomB zs (tri bs) page with
  | false =>
    rw [f0] at k0
    go_enter Try.func15, Try.ntmps15
    go_wp2_with fail
    refine k0.mono ?_
    rintro e w1 ⟨rfl, hk1⟩
    go_wp2
    go_ret
    exact ⟨rfl, hk1⟩
  | true =>
    rw [f0] at k0
    rw [if_pos rfl]
    obtain ⟨hz, hh, hp0, hp1⟩ := roomB_yes f0
    obtain ⟨P, rfl⟩ : ∃ P : Nat, page = (P : Int) := ⟨page.toNat, by omega⟩
    rw [Int.toNat_natCast]
    obtain ⟨hz1, hz2, hz3, _⟩ := lenOK_yes hz
    have hPn : P * 32 + 32 ≤ zs.length := by omega
    have hPs : P ≤ 16 := by omega
    obtain ⟨b, off, ha, hc⟩ : ∃ b off, a = some ⟨b, off, none⟩ ∧ ∀ i, i < zs.length → w.cell? ⟨b, off + i, none⟩ = some (.int .i64 (zs.getD i 0)) := by
      rcases HV.out.2 with ⟨hnil, _⟩ | ⟨b, off, c', h, _, hc⟩
      · rw [hnil] at hPn; simp at hPn
      · cases h; exact ⟨b, off, rfl, hc⟩
    subst ha
    have HC := hid hc
    have HZ := hid hz
    have HH := hid hh
    obtain ⟨n, hn⟩ : ∃ n, zs.length = n := ⟨_, rfl⟩
    have HN := hid hn
    rw [hn] at hPn k0 ⊢
    clear hc hz hh f0 hz1 hz2 hz3 hp0 hp1 HV hn
    go_enter Try.func15, Try.ntmps15
    go_wp2_with fail
    refine k0.mono ?_
    rintro e w1 ⟨rfl, hk1⟩
    have HK1 := (show Hid (Same w w1) from hk1)
    clear hk1 k0
    go_wp2_with fail
    go_loopw [7, 8] (fun lf i wr => ∃ k : Nat, k ≤ 32 ∧ lf = .int .i64 (3948 - sumA zs (tri bs) (P * 32) k) ∧ i = .int .i64 k ∧ Hid (Same w wr)) (fun _ i _ => 32 - (intOf i).toNat)
    case atStart => exact ⟨0, by omega, by simp [sumA], rfl, HK1⟩
    case round =>
      obtain ⟨k, hk, rfl, rfl, HK⟩ := hrel
      obtain ⟨sm, hsm⟩ : ∃ sm, sumA zs (tri bs) (P * 32) k = sm := ⟨_, rfl⟩
      have hsb := sumA_bound HZ.out HH.out (P * 32) k
      rw [hsm] at hsb ⊢
      by_cases hlt : k < 32
      · have hid1 : IntKind.i64.wrap ((P : Int) * 32 + (k : Int)) = ((P * 32 + k : Nat) : Int) := by rw [IntKind.wrap_i64]; omega
        have hid0 : IntKind.i64.wrap ((P : Int) * 32) = (P : Int) * 32 := by rw [IntKind.wrap_i64]; omega
        obtain ⟨I, hI⟩ : ∃ I, P * 32 + k = I := ⟨_, rfl⟩
        have hIn : I < n := by omega
        have hIi : (I : Int) < (n : Int) := by omega
        have hI0 : (0 : Int) ≤ (I : Int) := by omega
        rw [hI] at hid1
        have hnb := needA_bound HZ.out HH.out I
        have hsu : sumA zs (tri bs) (P * 32) (k + 1) = sm + needA zs (tri bs) I := by rw [← hI, ← hsm]; rfl
        obtain ⟨nd, hnd⟩ : ∃ nd, needA zs (tri bs) I = nd := ⟨_, rfl⟩
        rw [hnd] at hnb hsu
        unfold needA at hnd
        obtain ⟨z, hz⟩ : ∃ z, zs.getD I 0 = z := ⟨_, rfl⟩
        rw [hz] at hnd
        have d0 : wr.cell? ⟨b, off + I, none⟩ = some (.int .i64 z) := HK.out.cellOf (by rw [← hz]; exact HC.out I (by rw [HN.out]; exact hIn)) id
        have k2 := fun wx (hk : Same w wx) => k1 wx hk (I : Int)
        have m1 := fun wx => specMax_any z (holdOf (I : Int) (tri bs)) wx
        have m2 := fun wx => specMax_any (maxI z (holdOf (I : Int) (tri bs))) 0 wx
        rw [hnd] at m2
        have hw3 : IntKind.i64.wrap (3948 - sm - nd) = 3948 - (sm + nd) := by rw [IntKind.wrap_i64]; omega
        generalize holdOf (I : Int) (tri bs) = ho at k2 m1 m2
        generalize maxI z ho = h1 at m1 m2
        have HSU := hid hsu
        clear hnd hz hsu hsm
        go_wp2_with fail
        try rw [hid0]
        try rw [hid1]
        have hS : (fun wx : World => wx.cell? ⟨b, off + I, none⟩ = some (.int .i64 z)) wr.drew := d0
        refine wp_region_V (fun wx : World => wx.cell? ⟨b, off + I, none⟩ = some (.int .i64 z)) 11 12 rfl (by kernel_rfl) ?_
        refine tk 0 23 hS ?_
        refine tk 1 24 hS ?_
        refine tk 2 25 hS ?_
        refine tk 3 26 hS ?_
        refine tk 4 27 hS ?_
        refine tk 5 28 hS ?_
        refine tk 6 29 hS ?_
        refine wpAnyV_one (i := 7) (by kernel_rfl) rfl (fun K hK => ?_)
        go_simp
        refine (k2 _ HK.out.drew).mono ?_
        rintro e w3 ⟨rfl, hk3⟩
        have HK3 : Hid (Same wr w3) := (Kept.refl _ _).drew.trans hk3
        have hS : (fun wx : World => wx.cell? ⟨b, off + I, none⟩ = some (.int .i64 z)) w3 := HK3.out.cellOf d0 id
        go_wp2_with fail
        refine hK.out _ _ (fun _ => hS) ?_
        clear hK K hk3
        try simp only [Act.put, sA, s0, sS]
        refine wpAnyV_one (i := 8) (by kernel_rfl) rfl (fun K hK => ?_)
        go_simp
        refine (m1 _).mono ?_
        rintro e w4 ⟨rfl, hk4⟩
        have HK4 : Hid (Same wr w4) := HK3.out.trans hk4
        have hS : (fun wx : World => wx.cell? ⟨b, off + I, none⟩ = some (.int .i64 z)) w4 := HK4.out.cellOf d0 id
        go_wp2_with fail
        refine hK.out _ _ (fun _ => hS) ?_
        clear hK K hk4
        try simp only [Act.put, sA, s0, sS]
        refine wpAnyV_one (i := 9) (by kernel_rfl) rfl (fun K hK => ?_)
        go_simp
        refine (m2 _).mono ?_
        rintro e w5 ⟨rfl, hk5⟩
        have HK5 : Hid (Same wr w5) := HK4.out.trans hk5
        have hS : (fun wx : World => wx.cell? ⟨b, off + I, none⟩ = some (.int .i64 z)) w5 := HK5.out.cellOf d0 id
        go_wp2_with fail
        refine hK.out _ _ (fun _ => hS) ?_
        clear hK K hk5
        try simp only [Act.put, sA, s0, sS]
        refine tkV 10 33 (.int .i64 (3948 - (sm + nd))) hS ?_
        refine wpAnyV_one (i := 11) (by kernel_rfl) rfl (fun K hK => ?_)
        go_simp
        refine hK.out _ _ (fun h => absurd rfl h) ?_
        clear hK K
        refine wpAnyV_done (by kernel_rfl) ?_
        try simp only [Act.put, sA, s0, sS]
        go_wp2
        go_roundw
        case rel => exact ⟨k + 1, by omega, by rw [HSU.out], by go_num, HK.out.trans HK5.out⟩
        case measure => simp [intOf]; omega
      · obtain rfl : k = 32 := by omega
        have HSM := hid hsm
        go_wp2
        go_ret
        exact ⟨by rw [HSM.out]; first | rfl | trivial, HK.out⟩

theorem specRoomFor_any (v : Value) (zs : List Int) (x : FR) (id len : Int) (w : World) (hid63 : id ≤ 9223372036854775807) (hv : Rd .i64 w v zs) (hx : RdF 3 w x) :
    Calls Try.prog 19 #[v, x.v, .int .i64 id, .int .i64 len] w fun e w' => e = .returned (.bool (roomFor zs (tri x.bs) id len)) ∧ Same w w' := by
  have k0 := fun page => specRoomB_any v zs x page w hv hx
  have k1 := fun wx (hk : Same w wx) id => specHold_any x id wx (hx.same hk)
  have k3 := fun wx => l4In_any len 0 1000 wx
  have k4 := fun wx (hk : Same w wx) page => specRoomLeft_any v zs x page wx (hv.same hk) (hx.same hk)
  obtain ⟨a, c, rfl⟩ := hv.form
  obtain ⟨xe, xa, xn, xc, bs⟩ := x
  dsimp only [FR.v] at k0 k1 k4 ⊢
  have HV := hid hv
  clear hv hx
  obtain ⟨R, hR⟩ : ∃ R, roomFor zs (tri bs) id len = R := ⟨_, rfl⟩
  rw [hR]
  unfold roomFor at hR
  by_cases hneg : id < 0
  · rw [if_pos (.inl hneg)] at hR
    subst hR
    clear k0 k1 k3 k4
    go_enter Try.func19, Try.ntmps19
    go_wp2
    go_ret
    exact ⟨rfl, Kept.refl _ _⟩
  obtain ⟨I, rfl⟩ : ∃ I : Nat, id = (I : Int) := ⟨id.toNat, by omega⟩
  rw [Int.toNat_natCast] at hR
  have hwI : wrap64 ((I : Int) / 32) = (I : Int) / 32 := by unfold wrap64; omega
  have k0 := k0 ((I : Int) / 32)
  have k4 := fun wx hk => k4 wx hk ((I : Int) / 32)
  cases f0 : roomB zs (tri bs) ((I : Int) / 32) with
  | false =>
    rw [f0] at k0
    rw [if_pos (.inr (.inl f0))] at hR
    subst hR
    go_enter Try.func19, Try.ntmps19
    go_wp2_with fail
    (with_reducible refine k0.mono ?_)
    rintro e w1 ⟨rfl, hk1⟩
    go_wp2
    go_ret
    exact ⟨rfl, hk1⟩
  | true =>
  rw [f0] at k0
  cases f1 : inB len 0 1000 with
  | false =>
    rw [f1] at k3
    rw [if_pos (.inr (.inr f1))] at hR
    subst hR
    go_enter Try.func19, Try.ntmps19
    go_wp2_with fail
    (with_reducible refine k0.mono ?_)
    rintro e w1 ⟨rfl, hk1⟩
    have HK1 := (show Hid (Same w w1) from hk1)
    go_wp2_with fail
    refine (k3 _).mono ?_
    rintro e w2 ⟨rfl, hk2⟩
    go_wp2
    go_ret
    exact ⟨rfl, HK1.out.trans hk2⟩
  | true =>
  rw [f1] at k3
  rw [if_neg (by rw [f0, f1]; simp)] at hR
  have hlen : 0 ≤ len ∧ len ≤ 1000 := by simpa [inB] using f1
  obtain ⟨hz, hh, hp0, hp1⟩ := roomB_yes f0
  obtain ⟨hz1, hz2, hz3, _⟩ := lenOK_yes hz
  have hIn : I < zs.length := by omega
  obtain ⟨b, off, ha, hc⟩ : ∃ b off, a = some ⟨b, off, none⟩ ∧ ∀ i, i < zs.length → w.cell? ⟨b, off + i, none⟩ = some (.int .i64 (zs.getD i 0)) := by
    rcases HV.out.2 with ⟨hnil, _⟩ | ⟨b, off, c', h, _, hc⟩
    · rw [hnil] at hIn; simp at hIn
    · cases h; exact ⟨b, off, rfl, hc⟩
  subst ha
  have hIi : (I : Int) < (zs.length : Int) := by omega
  have hI0 : (0 : Int) ≤ (I : Int) := by omega
  have hnb := needA_bound hz hh I
  obtain ⟨nd, hnd⟩ : ∃ nd, needA zs (tri bs) I = nd := ⟨_, rfl⟩
  rw [hnd] at hnb hR
  unfold needA at hnd
  obtain ⟨z, hzz⟩ : ∃ z, zs.getD I 0 = z := ⟨_, rfl⟩
  rw [hzz] at hnd
  have D0 := (show Hid (w.cell? ⟨b, off + I, none⟩ = some (.int .i64 z)) from by rw [← hzz]; exact hc I hIn)
  have k2 := fun wx (hk : Same w wx) => k1 wx hk (I : Int)
  have m1 := fun wx => specMax_any z (holdOf (I : Int) (tri bs)) wx
  have m2 := fun wx => specMax_any (maxI z (holdOf (I : Int) (tri bs))) 0 wx
  rw [hnd] at m2
  generalize holdOf (I : Int) (tri bs) = ho at k2 m1 m2
  generalize maxI z ho = h1 at m1 m2
  obtain ⟨RL, hRL⟩ : ∃ RL, roomL zs (tri bs) ((I : Int) / 32) = RL := ⟨_, rfl⟩
  rw [hRL] at k4 hR
  obtain ⟨more, hmore⟩ : ∃ m, len - nd = m := ⟨_, rfl⟩
  have hw3 : IntKind.i64.wrap (len - nd) = more := by rw [IntKind.wrap_i64]; omega
  rw [hmore] at hR
  have hmb : -1000 ≤ more ∧ more ≤ 1000 := by omega
  have HM := hid hmore
  have HR := hid hR
  clear hmore hR hnd hzz hc hz hh f0 f1 hp0 hp1 hz1 hz2 hz3 HV hRL k1
  go_enter Try.func19, Try.ntmps19
  go_wp2_with fail
  (with_reducible refine k0.mono ?_)
  rintro e w1 ⟨rfl, hk1⟩
  have HK1 := (show Hid (Same w w1) from hk1)
  clear hk1 k0
  go_wp2_with fail
  refine (k3 _).mono ?_
  rintro e w2 ⟨rfl, hk2⟩
  have HK2 := hid (HK1.out.trans hk2)
  clear hk2 k3
  have d0 : w2.cell? ⟨b, off + I, none⟩ = some (.int .i64 z) := HK2.out.cellOf D0.out id
  go_wp2_with fail
  have hS : (fun wx : World => wx.cell? ⟨b, off + I, none⟩ = some (.int .i64 z)) w2.drew := d0
  refine wp_region_V (fun wx : World => wx.cell? ⟨b, off + I, none⟩ = some (.int .i64 z)) 11 12 rfl (by kernel_rfl) ?_
  refine tk 0 25 hS ?_
  refine tk 1 26 hS ?_
  refine tk 2 27 hS ?_
  refine tk 3 28 hS ?_
  refine tk 4 29 hS ?_
  refine tk 5 30 hS ?_
  refine tk 6 31 hS ?_
  refine wpAnyV_one (i := 7) (by kernel_rfl) rfl (fun K hK => ?_)
  go_simp
  refine (k2 _ HK2.out.drew).mono ?_
  rintro e w3 ⟨rfl, hk3⟩
  have HK3 : Hid (Same w2 w3) := (Kept.refl _ _).drew.trans hk3
  have hS : (fun wx : World => wx.cell? ⟨b, off + I, none⟩ = some (.int .i64 z)) w3 := HK3.out.cellOf d0 id
  go_wp2_with fail
  refine hK.out _ _ (fun _ => hS) ?_
  clear hK K hk3
  try simp only [Act.put, sA, s0, sS]
  refine wpAnyV_one (i := 8) (by kernel_rfl) rfl (fun K hK => ?_)
  go_simp
  refine (m1 _).mono ?_
  rintro e w4 ⟨rfl, hk4⟩
  have HK4 : Hid (Same w2 w4) := HK3.out.trans hk4
  have hS : (fun wx : World => wx.cell? ⟨b, off + I, none⟩ = some (.int .i64 z)) w4 := HK4.out.cellOf d0 id
  go_wp2_with fail
  refine hK.out _ _ (fun _ => hS) ?_
  clear hK K hk4
  try simp only [Act.put, sA, s0, sS]
  refine wpAnyV_one (i := 9) (by kernel_rfl) rfl (fun K hK => ?_)
  go_simp
  refine (m2 _).mono ?_
  rintro e w5 ⟨rfl, hk5⟩
  have HK5 : Hid (Same w2 w5) := HK4.out.trans hk5
  have hS : (fun wx : World => wx.cell? ⟨b, off + I, none⟩ = some (.int .i64 z)) w5 := HK5.out.cellOf d0 id
  go_wp2_with fail
  refine hK.out _ _ (fun _ => hS) ?_
  clear hK K hk5
  try simp only [Act.put, sA, s0, sS]
  refine tkV 10 35 (.int .i64 more) hS ?_
  refine wpAnyV_one (i := 11) (by kernel_rfl) rfl (fun K hK => ?_)
  go_simp
  refine hK.out _ _ (fun h => absurd rfl h) ?_
  clear hK K
  refine wpAnyV_done (by kernel_rfl) ?_
  try simp only [Act.put, sA, s0, sS]
  have HKw5 := hid (HK2.out.trans HK5.out)
  clear HM hw3 d0 D0 hS m1 m2 k2
  by_cases hm0 : more ≤ 0
  · have hm1 : ¬ 0 < more := by omega
    by_cases hrl : 0 ≤ RL
    · go_wp2_with fail
      (with_reducible refine (k4 _ HKw5.out).mono ?_)
      rintro e w6 ⟨rfl, hk6⟩
      have HK6 := hid (HKw5.out.trans hk6)
      go_wp2
      go_ret
      exact ⟨by rw [← HR.out, decide_eq_true hm0, decide_eq_true hrl]; rfl, HK6.out⟩
    · have HE := (show Hid (((decide (more ≤ 0) && decide (0 ≤ RL)) || (decide (0 < more) && decide (more ≤ RL))) = false) from by unfold Hid; rw [decide_eq_true hm0, decide_eq_false hrl, decide_eq_false hm1]; rfl)
      have HD := (show Hid (decide (0 ≤ RL) = false) from decide_eq_false hrl)
      go_wp2_with fail
      (with_reducible refine (k4 _ HKw5.out).mono ?_)
      rintro e w6 ⟨rfl, hk6⟩
      have HK6 := hid (HKw5.out.trans hk6)
      go_wp2
      go_ret
      exact ⟨by rw [← HR.out, HE.out]; first | rfl | exact congrArg (fun b => Ending.returned (.bool b)) HD.out, HK6.out⟩
  · have hm1 : 0 < more := by omega
    have HE := (show Hid (((decide (more ≤ 0) && decide (0 ≤ RL)) || (decide (0 < more) && decide (more ≤ RL))) = decide (more ≤ RL)) from by unfold Hid; rw [decide_eq_false hm0, decide_eq_true hm1]; simp)
    go_wp2_with fail
    (with_reducible refine (k4 _ HKw5.out).mono ?_)
    rintro e w6 ⟨rfl, hk6⟩
    have HK6 := hid (HKw5.out.trans hk6)
    go_wp2
    go_ret
    exact ⟨by rw [← HR.out, HE.out]; rfl, HK6.out⟩
end Go.Proofs.Ytagcefbnhpkdiab
