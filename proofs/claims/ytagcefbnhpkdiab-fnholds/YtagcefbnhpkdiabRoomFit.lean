/-
  impl.slotNeeds: left, fits.
-/
import Derived.Test.YtagcefbnhpkdiabRoomNeed
namespace Go.Proofs.Ytagcefbnhpkdiab
set_option maxRecDepth 100000
set_option maxHeartbeats 4000000
open Go.RowKit
set_option linter.unusedVariables false
set_option linter.unusedSimpArgs false

theorem suI_need {zs ns : List Int} {hs : List T3} {L : Nat} (hn : ns.length = L) (h : ∀ i, i < L → ns.getD i 0 = needA zs hs i) (a : Nat) : ∀ m, a + m ≤ L → suI ((ns.drop a).take m) = sumA zs hs a m
  | 0, _ => by simp [suI, sumA]
  | m + 1, hm => by
    have ih := suI_need hn h a m (by omega)
    have hlt : m < (ns.drop a).length := by rw [List.length_drop]; omega
    have e : ∀ (l : List Int) (x : Int), suI (l ++ [x]) = suI l + x := by
      intro l x
      induction l with
      | nil => simp [suI]
      | cons q t ih => simp only [List.cons_append, suI, ih]; omega
    rw [List.take_succ_eq_append_getElem hlt, e, ih]
    rw [show sumA zs hs a (m + 1) = sumA zs hs a m + needA zs hs (a + m) from rfl, ← h (a + m) (by omega)]
    simp [List.getD, show a + m < ns.length from by omega]
/-- needs in memory -/
def Needs (w : World) (g L : Nat) (zs : List Int) (hs : List T3) : Prop := ∃ ns : List Int, Own 0 2 .i64 w (.slice (some ⟨g, 0, none⟩) L L) ns ∧ (ns.length = L ∧ ∀ i, i < L → ns.getD i 0 = needA zs hs i)
theorem Needs.same {w w' : World} {g L : Nat} {zs : List Int} {hs : List T3} (h : Needs w g L zs hs) (hk : Same w w') : Needs w' g L zs hs := by
  obtain ⟨ns, h1, h2⟩ := h
  exact ⟨ns, hk.owns h1 (fun _ _ h => h), h2⟩
theorem left_any (w : World) (g L p : Nat) (zs : List Int) (hs : List T3) (hN : Needs w g L zs hs) (hz : lenOK zs = true) (hh : holdsF hs = 0) (hL : L = zs.length) (hp : (p + 1) * 32 ≤ L) :
    Calls Try.prog 41 #[.slice (some ⟨g, 0, none⟩) L L, .int .i64 p] w fun e w' => e = .returned (.int .i64 (3948 - sumA zs hs (p * 32) 32)) ∧ Same w w' := by
  obtain ⟨ns, ho, hnl, hna⟩ := hN
  obtain ⟨hl1, hl2, hl3, hzb⟩ := lenOK_yes hz
  rw [← hL] at hl1 hl2 hl3
  have hrd := ho.rd
  have hc : ∀ i, i < L → w.cell? ⟨g, i, none⟩ = some (.int .i64 (ns.getD i 0)) := fun i hi => ho.cell hnl.symm i hi
  have hR : Rd .i64 w (.slice (some ⟨g, p * 32, none⟩) 32 (L - p * 32)) ((ns.drop (p * 32)).take 32) := by
    have hl : ((ns.drop (p * 32)).take 32).length = 32 := by rw [List.length_take, List.length_drop, hnl]; omega
    refine ⟨by rw [hl]; unfold maxLen; omega, .inr ⟨g, p * 32, L - p * 32, by rw [hl], by rw [hl]; omega, fun i hi => ?_⟩⟩
    rw [hl] at hi
    rw [hc _ (by omega)]
    simp [List.getD, hi, show p * 32 + i < ns.length from by omega]
  have k0 := sum_any _ _ w hR
  have hsu : suW 0 ((ns.drop (p * 32)).take 32) = sumA zs hs (p * 32) 32 := by
    rw [suW_small (fun z hz' => ?_) (by rw [List.length_take]; omega), suI_need hnl hna (p * 32) 32 (by omega)]
    obtain ⟨i, hi, rfl⟩ := List.getElem_of_mem hz'
    rw [List.length_take, List.length_drop, hnl] at hi
    have h1 := hna (p * 32 + i) (by omega)
    have h2 := needA_bound hz hh (p * 32 + i)
    rw [← h1] at h2
    have e : ((ns.drop (p * 32)).take 32)[i]'(by rw [List.length_take, List.length_drop, hnl]; omega) = ns.getD (p * 32 + i) 0 := by simp [List.getD, show p * 32 + i < ns.length from by omega]
    rw [e]
    omega
  rw [hsu] at k0
  have hb := sumA_bound hz hh (p * 32) 32
  obtain ⟨T, hT⟩ : ∃ T, sumA zs hs (p * 32) 32 = T := ⟨_, rfl⟩
  rw [hT] at k0 hb ⊢
  have hw1 : IntKind.i64.wrap ((p : Int) * 32) = ((p * 32 : Nat) : Int) := by rw [IntKind.wrap_i64]; omega
  have hw2 : IntKind.i64.wrap ((p : Int) + 1) = ((p + 1 : Nat) : Int) := by rw [IntKind.wrap_i64]; omega
  have hw3 : IntKind.i64.wrap (((p + 1 : Nat) : Int) * 32) = (((p + 1) * 32 : Nat) : Int) := by rw [IntKind.wrap_i64]; omega
  have hw4 : IntKind.i64.wrap (3948 - T) = 3948 - T := by rw [IntKind.wrap_i64]; omega
  have h5 : ¬ (L = p * 32) := by omega
  have h6 : (p + 1) * 32 - p * 32 = 32 := by omega
  clear ho hrd hc hR hnl hna hT hsu hzb hz hh hL
  go_enter Try.func41, Try.ntmps41
  go_wp2_with fail
  refine k0.mono ?_
  rintro e w1 ⟨rfl, hk1⟩
  go_wp2
  go_ret
  exact ⟨by first | rfl | trivial, hk1⟩
/-- may the slot get this length -/
def fitB (zs : List Int) (hs : List T3) (i : Nat) (len : Int) : Bool := decide (grI 0 [len - needA zs hs i] ≤ 3948 - sumA zs hs (i / 32 * 32) 32)
theorem fits_any (w : World) (g L i : Nat) (len : Int) (zs : List Int) (hs : List T3) (hN : Needs w g L zs hs) (hz : lenOK zs = true) (hh : holdsF hs = 0) (hL : L = zs.length) (hi : i < L) (hlen : 0 ≤ len ∧ len ≤ 1000) :
    Calls Try.prog 44 #[.slice (some ⟨g, 0, none⟩) L L, .int .i64 i, .int .i64 len] w fun e w' => e = .returned (.bool (fitB zs hs i len)) ∧ Same w w' := by
  obtain ⟨hl1, hl2, hl3, hzb⟩ := lenOK_yes hz
  rw [← hL] at hl1 hl2 hl3
  have k0 := fun wx (hs' : Same w wx) => left_any wx g L (i / 32) zs hs (hN.same hs') hz hh hL (by omega)
  obtain ⟨ns, ho, hnl, hna⟩ := hN
  have hnb := needA_bound hz hh i
  have d0 := ho.cell hnl.symm i hi
  rw [hna i hi] at d0
  unfold fitB
  obtain ⟨nd, hnd⟩ : ∃ nd, needA zs hs i = nd := ⟨_, rfl⟩
  rw [hnd] at d0 hnb ⊢
  obtain ⟨T, hT⟩ : ∃ T, sumA zs hs (i / 32 * 32) 32 = T := ⟨_, rfl⟩
  simp only [hT] at k0 ⊢
  obtain ⟨gv, hgv⟩ : ∃ gv, grI 0 [len - nd] = gv := ⟨_, rfl⟩
  have kg := fun (wx : World) (v : Value) h => greatest_any 0 v [len - nd] wx h
  simp only [hgv] at kg ⊢
  have HRD : Hid (∀ wx : World, Rd .i64 (wx.alloc (.cells #[.int .i64 (len - nd)] 2)) (.slice (some ⟨wx.heap.size, 0, none⟩) 1 1) [len - nd]) := fun wx => rd_new wx 2 [len - nd] (by unfold maxLen; simp)
  have hw1 : IntKind.i64.wrap (len - nd) = len - nd := by rw [IntKind.wrap_i64]; omega
  obtain ⟨p, hp⟩ : ∃ p, i / 32 = p := ⟨_, rfl⟩
  rw [hp] at k0
  have hq : (i : Int) / 32 = (p : Int) := by omega
  have hqt : ((i : Int).tdiv 32) = (p : Int) := by rw [Int.tdiv_eq_ediv_of_nonneg (by omega)]; omega
  have hp32 : p ≤ 16 := by omega
  have hwp : IntKind.i64.wrap (p : Int) = (p : Int) := by rw [IntKind.wrap_i64]; omega
  have hgi : (i : Int) < (L : Int) := by omega
  clear hT hgv hnd ho hnl hna hzb hz hh hL hp hl1 hl2 hl3
  go_enter Try.func44, Try.ntmps44
  go_wp2_with fail
  have hS : (fun wx : World => wx.cell? ⟨g, i, none⟩ = some (.int .i64 nd)) w.drew := d0
  refine wp_region_V (fun wx : World => wx.cell? ⟨g, i, none⟩ = some (.int .i64 nd)) 99 14 rfl (by kernel_rfl) ?_
  refine tk 0 7 hS ?_
  refine tk 1 8 hS ?_
  refine tk 2 9 hS ?_
  refine tk 4 11 hS ?_
  refine tk 5 12 hS ?_
  refine tk 6 13 hS ?_
  refine tk 7 14 hS ?_
  refine tk 8 15 hS ?_
  refine tk 9 16 hS ?_
  refine wpAnyV_two (i := 3) (j := 10) (by kernel_rfl) rfl rfl (fun K hK => ?_) (fun K hK => ?_)
  · go_simp
    refine (k0 _ (Kept.refl _ _).drew).mono ?_
    rintro e w3 ⟨rfl, hk3⟩
    have HK3 : Hid (Same w w3) := (Kept.refl _ _).drew.trans hk3
    have hS : (fun wx : World => wx.cell? ⟨g, i, none⟩ = some (.int .i64 nd)) w3 := HK3.out.cellOf d0 id
    refine hK.out _ _ (fun _ => hS) ?_
    clear hK K hk3
    try simp only [Act.put, sA, s0, sS]
    refine wpAnyV_one (i := 10) (by kernel_rfl) rfl (fun K hK => ?_)
    go_simp
    have k7 := kg (w3.alloc (.cells #[.int .i64 (len - nd)] 2)) _ (HRD.out w3)
    have HK4 : Hid (Same w (w3.alloc (.cells #[.int .i64 (len - nd)] 2))) := HK3.out.alloc _
    generalize w3.alloc (.cells #[.int .i64 (len - nd)] 2) = w4 at k7 HK4 ⊢
    have hS : (fun wx : World => wx.cell? ⟨g, i, none⟩ = some (.int .i64 nd)) w4 := HK4.out.cellOf d0 id
    refine hK.out _ _ (fun _ => hS) ?_
    clear hK K
    try simp only [Act.put, sA, s0, sS]
    refine wpAnyV_one (i := 11) (by kernel_rfl) rfl (fun K hK => ?_)
    go_simp
    refine k7.mono ?_
    rintro e w5 ⟨rfl, hk5⟩
    have HK5 := hid (HK4.out.trans hk5)
    have hS : (fun wx : World => wx.cell? ⟨g, i, none⟩ = some (.int .i64 nd)) w5 := HK5.out.cellOf d0 id
    refine hK.out _ _ (fun _ => hS) ?_
    clear hK K hk5 k7
    try simp only [Act.put, sA, s0, sS]
    refine tk 12 19 hS ?_
    refine tk 13 6 hS ?_
    refine wpAnyV_done (by kernel_rfl) ?_
    go_wp2
    go_ret
    exact ⟨rfl, HK5.out⟩
  · go_simp
    have hrd2 : Rd .i64 (w.alloc (.cells #[.int .i64 (len - nd)] 2)).drew (.slice (some ⟨w.heap.size, 0, none⟩) 1 1) [len - nd] := HRD.out w.drew
    have HRD2 := hid hrd2
    have HK3 : Hid (Same w (w.alloc (.cells #[.int .i64 (len - nd)] 2)).drew) := ((Kept.refl _ _).alloc _).drew
    generalize (w.alloc (.cells #[.int .i64 (len - nd)] 2)).drew = w3 at HRD2 HK3 ⊢
    have hS : (fun wx : World => wx.cell? ⟨g, i, none⟩ = some (.int .i64 nd)) w3 := HK3.out.cellOf d0 id
    refine hK.out _ _ (fun _ => hS) ?_
    clear hK K hrd2
    try simp only [Act.put, sA, s0, sS]
    refine wpAnyV_one (i := 3) (by kernel_rfl) rfl (fun K hK => ?_)
    go_simp
    refine (k0 _ HK3.out).mono ?_
    rintro e w4 ⟨rfl, hk4⟩
    have HK4 := hid (HK3.out.trans hk4)
    have k7 := kg w4 _ (HRD2.out.same hk4)
    have hS : (fun wx : World => wx.cell? ⟨g, i, none⟩ = some (.int .i64 nd)) w4 := HK4.out.cellOf d0 id
    refine hK.out _ _ (fun _ => hS) ?_
    clear hK K hk4
    try simp only [Act.put, sA, s0, sS]
    refine wpAnyV_one (i := 11) (by kernel_rfl) rfl (fun K hK => ?_)
    go_simp
    refine k7.mono ?_
    rintro e w5 ⟨rfl, hk5⟩
    have HK5 := hid (HK4.out.trans hk5)
    have hS : (fun wx : World => wx.cell? ⟨g, i, none⟩ = some (.int .i64 nd)) w5 := HK5.out.cellOf d0 id
    refine hK.out _ _ (fun _ => hS) ?_
    clear hK K hk5 k7
    try simp only [Act.put, sA, s0, sS]
    refine tk 12 19 hS ?_
    refine tk 13 6 hS ?_
    refine wpAnyV_done (by kernel_rfl) ?_
    go_wp2
    go_ret
    exact ⟨rfl, HK5.out⟩
end Go.Proofs.Ytagcefbnhpkdiab
