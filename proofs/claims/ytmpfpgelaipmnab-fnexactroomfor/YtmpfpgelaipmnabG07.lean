import Derived.Test.YtmpfpgelaipmnabG06
import Derived.Test.YtmpfpgelaipmnabTyMHoldS
namespace Go.Proofs.Ytmpfpgelaipmnab
set_option maxRecDepth 100000
set_option maxHeartbeats 8000000
set_option linter.unusedVariables false
set_option linter.unusedSimpArgs false
open Go.RowKit
theorem suI_need {zs ns : List Int} {hs : List T3} {L : Nat} (hn : ns.length = L) (h : ∀ i, i < L → ns.getD i 0 = needA zs hs i) (a : Nat) : ∀ m, a + m ≤ L → suI ((ns.drop a).take m) = sumA zs hs a m
 | 0, _ => by simp [suI, sumA]
 | m + 1, hm => by
  have ih := suI_need hn h a m (by omega)
  have hlt : m < (ns.drop a).length := by rw [List.length_drop]; omega
  have e : ∀ (l : List Int) (x : Int), suI (l ++ [x]) = suI l + x := by
   intro l x
   induction l with
   | nil => simp [suI]
   | cons q t ih => simp only [List.cons_append, suI, ih]; omega
  rw [List.take_succ_eq_append_getElem hlt, e, ih]
  rw [show sumA zs hs a (m + 1) = sumA zs hs a m + needA zs hs (a + m) from rfl, ← h (a + m) (by omega)]
  simp [List.getD, show a + m < ns.length from by omega]
def Needs (w : World) (g L : Nat) (zs : List Int) (hs : List T3) : Prop := ∃ ns : List Int, Own 0 2 .i64 w (.slice (some ⟨g, 0, none⟩) L L) ns ∧ (ns.length = L ∧ ∀ i, i < L → ns.getD i 0 = needA zs hs i)
theorem Needs.same {w w' : World} {g L : Nat} {zs : List Int} {hs : List T3} (h : Needs w g L zs hs) (hk : Same w w') : Needs w' g L zs hs := by
 obtain ⟨ns, h1, h2⟩ := h
 exact ⟨ns, hk.owns h1 (fun _ _ h => h), h2⟩
theorem left_any (w : World) (g L p : Nat) (zs : List Int) (hs : List T3) (hN : Needs w g L zs hs) (hz : lenOK zs = true) (hh : holdsF hs = 0) (hL : L = zs.length) (hp : (p + 1) * 32 ≤ L) :
  Calls Try.prog 41 #[.slice (some ⟨g, 0, none⟩) L L, .int .i64 p] w fun e w' => e = .returned (.int .i64 (3948 - sumA zs hs (p * 32) 32)) ∧ Same w w' := by
 obtain ⟨ns, ho, hnl, hna⟩ := hN
 obtain ⟨hl1, hl2, hl3, hzb⟩ := lenOK_yes hz
 rw [← hL] at hl1 hl2 hl3
 have hrd := ho.rd
 have hc : ∀ i, i < L → w.cell? ⟨g, i, none⟩ = some (.int .i64 (ns.getD i 0)) := fun i hi => ho.cell hnl.symm i hi
 have hR : Rd .i64 w (.slice (some ⟨g, p * 32, none⟩) 32 (L - p * 32)) ((ns.drop (p * 32)).take 32) := by
  have hl : ((ns.drop (p * 32)).take 32).length = 32 := by rw [List.length_take, List.length_drop, hnl]; omega
  refine ⟨by rw [hl]; unfold maxLen; omega, .inr ⟨g, p * 32, L - p * 32, by rw [hl], by rw [hl]; omega, fun i hi => ?_⟩⟩
  rw [hl] at hi
  rw [hc _ (by omega)]
  simp [List.getD, hi, show p * 32 + i < ns.length from by omega]
 have k0 := sum_any _ _ w hR
 have hsu : suW 0 ((ns.drop (p * 32)).take 32) = sumA zs hs (p * 32) 32 := by
  rw [suW_small (fun z hz' => ?_) (by rw [List.length_take]; omega), suI_need hnl hna (p * 32) 32 (by omega)]
  obtain ⟨i, hi, rfl⟩ := List.getElem_of_mem hz'
  rw [List.length_take, List.length_drop, hnl] at hi
  have h1 := hna (p * 32 + i) (by omega)
  have h2 := needA_bound hz hh (p * 32 + i)
  rw [← h1] at h2
  have e : ((ns.drop (p * 32)).take 32)[i]'(by rw [List.length_take, List.length_drop, hnl]; omega) = ns.getD (p * 32 + i) 0 := by simp [List.getD, show p * 32 + i < ns.length from by omega]
  rw [e]
  omega
 rw [hsu] at k0
 have hb := sumA_bound hz hh (p * 32) 32
 obtain ⟨T, hT⟩ : ∃ T, sumA zs hs (p * 32) 32 = T := ⟨_, rfl⟩
 rw [hT] at k0 hb ⊢
 have hw1 : IntKind.i64.wrap ((p : Int) * 32) = ((p * 32 : Nat) : Int) := by rw [IntKind.wrap_i64]; omega
 have hw2 : IntKind.i64.wrap ((p : Int) + 1) = ((p + 1 : Nat) : Int) := by rw [IntKind.wrap_i64]; omega
 have hw3 : IntKind.i64.wrap (((p + 1 : Nat) : Int) * 32) = (((p + 1) * 32 : Nat) : Int) := by rw [IntKind.wrap_i64]; omega
 have hw4 : IntKind.i64.wrap (3948 - T) = 3948 - T := by rw [IntKind.wrap_i64]; omega
 have h5 : ¬ (L = p * 32) := by omega
 have h6 : (p + 1) * 32 - p * 32 = 32 := by omega
 clear ho hrd hc hR hnl hna hT hsu hzb hz hh hL
 go_enter Try.func41, Try.ntmps41
 go_wp2_with fail
 refine k0.mono ?_
 rintro e w1 ⟨rfl, hk1⟩
 go_wp2
 go_ret
 exact ⟨by first | rfl | trivial, hk1⟩
def fitB (zs : List Int) (hs : List T3) (i : Nat) (len : Int) : Bool := decide (grI 0 [len - needA zs hs i] ≤ 3948 - sumA zs hs (i / 32 * 32) 32)
theorem fits_any (w : World) (g L i : Nat) (len : Int) (zs : List Int) (hs : List T3) (hN : Needs w g L zs hs) (hz : lenOK zs = true) (hh : holdsF hs = 0) (hL : L = zs.length) (hi : i < L) (hlen : 0 ≤ len ∧ len ≤ 1000) :
  Calls Try.prog 44 #[.slice (some ⟨g, 0, none⟩) L L, .int .i64 i, .int .i64 len] w fun e w' => e = .returned (.bool (fitB zs hs i len)) ∧ Same w w' := by
 obtain ⟨hl1, hl2, hl3, hzb⟩ := lenOK_yes hz
 rw [← hL] at hl1 hl2 hl3
 have k0 := fun wx (hs' : Same w wx) => left_any wx g L (i / 32) zs hs (hN.same hs') hz hh hL (by omega)
 obtain ⟨ns, ho, hnl, hna⟩ := hN
 have hnb := needA_bound hz hh i
 have d0 := ho.cell hnl.symm i hi
 rw [hna i hi] at d0
 unfold fitB
 obtain ⟨nd, hnd⟩ : ∃ nd, needA zs hs i = nd := ⟨_, rfl⟩
 rw [hnd] at d0 hnb ⊢
 obtain ⟨T, hT⟩ : ∃ T, sumA zs hs (i / 32 * 32) 32 = T := ⟨_, rfl⟩
 simp only [hT] at k0 ⊢
 obtain ⟨gv, hgv⟩ : ∃ gv, grI 0 [len - nd] = gv := ⟨_, rfl⟩
 have kg := fun (wx : World) (v : Value) h => greatest_any 0 v [len - nd] wx h
 simp only [hgv] at kg ⊢
 have HRD : Hid (∀ wx : World, Rd .i64 (wx.alloc (.cells #[.int .i64 (len - nd)] 2)) (.slice (some ⟨wx.heap.size, 0, none⟩) 1 1) [len - nd]) := fun wx => rd_new wx 2 [len - nd] (by unfold maxLen; simp)
 have hw1 : IntKind.i64.wrap (len - nd) = len - nd := by rw [IntKind.wrap_i64]; omega
 obtain ⟨p, hp⟩ : ∃ p, i / 32 = p := ⟨_, rfl⟩
 rw [hp] at k0
 have hq : (i : Int) / 32 = (p : Int) := by omega
 have hqt : ((i : Int).tdiv 32) = (p : Int) := by rw [Int.tdiv_eq_ediv_of_nonneg (by omega)]; omega
 have hp32 : p ≤ 16 := by omega
 have hwp : IntKind.i64.wrap (p : Int) = (p : Int) := by rw [IntKind.wrap_i64]; omega
 have hgi : (i : Int) < (L : Int) := by omega
 clear hT hgv hnd ho hnl hna hzb hz hh hL hp hl1 hl2 hl3
 go_enter Try.func44, Try.ntmps44
 go_wp2_with fail
 have hS : (fun wx : World => wx.cell? ⟨g, i, none⟩ = some (.int .i64 nd)) w.drew := d0
 refine wp_region_V (fun wx : World => wx.cell? ⟨g, i, none⟩ = some (.int .i64 nd)) 99 14 rfl (by kernel_rfl) ?_
 refine tk 0 7 hS ?_
 refine tk 1 8 hS ?_
 refine tk 2 9 hS ?_
 refine tk 4 11 hS ?_
 refine tk 5 12 hS ?_
 refine tk 6 13 hS ?_
 refine tk 7 14 hS ?_
 refine tk 8 15 hS ?_
 refine tk 9 16 hS ?_
 refine wpAnyV_two (i := 3) (j := 10) (by kernel_rfl) rfl rfl (fun K hK => ?_) (fun K hK => ?_)
 ·go_simp
  refine (k0 _ (Kept.refl _ _).drew).mono ?_
  rintro e w3 ⟨rfl, hk3⟩
  have HK3 : Hid (Same w w3) := (Kept.refl _ _).drew.trans hk3
  have hS : (fun wx : World => wx.cell? ⟨g, i, none⟩ = some (.int .i64 nd)) w3 := HK3.out.cellOf d0 id
  refine hK.out _ _ (fun _ => hS) ?_
  clear hK K hk3
  try simp only [Act.put, sA, s0, sS]
  refine wpAnyV_one (i := 10) (by kernel_rfl) rfl (fun K hK => ?_)
  go_simp
  have k7 := kg (w3.alloc (.cells #[.int .i64 (len - nd)] 2)) _ (HRD.out w3)
  have HK4 : Hid (Same w (w3.alloc (.cells #[.int .i64 (len - nd)] 2))) := HK3.out.alloc _
  generalize w3.alloc (.cells #[.int .i64 (len - nd)] 2) = w4 at k7 HK4 ⊢
  have hS : (fun wx : World => wx.cell? ⟨g, i, none⟩ = some (.int .i64 nd)) w4 := HK4.out.cellOf d0 id
  refine hK.out _ _ (fun _ => hS) ?_
  clear hK K
  try simp only [Act.put, sA, s0, sS]
  refine wpAnyV_one (i := 11) (by kernel_rfl) rfl (fun K hK => ?_)
  go_simp
  refine k7.mono ?_
  rintro e w5 ⟨rfl, hk5⟩
  have HK5 := hid (HK4.out.trans hk5)
  have hS : (fun wx : World => wx.cell? ⟨g, i, none⟩ = some (.int .i64 nd)) w5 := HK5.out.cellOf d0 id
  refine hK.out _ _ (fun _ => hS) ?_
  clear hK K hk5 k7
  try simp only [Act.put, sA, s0, sS]
  refine tk 12 19 hS ?_
  refine tk 13 6 hS ?_
  refine wpAnyV_done (by kernel_rfl) ?_
  go_wp2
  go_ret
  exact ⟨rfl, HK5.out⟩
 ·go_simp
  have hrd2 : Rd .i64 (w.alloc (.cells #[.int .i64 (len - nd)] 2)).drew (.slice (some ⟨w.heap.size, 0, none⟩) 1 1) [len - nd] := HRD.out w.drew
  have HRD2 := hid hrd2
  have HK3 : Hid (Same w (w.alloc (.cells #[.int .i64 (len - nd)] 2)).drew) := ((Kept.refl _ _).alloc _).drew
  generalize (w.alloc (.cells #[.int .i64 (len - nd)] 2)).drew = w3 at HRD2 HK3 ⊢
  have hS : (fun wx : World => wx.cell? ⟨g, i, none⟩ = some (.int .i64 nd)) w3 := HK3.out.cellOf d0 id
  refine hK.out _ _ (fun _ => hS) ?_
  clear hK K hrd2
  try simp only [Act.put, sA, s0, sS]
  refine wpAnyV_one (i := 3) (by kernel_rfl) rfl (fun K hK => ?_)
  go_simp
  refine (k0 _ HK3.out).mono ?_
  rintro e w4 ⟨rfl, hk4⟩
  have HK4 := hid (HK3.out.trans hk4)
  have k7 := kg w4 _ (HRD2.out.same hk4)
  have hS : (fun wx : World => wx.cell? ⟨g, i, none⟩ = some (.int .i64 nd)) w4 := HK4.out.cellOf d0 id
  refine hK.out _ _ (fun _ => hS) ?_
  clear hK K hk4
  try simp only [Act.put, sA, s0, sS]
  refine wpAnyV_one (i := 11) (by kernel_rfl) rfl (fun K hK => ?_)
  go_simp
  refine k7.mono ?_
  rintro e w5 ⟨rfl, hk5⟩
  have HK5 := hid (HK4.out.trans hk5)
  have hS : (fun wx : World => wx.cell? ⟨g, i, none⟩ = some (.int .i64 nd)) w5 := HK5.out.cellOf d0 id
  refine hK.out _ _ (fun _ => hS) ?_
  clear hK K hk5 k7
  try simp only [Act.put, sA, s0, sS]
  refine tk 12 19 hS ?_
  refine tk 13 6 hS ?_
  refine wpAnyV_done (by kernel_rfl) ?_
  go_wp2
  go_ret
  exact ⟨rfl, HK5.out⟩
theorem roomB_yes {zs : List Int} {hs : List T3} {page : Int} (h : roomB zs hs page = true) : lenOK zs = true ∧ holdsF hs = 0 ∧ 0 ≤ page ∧ page ≤ ((zs.length : Int) / 32) - 1 := by
 unfold roomB at h
 simp only [Bool.and_eq_true, decide_eq_true_eq] at h
 obtain ⟨h1, h2, h3⟩ := h
 have h4 : 0 ≤ page ∧ page ≤ ((zs.length : Int) / 32) - 1 := by simpa [inB] using h3
 exact ⟨h1, h2, h4.1, h4.2⟩
theorem specRoomLeft_any (v : Value) (zs : List Int) (x : FR) (page : Int) (w : World) (hv : Rd .i64 w v zs) (hx : RdF 3 w x) :
  Calls Try.prog 15 #[v, x.v, .int .i64 page] w fun e w' => e = .returned (.int .i64 (roomL zs (tri x.bs) page)) ∧ Same w w' := by
 have k0 := specRoomB_any v zs x page w hv hx
 have k1 := fun wx (hk : Same w wx) id => specHold_any x id wx (hx.same hk)
 obtain ⟨a, c, rfl⟩ := hv.form
 obtain ⟨xe, xa, xn, xc, bs⟩ := x
 dsimp only [FR.v] at k0 k1 ⊢
 unfold roomL
 have HV := hid hv
 clear hv hx
 cases f0 : roomB zs (tri bs) page with
 | false =>
  rw [f0] at k0
  go_enter Try.func15, Try.ntmps15
  go_wp2_with fail
  refine k0.mono ?_
  rintro e w1 ⟨rfl, hk1⟩
  go_wp2
  go_ret
  exact ⟨rfl, hk1⟩
 | true =>
  rw [f0] at k0
  rw [if_pos rfl]
  obtain ⟨hz, hh, hp0, hp1⟩ := roomB_yes f0
  obtain ⟨P, rfl⟩ : ∃ P : Nat, page = (P : Int) := ⟨page.toNat, by omega⟩
  rw [Int.toNat_natCast]
  obtain ⟨hz1, hz2, hz3, _⟩ := lenOK_yes hz
  have hPn : P * 32 + 32 ≤ zs.length := by omega
  have hPs : P ≤ 16 := by omega
  obtain ⟨b, off, ha, hc⟩ : ∃ b off, a = some ⟨b, off, none⟩ ∧ ∀ i, i < zs.length → w.cell? ⟨b, off + i, none⟩ = some (.int .i64 (zs.getD i 0)) := by
   rcases HV.out.2 with ⟨hnil, _⟩ | ⟨b, off, c', h, _, hc⟩
   ·rw [hnil] at hPn; simp at hPn
   ·cases h; exact ⟨b, off, rfl, hc⟩
  subst ha
  have HC := hid hc
  have HZ := hid hz
  have HH := hid hh
  obtain ⟨n, hn⟩ : ∃ n, zs.length = n := ⟨_, rfl⟩
  have HN := hid hn
  rw [hn] at hPn k0 ⊢
  clear hc hz hh f0 hz1 hz2 hz3 hp0 hp1 HV hn
  go_enter Try.func15, Try.ntmps15
  go_wp2_with fail
  refine k0.mono ?_
  rintro e w1 ⟨rfl, hk1⟩
  have HK1 := (show Hid (Same w w1) from hk1)
  clear hk1 k0
  go_wp2_with fail
  go_loopw [7, 8] (fun lf i wr => ∃ k : Nat, k ≤ 32 ∧ lf = .int .i64 (3948 - sumA zs (tri bs) (P * 32) k) ∧ i = .int .i64 k ∧ Hid (Same w wr)) (fun _ i _ => 32 - (intOf i).toNat)
  case atStart => exact ⟨0, by omega, by simp [sumA], rfl, HK1⟩
  case round =>
   obtain ⟨k, hk, rfl, rfl, HK⟩ := hrel
   obtain ⟨sm, hsm⟩ : ∃ sm, sumA zs (tri bs) (P * 32) k = sm := ⟨_, rfl⟩
   have hsb := sumA_bound HZ.out HH.out (P * 32) k
   rw [hsm] at hsb ⊢
   by_cases hlt : k < 32
   ·have hid1 : IntKind.i64.wrap ((P : Int) * 32 + (k : Int)) = ((P * 32 + k : Nat) : Int) := by rw [IntKind.wrap_i64]; omega
    have hid0 : IntKind.i64.wrap ((P : Int) * 32) = (P : Int) * 32 := by rw [IntKind.wrap_i64]; omega
    obtain ⟨I, hI⟩ : ∃ I, P * 32 + k = I := ⟨_, rfl⟩
    have hIn : I < n := by omega
    have hIi : (I : Int) < (n : Int) := by omega
    have hI0 : (0 : Int) ≤ (I : Int) := by omega
    rw [hI] at hid1
    have hnb := needA_bound HZ.out HH.out I
    have hsu : sumA zs (tri bs) (P * 32) (k + 1) = sm + needA zs (tri bs) I := by rw [← hI, ← hsm]; rfl
    obtain ⟨nd, hnd⟩ : ∃ nd, needA zs (tri bs) I = nd := ⟨_, rfl⟩
    rw [hnd] at hnb hsu
    unfold needA at hnd
    obtain ⟨z, hz⟩ : ∃ z, zs.getD I 0 = z := ⟨_, rfl⟩
    rw [hz] at hnd
    have d0 : wr.cell? ⟨b, off + I, none⟩ = some (.int .i64 z) := HK.out.cellOf (by rw [← hz]; exact HC.out I (by rw [HN.out]; exact hIn)) id
    have k2 := fun wx (hk : Same w wx) => k1 wx hk (I : Int)
    have m1 := fun wx => specMax_any z (holdOf (I : Int) (tri bs)) wx
    have m2 := fun wx => specMax_any (maxI z (holdOf (I : Int) (tri bs))) 0 wx
    rw [hnd] at m2
    have hw3 : IntKind.i64.wrap (3948 - sm - nd) = 3948 - (sm + nd) := by rw [IntKind.wrap_i64]; omega
    generalize holdOf (I : Int) (tri bs) = ho at k2 m1 m2
    generalize maxI z ho = h1 at m1 m2
    have HSU := hid hsu
    clear hnd hz hsu hsm
    go_wp2_with fail
    try rw [hid0]
    try rw [hid1]
    have hS : (fun wx : World => wx.cell? ⟨b, off + I, none⟩ = some (.int .i64 z)) wr.drew := d0
    refine wp_region_V (fun wx : World => wx.cell? ⟨b, off + I, none⟩ = some (.int .i64 z)) 11 12 rfl (by kernel_rfl) ?_
    refine tk 0 23 hS ?_
    refine tk 1 24 hS ?_
    refine tk 2 25 hS ?_
    refine tk 3 26 hS ?_
    refine tk 4 27 hS ?_
    refine tk 5 28 hS ?_
    refine tk 6 29 hS ?_
    refine wpAnyV_one (i := 7) (by kernel_rfl) rfl (fun K hK => ?_)
    go_simp
    refine (k2 _ HK.out.drew).mono ?_
    rintro e w3 ⟨rfl, hk3⟩
    have HK3 : Hid (Same wr w3) := (Kept.refl _ _).drew.trans hk3
    have hS : (fun wx : World => wx.cell? ⟨b, off + I, none⟩ = some (.int .i64 z)) w3 := HK3.out.cellOf d0 id
    go_wp2_with fail
    refine hK.out _ _ (fun _ => hS) ?_
    clear hK K hk3
    try simp only [Act.put, sA, s0, sS]
    refine wpAnyV_one (i := 8) (by kernel_rfl) rfl (fun K hK => ?_)
    go_simp
    refine (m1 _).mono ?_
    rintro e w4 ⟨rfl, hk4⟩
    have HK4 : Hid (Same wr w4) := HK3.out.trans hk4
    have hS : (fun wx : World => wx.cell? ⟨b, off + I, none⟩ = some (.int .i64 z)) w4 := HK4.out.cellOf d0 id
    go_wp2_with fail
    refine hK.out _ _ (fun _ => hS) ?_
    clear hK K hk4
    try simp only [Act.put, sA, s0, sS]
    refine wpAnyV_one (i := 9) (by kernel_rfl) rfl (fun K hK => ?_)
    go_simp
    refine (m2 _).mono ?_
    rintro e w5 ⟨rfl, hk5⟩
    have HK5 : Hid (Same wr w5) := HK4.out.trans hk5
    have hS : (fun wx : World => wx.cell? ⟨b, off + I, none⟩ = some (.int .i64 z)) w5 := HK5.out.cellOf d0 id
    go_wp2_with fail
    refine hK.out _ _ (fun _ => hS) ?_
    clear hK K hk5
    try simp only [Act.put, sA, s0, sS]
    refine tkV 10 33 (.int .i64 (3948 - (sm + nd))) hS ?_
    refine wpAnyV_one (i := 11) (by kernel_rfl) rfl (fun K hK => ?_)
    go_simp
    refine hK.out _ _ (fun h => absurd rfl h) ?_
    clear hK K
    refine wpAnyV_done (by kernel_rfl) ?_
    try simp only [Act.put, sA, s0, sS]
    go_wp2
    go_roundw
    case rel => exact ⟨k + 1, by omega, by rw [HSU.out], by go_num, HK.out.trans HK5.out⟩
    case measure => simp [intOf]; omega
   ·obtain rfl : k = 32 := by omega
    have HSM := hid hsm
    go_wp2
    go_ret
    exact ⟨by rw [HSM.out]; first | rfl | trivial, HK.out⟩
theorem specRoomFor_any (v : Value) (zs : List Int) (x : FR) (id len : Int) (w : World) (hid63 : id ≤ 9223372036854775807) (hv : Rd .i64 w v zs) (hx : RdF 3 w x) :
  Calls Try.prog 19 #[v, x.v, .int .i64 id, .int .i64 len] w fun e w' => e = .returned (.bool (roomFor zs (tri x.bs) id len)) ∧ Same w w' := by
 have k0 := fun page => specRoomB_any v zs x page w hv hx
 have k1 := fun wx (hk : Same w wx) id => specHold_any x id wx (hx.same hk)
 have k3 := fun wx => l4In_any len 0 1000 wx
 have k4 := fun wx (hk : Same w wx) page => specRoomLeft_any v zs x page wx (hv.same hk) (hx.same hk)
 obtain ⟨a, c, rfl⟩ := hv.form
 obtain ⟨xe, xa, xn, xc, bs⟩ := x
 dsimp only [FR.v] at k0 k1 k4 ⊢
 have HV := hid hv
 clear hv hx
 obtain ⟨R, hR⟩ : ∃ R, roomFor zs (tri bs) id len = R := ⟨_, rfl⟩
 rw [hR]
 unfold roomFor at hR
 by_cases hneg : id < 0
 ·rw [if_pos (.inl hneg)] at hR
  subst hR
  clear k0 k1 k3 k4
  go_enter Try.func19, Try.ntmps19
  go_wp2
  go_ret
  exact ⟨rfl, Kept.refl _ _⟩
 obtain ⟨I, rfl⟩ : ∃ I : Nat, id = (I : Int) := ⟨id.toNat, by omega⟩
 rw [Int.toNat_natCast] at hR
 have hwI : wrap64 ((I : Int) / 32) = (I : Int) / 32 := by unfold wrap64; omega
 have k0 := k0 ((I : Int) / 32)
 have k4 := fun wx hk => k4 wx hk ((I : Int) / 32)
 cases f0 : roomB zs (tri bs) ((I : Int) / 32) with
 | false =>
  rw [f0] at k0
  rw [if_pos (.inr (.inl f0))] at hR
  subst hR
  go_enter Try.func19, Try.ntmps19
  go_wp2_with fail
  (with_reducible refine k0.mono ?_)
  rintro e w1 ⟨rfl, hk1⟩
  go_wp2
  go_ret
  exact ⟨rfl, hk1⟩
 | true =>
 rw [f0] at k0
 cases f1 : inB len 0 1000 with
 | false =>
  rw [f1] at k3
  rw [if_pos (.inr (.inr f1))] at hR
  subst hR
  go_enter Try.func19, Try.ntmps19
  go_wp2_with fail
  (with_reducible refine k0.mono ?_)
  rintro e w1 ⟨rfl, hk1⟩
  have HK1 := (show Hid (Same w w1) from hk1)
  go_wp2_with fail
  refine (k3 _).mono ?_
  rintro e w2 ⟨rfl, hk2⟩
  go_wp2
  go_ret
  exact ⟨rfl, HK1.out.trans hk2⟩
 | true =>
 rw [f1] at k3
 rw [if_neg (by rw [f0, f1]; simp)] at hR
 have hlen : 0 ≤ len ∧ len ≤ 1000 := by simpa [inB] using f1
 obtain ⟨hz, hh, hp0, hp1⟩ := roomB_yes f0
 obtain ⟨hz1, hz2, hz3, _⟩ := lenOK_yes hz
 have hIn : I < zs.length := by omega
 obtain ⟨b, off, ha, hc⟩ : ∃ b off, a = some ⟨b, off, none⟩ ∧ ∀ i, i < zs.length → w.cell? ⟨b, off + i, none⟩ = some (.int .i64 (zs.getD i 0)) := by
  rcases HV.out.2 with ⟨hnil, _⟩ | ⟨b, off, c', h, _, hc⟩
  ·rw [hnil] at hIn; simp at hIn
  ·cases h; exact ⟨b, off, rfl, hc⟩
 subst ha
 have hIi : (I : Int) < (zs.length : Int) := by omega
 have hI0 : (0 : Int) ≤ (I : Int) := by omega
 have hnb := needA_bound hz hh I
 obtain ⟨nd, hnd⟩ : ∃ nd, needA zs (tri bs) I = nd := ⟨_, rfl⟩
 rw [hnd] at hnb hR
 unfold needA at hnd
 obtain ⟨z, hzz⟩ : ∃ z, zs.getD I 0 = z := ⟨_, rfl⟩
 rw [hzz] at hnd
 have D0 := (show Hid (w.cell? ⟨b, off + I, none⟩ = some (.int .i64 z)) from by rw [← hzz]; exact hc I hIn)
 have k2 := fun wx (hk : Same w wx) => k1 wx hk (I : Int)
 have m1 := fun wx => specMax_any z (holdOf (I : Int) (tri bs)) wx
 have m2 := fun wx => specMax_any (maxI z (holdOf (I : Int) (tri bs))) 0 wx
 rw [hnd] at m2
 generalize holdOf (I : Int) (tri bs) = ho at k2 m1 m2
 generalize maxI z ho = h1 at m1 m2
 obtain ⟨RL, hRL⟩ : ∃ RL, roomL zs (tri bs) ((I : Int) / 32) = RL := ⟨_, rfl⟩
 rw [hRL] at k4 hR
 obtain ⟨more, hmore⟩ : ∃ m, len - nd = m := ⟨_, rfl⟩
 have hw3 : IntKind.i64.wrap (len - nd) = more := by rw [IntKind.wrap_i64]; omega
 rw [hmore] at hR
 have hmb : -1000 ≤ more ∧ more ≤ 1000 := by omega
 have HM := hid hmore
 have HR := hid hR
 clear hmore hR hnd hzz hc hz hh f0 f1 hp0 hp1 hz1 hz2 hz3 HV hRL k1
 go_enter Try.func19, Try.ntmps19
 go_wp2_with fail
 (with_reducible refine k0.mono ?_)
 rintro e w1 ⟨rfl, hk1⟩
 have HK1 := (show Hid (Same w w1) from hk1)
 clear hk1 k0
 go_wp2_with fail
 refine (k3 _).mono ?_
 rintro e w2 ⟨rfl, hk2⟩
 have HK2 := hid (HK1.out.trans hk2)
 clear hk2 k3
 have d0 : w2.cell? ⟨b, off + I, none⟩ = some (.int .i64 z) := HK2.out.cellOf D0.out id
 go_wp2_with fail
 have hS : (fun wx : World => wx.cell? ⟨b, off + I, none⟩ = some (.int .i64 z)) w2.drew := d0
 refine wp_region_V (fun wx : World => wx.cell? ⟨b, off + I, none⟩ = some (.int .i64 z)) 11 12 rfl (by kernel_rfl) ?_
 refine tk 0 25 hS ?_
 refine tk 1 26 hS ?_
 refine tk 2 27 hS ?_
 refine tk 3 28 hS ?_
 refine tk 4 29 hS ?_
 refine tk 5 30 hS ?_
 refine tk 6 31 hS ?_
 refine wpAnyV_one (i := 7) (by kernel_rfl) rfl (fun K hK => ?_)
 go_simp
 refine (k2 _ HK2.out.drew).mono ?_
 rintro e w3 ⟨rfl, hk3⟩
 have HK3 : Hid (Same w2 w3) := (Kept.refl _ _).drew.trans hk3
 have hS : (fun wx : World => wx.cell? ⟨b, off + I, none⟩ = some (.int .i64 z)) w3 := HK3.out.cellOf d0 id
 go_wp2_with fail
 refine hK.out _ _ (fun _ => hS) ?_
 clear hK K hk3
 try simp only [Act.put, sA, s0, sS]
 refine wpAnyV_one (i := 8) (by kernel_rfl) rfl (fun K hK => ?_)
 go_simp
 refine (m1 _).mono ?_
 rintro e w4 ⟨rfl, hk4⟩
 have HK4 : Hid (Same w2 w4) := HK3.out.trans hk4
 have hS : (fun wx : World => wx.cell? ⟨b, off + I, none⟩ = some (.int .i64 z)) w4 := HK4.out.cellOf d0 id
 go_wp2_with fail
 refine hK.out _ _ (fun _ => hS) ?_
 clear hK K hk4
 try simp only [Act.put, sA, s0, sS]
 refine wpAnyV_one (i := 9) (by kernel_rfl) rfl (fun K hK => ?_)
 go_simp
 refine (m2 _).mono ?_
 rintro e w5 ⟨rfl, hk5⟩
 have HK5 : Hid (Same w2 w5) := HK4.out.trans hk5
 have hS : (fun wx : World => wx.cell? ⟨b, off + I, none⟩ = some (.int .i64 z)) w5 := HK5.out.cellOf d0 id
 go_wp2_with fail
 refine hK.out _ _ (fun _ => hS) ?_
 clear hK K hk5
 try simp only [Act.put, sA, s0, sS]
 refine tkV 10 35 (.int .i64 more) hS ?_
 refine wpAnyV_one (i := 11) (by kernel_rfl) rfl (fun K hK => ?_)
 go_simp
 refine hK.out _ _ (fun h => absurd rfl h) ?_
 clear hK K
 refine wpAnyV_done (by kernel_rfl) ?_
 try simp only [Act.put, sA, s0, sS]
 have HKw5 := hid (HK2.out.trans HK5.out)
 clear HM hw3 d0 D0 hS m1 m2 k2
 by_cases hm0 : more ≤ 0
 ·have hm1 : ¬ 0 < more := by omega
  by_cases hrl : 0 ≤ RL
  ·go_wp2_with fail
   (with_reducible refine (k4 _ HKw5.out).mono ?_)
   rintro e w6 ⟨rfl, hk6⟩
   have HK6 := hid (HKw5.out.trans hk6)
   go_wp2
   go_ret
   exact ⟨by rw [← HR.out, decide_eq_true hm0, decide_eq_true hrl]; rfl, HK6.out⟩
  ·have HE := (show Hid (((decide (more ≤ 0) && decide (0 ≤ RL)) || (decide (0 < more) && decide (more ≤ RL))) = false) from by unfold Hid; rw [decide_eq_true hm0, decide_eq_false hrl, decide_eq_false hm1]; rfl)
   have HD := (show Hid (decide (0 ≤ RL) = false) from decide_eq_false hrl)
   go_wp2_with fail
   (with_reducible refine (k4 _ HKw5.out).mono ?_)
   rintro e w6 ⟨rfl, hk6⟩
   have HK6 := hid (HKw5.out.trans hk6)
   go_wp2
   go_ret
   exact ⟨by rw [← HR.out, HE.out]; first | rfl | exact congrArg (fun b => Ending.returned (.bool b)) HD.out, HK6.out⟩
 ·have hm1 : 0 < more := by omega
  have HE := (show Hid (((decide (more ≤ 0) && decide (0 ≤ RL)) || (decide (0 < more) && decide (more ≤ RL))) = decide (more ≤ RL)) from by unfold Hid; rw [decide_eq_false hm0, decide_eq_true hm1]; simp)
  go_wp2_with fail
  (with_reducible refine (k4 _ HKw5.out).mono ?_)
  rintro e w6 ⟨rfl, hk6⟩
  have HK6 := hid (HKw5.out.trans hk6)
  go_wp2
  go_ret
  exact ⟨by rw [← HR.out, HE.out]; rfl, HK6.out⟩
theorem fitB_roomFor {zs : List Int} {hs : List T3} {i : Nat} {len : Int} (hz : lenOK zs = true) (hh : holdsF hs = 0) (hi : i < zs.length) (hlen : 0 ≤ len ∧ len ≤ 1000) : roomFor zs hs (i : Int) len = fitB zs hs i len := by
 obtain ⟨hl1, hl2, hl3, _⟩ := lenOK_yes hz
 have hr : roomB zs hs ((i : Int) / 32) = true := by
  unfold roomB
  rw [hz, hh]
  simp [inB]
  omega
 have e1 : (((i : Int) / 32).toNat) = i / 32 := by omega
 unfold roomFor fitB
 rw [if_neg (by
  rintro (h | h | h)
  ·omega
  ·rw [hr] at h; cases h
  ·have : inB len 0 1000 = true := by simp [inB]; omega
   rw [this] at h; cases h)]
 unfold roomL
 rw [if_pos hr, e1, show ((i : Int)).toNat = i from by omega]
 generalize needA zs hs i = nd
 generalize sumA zs hs (i / 32 * 32) 32 = T
 rw [Bool.eq_iff_iff]
 by_cases h : 0 < len - nd
 ·have e : grI 0 [len - nd] = len - nd := if_pos h
  simp only [e, decide_eq_true_eq, Bool.or_eq_true, Bool.and_eq_true]
  omega
 ·have e : grI 0 [len - nd] = 0 := if_neg h
  simp only [e, decide_eq_true_eq, Bool.or_eq_true, Bool.and_eq_true]
  omega
theorem implRoomLeft_any (v : Value) (zs : List Int) (x : FR) (page : Int) (w : World) (hv : Rd .i64 w v zs) (hx : RdF 3 w x) :
  Calls Try.prog 17 #[v, x.v, .int .i64 page] w fun e w' => e = .returned (.int .i64 (roomL zs (tri x.bs) page)) ∧ Same w w' := by
 have k0 := roomKnown_any v zs x w hv hx
 have k1 := fun wx (hs : Same w wx) h1 h2 => openNeeds_any v zs x wx (hv.same hs) (hx.same hs) h1 h2
 obtain ⟨a, c, rfl⟩ := hv.form
 have hmax : zs.length ≤ maxLen := hv.1
 unfold maxLen at hmax
 obtain ⟨xe, xa, n, xc, bs⟩ := x
 dsimp only [FR.v] at k0 k1 ⊢
 clear hv hx
 obtain ⟨R, hR⟩ : ∃ R, roomL zs (tri bs) page = R := ⟨_, rfl⟩
 rw [hR]
 unfold roomL roomB at hR
 cases f1 : (lenOK zs && decide (holdsF (tri bs) = 0)) with
 | false =>
  rw [f1] at k0
  rw [if_neg (by rw [← Bool.and_assoc, f1]; simp)] at hR
  subst hR
  clear k1 f1
  go_enter Try.func17, Try.ntmps17
  go_wp2_with fail
  refine k0.mono ?_
  rintro e w1 ⟨rfl, hk1⟩
  go_wp2
  go_ret
  exact ⟨rfl, hk1⟩
 | true =>
  rw [f1] at k0
  obtain ⟨hz, hh⟩ := (show lenOK zs = true ∧ holdsF (tri bs) = 0 from by simpa using f1)
  rw [hz, hh] at hR
  simp only [Bool.true_and, decide_true] at hR
  obtain ⟨P, hP⟩ : ∃ P, zs.length / 32 = P := ⟨_, rfl⟩
  have hqt : ((zs.length : Int).tdiv 32) = (P : Int) := by rw [Int.tdiv_eq_ediv_of_nonneg (by omega)]; omega
  have hqe : ((zs.length : Int) / 32) = (P : Int) := by omega
  rw [hqe] at hR
  obtain ⟨_, _, hP16, _⟩ := lenOK_yes hz
  rw [hP] at hP16
  have hwP : IntKind.i64.wrap (P : Int) = (P : Int) := by rw [IntKind.wrap_i64]; omega
  have HP := hid hP
  clear hP
  obtain ⟨L, hL⟩ : ∃ L, zs.length = L := ⟨_, rfl⟩
  rw [hL] at hqt hqe hmax k0 k1 ⊢
  by_cases h1 : page < 0
  ·rw [if_neg (by simp [inB]; omega)] at hR
   subst hR
   clear k1 f1 hz hh hL hqt hqe hwP hP16 hmax
   go_enter Try.func17, Try.ntmps17
   go_wp2_with fail
   refine k0.mono ?_
   rintro e w1 ⟨rfl, hk1⟩
   go_wp2
   go_ret
   exact ⟨rfl, hk1⟩
  obtain ⟨p, rfl⟩ : ∃ p : Nat, page = (p : Int) := ⟨page.toNat, by omega⟩
  by_cases h2 : P ≤ p
  ·have h2' : (P : Int) ≤ (p : Int) := by omega
   rw [if_neg (by simp [inB]; omega)] at hR
   subst hR
   clear k1 f1 hz hh hL
   go_enter Try.func17, Try.ntmps17
   go_wp2_with fail
   refine k0.mono ?_
   rintro e w1 ⟨rfl, hk1⟩
   go_wp2
   go_ret
   exact ⟨rfl, hk1⟩
  have h2' : ¬ (P : Int) ≤ (p : Int) := by omega
  rw [if_pos (by simp [inB]; omega), show ((p : Int)).toNat = p from by omega] at hR
  subst hR
  have hpl : (p + 1) * 32 ≤ L := by have := HP.out; omega
  have k2 := fun wx g hN => left_any wx g L p zs (tri bs) hN hz hh hL.symm hpl
  have k3 := fun wx hs => k1 wx hs hz hh
  have HL := hid hL
  clear k1 f1 hz hh hL
  go_enter Try.func17, Try.ntmps17
  go_wp2_with fail
  refine k0.mono ?_
  rintro e w1 ⟨rfl, hk1⟩
  have HK1 := hid hk1
  clear hk1
  go_wp2_with fail
  refine (k3 _ HK1.out).mono ?_
  rintro e w2 ⟨ns, rfl, ho, hn, hk2⟩
  have HK2 := hid (HK1.out.trans hk2)
  have HN : Hid (Needs w2 w1.heap.size L zs (tri bs)) := ⟨ns, ho, hn⟩
  clear ho hn hk2 k3
  go_wp2_with fail
  refine (k2 _ _ HN.out).mono ?_
  rintro e w3 ⟨rfl, hk3⟩
  have HK3 := hid (HK2.out.trans hk3)
  clear hk3
  go_wp2
  go_ret
  exact ⟨rfl, HK3.out⟩
theorem implRoomFor_any (v : Value) (zs : List Int) (x : FR) (id len : Int) (w : World) (hid63 : id ≤ 9223372036854775807) (hv : Rd .i64 w v zs) (hx : RdF 3 w x) :
  Calls Try.prog 20 #[v, x.v, .int .i64 id, .int .i64 len] w fun e w' => e = .returned (.bool (roomFor zs (tri x.bs) id len)) ∧ Same w w' := by
 have k0 := roomKnown_any v zs x w hv hx
 have k1 := fun wx (hs : Same w wx) h1 h2 => openNeeds_any v zs x wx (hv.same hs) (hx.same hs) h1 h2
 have kl := recLen_any len
 obtain ⟨a, c, rfl⟩ := hv.form
 have hmax : zs.length ≤ maxLen := hv.1
 unfold maxLen at hmax
 obtain ⟨xe, xa, n, xc, bs⟩ := x
 dsimp only [FR.v] at k0 k1 ⊢
 clear hv hx
 obtain ⟨R, hR⟩ : ∃ R, roomFor zs (tri bs) id len = R := ⟨_, rfl⟩
 rw [hR]
 cases f1 : (lenOK zs && decide (holdsF (tri bs) = 0)) with
 | false =>
  rw [f1] at k0
  unfold roomFor roomB at hR
  rw [if_pos (.inr (.inl (by rw [← Bool.and_assoc, f1]; rfl)))] at hR
  subst hR
  clear k1 f1
  go_enter Try.func20, Try.ntmps20
  go_wp2_with fail
  refine k0.mono ?_
  rintro e w1 ⟨rfl, hk1⟩
  go_wp2
  go_ret
  exact ⟨rfl, hk1⟩
 | true =>
  rw [f1] at k0
  obtain ⟨hz, hh⟩ := (show lenOK zs = true ∧ holdsF (tri bs) = 0 from by simpa using f1)
  by_cases h1 : id < 0
  ·unfold roomFor at hR
   rw [if_pos (.inl h1)] at hR
   subst hR
   clear k1 f1 hz hh
   go_enter Try.func20, Try.ntmps20
   go_wp2_with fail
   refine k0.mono ?_
   rintro e w1 ⟨rfl, hk1⟩
   go_wp2
   go_ret
   exact ⟨rfl, hk1⟩
  obtain ⟨i, rfl⟩ : ∃ i : Nat, id = (i : Int) := ⟨id.toNat, by omega⟩
  obtain ⟨hl1, hl2, hl3, _⟩ := lenOK_yes hz
  by_cases h2 : zs.length ≤ i
  ·have h2' : (zs.length : Int) ≤ (i : Int) := by omega
   unfold roomFor roomB at hR
   rw [if_pos (.inr (.inl (by rw [hz, hh]; simp [inB]; omega)))] at hR
   subst hR
   clear k1 f1 hz hh
   go_enter Try.func20, Try.ntmps20
   go_wp2_with fail
   refine k0.mono ?_
   rintro e w1 ⟨rfl, hk1⟩
   go_wp2
   go_ret
   exact ⟨rfl, hk1⟩
  have h2' : ¬ (zs.length : Int) ≤ (i : Int) := by omega
  cases f2 : inB len 0 1000 with
  | false =>
   rw [f2] at kl
   unfold roomFor at hR
   rw [if_pos (.inr (.inr f2))] at hR
   subst hR
   clear k1 f1 hz hh
   go_enter Try.func20, Try.ntmps20
   go_wp2_with fail
   refine k0.mono ?_
   rintro e w1 ⟨rfl, hk1⟩
   go_wp2_with fail
   refine (kl _).mono ?_
   rintro e w2 ⟨rfl, rfl⟩
   go_wp2
   go_ret
   exact ⟨rfl, hk1⟩
  | true =>
   rw [f2] at kl
   have hlen : 0 ≤ len ∧ len ≤ 1000 := by simpa [inB] using f2
   rw [fitB_roomFor hz hh (by omega) hlen] at hR
   subst hR
   obtain ⟨L, hL⟩ : ∃ L, zs.length = L := ⟨_, rfl⟩
   rw [hL] at h2 h2' hmax k0 k1 ⊢
   have k2 := fun wx g hN => fits_any wx g L i len zs (tri bs) hN hz hh hL.symm (by omega) hlen
   have k3 := fun wx hs => k1 wx hs hz hh
   generalize fitB zs (tri bs) i len = R at k2 ⊢
   clear k1 f1 hz hh hL f2
   go_enter Try.func20, Try.ntmps20
   go_wp2_with fail
   refine k0.mono ?_
   rintro e w1 ⟨rfl, hk1⟩
   have HK1 := hid hk1
   clear hk1
   go_wp2_with fail
   refine (kl _).mono ?_
   rintro e w1b ⟨rfl, rfl⟩
   go_wp2_with fail
   refine (k3 _ HK1.out).mono ?_
   rintro e w2 ⟨ns, rfl, ho, hn, hk2⟩
   have HK2 := hid (HK1.out.trans hk2)
   have HN := (show Hid (Needs w2 _ L zs (tri bs)) from ⟨ns, ho, hn⟩)
   clear ho hn hk2 k3
   go_wp2_with fail
   refine (k2 _ _ HN.out).mono ?_
   rintro e w3 ⟨rfl, hk3⟩
   have HK3 := hid (HK2.out.trans hk3)
   clear hk3
   go_wp2
   go_ret
   exact ⟨rfl, HK3.out⟩
end Go.Proofs.Ytmpfpgelaipmnab
