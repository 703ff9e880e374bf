import Derived.Test.YthmiicnchncecaaG01
import Derived.Test.YthmiicnchncecaaG04
import Derived.Test.YthmiicnchncecaaG00
import Derived.Deep.DeepCutAuto
namespace Go.Proofs.Ythmiicnchncecaa
set_option maxRecDepth 100000
set_option maxHeartbeats 8000000
open Go.RowKit
set_option linter.unusedVariables false
set_option linter.unusedSimpArgs false
def chunkP (bs : List Int) (k : Nat) : List Int := (bs.drop (512 * k)).take 512
def pgOpsK (s : Int) (bs : List Int) (k : Nat) : List (Int × Int × List Int) := (List.range k).map fun (j : Nat) => (1, s + (j : Int), chunkP bs j)
theorem pgOpsK_succ (s : Int) (bs : List Int) (k : Nat) : pgOpsK s bs (k + 1) = pgOpsK s bs k ++ [(1, s + (k : Int), chunkP bs k)] := by
  unfold pgOpsK; rw [List.range_succ, List.map_append]; rfl
theorem chunkP_length (bs : List Int) (k : Nat) (h : bs.length = 4096) (hk : k < 8) : (chunkP bs k).length = 512 := by
  unfold chunkP
  rw [List.length_take, List.length_drop]
  omega
def pgOps (p f l g : Int) (bs : List Int) : List (Int × Int × List Int) := if pgSec p f l g < 0 ∨ bs.length ≠ 4096 then [] else pgOpsK (pgSec p f l g) bs 8
theorem pgOps_small {p f l g : Int} {bs : List Int} {ps : List EOp} (h : datOpS ps = pgOps p f l g bs) : ps.length ≤ 8 ∧ sizeOpS ps ≤ 4096 := by
  have hl := congrArg List.length h
  rw [datOpS_length] at hl
  have hs := size_opsF h
  unfold pgOps at hl hs
  split at hl
  · rename_i hc
    rw [if_pos hc] at hs
    simp only [List.length_nil] at hl
    simp only [List.map_nil, List.sum_nil] at hs
    omega
  · rename_i hc
    rw [if_neg hc] at hs
    have h4 : bs.length = 4096 := by
      by_cases h4 : bs.length = 4096
      · exact h4
      · exact absurd (.inr h4) hc
    simp [pgOpsK] at hl
    refine ⟨by omega, ?_⟩
    rw [hs]
    simp only [pgOpsK, List.map_map]
    have h3 : ∀ k, k ≤ 8 → (((List.range k).map ((fun d : Int × Int × List Int => d.2.2.length) ∘ fun (j : Nat) => ((1 : Int), pgSec p f l g + (j : Int), chunkP bs j)))).sum = 512 * k := fun k => by
      induction k with
      | zero => intro _; rfl
      | succ k ih =>
        intro hk
        rw [List.range_succ, List.map_append, List.sum_append, ih (by omega)]
        simp only [List.map_cons, List.map_nil, Function.comp, List.sum_cons, List.sum_nil, chunkP_length _ _ h4 (show k < 8 by omega)]
        omega
    rw [h3 8 (Nat.le_refl _)]
    omega
theorem specPgOps_any (p f l g : Int) (v : Value) (bs : List Int) (w : World) (hn : bs.length ≤ 1099511627776) (hv : Rd .u8 w v bs) :
    Calls Try.prog 12 #[.agg #[.int .i64 p, .int .i64 f, .int .i64 l], .int .i64 g, v] w fun e w' => ∃ v, e = .returned v ∧ OpsR w w' (pgOps p f l g bs) v := by
  have HK0 := hid (sameA w [.int .i64 p, .int .i64 f, .int .i64 l] 25)
  have HB0 := hid (Blk.newL w [.int .i64 p, .int .i64 f, .int .i64 l] 25)
  have k0 := fun wx => specPgSec_any p f l g wx
  obtain ⟨s, hs⟩ : ∃ s, pgSec p f l g = s := ⟨_, rfl⟩
  have hcs := pgSec_cases p f l g
  unfold pgOps
  rw [hs] at k0 hcs ⊢
  obtain ⟨av, cv, rfl⟩ := hv.form
  have HV := hid hv
  clear hv hs
  by_cases h1 : s < 0
  · rw [if_pos (.inl h1)]
    clear hcs
    go_enter Try.func12, Try.ntmps12
    go_wp2_with fail
    refine (k0 _).mono ?_
    rintro e w1 ⟨rfl, hk1⟩
    have HK1 := hid ((HK0.out.alloc (.cells #[] 41)).trans hk1)
    have HO1 := hid ((opsR_made (w.alloc (.cells #[.int .i64 p, .int .i64 f, .int .i64 l] 25))).same hk1)
    clear hk1
    go_wp2
    go_ret
    exact ⟨_, rfl, _, _, _, [], rfl, rfl, fun b hb => by have := foot_made hb; omega, by have h := HO1.out; rw [World.size_alloc] at h; exact h, HK1.out⟩
  by_cases h2 : bs.length = 4096
  case neg =>
    rw [if_pos (.inr h2)]
    have h2i : ((bs.length : Int) != 4096) = true := by simp; omega
    clear hcs
    go_enter Try.func12, Try.ntmps12
    go_wp2_with fail
    refine (k0 _).mono ?_
    rintro e w1 ⟨rfl, hk1⟩
    have HK1 := hid ((HK0.out.alloc (.cells #[] 41)).trans hk1)
    have HO1 := hid ((opsR_made (w.alloc (.cells #[.int .i64 p, .int .i64 f, .int .i64 l] 25))).same hk1)
    clear hk1
    go_wp2
    go_ret
    exact ⟨_, rfl, _, _, _, [], rfl, rfl, fun b hb => by have := foot_made hb; omega, by have h := HO1.out; rw [World.size_alloc] at h; exact h, HK1.out⟩
  rw [if_neg (by rintro (h | h) <;> omega)]
  obtain ⟨h3, h4⟩ : 0 ≤ s ∧ s ≤ 1000 := by
    rcases hcs with h | ⟨hg, ha, hb, hc⟩
    · omega
    · have := geo_good hg; omega
  obtain ⟨bv, ov, hle, rfl, hcv⟩ : ∃ b off, 4096 ≤ cv ∧ av = some ⟨b, off, none⟩ ∧ ∀ i, i < bs.length → w.cell? ⟨b, off + i, none⟩ = some (.int .u8 (bs.getD i 0)) := by
    rcases HV.out.2 with ⟨h, _⟩ | ⟨b, off, c, e, hl, hc⟩
    · rw [h] at h2; simp at h2
    · simp only [Value.slice.injEq, true_and] at e
      obtain ⟨rfl, rfl⟩ := e
      exact ⟨b, off, by omega, rfl, hc⟩
  have HCV := hid hcv
  have HL := hid h2
  rw [h2] at HV ⊢
  clear hcs hcv h2 hn
  obtain ⟨i0, hi, hz0, hz1, hz2⟩ := info_parts Try.infoROp
  go_enter Try.func12, Try.ntmps12
  go_wp2_with fail
  refine (k0 _).mono ?_
  rintro e w1 ⟨rfl, hk1⟩
  have HK1 := hid ((HK0.out.alloc (.cells #[] 41)).trans hk1)
  have HO1 := hid ((opsR_made (w.alloc (.cells #[.int .i64 p, .int .i64 f, .int .i64 l] 25))).same hk1)
  have HB1 := hid ((HB0.out.alloc (.cells #[] 41)).same hk1)
  clear hk1
  go_wp2_with fail
  go_loopw [7, 8] (fun o i wr => ∃ (k : Nat) (aa : Option Addr) (na ca : Nat) (qs : List EOp), k ≤ 8 ∧ o = .slice aa na ca ∧ i = .int .i64 (k : Int) ∧ Hid (qs.length = k) ∧ Hid (datOpS qs = pgOpsK s bs k) ∧ Hid (OwnR kOp 0 41 5 wr (.slice aa na ca) qs) ∧ Hid (∀ x, footR kOp (.slice aa na ca) qs x → w.heap.size < x) ∧
    Hid (Blk wr w.heap.size 25 [.int .i64 p, .int .i64 f, .int .i64 l]) ∧ Hid (Same w wr)) (fun _ i _ => 8 - (intOf i).toNat)
  case atStart =>
    refine ⟨0, _, _, _, [], Nat.zero_le _, rfl, rfl, rfl, rfl, by have h := HO1.out; rw [World.size_alloc] at h; exact h, fun x hx => by have := foot_made hx; omega, HB1, HK1⟩
  case round =>
    obtain ⟨k, aa, na, ca, qs, hk, rfl, rfl, HQL, HQ, HOP, HFP, HBL, HKr⟩ := hrel
    clear HK0 HB0 HK1 HO1 HB1
    by_cases hlt : k < 8
    case neg =>
      obtain rfl : k = 8 := by omega
      go_wp2
      go_ret
      exact ⟨_, rfl, _, _, _, qs, rfl, HQ.out, fun x hx => by have := HFP.out x hx; omega, HOP.out, HKr.out⟩
    obtain ⟨c0, c1, c2⟩ := HBL.out.all3
    have hzL := HBL.out.lt
    have e1 : ((k : Int) * 512).toNat = k * 512 := by omega
    have e2 : (((k : Int) + 1) * 512).toNat = k * 512 + 512 := by omega
    have g1 : ((k : Int) + 1) * 512 ≤ (cv : Int) := by omega
    have g2 : 0 ≤ ((k : Int) + 1) * 512 := by omega
    have g3 : (k : Int) * 512 ≤ ((k : Int) + 1) * 512 := by omega
    have g4 : 0 ≤ (k : Int) * 512 := by omega
    have q1 : IntKind.i64.wrap ((k : Int) * 512) = (k : Int) * 512 := by rw [IntKind.wrap_i64]; omega
    have q2 : IntKind.i64.wrap ((k : Int) + 1) = (k : Int) + 1 := by rw [IntKind.wrap_i64]; omega
    have q3 : IntKind.i64.wrap (((k : Int) + 1) * 512) = ((k : Int) + 1) * 512 := by rw [IntKind.wrap_i64]; omega
    have hne : ¬ cv = k * 512 := by omega
    have hsk : IntKind.i64.wrap (s + (k : Int)) = s + (k : Int) := by rw [IntKind.wrap_i64]; omega
    have HCH := hid (fun wx (hk : Same wr wx) c (h512 : 512 ≤ c) => (show Rd .u8 wx (.slice (some ⟨bv, ov + k * 512, none⟩) 512 c) (chunkP bs k) from by
      have h := Rd.part (n := 512) (c := c) (fun i hi => (HKr.out.trans hk).cellOf (HCV.out i hi) id) (k * 512) 512 (by have := HL.out; omega) rfl h512 (by simp [maxLen])
      rw [chunkP, Nat.mul_comm 512 k]
      exact h))
    have hCL : (chunkP bs k).length ≤ 1099511627776 := by rw [chunkP_length bs k HL.out hlt]; omega
    have HCL := hid hCL
    clear hCL
    go_wp2_with fail
    have hS : (fun wx : World => wx.cell? ⟨w.heap.size, 0, none⟩ = some (.int .i64 p) ∧ wx.cell? ⟨w.heap.size, 1, none⟩ = some (.int .i64 f) ∧ wx.cell? ⟨w.heap.size, 2, none⟩ = some (.int .i64 l)) wr.drew := ⟨c0, c1, c2⟩
    refine wp_region_V (fun wx : World => wx.cell? ⟨w.heap.size, 0, none⟩ = some (.int .i64 p) ∧ wx.cell? ⟨w.heap.size, 1, none⟩ = some (.int .i64 f) ∧ wx.cell? ⟨w.heap.size, 2, none⟩ = some (.int .i64 l)) 99 18 rfl (by kernel_rfl) ?_
    refine tk 0 24 hS ?_
    refine tk 1 25 hS ?_
    refine tk 2 26 hS ?_
    refine tk 4 28 hS ?_
    refine tk 6 30 hS ?_
    refine tk 7 31 hS ?_
    refine tk 8 32 hS ?_
    refine tk 9 33 hS ?_
    refine tk 10 34 hS ?_
    refine tk 11 35 hS ?_
    refine tkV 12 36 (.slice (some ⟨bv, ov + k * 512, none⟩) 512 (cv - k * 512)) hS ?_
    refine wpAnyV_one (i := 3) (by kernel_rfl) rfl (fun K hK => ?_)
    go_simp
    refine (k0 _).mono ?_
    rintro e w3 ⟨rfl, hk3⟩
    have HK3 : Hid (Same wr w3) := (Kept.refl _ _).drew.trans hk3
    clear hk3
    have hS : (fun wx : World => wx.cell? ⟨w.heap.size, 0, none⟩ = some (.int .i64 p) ∧ wx.cell? ⟨w.heap.size, 1, none⟩ = some (.int .i64 f) ∧ wx.cell? ⟨w.heap.size, 2, none⟩ = some (.int .i64 l)) w3 := ⟨HK3.out.cellOf c0 id, HK3.out.cellOf c1 id, HK3.out.cellOf c2 id⟩
    refine hK.out _ _ (fun _ => hS) ?_
    clear hK K
    try simp only [Act.put, sA, s0, sS]
    refine tk 5 29 hS ?_
    refine wpAnyV_one (i := 13) (by kernel_rfl) rfl (fun K hK => ?_)
    go_simp
    refine (l1Copy_any _ (chunkP bs k) _ HCL.out (HCH.out _ HK3.out _ (by omega))).mono ?_
    rintro e w4 ⟨a4, n4, c4', rfl, ho4, hf4, hk4⟩
    have HK4 : Hid (Same wr w4) := HK3.out.trans hk4
    have HO4 := (show Hid (Own 0 5 .u8 w4 (.slice a4 n4 c4') (chunkP bs k)) from ho4)
    have HF4 : Hid (∀ b, (Value.slice a4 n4 c4').ownBlock = some b → wr.heap.size ≤ b) := fun x hx => Nat.le_trans HK3.out.size (hf4 x hx)
    clear ho4 hf4 hk4
    have hS : (fun wx : World => wx.cell? ⟨w.heap.size, 0, none⟩ = some (.int .i64 p) ∧ wx.cell? ⟨w.heap.size, 1, none⟩ = some (.int .i64 f) ∧ wx.cell? ⟨w.heap.size, 2, none⟩ = some (.int .i64 l)) w4 := ⟨HK4.out.cellOf c0 id, HK4.out.cellOf c1 id, HK4.out.cellOf c2 id⟩
    refine hK.out _ _ (fun _ => hS) ?_
    clear hK K
    try simp only [Act.put, sA, s0, sS]
    refine tk 14 38 hS ?_
    refine wpAnyV_one (i := 15) (by kernel_rfl) rfl (fun K hK => ?_)
    go_simp
    have hS : (fun wx : World => wx.cell? ⟨w.heap.size, 0, none⟩ = some (.int .i64 p) ∧ wx.cell? ⟨w.heap.size, 1, none⟩ = some (.int .i64 f) ∧ wx.cell? ⟨w.heap.size, 2, none⟩ = some (.int .i64 l)) (w4.alloc (.cells #[.int .i64 1, .int .i64 (s + (k : Int)), .slice a4 n4 c4'] 41)) := ⟨(HK4.out.alloc _).cellOf c0 id, (HK4.out.alloc _).cellOf c1 id, (HK4.out.alloc _).cellOf c2 id⟩
    refine hK.out _ _ (fun _ => hS) ?_
    clear hK K
    try simp only [Act.put, sA, s0, sS]
    have HKO := (show Hid ((w4.alloc (.cells #[.int .i64 1, .int .i64 (s + (k : Int)), .slice a4 n4 c4'] 41)).ownsRow 0 41 3 (.slice aa na ca) k (kOp.all qs)) from by have h := (HOP.out.same (HK4.out.alloc (.cells #[.int .i64 1, .int .i64 (s + (k : Int)), .slice a4 n4 c4'] 41))).row; rw [HQL.out] at h; exact h)
    have HN5 := hid (Blk.newL w4 [.int .i64 1, .int .i64 (s + (k : Int)), .slice a4 n4 c4'] 41)
    refine wpAnyV_one (i := 16) (by kernel_rfl) rfl (fun K hK => ?_)
    refine step_append_lies _ (by rfl) (.tmp 24) (.tmp 39) 31 (by rfl) 0 41 i0 _ 3 40 Try.underlying31 hi hz0 hz1 hz2 rfl (by omega) (.slice aa na ca) k (kOp.all qs) (by rfl) (by exact HKO.out) ⟨w4.heap.size, 0, none⟩ 1 1 [.int .i64 1, .int .i64 (s + (k : Int)), .slice a4 n4 c4'] (by rfl) (by rfl) (World.news_of_block (cs := #[.int .i64 1, .int .i64 (s + (k : Int)), .slice a4 n4 c4']) (t := 41) (fr := (0, 0)) (by exact HN5.out)) (by simp [Value.oneCell']) (by omega) (by unfold maxLen; omega) (by omega) (Nat.zero_le _) (w4.heap.size + 1) (by simp) ?_
    intro g5 cap5 w5 hown5 hgrow5 hat5 hlt5
    have HOWN5 := (show Hid (w5.ownsRow 0 41 3 (.slice (some ⟨g5, 0, none⟩) (k + 1) cap5) (k + 1) (kOp.all qs ++ [.int .i64 1, .int .i64 (s + (k : Int)), .slice a4 n4 c4'])) from hown5)
    have HG5 := (show Hid ((w4.alloc (.cells #[.int .i64 1, .int .i64 (s + (k : Int)), .slice a4 n4 c4'] 41)).grownBy w5 (Value.slice aa na ca).ownBlock) from hgrow5)
    have HAT5 : Hid ((Value.slice aa na ca).ownBlock = some g5 ∨ g5 = w4.heap.size + 1) := hat5
    have hnb : ¬ (Value.slice aa na ca).ownBlock = some w.heap.size := fun e => by have := HFP.out _ (.inl e); omega
    have HK5 := (show Hid (Kept (fun b => (Value.slice aa na ca).ownBlock = some b) wr w5) from ((HK4.out.alloc _).mono (fun _ _ e => e.elim)).trans (Kept.of_grown HG5.out (fun k e => e)))
    clear hown5 hgrow5 hat5
    have hS : (fun wx : World => wx.cell? ⟨w.heap.size, 0, none⟩ = some (.int .i64 p) ∧ wx.cell? ⟨w.heap.size, 1, none⟩ = some (.int .i64 f) ∧ wx.cell? ⟨w.heap.size, 2, none⟩ = some (.int .i64 l)) w5 := ⟨HK5.out.cellOf c0 hnb, HK5.out.cellOf c1 hnb, HK5.out.cellOf c2 hnb⟩
    refine hK.out _ _ (fun _ => hS) ?_
    clear hK K
    try simp only [Act.put, sA, s0, sS]
    refine tk 17 7 hS ?_
    refine wpAnyV_done (by kernel_rfl) ?_
    have hz4 := HK4.out.size
    have hz5 := HK5.out.size
    have hsnoc := OwnR.snoc (K := kOp) (⟨1, s + (k : Int), .slice a4 n4 c4', chunkP bs k⟩ : EOp) (HOP.out.same (HK4.out.alloc (.cells #[.int .i64 1, .int .i64 (s + (k : Int)), .slice a4 n4 c4'] 41))) (HO4.out.same ((Kept.refl _ _).alloc _)) (fun b hb hf => by have h1 := HF4.out b hb; have h2 := (HOP.out.lt b hf).2; omega) HG5.out HOWN5.out HQL.out.symm (by rw [World.size_alloc]; exact HAT5.out)
    have HSN := hid hsnoc
    clear hsnoc
    go_wp2
    go_roundw
    case rel =>
      refine ⟨k + 1, _, _, _, _, by omega, rfl, by go_num, ?_, ?_, HSN, fun x hx => ?_, ?_, ?_⟩
      · have := HQL.out; simp [Hid, this]
      · have h := HQ.out
        unfold Hid
        rw [pgOpsK_succ]
        simp only [datOpS, List.map_append] at h ⊢
        rw [h]; rfl
      · rcases footR_snoc (v := .slice aa na ca) x hx with rfl | hx | hx
        · rcases HAT5.out with h | h
          · exact HFP.out _ (.inl h)
          · omega
        · exact HFP.out x hx
        · have := HF4.out x hx; omega
      · exact HBL.out.kept HK5.out hnb
      · exact HKr.out.next HK5.out (fun i hi e => by have := HFP.out i (.inl e); omega)
    case measure => simp [intOf]; omega
end Go.Proofs.Ythmiicnchncecaa

namespace Go.Proofs.Ythmiicnchncecaa
set_option maxRecDepth 100000
set_option maxHeartbeats 8000000
open Go.RowKit
set_option linter.unusedVariables false
set_option linter.unusedSimpArgs false
theorem lay_full (xs vs : List Value) (h : vs.length = xs.length) : lay xs 0 vs = vs := by
  unfold lay
  simp [h]
theorem implPgOps_any (p f l g : Int) (v : Value) (bs : List Int) (w : World) (hn : bs.length ≤ 1099511627776) (hv : Rd .u8 w v bs) :
    Calls Try.prog 14 #[.agg #[.int .i64 p, .int .i64 f, .int .i64 l], .int .i64 g, v] w fun e w' => ∃ v, e = .returned v ∧ OpsR w w' (pgOps p f l g bs) v := by
  have HK0 := hid (sameA w [.int .i64 p, .int .i64 f, .int .i64 l] 25)
  have k0 := fun wx => implPgSec_any p f l g wx
  obtain ⟨s, hs⟩ : ∃ s, pgSec p f l g = s := ⟨_, rfl⟩
  have hcs := pgSec_cases p f l g
  unfold pgOps
  rw [hs] at k0 hcs ⊢
  obtain ⟨av, cv, rfl⟩ := hv.form
  have HV := hid hv
  clear hv hs
  by_cases h1 : s < 0
  · rw [if_pos (.inl h1)]
    obtain rfl : s = -1 := by
      rcases hcs with h | ⟨hg, ha, hb, hc⟩
      · exact h
      · have := geo_good hg; omega
    clear hcs
    go_enter Try.func14, Try.ntmps14
    go_wp2_with fail
    refine (k0 _).mono ?_
    rintro e w1 ⟨rfl, hk1⟩
    have HK1 := hid (HK0.out.trans hk1)
    clear hk1
    go_wp2
    go_ret
    exact ⟨_, rfl, _, _, _, [], rfl, rfl, fun b hb => absurd hb (footR_nil b), OwnR.nil _ _ _ _ _, HK1.out⟩
  by_cases h2 : bs.length = 4096
  case neg =>
    rw [if_pos (.inr h2)]
    have h2i : ((bs.length : Int) != 4096) = true := by simp; omega
    have h3 : ¬ s = -1 := by omega
    clear hcs
    go_enter Try.func14, Try.ntmps14
    go_wp2_with fail
    refine (k0 _).mono ?_
    rintro e w1 ⟨rfl, hk1⟩
    have HK1 := hid (HK0.out.trans hk1)
    clear hk1
    go_wp2
    go_ret
    exact ⟨_, rfl, _, _, _, [], rfl, rfl, fun b hb => absurd hb (footR_nil b), OwnR.nil _ _ _ _ _, HK1.out⟩
  rw [if_neg (by rintro (h | h) <;> omega)]
  obtain ⟨h3, h4⟩ : 0 ≤ s ∧ s ≤ 1000 := by
    rcases hcs with h | ⟨hg, ha, hb, hc⟩
    · omega
    · have := geo_good hg; omega
  obtain ⟨bv, ov, hle, rfl, hcv⟩ : ∃ b off, 4096 ≤ cv ∧ av = some ⟨b, off, none⟩ ∧ ∀ i, i < bs.length → w.cell? ⟨b, off + i, none⟩ = some (.int .u8 (bs.getD i 0)) := by
    rcases HV.out.2 with ⟨h, _⟩ | ⟨b, off, c, e, hl, hc⟩
    · rw [h] at h2; simp at h2
    · simp only [Value.slice.injEq, true_and] at e
      obtain ⟨rfl, rfl⟩ := e
      exact ⟨b, off, by omega, rfl, hc⟩
  have HCV := hid hcv
  have HL := hid h2
  rw [h2] at HV ⊢
  have h5 : ¬ s = -1 := by omega
  clear hcs hcv h2 hn h1
  obtain ⟨i0, hi, hz0, hz1, hz2⟩ := info_parts Try.infoROp
  obtain ⟨j0, hj, hy0, hy1, hy2⟩ := info_parts Try.infoByte'
  go_enter Try.func14, Try.ntmps14
  go_wp2_with fail
  refine (k0 _).mono ?_
  rintro e w1 ⟨rfl, hk1⟩
  have HK1 := hid (HK0.out.trans hk1)
  clear hk1 HK0 k0
  go_wp2_with (at_make; go_loud (refine wpList_make_full _ rfl (.const (.int .i64 8)) (.const (.int .i64 8)) 31 rfl 0 41 i0 (.agg #[.int .i64 0, .int .i64 0, .slice none 0 0]) 3 Try.underlying31 hi hz0 hz1 .i64 .i64 _ _ 8 rfl rfl (by simp) (by simp) (by rw [hz2]; omega) (by unfold maxLen; omega) (Nat.zero_le _) ?_); intro w2 hown1 hgrow1; have HO2 : Hid (OwnR kOp 0 41 5 w2 (.slice (some ⟨w1.heap.size, 0, none⟩) 8 8) (List.replicate 8 zOp)) := ownR_made (K := kOp) (zp := zOp) (z := .agg #[.int .i64 0, .int .i64 0, .slice none 0 0]) (by decide) rfl rfl rfl (by first | exact hown1 | simpa [kOp] using hown1); have HK2 : Hid (Same w1 w2) := Kept.of_grown hgrow1 (fun k e => by cases e); clear hown1 hgrow1)
  go_loopw [22] (fun i wr => ∃ (k : Nat) (qs : List EOp), k ≤ 8 ∧ i = .int .i64 (k : Int) ∧ Hid (qs.length = k) ∧ Hid (datOpS qs = pgOpsK s bs k) ∧ Hid (∀ b, (∃ p ∈ qs, (kOp.v p).ownBlock = some b) → w1.heap.size < b) ∧ Hid (OwnR kOp 0 41 5 wr (.slice (some ⟨w1.heap.size, 0, none⟩) 8 8) (qs ++ List.replicate (8 - k) zOp)) ∧ Hid (Same w1 wr)) (fun i _ => 8 - (intOf i).toNat)
  case atStart => exact ⟨0, [], Nat.zero_le _, rfl, rfl, rfl, fun b ⟨p, hp, _⟩ => by simp at hp, by simpa using HO2, HK2⟩
  case round =>
    obtain ⟨k, qs, hk, rfl, HQL, HQ, HFP, HOP, HKr⟩ := hrel
    by_cases hlt : k < 8
    case neg =>
      obtain rfl : k = 8 := by omega
      go_wp2
      go_ret
      have h := HOP.out
      rw [Nat.sub_self, List.replicate_zero, List.append_nil] at h
      refine ⟨_, rfl, _, _, _, qs, rfl, HQ.out, fun x hx => ?_, h, HK1.out.trans HKr.out⟩
      have hz := HK1.out.size
      rcases hx with hx | hx
      · have : w1.heap.size = x := by simpa [Value.ownBlock] using hx
        omega
      · have := HFP.out x hx; omega
    have e1 : ((k : Int) * 512).toNat = k * 512 := by omega
    have g1 : (k : Int) * 512 ≤ 4096 := by omega
    have g5 : (k : Int) * 512 ≤ (cv : Int) := by omega
    have g4 : 0 ≤ (k : Int) * 512 := by omega
    have q1 : IntKind.i64.wrap ((k : Int) * 512) = (k : Int) * 512 := by rw [IntKind.wrap_i64]; omega
    have hne : ¬ cv = k * 512 := by omega
    have hsk : IntKind.i64.wrap (s + (k : Int)) = s + (k : Int) := by rw [IntKind.wrap_i64]; omega
    have hCL : (chunkP bs k).length = 512 := chunkP_length bs k HL.out hlt
    have HCL := hid hCL
    clear hCL
    go_wp2_with (at_make; go_loud (refine wpList_make_full _ rfl (.const (.int .i64 512)) (.const (.int .i64 512)) 30 rfl 0 5 j0 (.int .u8 0) 1 Try.underlying30 hj hy0 hy1 .i64 .i64 _ _ 512 rfl rfl (by simp) (by simp) (by rw [hy2]; omega) (by unfold maxLen; omega) (Nat.zero_le _) ?_); intro w3 hown3 hgrow3; have HO3 := (show Hid (Own 0 5 .u8 w3 (.slice (some ⟨wr.heap.size, 0, none⟩) 512 512) (List.replicate 512 (0 : Int))) from own_made (by simpa using hown3)); have HK3 : Hid (Same wr w3) := Kept.of_grown hgrow3 (fun k e => by cases e); clear hown3 hgrow3; have HB3 := hid (Own.blk HO3.out); have HZ3 : Hid (wr.heap.size < w3.heap.size) := HB3.out.lt; have HSRC : Hid (∀ i, i < (chunkP bs k).length → w3.cell? ⟨bv, ov + k * 512 + i, none⟩ = some (.int .u8 ((chunkP bs k).getD i 0))) := (fun i hi' => by
      have h := ((HK1.out.trans HKr.out).trans HK3.out).cellOf (HCV.out (k * 512 + i) (by have := HL.out; have := HCL.out; omega)) id
      rw [← Nat.add_assoc] at h
      rw [h, chunkP]
      have h512 : i < 512 := by have := HCL.out; omega
      simp [List.getD, List.getElem?_take, List.getElem?_drop, h512, Nat.mul_comm 512 k]); have hcp := run_copy_cells (P := Try.prog) w3 30 30 3 5 wr.heap.size 0 512 512 ⟨bv, ov + k * 512, none⟩ (4096 - k * 512) (cv - k * 512) (vals .u8 (chunkP bs k)) Try.underlying30 (by rw [hj]; simp [hy1]) (by rw [vals_length, HCL.out]; exact (Nat.min_eq_right (by omega)).symm) (news_of HSRC.out) (fun j hj' => by rw [vals_length, HCL.out] at hj'; rw [HB3.out.cell, List.getElem?_eq_getElem (by rw [vals_length, List.length_replicate]; omega)]; rfl) (fun j _ => HB3.out.frozen _) vals_one; rw [vals_length, HCL.out] at hcp; have HB4 := (show Hid (Blk (w3.setCells wr.heap.size 0 (vals .u8 (chunkP bs k))) wr.heap.size 5 (vals .u8 (chunkP bs k))) from (by have h := Blk.setCells (vals .u8 (chunkP bs k)) 0 HB3.out (by rw [vals_length, vals_length, HCL.out, List.length_replicate]; omega); rw [lay_full _ _ (by rw [vals_length, vals_length, HCL.out, List.length_replicate])] at h; exact h)); have HK4 := (show Hid (Same wr (w3.setCells wr.heap.size 0 (vals .u8 (chunkP bs k)))) from Kept.setCells (.inl (Nat.le_refl _)) _ _ HK3.out); generalize w3.setCells wr.heap.size 0 (vals .u8 (chunkP bs k)) = w4 at *; have HO4 : Hid (OwnR kOp 0 41 5 w4 (.slice (some ⟨w1.heap.size, 0, none⟩) 8 8) (qs ++ zOp :: List.replicate (8 - (k + 1)) zOp)) := (by have h := HOP.out.same HK4.out; rw [show 8 - k = 8 - (k + 1) + 1 from by omega, List.replicate_succ] at h; exact h); have HLN : Hid (8 = (qs ++ zOp :: List.replicate (8 - (k + 1)) zOp).length) := (by unfold Hid; simp [HQL.out]; omega); have r0 : w4.cell? ⟨w1.heap.size, k * 3, none⟩ = some (.int .i64 0) := HO4.out.cellMid HLN.out 0 (by decide) _ (by rw [HQL.out]; rfl); have r1 : w4.cell? ⟨w1.heap.size, k * 3 + 1, none⟩ = some (.int .i64 0) := HO4.out.cellMid HLN.out 1 (by decide) _ (by rw [HQL.out]; rfl); have r2 : w4.cell? ⟨w1.heap.size, k * 3 + 2, none⟩ = some (.slice none 0 0) := HO4.out.cellMid HLN.out 2 (by decide) _ (by rw [HQL.out]; rfl); have rf : ∀ j, w4.frozen? ⟨w1.heap.size, j, none⟩ = false := fun j => HO4.out.frozen HLN.out j)
    have hz1 := HKr.out.size
    have hz0' : w1.heap.size < wr.heap.size := (HOP.out.lt w1.heap.size (.inl rfl)).2
    have HU4 := (show Hid (Own 0 5 .u8 w4 (.slice (some ⟨wr.heap.size, 0, none⟩) 512 512) (chunkP bs k)) from (by have h := Blk.own HB4.out (by rw [HCL.out]; unfold maxLen; omega); rw [HCL.out] at h; exact h))
    have HFIN : Hid (OwnR kOp 0 41 5 (w4.setCells w1.heap.size (k * 3) (kOp.cells ⟨1, s + (k : Int), .slice (some ⟨wr.heap.size, 0, none⟩) 512 512, chunkP bs k⟩)) (.slice (some ⟨w1.heap.size, 0, none⟩) 8 8) (qs ++ (⟨1, s + (k : Int), .slice (some ⟨wr.heap.size, 0, none⟩) 512 512, chunkP bs k⟩ : EOp) :: List.replicate (8 - (k + 1)) zOp)) := HO4.out.setElem (p' := (⟨1, s + (k : Int), .slice (some ⟨wr.heap.size, 0, none⟩) 512 512, chunkP bs k⟩ : EOp)) HLN.out (k * 3) (by rw [HQL.out]; rfl) HU4.out (fun b hb hf => by
      have h1 : b = wr.heap.size := (Option.some.inj hb : wr.heap.size = b).symm
      have h2 : footR kOp (.slice (some ⟨w1.heap.size, 0, none⟩) 8 8) (qs ++ List.replicate (8 - k) zOp) b := by rw [show 8 - k = 8 - (k + 1) + 1 from by omega, List.replicate_succ]; exact hf
      have h3 := (HOP.out.lt b h2).2
      omega)
    go_roundw
    case rel =>
      refine ⟨k + 1, qs ++ [⟨1, s + (k : Int), .slice (some ⟨wr.heap.size, 0, none⟩) 512 512, chunkP bs k⟩], by omega, by go_num, by simp [HQL.out, Hid], ?_, ?_, ?_, ?_⟩
      · have h := HQ.out
        unfold Hid
        rw [pgOpsK_succ]
        simp only [datOpS, List.map_append] at h ⊢
        rw [h]; rfl
      · rintro b ⟨q, hq, hb⟩
        rcases List.mem_append.1 hq with hq | hq
        · exact HFP.out b ⟨q, hq, hb⟩
        · simp at hq
          subst hq
          have : wr.heap.size = b := by simpa [kOp, Value.ownBlock] using hb
          omega
      · unfold Hid
        rw [List.append_assoc]
        exact HFIN.out
      · exact Kept.setCells (a := w1) (.inl (Nat.le_refl _)) (kOp.cells ⟨1, s + (k : Int), .slice (some ⟨wr.heap.size, 0, none⟩) 512 512, chunkP bs k⟩) (k * 3) (HKr.out.trans HK4.out)
    case measure => simp [intOf]; omega
end Go.Proofs.Ythmiicnchncecaa

namespace Go.Proofs.Ythmiicnchncecaa
open Go.RowKit
set_option linter.unusedVariables false
set_option maxRecDepth 100000 in
set_option maxHeartbeats 16000000 in
theorem pageOps_law (gp0 gf0 gl0 : Int) (s1 : Int) (v2 : Value) (bs2 : List Int) (w : World) (hv2 : Rd .u8 w v2 bs2) :
    Calls Try.prog 5 #[.agg #[.int .i64 gp0, .int .i64 gf0, .int .i64 gl0], .int .i64 s1, v2] w fun e w' => e = .returned (.bool true) ∧ Same w w' := by
  obtain ⟨a2a, c2a, rfl⟩ := hv2.form
  have hm2 := hv2.1
  unfold maxLen at hm2
  have HV2 := (show Hid (Rd .u8 w (.slice a2a bs2.length c2a) bs2) from hv2)
  clear hv2
  go_enter Try.func5, Try.ntmps5
  have HKw : Hid (Same w w) := Kept.refl _ _
  by_cases hb2 : (1048576 : Int) < (bs2.length : Int)
  · go_wp2
    go_ret
    exact ⟨rfl, by first | exact Kept.refl _ _ | exact (Kept.refl _ _).alloc _ | exact ((Kept.refl _ _).alloc _).alloc _⟩
  go_wp2_with fail
  refine (toGeo_any gp0 gf0 gl0 _).mono ?_
  rintro e w1 ⟨rfl, hk⟩
  have hkk : Same w w1 := ((Kept.refl _ _).alloc _).trans hk
  have hzw1 := hk.size
  rw [World.size_alloc] at hzw1
  have HA0w1 := (show Hid (Blk w1 (w.heap.size) 23 [.int .i64 gp0, .int .i64 gf0, .int .i64 gl0]) from (Blk.new w #[.int .i64 gp0, .int .i64 gf0, .int .i64 gl0] 23).same hk)
  have HKw1 := (show Hid (Same w w1) from HKw.out.trans hkk)
  clear hkk hk
  have cA0_0 : w1.cell? ⟨w.heap.size, 0, none⟩ = some (.int .i64 gp0) := HA0w1.out.cell 0
  have cA0_1 : w1.cell? ⟨w.heap.size, 1, none⟩ = some (.int .i64 gf0) := HA0w1.out.cell 1
  have cA0_2 : w1.cell? ⟨w.heap.size, 2, none⟩ = some (.int .i64 gl0) := HA0w1.out.cell 2
  have lA0 := HA0w1.out.lt
  go_wp2_with fail
  refine (toByteS_any _ bs2 _ (by omega) (HV2.out.same HKw1.out)).mono ?_
  rintro e w2 ⟨gC2, rfl, hf, ho, hk⟩
  have hf : ∀ b, (Value.slice (some ⟨gC2, 0, none⟩) bs2.length bs2.length).ownBlock = some b → _ ≤ b := fun b hb => by rw [← (Option.some.inj hb : gC2 = b)]; exact hf
  have HFC2 := (show Hid (∀ b, (Value.slice (some ⟨gC2, 0, none⟩) bs2.length bs2.length).ownBlock = some b → w1.heap.size ≤ b ∧ b < w2.heap.size) from fun b hb => ⟨hf b hb, (ho.lt b hb).2⟩)
  have HC2w2 := (show Hid (Own 0 5 .u8 w2 (.slice (some ⟨gC2, 0, none⟩) bs2.length bs2.length) bs2) from ho)
  clear hf ho
  have hkk : Same w1 w2 := hk
  have hzw2 := hkk.size
  have HA0w2 := (show Hid (Blk w2 (w.heap.size) 23 [.int .i64 gp0, .int .i64 gf0, .int .i64 gl0]) from HA0w1.out.same hkk)
  have HKw2 := (show Hid (Same w w2) from HKw1.out.trans hkk)
  clear hkk hk
  clear cA0_0 cA0_1 cA0_2 lA0
  have cA0_0 : w2.cell? ⟨w.heap.size, 0, none⟩ = some (.int .i64 gp0) := HA0w2.out.cell 0
  have cA0_1 : w2.cell? ⟨w.heap.size, 1, none⟩ = some (.int .i64 gf0) := HA0w2.out.cell 1
  have cA0_2 : w2.cell? ⟨w.heap.size, 2, none⟩ = some (.int .i64 gl0) := HA0w2.out.cell 2
  have lA0 := HA0w2.out.lt
  go_wp2_with fail
  refine (specPgOps_any gp0 gf0 gl0 s1 _ bs2 _ (by omega) (HC2w2.out.rd)).mono ?_
  rintro e w3 ⟨_, rfl, aW, nW, cW, qsW, rfl, hR, hf, ho, hk⟩
  have HR := (show Hid (datOpS qsW = pgOps gp0 gf0 gl0 s1 bs2) from hR)
  have HSM : Hid (∀ qs : List EOp, datOpS qs = datOpS qsW → qs.length ≤ 1048576 ∧ sizeOpS qs ≤ 16777216) := fun qs hd => by
    have hd := hd.trans HR.out
    have h2 := pgOps_small hd
    omega
  have HFW := (show Hid (∀ b, footR kOp (.slice aW nW cW) qsW b → w2.heap.size ≤ b ∧ b < w3.heap.size) from fun b hb => ⟨hf b hb, (ho.lt b hb).2⟩)
  have HWw3 := (show Hid (OwnR kOp 0 41 5 w3 (.slice aW nW cW) qsW) from ho)
  clear hf ho hR
  have hkk : Same w2 w3 := hk
  have hzw3 := hkk.size
  have HA0w3 := (show Hid (Blk w3 (w.heap.size) 23 [.int .i64 gp0, .int .i64 gf0, .int .i64 gl0]) from HA0w2.out.same hkk)
  have HC2w3 := (show Hid (Own 0 5 .u8 w3 (.slice (some ⟨gC2, 0, none⟩) bs2.length bs2.length) bs2) from HC2w2.out.same hkk)
  have HKw3 := (show Hid (Same w w3) from HKw2.out.trans hkk)
  clear hkk hk
  clear cA0_0 cA0_1 cA0_2 lA0
  have cA0_0 : w3.cell? ⟨w.heap.size, 0, none⟩ = some (.int .i64 gp0) := HA0w3.out.cell 0
  have cA0_1 : w3.cell? ⟨w.heap.size, 1, none⟩ = some (.int .i64 gf0) := HA0w3.out.cell 1
  have cA0_2 : w3.cell? ⟨w.heap.size, 2, none⟩ = some (.int .i64 gl0) := HA0w3.out.cell 2
  have lA0 := HA0w3.out.lt
  go_wp2_with fail
  refine (toByteS_any _ bs2 _ (by omega) (HV2.out.same HKw3.out)).mono ?_
  rintro e w4 ⟨gX2, rfl, hf, ho, hk⟩
  have hf : ∀ b, (Value.slice (some ⟨gX2, 0, none⟩) bs2.length bs2.length).ownBlock = some b → _ ≤ b := fun b hb => by rw [← (Option.some.inj hb : gX2 = b)]; exact hf
  have HFX2 := (show Hid (∀ b, (Value.slice (some ⟨gX2, 0, none⟩) bs2.length bs2.length).ownBlock = some b → w3.heap.size ≤ b ∧ b < w4.heap.size) from fun b hb => ⟨hf b hb, (ho.lt b hb).2⟩)
  have HX2w4 := (show Hid (Own 0 5 .u8 w4 (.slice (some ⟨gX2, 0, none⟩) bs2.length bs2.length) bs2) from ho)
  clear hf ho
  have hkk : Same w3 w4 := hk
  have hzw4 := hkk.size
  have HA0w4 := (show Hid (Blk w4 (w.heap.size) 23 [.int .i64 gp0, .int .i64 gf0, .int .i64 gl0]) from HA0w3.out.same hkk)
  have HWw4 := (show Hid (OwnR kOp 0 41 5 w4 (.slice aW nW cW) qsW) from HWw3.out.same hkk)
  have HKw4 := (show Hid (Same w w4) from HKw3.out.trans hkk)
  clear hkk hk
  clear cA0_0 cA0_1 cA0_2 lA0
  have cA0_0 : w4.cell? ⟨w.heap.size, 0, none⟩ = some (.int .i64 gp0) := HA0w4.out.cell 0
  have cA0_1 : w4.cell? ⟨w.heap.size, 1, none⟩ = some (.int .i64 gf0) := HA0w4.out.cell 1
  have cA0_2 : w4.cell? ⟨w.heap.size, 2, none⟩ = some (.int .i64 gl0) := HA0w4.out.cell 2
  have lA0 := HA0w4.out.lt
  go_wp2_with fail
  refine (toGeo_any gp0 gf0 gl0 _).mono ?_
  rintro e w5 ⟨rfl, hk⟩
  have hkk : Same w4 w5 := hk
  have hzw5 := hkk.size
  have HA0w5 := (show Hid (Blk w5 (w.heap.size) 23 [.int .i64 gp0, .int .i64 gf0, .int .i64 gl0]) from HA0w4.out.same hkk)
  have HWw5 := (show Hid (OwnR kOp 0 41 5 w5 (.slice aW nW cW) qsW) from HWw4.out.same hkk)
  have HX2w5 := (show Hid (Own 0 5 .u8 w5 (.slice (some ⟨gX2, 0, none⟩) bs2.length bs2.length) bs2) from HX2w4.out.same hkk)
  have HKw5 := (show Hid (Same w w5) from HKw4.out.trans hkk)
  clear hkk hk
  clear cA0_0 cA0_1 cA0_2 lA0
  have cA0_0 : w5.cell? ⟨w.heap.size, 0, none⟩ = some (.int .i64 gp0) := HA0w5.out.cell 0
  have cA0_1 : w5.cell? ⟨w.heap.size, 1, none⟩ = some (.int .i64 gf0) := HA0w5.out.cell 1
  have cA0_2 : w5.cell? ⟨w.heap.size, 2, none⟩ = some (.int .i64 gl0) := HA0w5.out.cell 2
  have lA0 := HA0w5.out.lt
  go_wp2_with fail
  refine (implPgOps_any gp0 gf0 gl0 s1 _ bs2 _ (by omega) (HX2w5.out.rd)).mono ?_
  rintro e w6 ⟨_, rfl, aG, nG, cG, qsG, rfl, hR, hf, ho, hk⟩
  have HQG : Hid (datOpS qsG = datOpS qsW) := hR.trans HR.out.symm
  have HFG := (show Hid (∀ b, footR kOp (.slice aG nG cG) qsG b → w5.heap.size ≤ b ∧ b < w6.heap.size) from fun b hb => ⟨hf b hb, (ho.lt b hb).2⟩)
  have HGw6 := (show Hid (OwnR kOp 0 41 5 w6 (.slice aG nG cG) qsG) from ho)
  clear hf ho hR
  have hkk : Same w5 w6 := hk
  have hzw6 := hkk.size
  have HA0w6 := (show Hid (Blk w6 (w.heap.size) 23 [.int .i64 gp0, .int .i64 gf0, .int .i64 gl0]) from HA0w5.out.same hkk)
  have HWw6 := (show Hid (OwnR kOp 0 41 5 w6 (.slice aW nW cW) qsW) from HWw5.out.same hkk)
  have HX2w6 := (show Hid (Own 0 5 .u8 w6 (.slice (some ⟨gX2, 0, none⟩) bs2.length bs2.length) bs2) from HX2w5.out.same hkk)
  have HKw6 := (show Hid (Same w w6) from HKw5.out.trans hkk)
  clear hkk hk
  clear cA0_0 cA0_1 cA0_2 lA0
  have cA0_0 : w6.cell? ⟨w.heap.size, 0, none⟩ = some (.int .i64 gp0) := HA0w6.out.cell 0
  have cA0_1 : w6.cell? ⟨w.heap.size, 1, none⟩ = some (.int .i64 gf0) := HA0w6.out.cell 1
  have cA0_2 : w6.cell? ⟨w.heap.size, 2, none⟩ = some (.int .i64 gl0) := HA0w6.out.cell 2
  have lA0 := HA0w6.out.lt
  go_wp2_with fail
  refine (eqOpS_own 0 _ _ qsG qsW _ (Nat.le_trans (HSM.out qsG HQG.out).1 (by omega)) HQG.out (fun p hp => by have h1 := (HSM.out qsG HQG.out).2; have h2 := sizeOpS_mem qsG p hp; omega) HGw6.out HWw6.out).mono ?_
  rintro e w7 ⟨rfl, hk⟩
  have hkk : Same w6 w7 := hk
  have hzw7 := hkk.size
  have HA0w7 := (show Hid (Blk w7 (w.heap.size) 23 [.int .i64 gp0, .int .i64 gf0, .int .i64 gl0]) from HA0w6.out.same hkk)
  have HWw7 := (show Hid (OwnR kOp 0 41 5 w7 (.slice aW nW cW) qsW) from HWw6.out.same hkk)
  have HX2w7 := (show Hid (Own 0 5 .u8 w7 (.slice (some ⟨gX2, 0, none⟩) bs2.length bs2.length) bs2) from HX2w6.out.same hkk)
  have HGw7 := (show Hid (OwnR kOp 0 41 5 w7 (.slice aG nG cG) qsG) from HGw6.out.same hkk)
  have HKw7 := (show Hid (Same w w7) from HKw6.out.trans hkk)
  clear hkk hk
  clear cA0_0 cA0_1 cA0_2 lA0
  have cA0_0 : w7.cell? ⟨w.heap.size, 0, none⟩ = some (.int .i64 gp0) := HA0w7.out.cell 0
  have cA0_1 : w7.cell? ⟨w.heap.size, 1, none⟩ = some (.int .i64 gf0) := HA0w7.out.cell 1
  have cA0_2 : w7.cell? ⟨w.heap.size, 2, none⟩ = some (.int .i64 gl0) := HA0w7.out.cell 2
  have lA0 := HA0w7.out.lt
  go_wp2_with fail
  refine (toByteS_any _ bs2 _ (by omega) (HV2.out.same HKw7.out)).mono ?_
  rintro e w8 ⟨gD2, rfl, hf, ho, hk⟩
  have hf : ∀ b, (Value.slice (some ⟨gD2, 0, none⟩) bs2.length bs2.length).ownBlock = some b → _ ≤ b := fun b hb => by rw [← (Option.some.inj hb : gD2 = b)]; exact hf
  have HFD2 := (show Hid (∀ b, (Value.slice (some ⟨gD2, 0, none⟩) bs2.length bs2.length).ownBlock = some b → w7.heap.size ≤ b ∧ b < w8.heap.size) from fun b hb => ⟨hf b hb, (ho.lt b hb).2⟩)
  have HD2w8 := (show Hid (Own 0 5 .u8 w8 (.slice (some ⟨gD2, 0, none⟩) bs2.length bs2.length) bs2) from ho)
  clear hf ho
  have hkk : Same w7 w8 := hk
  have hzw8 := hkk.size
  have HA0w8 := (show Hid (Blk w8 (w.heap.size) 23 [.int .i64 gp0, .int .i64 gf0, .int .i64 gl0]) from HA0w7.out.same hkk)
  have HWw8 := (show Hid (OwnR kOp 0 41 5 w8 (.slice aW nW cW) qsW) from HWw7.out.same hkk)
  have HX2w8 := (show Hid (Own 0 5 .u8 w8 (.slice (some ⟨gX2, 0, none⟩) bs2.length bs2.length) bs2) from HX2w7.out.same hkk)
  have HGw8 := (show Hid (OwnR kOp 0 41 5 w8 (.slice aG nG cG) qsG) from HGw7.out.same hkk)
  have HKw8 := (show Hid (Same w w8) from HKw7.out.trans hkk)
  clear hkk hk
  clear cA0_0 cA0_1 cA0_2 lA0
  have cA0_0 : w8.cell? ⟨w.heap.size, 0, none⟩ = some (.int .i64 gp0) := HA0w8.out.cell 0
  have cA0_1 : w8.cell? ⟨w.heap.size, 1, none⟩ = some (.int .i64 gf0) := HA0w8.out.cell 1
  have cA0_2 : w8.cell? ⟨w.heap.size, 2, none⟩ = some (.int .i64 gl0) := HA0w8.out.cell 2
  have lA0 := HA0w8.out.lt
  go_wp2_with fail
  refine (eqByteS_own 0 _ _ bs2 _ (by omega) HX2w8.out HD2w8.out).mono ?_
  rintro e w9 ⟨rfl, nn, hww⟩
  have hk : Same w8 w9 := by rw [hww]; exact (Kept.refl _ _).drewN _
  clear hww
  have hkk : Same w8 w9 := hk
  have hzw9 := hkk.size
  have HA0w9 := (show Hid (Blk w9 (w.heap.size) 23 [.int .i64 gp0, .int .i64 gf0, .int .i64 gl0]) from HA0w8.out.same hkk)
  have HWw9 := (show Hid (OwnR kOp 0 41 5 w9 (.slice aW nW cW) qsW) from HWw8.out.same hkk)
  have HX2w9 := (show Hid (Own 0 5 .u8 w9 (.slice (some ⟨gX2, 0, none⟩) bs2.length bs2.length) bs2) from HX2w8.out.same hkk)
  have HGw9 := (show Hid (OwnR kOp 0 41 5 w9 (.slice aG nG cG) qsG) from HGw8.out.same hkk)
  have HKw9 := (show Hid (Same w w9) from HKw8.out.trans hkk)
  clear hkk hk
  clear cA0_0 cA0_1 cA0_2 lA0
  have hE0 : (0 : Int) ≤ 1 := by omega
  have hE0b : (1 : Int) ≤ 1 := by omega
  have cA0_0 : w9.cell? ⟨w.heap.size, 0, none⟩ = some (.int .i64 gp0) := HA0w9.out.cell 0
  have cA0_1 : w9.cell? ⟨w.heap.size, 1, none⟩ = some (.int .i64 gf0) := HA0w9.out.cell 1
  have cA0_2 : w9.cell? ⟨w.heap.size, 2, none⟩ = some (.int .i64 gl0) := HA0w9.out.cell 2
  have lA0 := HA0w9.out.lt
  go_wp2_with fail
  refine (markByteS_own 0 _ bs2 1 _ (by omega) (by omega) (by omega) HX2w9.out).mono ?_
  rintro e w10 ⟨rfl, _, hk⟩
  obtain ⟨E1, hE⟩ : ∃ E : Int, 1 + (bs2.length : Int) = E := ⟨_, rfl⟩
  have hE1 : 0 ≤ E1 := by omega
  have hE1b : E1 ≤ 7000001 := by omega
  rw [hE]
  clear hE
  have hzw10 := hk.size
  have HA0w10 := (show Hid (Blk w10 (w.heap.size) 23 [.int .i64 gp0, .int .i64 gf0, .int .i64 gl0]) from HA0w9.out.kept hk (fun e => by have h1 := HFX2.out _ e; omega))
  have HWw10 := (show Hid (OwnR kOp 0 41 5 w10 (.slice aW nW cW) qsW) from HWw9.out.kept hk (fun b hb e => by have h1 := HFX2.out _ e; have h2 := HFW.out b hb; omega))
  have HGw10 := (show Hid (OwnR kOp 0 41 5 w10 (.slice aG nG cG) qsG) from HGw9.out.kept hk (fun b hb e => by have h1 := HFX2.out _ e; have h2 := HFG.out b hb; omega))
  have HKw10 := (show Hid (Same w w10) from HKw9.out.next hk (fun b hb e => by have h1 := HFX2.out _ e; omega))
  clear cA0_0 cA0_1 cA0_2 lA0
  clear hk
  have hEn : ¬ E1 < 0 := by omega
  have cA0_0 : w10.cell? ⟨w.heap.size, 0, none⟩ = some (.int .i64 gp0) := HA0w10.out.cell 0
  have cA0_1 : w10.cell? ⟨w.heap.size, 1, none⟩ = some (.int .i64 gf0) := HA0w10.out.cell 1
  have cA0_2 : w10.cell? ⟨w.heap.size, 2, none⟩ = some (.int .i64 gl0) := HA0w10.out.cell 2
  have lA0 := HA0w10.out.lt
  go_wp2_with fail
  refine (eqOpS_own 0 _ _ qsG qsW _ (Nat.le_trans (HSM.out qsG HQG.out).1 (by omega)) HQG.out (fun p hp => by have h1 := (HSM.out qsG HQG.out).2; have h2 := sizeOpS_mem qsG p hp; omega) HGw10.out HWw10.out).mono ?_
  rintro e w11 ⟨rfl, hk⟩
  have hkk : Same w10 w11 := hk
  have hzw11 := hkk.size
  have HA0w11 := (show Hid (Blk w11 (w.heap.size) 23 [.int .i64 gp0, .int .i64 gf0, .int .i64 gl0]) from HA0w10.out.same hkk)
  have HWw11 := (show Hid (OwnR kOp 0 41 5 w11 (.slice aW nW cW) qsW) from HWw10.out.same hkk)
  have HGw11 := (show Hid (OwnR kOp 0 41 5 w11 (.slice aG nG cG) qsG) from HGw10.out.same hkk)
  have HKw11 := (show Hid (Same w w11) from HKw10.out.trans hkk)
  clear hkk hk
  clear cA0_0 cA0_1 cA0_2 lA0
  have hgs := HSM.out qsG HQG.out
  obtain ⟨M, hM⟩ : ∃ M, endR mOp 1 qsG = M := ⟨_, rfl⟩
  have hM0 : 0 ≤ M := by rw [← hM, endOpS_size]; omega
  have hM1 : M ≤ 1125899906842624 := by rw [← hM, endOpS_size]; omega
  have HM : Hid (endR mOp 1 qsG = M) := hM
  clear hM
  have hM2 : ¬ M < 0 := by omega
  have cA0_0 : w11.cell? ⟨w.heap.size, 0, none⟩ = some (.int .i64 gp0) := HA0w11.out.cell 0
  have cA0_1 : w11.cell? ⟨w.heap.size, 1, none⟩ = some (.int .i64 gf0) := HA0w11.out.cell 1
  have cA0_2 : w11.cell? ⟨w.heap.size, 2, none⟩ = some (.int .i64 gl0) := HA0w11.out.cell 2
  have lA0 := HA0w11.out.lt
  go_wp2_with fail
  have hm := markOpS_own 0 (.slice aG nG cG) qsG 1 w11 (by omega) (by rw [HM.out]; exact hM1) (by omega) HGw11.out
  rw [HM.out] at hm
  refine hm.mono ?_
  clear hm
  rintro e w12 ⟨rfl, ho, hk⟩
  have hzw12 := hk.size
  have HA0w12 := (show Hid (Blk w12 (w.heap.size) 23 [.int .i64 gp0, .int .i64 gf0, .int .i64 gl0]) from HA0w11.out.kept hk (fun e => by have h1 := HFG.out _ e; omega))
  have HWw12 := (show Hid (OwnR kOp 0 41 5 w12 (.slice aW nW cW) qsW) from HWw11.out.kept hk (fun b hb e => by have h1 := HFG.out _ e; have h2 := HFW.out b hb; omega))
  have HKw12 := (show Hid (Same w w12) from HKw11.out.next hk (fun b hb e => by have h1 := HFG.out _ e; omega))
  have HUw12 := (show Hid (OwnR kOp 0 41 5 w12 (.slice aG nG cG) (markR mOp 1 qsG)) from ho)
  clear cA0_0 cA0_1 cA0_2 lA0
  clear hk ho
  have cA0_0 : w12.cell? ⟨w.heap.size, 0, none⟩ = some (.int .i64 gp0) := HA0w12.out.cell 0
  have cA0_1 : w12.cell? ⟨w.heap.size, 1, none⟩ = some (.int .i64 gf0) := HA0w12.out.cell 1
  have cA0_2 : w12.cell? ⟨w.heap.size, 2, none⟩ = some (.int .i64 gl0) := HA0w12.out.cell 2
  have lA0 := HA0w12.out.lt
  go_wp2_with fail
  have hm := heldOpS_own 0 (.slice aG nG cG) qsG 1 w12 (by omega) (by rw [HM.out]; exact hM1) (by omega) HUw12.out
  rw [HM.out] at hm
  refine hm.mono ?_
  clear hm
  rintro e w13 ⟨rfl, hww⟩
  have hk : Same w12 w13 := by rw [hww]; exact Kept.refl _ _
  clear hww
  have hkk : Same w12 w13 := hk
  have hzw13 := hkk.size
  have HA0w13 := (show Hid (Blk w13 (w.heap.size) 23 [.int .i64 gp0, .int .i64 gf0, .int .i64 gl0]) from HA0w12.out.same hkk)
  have HWw13 := (show Hid (OwnR kOp 0 41 5 w13 (.slice aW nW cW) qsW) from HWw12.out.same hkk)
  have HUw13 := (show Hid (OwnR kOp 0 41 5 w13 (.slice aG nG cG) (markR mOp 1 qsG)) from HUw12.out.same hkk)
  have HKw13 := (show Hid (Same w w13) from HKw12.out.trans hkk)
  clear hkk hk
  clear cA0_0 cA0_1 cA0_2 lA0
  have cA0_0 : w13.cell? ⟨w.heap.size, 0, none⟩ = some (.int .i64 gp0) := HA0w13.out.cell 0
  have cA0_1 : w13.cell? ⟨w.heap.size, 1, none⟩ = some (.int .i64 gf0) := HA0w13.out.cell 1
  have cA0_2 : w13.cell? ⟨w.heap.size, 2, none⟩ = some (.int .i64 gl0) := HA0w13.out.cell 2
  have lA0 := HA0w13.out.lt
  go_wp2_with fail
  refine (toGeo_any gp0 gf0 gl0 _).mono ?_
  rintro e w14 ⟨rfl, hk⟩
  have hkk : Same w13 w14 := hk
  have hzw14 := hkk.size
  have HA0w14 := (show Hid (Blk w14 (w.heap.size) 23 [.int .i64 gp0, .int .i64 gf0, .int .i64 gl0]) from HA0w13.out.same hkk)
  have HWw14 := (show Hid (OwnR kOp 0 41 5 w14 (.slice aW nW cW) qsW) from HWw13.out.same hkk)
  have HUw14 := (show Hid (OwnR kOp 0 41 5 w14 (.slice aG nG cG) (markR mOp 1 qsG)) from HUw13.out.same hkk)
  have HKw14 := (show Hid (Same w w14) from HKw13.out.trans hkk)
  clear hkk hk
  clear cA0_0 cA0_1 cA0_2 lA0
  have cA0_0 : w14.cell? ⟨w.heap.size, 0, none⟩ = some (.int .i64 gp0) := HA0w14.out.cell 0
  have cA0_1 : w14.cell? ⟨w.heap.size, 1, none⟩ = some (.int .i64 gf0) := HA0w14.out.cell 1
  have cA0_2 : w14.cell? ⟨w.heap.size, 2, none⟩ = some (.int .i64 gl0) := HA0w14.out.cell 2
  have lA0 := HA0w14.out.lt
  go_wp2_with fail
  refine (toByteS_any _ bs2 _ (by omega) (HV2.out.same HKw14.out)).mono ?_
  rintro e w15 ⟨gJ2, rfl, hf, ho, hk⟩
  have hf : ∀ b, (Value.slice (some ⟨gJ2, 0, none⟩) bs2.length bs2.length).ownBlock = some b → _ ≤ b := fun b hb => by rw [← (Option.some.inj hb : gJ2 = b)]; exact hf
  have HFJ2 := (show Hid (∀ b, (Value.slice (some ⟨gJ2, 0, none⟩) bs2.length bs2.length).ownBlock = some b → w14.heap.size ≤ b ∧ b < w15.heap.size) from fun b hb => ⟨hf b hb, (ho.lt b hb).2⟩)
  have HJ2w15 := (show Hid (Own 0 5 .u8 w15 (.slice (some ⟨gJ2, 0, none⟩) bs2.length bs2.length) bs2) from ho)
  clear hf ho
  have hkk : Same w14 w15 := hk
  have hzw15 := hkk.size
  have HA0w15 := (show Hid (Blk w15 (w.heap.size) 23 [.int .i64 gp0, .int .i64 gf0, .int .i64 gl0]) from HA0w14.out.same hkk)
  have HWw15 := (show Hid (OwnR kOp 0 41 5 w15 (.slice aW nW cW) qsW) from HWw14.out.same hkk)
  have HUw15 := (show Hid (OwnR kOp 0 41 5 w15 (.slice aG nG cG) (markR mOp 1 qsG)) from HUw14.out.same hkk)
  have HKw15 := (show Hid (Same w w15) from HKw14.out.trans hkk)
  clear hkk hk
  clear cA0_0 cA0_1 cA0_2 lA0
  have cA0_0 : w15.cell? ⟨w.heap.size, 0, none⟩ = some (.int .i64 gp0) := HA0w15.out.cell 0
  have cA0_1 : w15.cell? ⟨w.heap.size, 1, none⟩ = some (.int .i64 gf0) := HA0w15.out.cell 1
  have cA0_2 : w15.cell? ⟨w.heap.size, 2, none⟩ = some (.int .i64 gl0) := HA0w15.out.cell 2
  have lA0 := HA0w15.out.lt
  go_wp2_with fail
  refine (implPgOps_any gp0 gf0 gl0 s1 _ bs2 _ (by omega) (HJ2w15.out.rd)).mono ?_
  rintro e w16 ⟨_, rfl, aL, nL, cL, qsL, rfl, hR, hf, ho, hk⟩
  have HQL : Hid (datOpS qsL = datOpS qsW) := hR.trans HR.out.symm
  have HFL := (show Hid (∀ b, footR kOp (.slice aL nL cL) qsL b → w15.heap.size ≤ b ∧ b < w16.heap.size) from fun b hb => ⟨hf b hb, (ho.lt b hb).2⟩)
  have HLw16 := (show Hid (OwnR kOp 0 41 5 w16 (.slice aL nL cL) qsL) from ho)
  clear hf ho hR
  have hkk : Same w15 w16 := hk
  have hzw16 := hkk.size
  have HA0w16 := (show Hid (Blk w16 (w.heap.size) 23 [.int .i64 gp0, .int .i64 gf0, .int .i64 gl0]) from HA0w15.out.same hkk)
  have HWw16 := (show Hid (OwnR kOp 0 41 5 w16 (.slice aW nW cW) qsW) from HWw15.out.same hkk)
  have HUw16 := (show Hid (OwnR kOp 0 41 5 w16 (.slice aG nG cG) (markR mOp 1 qsG)) from HUw15.out.same hkk)
  have HJ2w16 := (show Hid (Own 0 5 .u8 w16 (.slice (some ⟨gJ2, 0, none⟩) bs2.length bs2.length) bs2) from HJ2w15.out.same hkk)
  have HKw16 := (show Hid (Same w w16) from HKw15.out.trans hkk)
  clear hkk hk
  clear cA0_0 cA0_1 cA0_2 lA0
  have cA0_0 : w16.cell? ⟨w.heap.size, 0, none⟩ = some (.int .i64 gp0) := HA0w16.out.cell 0
  have cA0_1 : w16.cell? ⟨w.heap.size, 1, none⟩ = some (.int .i64 gf0) := HA0w16.out.cell 1
  have cA0_2 : w16.cell? ⟨w.heap.size, 2, none⟩ = some (.int .i64 gl0) := HA0w16.out.cell 2
  have lA0 := HA0w16.out.lt
  go_wp2_with fail
  refine (eqOpS_own 0 _ _ qsL qsW _ (Nat.le_trans (HSM.out qsL HQL.out).1 (by omega)) HQL.out (fun p hp => by have h1 := (HSM.out qsL HQL.out).2; have h2 := sizeOpS_mem qsL p hp; omega) HLw16.out HWw16.out).mono ?_
  rintro e w17 ⟨rfl, hk⟩
  have hkk : Same w16 w17 := hk
  have hzw17 := hkk.size
  have HA0w17 := (show Hid (Blk w17 (w.heap.size) 23 [.int .i64 gp0, .int .i64 gf0, .int .i64 gl0]) from HA0w16.out.same hkk)
  have HWw17 := (show Hid (OwnR kOp 0 41 5 w17 (.slice aW nW cW) qsW) from HWw16.out.same hkk)
  have HUw17 := (show Hid (OwnR kOp 0 41 5 w17 (.slice aG nG cG) (markR mOp 1 qsG)) from HUw16.out.same hkk)
  have HLw17 := (show Hid (OwnR kOp 0 41 5 w17 (.slice aL nL cL) qsL) from HLw16.out.same hkk)
  have HKw17 := (show Hid (Same w w17) from HKw16.out.trans hkk)
  clear hkk hk
  clear cA0_0 cA0_1 cA0_2 lA0
  have cA0_0 : w17.cell? ⟨w.heap.size, 0, none⟩ = some (.int .i64 gp0) := HA0w17.out.cell 0
  have cA0_1 : w17.cell? ⟨w.heap.size, 1, none⟩ = some (.int .i64 gf0) := HA0w17.out.cell 1
  have cA0_2 : w17.cell? ⟨w.heap.size, 2, none⟩ = some (.int .i64 gl0) := HA0w17.out.cell 2
  have lA0 := HA0w17.out.lt
  go_wp2_with fail
  have hm := heldOpS_own 0 (.slice aG nG cG) qsG 1 w17 (by omega) (by rw [HM.out]; exact hM1) (by omega) HUw17.out
  rw [HM.out] at hm
  refine hm.mono ?_
  clear hm
  rintro e w18 ⟨rfl, hww⟩
  have hk : Same w17 w18 := by rw [hww]; exact Kept.refl _ _
  clear hww
  have hkk : Same w17 w18 := hk
  have hzw18 := hkk.size
  have HA0w18 := (show Hid (Blk w18 (w.heap.size) 23 [.int .i64 gp0, .int .i64 gf0, .int .i64 gl0]) from HA0w17.out.same hkk)
  have HUw18 := (show Hid (OwnR kOp 0 41 5 w18 (.slice aG nG cG) (markR mOp 1 qsG)) from HUw17.out.same hkk)
  have HKw18 := (show Hid (Same w w18) from HKw17.out.trans hkk)
  clear hkk hk
  clear cA0_0 cA0_1 cA0_2 lA0
  go_wp2
  go_ret
  exact ⟨rfl, HKw18.out⟩
end Go.Proofs.Ythmiicnchncecaa

namespace Go.Proofs.Ythmiicnchncecaa.fnExactPageOps
open Go.ChangeShapes Go.WideShapes Go.ChangeAt Go.RowKit
set_option linter.unusedVariables false
theorem own : ownKnob Try.prog.godebug = none := by kernel_rfl
theorem laidOut : laidOutB Try.prog = true := by kernel_rfl
set_option maxRecDepth 100000 in
theorem lifted (os : Os) (started : os.Started) (H : Type) (enc : TypeId × Value → H) :
    ReturnsInHanded {} Try.checked os 5 .any (Rows.fnExactPageOpsSpec.pre6 enc Try.prog Try.f5 Rows.fnExactPageOpsRow.domain false) (Rows.fnExactPageOpsSpec.post enc Try.prog Try.f5 false true false false) := by
  refine returnsInHanded_of_change (C := Try.checked) own started (by kernel_rfl) Try.func5
    (ChangeSpec.witness6 (enc := enc) (C := Try.checked) false ⟨#[], #[.agg #[.int .i64 0, .int .i64 0, .int .i64 0], .int .i64 0, .slice none 0 0], []⟩ 8 (by kernel_rfl) (by kernel_rfl) (by kernel_rfl) (by kernel_rfl)) ?_
  intro W base args ds gs before hval0 hW hcnd _
  have hval : ∀ (j : Nat) t v, Try.f5.params[j]? = some t → args[j]? = some v → Value.okWide Try.prog W .any base t v := hval0
  have hW' := hW
  obtain ⟨p, q, hA0, hV, rfl, hfz, hnd⟩ := hW
  have hA : DataW.TrodAll enc Try.prog W 0 (fun _ => true) true Try.f5.params.toList args.toList ds p := hA0
  rw [Try.params5] at hA hval
  obtain ⟨v0, vs0, d0, ds0, p0, q0, hargs, rfl, rfl, h0, r0⟩ := trodAll_cons hA
  obtain ⟨v1, vs1, d1, ds1, p1, q1, rfl, rfl, rfl, h1, r1⟩ := trodAll_cons r0
  obtain ⟨v2, vs2, d2, ds2, p2, q2, rfl, rfl, rfl, h2, r2⟩ := trodAll_cons r1
  obtain ⟨rfl, rfl, rfl⟩ := trodAll_nil r2
  obtain rfl : args = #[v0, v1, v2] := by cases args; simp_all
  obtain ⟨rfl, rfl⟩ := trodVars_none hV
  have k0 := h0
  have lt0 : ∀ x ∈ p0, x.block < W.heap.size := by obtain ⟨m, hm⟩ := k0; exact DataW.trod_lt m _ _ _ hm
  obtain ⟨gp0, gf0, gl0, rfl⟩ := open_geo (hval 0 23 v0 rfl rfl) h0
  obtain ⟨a1, rfl, rfl, rfl, w1⟩ := open_int Try.underlying2 (hval 1 2 v1 rfl rfl) h1
  have k2 := h2
  have lt2 : ∀ x ∈ p2, x.block < W.heap.size := by obtain ⟨m, hm⟩ := k2; exact DataW.trod_lt m _ _ _ hm
  obtain ⟨x2, rd2⟩ := open_bytes (hval 2 30 v2 rfl rfl) h2
  clear hA0 hval0
  refine (pageOps_law gp0 gf0 gl0 a1 v2 x2 W rd2).mono fun e W' ⟨he, hk⟩ => ?_
  have bel : Below W.heap.size W W' := hk.below (Nat.le_refl _) (fun _ _ => id)
  subst he
  exact ⟨_, rfl, _, _, _, [], _, [], hW', trodAll_mk1 (shut_bool Try.underlying4 _), (trodAll_cons_mk (Below.trod laidOut (by kernel_rfl) (of_decide_eq_true (by kernel_rfl)) k0 bel lt0) (trodAll_cons_mk (shut_int Try.underlying2 w1) (trodAll_cons_mk (Below.trod laidOut (by kernel_rfl) (of_decide_eq_true (by kernel_rfl)) k2 bel lt2) trodAll_mk0))), rfl, bel.frame _, fun h => by cases h⟩
theorem over : Rows.fnExactPageOpsRow.holds Try.pinned (OpenSpec.ofChange Rows.fnExactPageOpsSpec) :=
  OpenClaim.holds_of_wide 5 Try.f5 rfl rfl rfl rfl rfl rfl rfl ⟨rfl, rfl, rfl, rfl, rfl⟩ rfl rfl rfl rfl rfl (by kernel_rfl) Try.func5 (by kernel_rfl)
    (of_decide_eq_true (by kernel_rfl)) (by unfold Func.isWrapper; first | (rw [if_pos (by decide +kernel)]; kernel_rfl) | (rw [if_neg (by decide +kernel)]; exact ⟨rfl, rfl⟩))
    (fun os started H enc _ => lifted os started H enc)
end Go.Proofs.Ythmiicnchncecaa.fnExactPageOps
namespace Go.Proofs.Ythmiicnchncecaa
theorem pageOps_proved : Rows.FnExactPageOpsSaid := fnExactPageOps.over
#print axioms pageOps_proved
end Go.Proofs.Ythmiicnchncecaa
