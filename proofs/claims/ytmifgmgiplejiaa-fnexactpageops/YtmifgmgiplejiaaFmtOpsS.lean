/-
  spec.PageOps.
-/
import Derived.Test.YtmifgmgiplejiaaFmtNum
import Derived.Test.YtmifgmgiplejiaaOpsR
import Derived.Test.YtmifgmgiplejiaaClone
import Derived.Test.YtmifgmgiplejiaaPart
import Derived.Test.YtmifgmgiplejiaaApp
namespace Go.Proofs.Ytmifgmgiplejiaa
set_option maxRecDepth 100000
set_option maxHeartbeats 8000000
open Go.RowKit
set_option linter.unusedVariables false
set_option linter.unusedSimpArgs false

/-- the k-th sector of bytes -/
def chunkP (bs : List Int) (k : Nat) : List Int := (bs.drop (512 * k)).take 512
def pgOpsK (s : Int) (bs : List Int) (k : Nat) : List (Int × Int × List Int) := (List.range k).map fun (j : Nat) => (1, s + (j : Int), chunkP bs j)
theorem pgOpsK_succ (s : Int) (bs : List Int) (k : Nat) : pgOpsK s bs (k + 1) = pgOpsK s bs k ++ [(1, s + (k : Int), chunkP bs k)] := by
  unfold pgOpsK; rw [List.range_succ, List.map_append]; rfl
theorem chunkP_length (bs : List Int) (k : Nat) (h : bs.length = 4096) (hk : k < 8) : (chunkP bs k).length = 512 := by
  unfold chunkP
  rw [List.length_take, List.length_drop]
  omega
def pgOps (p f l g : Int) (bs : List Int) : List (Int × Int × List Int) := if pgSec p f l g < 0 ∨ bs.length ≠ 4096 then [] else pgOpsK (pgSec p f l g) bs 8
theorem pgOps_small {p f l g : Int} {bs : List Int} {ps : List EOp} (h : datOpS ps = pgOps p f l g bs) : ps.length ≤ 8 ∧ sizeOpS ps ≤ 4096 := by
  have hl := congrArg List.length h
  rw [datOpS_length] at hl
  have hs := size_opsF h
  unfold pgOps at hl hs
  split at hl
  · rename_i hc
    rw [if_pos hc] at hs
    simp only [List.length_nil] at hl
    simp only [List.map_nil, List.sum_nil] at hs
    omega
  · rename_i hc
    rw [if_neg hc] at hs
    have h4 : bs.length = 4096 := by
      by_cases h4 : bs.length = 4096
      · exact h4
      · exact absurd (.inr h4) hc
    simp [pgOpsK] at hl
    refine ⟨by omega, ?_⟩
    rw [hs]
    simp only [pgOpsK, List.map_map]
    have h3 : ∀ k, k ≤ 8 → (((List.range k).map ((fun d : Int × Int × List Int => d.2.2.length) ∘ fun (j : Nat) => ((1 : Int), pgSec p f l g + (j : Int), chunkP bs j)))).sum = 512 * k := fun k => by
      induction k with
      | zero => intro _; rfl
      | succ k ih =>
        intro hk
        rw [List.range_succ, List.map_append, List.sum_append, ih (by omega)]
        simp only [List.map_cons, List.map_nil, Function.comp, List.sum_cons, List.sum_nil, chunkP_length _ _ h4 (show k < 8 by omega)]
        omega
    rw [h3 8 (Nat.le_refl _)]
    omega

theorem specPgOps_any (p f l g : Int) (v : Value) (bs : List Int) (w : World) (hn : bs.length ≤ 1099511627776) (hv : Rd .u8 w v bs) :
    Calls Try.prog 21 #[.agg #[.int .i64 p, .int .i64 f, .int .i64 l], .int .i64 g, v] w fun e w' => ∃ v, e = .returned v ∧ OpsR w w' (pgOps p f l g bs) v := by
  have HK0 := hid (sameA w [.int .i64 p, .int .i64 f, .int .i64 l] 25)
  have HB0 := hid (Blk.newL w [.int .i64 p, .int .i64 f, .int .i64 l] 25)
  have k0 := fun wx => specPgSec_any p f l g wx
  obtain ⟨s, hs⟩ : ∃ s, pgSec p f l g = s := ⟨_, rfl⟩
  have hcs := pgSec_cases p f l g
  unfold pgOps
  rw [hs] at k0 hcs ⊢
  obtain ⟨av, cv, rfl⟩ := hv.form
  have HV := hid hv
  clear hv hs
  by_cases h1 : s < 0
  · rw [if_pos (.inl h1)]
    clear hcs
    go_enter Try.func21, Try.ntmps21
    go_wp2_with fail
    refine (k0 _).mono ?_
    rintro e w1 ⟨rfl, hk1⟩
    have HK1 := hid ((HK0.out.alloc (.cells #[] 64)).trans hk1)
    have HO1 := hid ((opsR_made (w.alloc (.cells #[.int .i64 p, .int .i64 f, .int .i64 l] 25))).same hk1)
    clear hk1
    go_wp2
    go_ret
    exact ⟨_, rfl, _, _, _, [], rfl, rfl, fun b hb => by have := foot_made hb; omega, by have h := HO1.out; rw [World.size_alloc] at h; exact h, HK1.out⟩
  by_cases h2 : bs.length = 4096
  case neg =>
    rw [if_pos (.inr h2)]
    have h2i : ((bs.length : Int) != 4096) = true := by simp; omega
    clear hcs
    go_enter Try.func21, Try.ntmps21
    go_wp2_with fail
    refine (k0 _).mono ?_
    rintro e w1 ⟨rfl, hk1⟩
    have HK1 := hid ((HK0.out.alloc (.cells #[] 64)).trans hk1)
    have HO1 := hid ((opsR_made (w.alloc (.cells #[.int .i64 p, .int .i64 f, .int .i64 l] 25))).same hk1)
    clear hk1
    go_wp2
    go_ret
    exact ⟨_, rfl, _, _, _, [], rfl, rfl, fun b hb => by have := foot_made hb; omega, by have h := HO1.out; rw [World.size_alloc] at h; exact h, HK1.out⟩
  rw [if_neg (by rintro (h | h) <;> omega)]
  obtain ⟨h3, h4⟩ : 0 ≤ s ∧ s ≤ 1000 := by
    rcases hcs with h | ⟨hg, ha, hb, hc⟩
    · omega
    · have := geo_good hg; omega
  obtain ⟨bv, ov, hle, rfl, hcv⟩ : ∃ b off, 4096 ≤ cv ∧ av = some ⟨b, off, none⟩ ∧ ∀ i, i < bs.length → w.cell? ⟨b, off + i, none⟩ = some (.int .u8 (bs.getD i 0)) := by
    rcases HV.out.2 with ⟨h, _⟩ | ⟨b, off, c, e, hl, hc⟩
    · rw [h] at h2; simp at h2
    · simp only [Value.slice.injEq, true_and] at e
      obtain ⟨rfl, rfl⟩ := e
      exact ⟨b, off, by omega, rfl, hc⟩
  have HCV := hid hcv
  have HL := hid h2
  rw [h2] at HV ⊢
  clear hcs hcv h2 hn
  obtain ⟨i0, hi, hz0, hz1, hz2⟩ := info_parts Try.infoROp
  go_enter Try.func21, Try.ntmps21
  go_wp2_with fail
  refine (k0 _).mono ?_
  rintro e w1 ⟨rfl, hk1⟩
  have HK1 := hid ((HK0.out.alloc (.cells #[] 64)).trans hk1)
  have HO1 := hid ((opsR_made (w.alloc (.cells #[.int .i64 p, .int .i64 f, .int .i64 l] 25))).same hk1)
  have HB1 := hid ((HB0.out.alloc (.cells #[] 64)).same hk1)
  clear hk1
  go_wp2_with fail
  go_loopw [7, 8] (fun o i wr => ∃ (k : Nat) (aa : Option Addr) (na ca : Nat) (qs : List EOp), k ≤ 8 ∧ o = .slice aa na ca ∧ i = .int .i64 (k : Int) ∧ Hid (qs.length = k) ∧ Hid (datOpS qs = pgOpsK s bs k) ∧ Hid (OwnR kOp 0 64 5 wr (.slice aa na ca) qs) ∧ Hid (∀ x, footR kOp (.slice aa na ca) qs x → w.heap.size < x) ∧
    Hid (Blk wr w.heap.size 25 [.int .i64 p, .int .i64 f, .int .i64 l]) ∧ Hid (Same w wr)) (fun _ i _ => 8 - (intOf i).toNat)
  case atStart =>
    refine ⟨0, _, _, _, [], Nat.zero_le _, rfl, rfl, rfl, rfl, by have h := HO1.out; rw [World.size_alloc] at h; exact h, fun x hx => by have := foot_made hx; omega, HB1, HK1⟩
  case round =>
    obtain ⟨k, aa, na, ca, qs, hk, rfl, rfl, HQL, HQ, HOP, HFP, HBL, HKr⟩ := hrel
    clear HK0 HB0 HK1 HO1 HB1
    by_cases hlt : k < 8
    case neg =>
      obtain rfl : k = 8 := by omega
      go_wp2
      go_ret
      exact ⟨_, rfl, _, _, _, qs, rfl, HQ.out, fun x hx => by have := HFP.out x hx; omega, HOP.out, HKr.out⟩
    obtain ⟨c0, c1, c2⟩ := HBL.out.all3
    have hzL := HBL.out.lt
    have e1 : ((k : Int) * 512).toNat = k * 512 := by omega
    have e2 : (((k : Int) + 1) * 512).toNat = k * 512 + 512 := by omega
    have g1 : ((k : Int) + 1) * 512 ≤ (cv : Int) := by omega
    have g2 : 0 ≤ ((k : Int) + 1) * 512 := by omega
    have g3 : (k : Int) * 512 ≤ ((k : Int) + 1) * 512 := by omega
    have g4 : 0 ≤ (k : Int) * 512 := by omega
    have q1 : IntKind.i64.wrap ((k : Int) * 512) = (k : Int) * 512 := by rw [IntKind.wrap_i64]; omega
    have q2 : IntKind.i64.wrap ((k : Int) + 1) = (k : Int) + 1 := by rw [IntKind.wrap_i64]; omega
    have q3 : IntKind.i64.wrap (((k : Int) + 1) * 512) = ((k : Int) + 1) * 512 := by rw [IntKind.wrap_i64]; omega
    have hne : ¬ cv = k * 512 := by omega
    have hsk : IntKind.i64.wrap (s + (k : Int)) = s + (k : Int) := by rw [IntKind.wrap_i64]; omega
    have HCH := hid (fun wx (hk : Same wr wx) c (h512 : 512 ≤ c) => (show Rd .u8 wx (.slice (some ⟨bv, ov + k * 512, none⟩) 512 c) (chunkP bs k) from by
      have h := Rd.part (n := 512) (c := c) (fun i hi => (HKr.out.trans hk).cellOf (HCV.out i hi) id) (k * 512) 512 (by have := HL.out; omega) rfl h512 (by simp [maxLen])
      rw [chunkP, Nat.mul_comm 512 k]
      exact h))
    have hCL : (chunkP bs k).length ≤ 1099511627776 := by rw [chunkP_length bs k HL.out hlt]; omega
    have HCL := hid hCL
    clear hCL
    go_wp2_with fail
    have hS : (fun wx : World => wx.cell? ⟨w.heap.size, 0, none⟩ = some (.int .i64 p) ∧ wx.cell? ⟨w.heap.size, 1, none⟩ = some (.int .i64 f) ∧ wx.cell? ⟨w.heap.size, 2, none⟩ = some (.int .i64 l)) wr.drew := ⟨c0, c1, c2⟩
    refine wp_region_V (fun wx : World => wx.cell? ⟨w.heap.size, 0, none⟩ = some (.int .i64 p) ∧ wx.cell? ⟨w.heap.size, 1, none⟩ = some (.int .i64 f) ∧ wx.cell? ⟨w.heap.size, 2, none⟩ = some (.int .i64 l)) 99 18 rfl (by kernel_rfl) ?_
    refine tk 0 24 hS ?_
    refine tk 1 25 hS ?_
    refine tk 2 26 hS ?_
    refine tk 4 28 hS ?_
    refine tk 6 30 hS ?_
    refine tk 7 31 hS ?_
    refine tk 8 32 hS ?_
    refine tk 9 33 hS ?_
    refine tk 10 34 hS ?_
    refine tk 11 35 hS ?_
    refine tkV 12 36 (.slice (some ⟨bv, ov + k * 512, none⟩) 512 (cv - k * 512)) hS ?_
    refine wpAnyV_one (i := 3) (by kernel_rfl) rfl (fun K hK => ?_)
    go_simp
    refine (k0 _).mono ?_
    rintro e w3 ⟨rfl, hk3⟩
    have HK3 : Hid (Same wr w3) := (Kept.refl _ _).drew.trans hk3
    clear hk3
    have hS : (fun wx : World => wx.cell? ⟨w.heap.size, 0, none⟩ = some (.int .i64 p) ∧ wx.cell? ⟨w.heap.size, 1, none⟩ = some (.int .i64 f) ∧ wx.cell? ⟨w.heap.size, 2, none⟩ = some (.int .i64 l)) w3 := ⟨HK3.out.cellOf c0 id, HK3.out.cellOf c1 id, HK3.out.cellOf c2 id⟩
    refine hK.out _ _ (fun _ => hS) ?_
    clear hK K
    try simp only [Act.put, sA, s0, sS]
    refine tk 5 29 hS ?_
    refine wpAnyV_one (i := 13) (by kernel_rfl) rfl (fun K hK => ?_)
    go_simp
    refine (l1Copy_any _ (chunkP bs k) _ HCL.out (HCH.out _ HK3.out _ (by omega))).mono ?_
    rintro e w4 ⟨a4, n4, c4', rfl, ho4, hf4, hk4⟩
    have HK4 : Hid (Same wr w4) := HK3.out.trans hk4
    have HO4 := (show Hid (Own 0 5 .u8 w4 (.slice a4 n4 c4') (chunkP bs k)) from ho4)
    have HF4 : Hid (∀ b, (Value.slice a4 n4 c4').ownBlock = some b → wr.heap.size ≤ b) := fun x hx => Nat.le_trans HK3.out.size (hf4 x hx)
    clear ho4 hf4 hk4
    have hS : (fun wx : World => wx.cell? ⟨w.heap.size, 0, none⟩ = some (.int .i64 p) ∧ wx.cell? ⟨w.heap.size, 1, none⟩ = some (.int .i64 f) ∧ wx.cell? ⟨w.heap.size, 2, none⟩ = some (.int .i64 l)) w4 := ⟨HK4.out.cellOf c0 id, HK4.out.cellOf c1 id, HK4.out.cellOf c2 id⟩
    refine hK.out _ _ (fun _ => hS) ?_
    clear hK K
    try simp only [Act.put, sA, s0, sS]
    refine tk 14 38 hS ?_
    refine wpAnyV_one (i := 15) (by kernel_rfl) rfl (fun K hK => ?_)
    go_simp
    have hS : (fun wx : World => wx.cell? ⟨w.heap.size, 0, none⟩ = some (.int .i64 p) ∧ wx.cell? ⟨w.heap.size, 1, none⟩ = some (.int .i64 f) ∧ wx.cell? ⟨w.heap.size, 2, none⟩ = some (.int .i64 l)) (w4.alloc (.cells #[.int .i64 1, .int .i64 (s + (k : Int)), .slice a4 n4 c4'] 64)) := ⟨(HK4.out.alloc _).cellOf c0 id, (HK4.out.alloc _).cellOf c1 id, (HK4.out.alloc _).cellOf c2 id⟩
    refine hK.out _ _ (fun _ => hS) ?_
    clear hK K
    try simp only [Act.put, sA, s0, sS]
    have HKO := (show Hid ((w4.alloc (.cells #[.int .i64 1, .int .i64 (s + (k : Int)), .slice a4 n4 c4'] 64)).ownsRow 0 64 3 (.slice aa na ca) k (kOp.all qs)) from by have h := (HOP.out.same (HK4.out.alloc (.cells #[.int .i64 1, .int .i64 (s + (k : Int)), .slice a4 n4 c4'] 64))).row; rw [HQL.out] at h; exact h)
    have HN5 := hid (Blk.newL w4 [.int .i64 1, .int .i64 (s + (k : Int)), .slice a4 n4 c4'] 64)
    refine wpAnyV_one (i := 16) (by kernel_rfl) rfl (fun K hK => ?_)
    refine step_append_lies _ (by rfl) (.tmp 24) (.tmp 39) 45 (by rfl) 0 64 i0 _ 3 40 Try.underlying45 hi hz0 hz1 hz2 rfl (by omega) (.slice aa na ca) k (kOp.all qs) (by rfl) (by exact HKO.out) ⟨w4.heap.size, 0, none⟩ 1 1 [.int .i64 1, .int .i64 (s + (k : Int)), .slice a4 n4 c4'] (by rfl) (by rfl) (World.news_of_block (cs := #[.int .i64 1, .int .i64 (s + (k : Int)), .slice a4 n4 c4']) (t := 64) (fr := (0, 0)) (by exact HN5.out)) (by simp [Value.oneCell']) (by omega) (by unfold maxLen; omega) (by omega) (Nat.zero_le _) (w4.heap.size + 1) (by simp) ?_
    intro g5 cap5 w5 hown5 hgrow5 hat5 hlt5
    have HOWN5 := (show Hid (w5.ownsRow 0 64 3 (.slice (some ⟨g5, 0, none⟩) (k + 1) cap5) (k + 1) (kOp.all qs ++ [.int .i64 1, .int .i64 (s + (k : Int)), .slice a4 n4 c4'])) from hown5)
    have HG5 := (show Hid ((w4.alloc (.cells #[.int .i64 1, .int .i64 (s + (k : Int)), .slice a4 n4 c4'] 64)).grownBy w5 (Value.slice aa na ca).ownBlock) from hgrow5)
    have HAT5 : Hid ((Value.slice aa na ca).ownBlock = some g5 ∨ g5 = w4.heap.size + 1) := hat5
    have hnb : ¬ (Value.slice aa na ca).ownBlock = some w.heap.size := fun e => by have := HFP.out _ (.inl e); omega
    have HK5 := (show Hid (Kept (fun b => (Value.slice aa na ca).ownBlock = some b) wr w5) from ((HK4.out.alloc _).mono (fun _ _ e => e.elim)).trans (Kept.of_grown HG5.out (fun k e => e)))
    clear hown5 hgrow5 hat5
    have hS : (fun wx : World => wx.cell? ⟨w.heap.size, 0, none⟩ = some (.int .i64 p) ∧ wx.cell? ⟨w.heap.size, 1, none⟩ = some (.int .i64 f) ∧ wx.cell? ⟨w.heap.size, 2, none⟩ = some (.int .i64 l)) w5 := ⟨HK5.out.cellOf c0 hnb, HK5.out.cellOf c1 hnb, HK5.out.cellOf c2 hnb⟩
    refine hK.out _ _ (fun _ => hS) ?_
    clear hK K
    try simp only [Act.put, sA, s0, sS]
    refine tk 17 7 hS ?_
    refine wpAnyV_done (by kernel_rfl) ?_
    have hz4 := HK4.out.size
    have hz5 := HK5.out.size
    have hsnoc := OwnR.snoc (K := kOp) (⟨1, s + (k : Int), .slice a4 n4 c4', chunkP bs k⟩ : EOp) (HOP.out.same (HK4.out.alloc (.cells #[.int .i64 1, .int .i64 (s + (k : Int)), .slice a4 n4 c4'] 64))) (HO4.out.same ((Kept.refl _ _).alloc _)) (fun b hb hf => by have h1 := HF4.out b hb; have h2 := (HOP.out.lt b hf).2; omega) HG5.out HOWN5.out HQL.out.symm (by rw [World.size_alloc]; exact HAT5.out)
    have HSN := hid hsnoc
    clear hsnoc
    go_wp2
    go_roundw
    case rel =>
      refine ⟨k + 1, _, _, _, _, by omega, rfl, by go_num, ?_, ?_, HSN, fun x hx => ?_, ?_, ?_⟩
      · have := HQL.out; simp [Hid, this]
      · have h := HQ.out
        unfold Hid
        rw [pgOpsK_succ]
        simp only [datOpS, List.map_append] at h ⊢
        rw [h]; rfl
      · rcases footR_snoc (v := .slice aa na ca) x hx with rfl | hx | hx
        · rcases HAT5.out with h | h
          · exact HFP.out _ (.inl h)
          · omega
        · exact HFP.out x hx
        · have := HF4.out x hx; omega
      · exact HBL.out.kept HK5.out hnb
      · exact HKr.out.next HK5.out (fun i hi e => by have := HFP.out i (.inl e); omega)
    case measure => simp [intOf]; omega
end Go.Proofs.Ytmifgmgiplejiaa
