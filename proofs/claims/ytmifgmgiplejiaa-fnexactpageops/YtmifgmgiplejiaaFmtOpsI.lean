/-
  impl.PageOps.
-/
import Derived.Test.YtmifgmgiplejiaaFmtOpsS
import Derived.Test.YtmifgmgiplejiaaMemR4
import Derived.Test.YtmifgmgiplejiaaBlkBig
namespace Go.Proofs.Ytmifgmgiplejiaa
set_option maxRecDepth 100000
set_option maxHeartbeats 8000000
open Go.RowKit
set_option linter.unusedVariables false
set_option linter.unusedSimpArgs false

theorem set_rep {α : Type} (xs : List α) (n : Nat) (z y : α) (h : 0 < n) (k : Nat) (hk : k = xs.length) : (xs ++ List.replicate n z).set k y = (xs ++ [y]) ++ List.replicate (n - 1) z := by
  subst hk
  obtain ⟨m, rfl⟩ : ∃ m, n = m + 1 := ⟨n - 1, by omega⟩
  rw [List.set_append_right (h := Nat.le_refl _), Nat.sub_self, List.replicate_succ, List.set_cons_zero, Nat.add_sub_cancel, List.append_assoc]
  rfl
theorem lay_full (xs vs : List Value) (h : vs.length = xs.length) : lay xs 0 vs = vs := by
  unfold lay
  simp [h]

theorem implPgOps_any (p f l g : Int) (v : Value) (bs : List Int) (w : World) (hn : bs.length ≤ 1099511627776) (hv : Rd .u8 w v bs) :
    Calls Try.prog 23 #[.agg #[.int .i64 p, .int .i64 f, .int .i64 l], .int .i64 g, v] w fun e w' => ∃ v, e = .returned v ∧ OpsR w w' (pgOps p f l g bs) v := by
  have HK0 := hid (sameA w [.int .i64 p, .int .i64 f, .int .i64 l] 25)
  have k0 := fun wx => implPgSec_any p f l g wx
  obtain ⟨s, hs⟩ : ∃ s, pgSec p f l g = s := ⟨_, rfl⟩
  have hcs := pgSec_cases p f l g
  unfold pgOps
  rw [hs] at k0 hcs ⊢
  obtain ⟨av, cv, rfl⟩ := hv.form
  have HV := hid hv
  clear hv hs
  by_cases h1 : s < 0
  · rw [if_pos (.inl h1)]
    obtain rfl : s = -1 := by
      rcases hcs with h | ⟨hg, ha, hb, hc⟩
      · exact h
      · have := geo_good hg; omega
    clear hcs
    go_enter Try.func23, Try.ntmps23
    go_wp2_with fail
    refine (k0 _).mono ?_
    rintro e w1 ⟨rfl, hk1⟩
    have HK1 := hid (HK0.out.trans hk1)
    clear hk1
    go_wp2
    go_ret
    exact ⟨_, rfl, _, _, _, [], rfl, rfl, fun b hb => absurd hb (footR_nil b), OwnR.nil _ _ _ _ _, HK1.out⟩
  by_cases h2 : bs.length = 4096
  case neg =>
    rw [if_pos (.inr h2)]
    have h2i : ((bs.length : Int) != 4096) = true := by simp; omega
    have h3 : ¬ s = -1 := by omega
    clear hcs
    go_enter Try.func23, Try.ntmps23
    go_wp2_with fail
    refine (k0 _).mono ?_
    rintro e w1 ⟨rfl, hk1⟩
    have HK1 := hid (HK0.out.trans hk1)
    clear hk1
    go_wp2
    go_ret
    exact ⟨_, rfl, _, _, _, [], rfl, rfl, fun b hb => absurd hb (footR_nil b), OwnR.nil _ _ _ _ _, HK1.out⟩
  rw [if_neg (by rintro (h | h) <;> omega)]
  obtain ⟨h3, h4⟩ : 0 ≤ s ∧ s ≤ 1000 := by
    rcases hcs with h | ⟨hg, ha, hb, hc⟩
    · omega
    · have := geo_good hg; omega
  obtain ⟨bv, ov, hle, rfl, hcv⟩ : ∃ b off, 4096 ≤ cv ∧ av = some ⟨b, off, none⟩ ∧ ∀ i, i < bs.length → w.cell? ⟨b, off + i, none⟩ = some (.int .u8 (bs.getD i 0)) := by
    rcases HV.out.2 with ⟨h, _⟩ | ⟨b, off, c, e, hl, hc⟩
    · rw [h] at h2; simp at h2
    · simp only [Value.slice.injEq, true_and] at e
      obtain ⟨rfl, rfl⟩ := e
      exact ⟨b, off, by omega, rfl, hc⟩
  have HCV := hid hcv
  have HL := hid h2
  rw [h2] at HV ⊢
  have h5 : ¬ s = -1 := by omega
  clear hcs hcv h2 hn h1
  obtain ⟨i0, hi, hz0, hz1, hz2⟩ := info_parts Try.infoROp
  obtain ⟨j0, hj, hy0, hy1, hy2⟩ := info_parts Try.infoByte'
  go_enter Try.func23, Try.ntmps23
  go_wp2_with fail
  refine (k0 _).mono ?_
  rintro e w1 ⟨rfl, hk1⟩
  have HK1 := hid (HK0.out.trans hk1)
  clear hk1 HK0 k0
  go_wp2_with (at_make; go_loud (refine wpList_make_full _ rfl (.const (.int .i64 8)) (.const (.int .i64 8)) 45 rfl 0 64 i0 (.agg #[.int .i64 0, .int .i64 0, .slice none 0 0]) 3 Try.underlying45 hi hz0 hz1 .i64 .i64 _ _ 8 rfl rfl (by simp) (by simp) (by rw [hz2]; omega) (by unfold maxLen; omega) (Nat.zero_le _) ?_); intro w2 hown1 hgrow1; have HO2 : Hid (OwnR kOp 0 64 5 w2 (.slice (some ⟨w1.heap.size, 0, none⟩) 8 8) (List.replicate 8 zOp)) := ownR_made (K := kOp) (zp := zOp) (z := .agg #[.int .i64 0, .int .i64 0, .slice none 0 0]) (by decide) rfl rfl rfl (by first | exact hown1 | simpa [kOp] using hown1); have HK2 : Hid (Same w1 w2) := Kept.of_grown hgrow1 (fun k e => by cases e); clear hown1 hgrow1)
  go_loopw [22] (fun i wr => ∃ (k : Nat) (qs : List EOp), k ≤ 8 ∧ i = .int .i64 (k : Int) ∧ Hid (qs.length = k) ∧ Hid (datOpS qs = pgOpsK s bs k) ∧ Hid (∀ b, (∃ p ∈ qs, (kOp.v p).ownBlock = some b) → w1.heap.size < b) ∧ Hid (OwnR kOp 0 64 5 wr (.slice (some ⟨w1.heap.size, 0, none⟩) 8 8) (qs ++ List.replicate (8 - k) zOp)) ∧ Hid (Same w1 wr)) (fun i _ => 8 - (intOf i).toNat)
  case atStart => exact ⟨0, [], Nat.zero_le _, rfl, rfl, rfl, fun b ⟨p, hp, _⟩ => by simp at hp, by simpa using HO2, HK2⟩
  case round =>
    obtain ⟨k, qs, hk, rfl, HQL, HQ, HFP, HOP, HKr⟩ := hrel
    by_cases hlt : k < 8
    case neg =>
      obtain rfl : k = 8 := by omega
      go_wp2
      go_ret
      have h := HOP.out
      rw [Nat.sub_self, List.replicate_zero, List.append_nil] at h
      refine ⟨_, rfl, _, _, _, qs, rfl, HQ.out, fun x hx => ?_, h, HK1.out.trans HKr.out⟩
      have hz := HK1.out.size
      rcases hx with hx | hx
      · have : w1.heap.size = x := by simpa [Value.ownBlock] using hx
        omega
      · have := HFP.out x hx; omega
    have e1 : ((k : Int) * 512).toNat = k * 512 := by omega
    have g1 : (k : Int) * 512 ≤ 4096 := by omega
    have g5 : (k : Int) * 512 ≤ (cv : Int) := by omega
    have g4 : 0 ≤ (k : Int) * 512 := by omega
    have q1 : IntKind.i64.wrap ((k : Int) * 512) = (k : Int) * 512 := by rw [IntKind.wrap_i64]; omega
    have hne : ¬ cv = k * 512 := by omega
    have hsk : IntKind.i64.wrap (s + (k : Int)) = s + (k : Int) := by rw [IntKind.wrap_i64]; omega
    have hCL : (chunkP bs k).length = 512 := chunkP_length bs k HL.out hlt
    have HCL := hid hCL
    clear hCL
    go_wp2_with (at_make; go_loud (refine wpList_make_full _ rfl (.const (.int .i64 512)) (.const (.int .i64 512)) 30 rfl 0 5 j0 (.int .u8 0) 1 Try.underlying30 hj hy0 hy1 .i64 .i64 _ _ 512 rfl rfl (by simp) (by simp) (by rw [hy2]; omega) (by unfold maxLen; omega) (Nat.zero_le _) ?_); intro w3 hown3 hgrow3; have HO3 := (show Hid (Own 0 5 .u8 w3 (.slice (some ⟨wr.heap.size, 0, none⟩) 512 512) (List.replicate 512 (0 : Int))) from own_made (by simpa using hown3)); have HK3 : Hid (Same wr w3) := Kept.of_grown hgrow3 (fun k e => by cases e); clear hown3 hgrow3; have HB3 := hid (Own.blk HO3.out); have HZ3 : Hid (wr.heap.size < w3.heap.size) := HB3.out.lt; have HSRC : Hid (∀ i, i < (chunkP bs k).length → w3.cell? ⟨bv, ov + k * 512 + i, none⟩ = some (.int .u8 ((chunkP bs k).getD i 0))) := (fun i hi' => by
      have h := ((HK1.out.trans HKr.out).trans HK3.out).cellOf (HCV.out (k * 512 + i) (by have := HL.out; have := HCL.out; omega)) id
      rw [← Nat.add_assoc] at h
      rw [h, chunkP]
      have h512 : i < 512 := by have := HCL.out; omega
      simp [List.getD, List.getElem?_take, List.getElem?_drop, h512, Nat.mul_comm 512 k]); have hcp := run_copy_cells (P := Try.prog) w3 30 30 3 5 wr.heap.size 0 512 512 ⟨bv, ov + k * 512, none⟩ (4096 - k * 512) (cv - k * 512) (vals .u8 (chunkP bs k)) Try.underlying30 (by rw [hj]; simp [hy1]) (by rw [vals_length, HCL.out]; exact (Nat.min_eq_right (by omega)).symm) (news_of HSRC.out) (fun j hj' => by rw [vals_length, HCL.out] at hj'; rw [HB3.out.cell, List.getElem?_eq_getElem (by rw [vals_length, List.length_replicate]; omega)]; rfl) (fun j _ => HB3.out.frozen _) vals_one; rw [vals_length, HCL.out] at hcp; have HB4 := (show Hid (Blk (w3.setCells wr.heap.size 0 (vals .u8 (chunkP bs k))) wr.heap.size 5 (vals .u8 (chunkP bs k))) from (by have h := Blk.setCells (vals .u8 (chunkP bs k)) 0 HB3.out (by rw [vals_length, vals_length, HCL.out, List.length_replicate]; omega); rw [lay_full _ _ (by rw [vals_length, vals_length, HCL.out, List.length_replicate])] at h; exact h)); have HK4 := (show Hid (Same wr (w3.setCells wr.heap.size 0 (vals .u8 (chunkP bs k)))) from Kept.setCells (.inl (Nat.le_refl _)) _ _ HK3.out); generalize w3.setCells wr.heap.size 0 (vals .u8 (chunkP bs k)) = w4 at *; have HO4 : Hid (OwnR kOp 0 64 5 w4 (.slice (some ⟨w1.heap.size, 0, none⟩) 8 8) (qs ++ zOp :: List.replicate (8 - (k + 1)) zOp)) := (by have h := HOP.out.same HK4.out; rw [show 8 - k = 8 - (k + 1) + 1 from by omega, List.replicate_succ] at h; exact h); have HLN : Hid (8 = (qs ++ zOp :: List.replicate (8 - (k + 1)) zOp).length) := (by unfold Hid; simp [HQL.out]; omega); have r0 : w4.cell? ⟨w1.heap.size, k * 3, none⟩ = some (.int .i64 0) := HO4.out.cellMid HLN.out 0 (by decide) _ (by rw [HQL.out]; rfl); have r1 : w4.cell? ⟨w1.heap.size, k * 3 + 1, none⟩ = some (.int .i64 0) := HO4.out.cellMid HLN.out 1 (by decide) _ (by rw [HQL.out]; rfl); have r2 : w4.cell? ⟨w1.heap.size, k * 3 + 2, none⟩ = some (.slice none 0 0) := HO4.out.cellMid HLN.out 2 (by decide) _ (by rw [HQL.out]; rfl); have rf : ∀ j, w4.frozen? ⟨w1.heap.size, j, none⟩ = false := fun j => HO4.out.frozen HLN.out j)
    have hz1 := HKr.out.size
    have hz0' : w1.heap.size < wr.heap.size := (HOP.out.lt w1.heap.size (.inl rfl)).2
    have HU4 := (show Hid (Own 0 5 .u8 w4 (.slice (some ⟨wr.heap.size, 0, none⟩) 512 512) (chunkP bs k)) from (by have h := Blk.own HB4.out (by rw [HCL.out]; unfold maxLen; omega); rw [HCL.out] at h; exact h))
    have HFIN : Hid (OwnR kOp 0 64 5 (w4.setCells w1.heap.size (k * 3) (kOp.cells ⟨1, s + (k : Int), .slice (some ⟨wr.heap.size, 0, none⟩) 512 512, chunkP bs k⟩)) (.slice (some ⟨w1.heap.size, 0, none⟩) 8 8) (qs ++ (⟨1, s + (k : Int), .slice (some ⟨wr.heap.size, 0, none⟩) 512 512, chunkP bs k⟩ : EOp) :: List.replicate (8 - (k + 1)) zOp)) := HO4.out.setElem (p' := (⟨1, s + (k : Int), .slice (some ⟨wr.heap.size, 0, none⟩) 512 512, chunkP bs k⟩ : EOp)) HLN.out (k * 3) (by rw [HQL.out]; rfl) HU4.out (fun b hb hf => by
      have h1 : b = wr.heap.size := (Option.some.inj hb : wr.heap.size = b).symm
      have h2 : footR kOp (.slice (some ⟨w1.heap.size, 0, none⟩) 8 8) (qs ++ List.replicate (8 - k) zOp) b := by rw [show 8 - k = 8 - (k + 1) + 1 from by omega, List.replicate_succ]; exact hf
      have h3 := (HOP.out.lt b h2).2
      omega)
    go_roundw
    case rel =>
      refine ⟨k + 1, qs ++ [⟨1, s + (k : Int), .slice (some ⟨wr.heap.size, 0, none⟩) 512 512, chunkP bs k⟩], by omega, by go_num, by simp [HQL.out, Hid], ?_, ?_, ?_, ?_⟩
      · have h := HQ.out
        unfold Hid
        rw [pgOpsK_succ]
        simp only [datOpS, List.map_append] at h ⊢
        rw [h]; rfl
      · rintro b ⟨q, hq, hb⟩
        rcases List.mem_append.1 hq with hq | hq
        · exact HFP.out b ⟨q, hq, hb⟩
        · simp at hq
          subst hq
          have : wr.heap.size = b := by simpa [kOp, Value.ownBlock] using hb
          omega
      · unfold Hid
        rw [List.append_assoc]
        exact HFIN.out
      · exact Kept.setCells (a := w1) (.inl (Nat.le_refl _)) (kOp.cells ⟨1, s + (k : Int), .slice (some ⟨wr.heap.size, 0, none⟩) 512 512, chunkP bs k⟩) (k * 3) (HKr.out.trans HK4.out)
    case measure => simp [intOf]; omega
end Go.Proofs.Ytmifgmgiplejiaa
