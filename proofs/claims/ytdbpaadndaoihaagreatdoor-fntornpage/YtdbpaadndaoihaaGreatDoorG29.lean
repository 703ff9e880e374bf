import Derived.Test.YtdbpaadndaoihaaGreatDoorG24
import Derived.Test.YtdbpaadndaoihaaGreatDoorG23
import Derived.Test.YtdbpaadndaoihaaGreatDoorG03
import Derived.Test.YtdbpaadndaoihaaGreatDoorG28
import Derived.Test.YtdbpaadndaoihaaGreatDoorG26
import Derived.Test.YtdbpaadndaoihaaGreatDoorG12
import Derived.Test.YtdbpaadndaoihaaGreatDoorG10
import Derived.Deep.CutBlock
import Derived.Deep.DeepCutAuto
namespace Go.Proofs.YtdbpaadndaoihaaGreatDoor
set_option maxRecDepth 100000
set_option maxHeartbeats 8000000
set_option linter.unusedVariables false
set_option linter.unusedSimpArgs false
open Go.RowKit Go
theorem lay_full (xs vs : List Value) (h : vs.length = xs.length) : lay xs 0 vs = vs := by
 unfold lay
 simp [h]
theorem implPgOps_any (p f l g : Int) (v : Value) (bs : List Int) (w : World) (hn : bs.length ≤ 1099511627776) (hv : Rd .u8 w v bs) :
  Calls Tryz.prog 12 #[.agg #[.int .i64 p, .int .i64 f, .int .i64 l], .int .i64 g, v] w fun e w' => ∃ v, e = .returned v ∧ OpsR w w' (pgOps p f l g bs) v := by
 have HK0 := hid (sameA w [.int .i64 p, .int .i64 f, .int .i64 l] 24)
 have k0 := fun wx => implPgSec_any p f l g wx
 obtain ⟨s, hs⟩ : ∃ s, pgSec p f l g = s := ⟨_, rfl⟩
 have hcs := pgSec_cases p f l g
 unfold pgOps
 rw [hs] at k0 hcs ⊢
 obtain ⟨av, cv, rfl⟩ := hv.form
 have HV := hid hv
 clear hv hs
 by_cases h1 : s < 0
 ·rw [if_pos (.inl h1)]
  obtain rfl : s = -1 := by
   rcases hcs with h | ⟨hg, ha, hb, hc⟩
   ·exact h
   ·have := geo_good hg; omega
  clear hcs
  go_enter Tryz.func12, Tryz.ntmps12
  go_wp2_with fail
  refine (k0 _).mono ?_
  rintro e w1 ⟨rfl, hk1⟩
  have HK1 := hid (HK0.out.trans hk1)
  clear hk1
  go_wp2
  go_ret
  exact ⟨_, rfl, _, _, _, [], rfl, rfl, fun b hb => absurd hb (footR_nil b), OwnR.nil _ _ _ _ _, HK1.out⟩
 by_cases h2 : bs.length = 4096
 case neg =>
  rw [if_pos (.inr h2)]
  have h2i : ((bs.length : Int) != 4096) = true := by simp; omega
  have h3 : ¬ s = -1 := by omega
  clear hcs
  go_enter Tryz.func12, Tryz.ntmps12
  go_wp2_with fail
  refine (k0 _).mono ?_
  rintro e w1 ⟨rfl, hk1⟩
  have HK1 := hid (HK0.out.trans hk1)
  clear hk1
  go_wp2
  go_ret
  exact ⟨_, rfl, _, _, _, [], rfl, rfl, fun b hb => absurd hb (footR_nil b), OwnR.nil _ _ _ _ _, HK1.out⟩
 rw [if_neg (by rintro (h | h) <;> omega)]
 obtain ⟨h3, h4⟩ : 0 ≤ s ∧ s ≤ 1000 := by
  rcases hcs with h | ⟨hg, ha, hb, hc⟩
  ·omega
  ·have := geo_good hg; omega
 obtain ⟨bv, ov, hle, rfl, hcv⟩ : ∃ b off, 4096 ≤ cv ∧ av = some ⟨b, off, none⟩ ∧ ∀ i, i < bs.length → w.cell? ⟨b, off + i, none⟩ = some (.int .u8 (bs.getD i 0)) := by
  rcases HV.out.2 with ⟨h, _⟩ | ⟨b, off, c, e, hl, hc⟩
  ·rw [h] at h2; simp at h2
  ·simp only [Value.slice.injEq, true_and] at e
   obtain ⟨rfl, rfl⟩ := e
   exact ⟨b, off, by omega, rfl, hc⟩
 have HCV := hid hcv
 have HL := hid h2
 rw [h2] at HV ⊢
 have h5 : ¬ s = -1 := by omega
 clear hcs hcv h2 hn h1
 obtain ⟨i0, hi, hz0, hz1, hz2⟩ := info_parts Tryz.infoROp
 obtain ⟨j0, hj, hy0, hy1, hy2⟩ := info_parts Tryz.infoByte'
 go_enter Tryz.func12, Tryz.ntmps12
 go_wp2_with fail
 refine (k0 _).mono ?_
 rintro e w1 ⟨rfl, hk1⟩
 have HK1 := hid (HK0.out.trans hk1)
 clear hk1 HK0 k0
 go_wp2_with (at_make; go_loud (refine wpList_make_full _ rfl (.const (.int .i64 8)) (.const (.int .i64 8)) 44 rfl 0 95 i0 (.agg #[.int .i64 0, .int .i64 0, .slice none 0 0]) 3 Tryz.underlying44 hi hz0 hz1 .i64 .i64 _ _ 8 rfl rfl (by simp) (by simp) (by rw [hz2]; omega) (by unfold maxLen; omega) (Nat.zero_le _) ?_); intro w2 hown1 hgrow1; have HO2 : Hid (OwnR kOp 0 95 5 w2 (.slice (some ⟨w1.heap.size, 0, none⟩) 8 8) (List.replicate 8 zOp)) := ownR_made (K := kOp) (zp := zOp) (z := .agg #[.int .i64 0, .int .i64 0, .slice none 0 0]) (by decide) rfl rfl rfl (by first | exact hown1 | simpa [kOp] using hown1); have HK2 : Hid (Same w1 w2) := Kept.of_grown hgrow1 (fun k e => by cases e); clear hown1 hgrow1)
 go_loopw [22] (fun i wr => ∃ (k : Nat) (qs : List EOp), k ≤ 8 ∧ i = .int .i64 (k : Int) ∧ Hid (qs.length = k) ∧ Hid (datOpS qs = pgOpsK s bs k) ∧ Hid (∀ b, (∃ p ∈ qs, (kOp.v p).ownBlock = some b) → w1.heap.size < b) ∧ Hid (OwnR kOp 0 95 5 wr (.slice (some ⟨w1.heap.size, 0, none⟩) 8 8) (qs ++ List.replicate (8 - k) zOp)) ∧ Hid (Same w1 wr)) (fun i _ => 8 - (intOf i).toNat)
 case atStart => exact ⟨0, [], Nat.zero_le _, rfl, rfl, rfl, fun b ⟨p, hp, _⟩ => by simp at hp, by simpa using HO2, HK2⟩
 case round =>
  obtain ⟨k, qs, hk, rfl, HQL, HQ, HFP, HOP, HKr⟩ := hrel
  by_cases hlt : k < 8
  case neg =>
   obtain rfl : k = 8 := by omega
   go_wp2
   go_ret
   have h := HOP.out
   rw [Nat.sub_self, List.replicate_zero, List.append_nil] at h
   refine ⟨_, rfl, _, _, _, qs, rfl, HQ.out, fun x hx => ?_, h, HK1.out.trans HKr.out⟩
   have hz := HK1.out.size
   rcases hx with hx | hx
   ·have : w1.heap.size = x := by simpa [Value.ownBlock] using hx
    omega
   ·have := HFP.out x hx; omega
  have e1 : ((k : Int) * 512).toNat = k * 512 := by omega
  have g1 : (k : Int) * 512 ≤ 4096 := by omega
  have g5 : (k : Int) * 512 ≤ (cv : Int) := by omega
  have g4 : 0 ≤ (k : Int) * 512 := by omega
  have q1 : IntKind.i64.wrap ((k : Int) * 512) = (k : Int) * 512 := by rw [IntKind.wrap_i64]; omega
  have hne : ¬ cv = k * 512 := by omega
  have hsk : IntKind.i64.wrap (s + (k : Int)) = s + (k : Int) := by rw [IntKind.wrap_i64]; omega
  have hCL : (chunkP bs k).length = 512 := chunkP_length bs k HL.out hlt
  have HCL := hid hCL
  clear hCL
  go_wp2_with (at_make; go_loud (refine wpList_make_full _ rfl (.const (.int .i64 512)) (.const (.int .i64 512)) 22 rfl 0 5 j0 (.int .u8 0) 1 Tryz.underlying22 hj hy0 hy1 .i64 .i64 _ _ 512 rfl rfl (by simp) (by simp) (by rw [hy2]; omega) (by unfold maxLen; omega) (Nat.zero_le _) ?_); intro w3 hown3 hgrow3; have HO3 := (show Hid (Own 0 5 .u8 w3 (.slice (some ⟨wr.heap.size, 0, none⟩) 512 512) (List.replicate 512 (0 : Int))) from own_made (by simpa using hown3)); have HK3 : Hid (Same wr w3) := Kept.of_grown hgrow3 (fun k e => by cases e); clear hown3 hgrow3; have HB3 := hid (Own.blk HO3.out); have HZ3 : Hid (wr.heap.size < w3.heap.size) := HB3.out.lt; have HSRC : Hid (∀ i, i < (chunkP bs k).length → w3.cell? ⟨bv, ov + k * 512 + i, none⟩ = some (.int .u8 ((chunkP bs k).getD i 0))) := (fun i hi' => by
   have h := ((HK1.out.trans HKr.out).trans HK3.out).cellOf (HCV.out (k * 512 + i) (by have := HL.out; have := HCL.out; omega)) id
   rw [← Nat.add_assoc] at h
   rw [h, chunkP]
   have h512 : i < 512 := by have := HCL.out; omega
   simp [List.getD, List.getElem?_take, List.getElem?_drop, h512, Nat.mul_comm 512 k]); have hcp := run_copy_cells (P := Tryz.prog) w3 22 22 3 5 wr.heap.size 0 512 512 ⟨bv, ov + k * 512, none⟩ (4096 - k * 512) (cv - k * 512) (vals .u8 (chunkP bs k)) Tryz.underlying22 (by rw [hj]; simp [hy1]) (by rw [vals_length, HCL.out]; exact (Nat.min_eq_right (by omega)).symm) (news_of HSRC.out) (fun j hj' => by rw [vals_length, HCL.out] at hj'; rw [HB3.out.cell, List.getElem?_eq_getElem (by rw [vals_length, List.length_replicate]; omega)]; rfl) (fun j _ => HB3.out.frozen _) vals_one; rw [vals_length, HCL.out] at hcp; have HB4 := (show Hid (Blk (w3.setCells wr.heap.size 0 (vals .u8 (chunkP bs k))) wr.heap.size 5 (vals .u8 (chunkP bs k))) from (by have h := Blk.setCells (vals .u8 (chunkP bs k)) 0 HB3.out (by rw [vals_length, vals_length, HCL.out, List.length_replicate]; omega); rw [lay_full _ _ (by rw [vals_length, vals_length, HCL.out, List.length_replicate])] at h; exact h)); have HK4 := (show Hid (Same wr (w3.setCells wr.heap.size 0 (vals .u8 (chunkP bs k)))) from Kept.setCells (.inl (Nat.le_refl _)) _ _ HK3.out); generalize w3.setCells wr.heap.size 0 (vals .u8 (chunkP bs k)) = w4 at *; have HO4 : Hid (OwnR kOp 0 95 5 w4 (.slice (some ⟨w1.heap.size, 0, none⟩) 8 8) (qs ++ zOp :: List.replicate (8 - (k + 1)) zOp)) := (by have h := HOP.out.same HK4.out; rw [show 8 - k = 8 - (k + 1) + 1 from by omega, List.replicate_succ] at h; exact h); have HLN : Hid (8 = (qs ++ zOp :: List.replicate (8 - (k + 1)) zOp).length) := (by unfold Hid; simp [HQL.out]; omega); have r0 : w4.cell? ⟨w1.heap.size, k * 3, none⟩ = some (.int .i64 0) := HO4.out.cellMid HLN.out 0 (by decide) _ (by rw [HQL.out]; rfl); have r1 : w4.cell? ⟨w1.heap.size, k * 3 + 1, none⟩ = some (.int .i64 0) := HO4.out.cellMid HLN.out 1 (by decide) _ (by rw [HQL.out]; rfl); have r2 : w4.cell? ⟨w1.heap.size, k * 3 + 2, none⟩ = some (.slice none 0 0) := HO4.out.cellMid HLN.out 2 (by decide) _ (by rw [HQL.out]; rfl); have rf : ∀ j, w4.frozen? ⟨w1.heap.size, j, none⟩ = false := fun j => HO4.out.frozen HLN.out j)
  have hz1 := HKr.out.size
  have hz0' : w1.heap.size < wr.heap.size := (HOP.out.lt w1.heap.size (.inl rfl)).2
  have HU4 := (show Hid (Own 0 5 .u8 w4 (.slice (some ⟨wr.heap.size, 0, none⟩) 512 512) (chunkP bs k)) from (by have h := Blk.own HB4.out (by rw [HCL.out]; unfold maxLen; omega); rw [HCL.out] at h; exact h))
  have HFIN : Hid (OwnR kOp 0 95 5 (w4.setCells w1.heap.size (k * 3) (kOp.cells ⟨1, s + (k : Int), .slice (some ⟨wr.heap.size, 0, none⟩) 512 512, chunkP bs k⟩)) (.slice (some ⟨w1.heap.size, 0, none⟩) 8 8) (qs ++ (⟨1, s + (k : Int), .slice (some ⟨wr.heap.size, 0, none⟩) 512 512, chunkP bs k⟩ : EOp) :: List.replicate (8 - (k + 1)) zOp)) := HO4.out.setElem (p' := (⟨1, s + (k : Int), .slice (some ⟨wr.heap.size, 0, none⟩) 512 512, chunkP bs k⟩ : EOp)) HLN.out (k * 3) (by rw [HQL.out]; rfl) HU4.out (fun b hb hf => by
   have h1 : b = wr.heap.size := (Option.some.inj hb : wr.heap.size = b).symm
   have h2 : footR kOp (.slice (some ⟨w1.heap.size, 0, none⟩) 8 8) (qs ++ List.replicate (8 - k) zOp) b := by rw [show 8 - k = 8 - (k + 1) + 1 from by omega, List.replicate_succ]; exact hf
   have h3 := (HOP.out.lt b h2).2
   omega)
  go_roundw
  case rel =>
   refine ⟨k + 1, qs ++ [⟨1, s + (k : Int), .slice (some ⟨wr.heap.size, 0, none⟩) 512 512, chunkP bs k⟩], by omega, by go_num, by simp [HQL.out, Hid], ?_, ?_, ?_, ?_⟩
   ·have h := HQ.out
    unfold Hid
    rw [pgOpsK_succ]
    simp only [datOpS, List.map_append] at h ⊢
    rw [h]; rfl
   ·rintro b ⟨q, hq, hb⟩
    rcases List.mem_append.1 hq with hq | hq
    ·exact HFP.out b ⟨q, hq, hb⟩
    ·simp at hq
     subst hq
     have : wr.heap.size = b := by simpa [kOp, Value.ownBlock] using hb
     omega
   ·unfold Hid
    rw [List.append_assoc]
    exact HFIN.out
   ·exact Kept.setCells (a := w1) (.inl (Nat.le_refl _)) (kOp.cells ⟨1, s + (k : Int), .slice (some ⟨wr.heap.size, 0, none⟩) 512 512, chunkP bs k⟩) (k * 3) (HKr.out.trans HK4.out)
  case measure => simp [intOf]; omega
theorem pgSec52 : pgSec 2 3 42 1 = 52 := by kernel_rfl
theorem pgOps52 {bs : List Int} (h : bs.length = 4096) : pgOps 2 3 42 1 bs = pgOpsK ((52 : Nat) : Int) bs 8 := by
 unfold pgOps
 rw [pgSec52, if_neg (fun e => e.elim (by decide) (fun e => e h))]
 rfl
theorem sixty {dur : List Int} (h : dur.length = 30720) : (dur.length % 512 = 0 ∧ 1 ≤ dur.length / 512 ∧ dur.length / 512 ≤ 1024) ∧ 52 + 8 ≤ dur.length / 512 := by
 rw [h]
 decide
theorem valid60 {dur : List Int} (h : dur.length = 30720) : Valid dur.length [] := ⟨⟨(sixty h).1.1, (sixty h).1.2.1, (sixty h).1.2.2, Nat.zero_le _⟩, fun p hp => by simp at hp⟩
theorem run_some {limit : Int} {dur bs r : List Int} {qs : List (Int × List Int)} (hd : dur.length = 30720) (hl : bs.length = 4096) (h : IsRun limit dur [] (pgOps 2 3 42 1 bs) r qs) : r = dur ∧ qs = wrT ((52 : Nat) : Int) bs (usedO limit 8) := by
 have h8 : (pgOpsK ((52 : Nat) : Int) bs 8).length = 8 := by simp [pgOpsK]
 rw [pgOps52 hl] at h
 have e := h.yes (valid60 hd)
 rw [h8, run_page hl (sixty hd).1 (sixty hd).2 _ (usedO_le _ _)] at e
 exact ⟨congrArg Prod.fst e, congrArg Prod.snd e⟩
theorem sync_all {dur bs r : List Int} {qs : List (Int × List Int)} (hd : dur.length = 30720) (hl : bs.length = 4096) (h : IsSync dur (wrT ((52 : Nat) : Int) bs 8) r qs) : r.length = 30720 ∧ pgT 52 r = bs ∧ qs = [] := by
 have hv : Valid dur.length (wrT ((52 : Nat) : Int) bs 8) := wrT_valid hl (sixty hd).1 (sixty hd).2 (Nat.le_refl 8)
 obtain ⟨e1, e2⟩ := h.elim And.right (fun e => absurd hv e.1)
 rw [wrT_length] at e1
 refine ⟨by rw [e1, settleN_length _ _ _ hv _ (by rw [wrT_length]; exact Nat.le_refl _), hd], by rw [e1, whole_page hl (sixty hd).1 (sixty hd).2], e2⟩
def BnR (R : Nat → Prop) (w0 w w' : World) (e : Ending) (B : Nat) (v : Value) (cs : List Int) (k : Nat) (size : Int) : Prop :=
 ∃ (b off n c : Nat) (bs : List Int) (k' : Nat), e = .returned (.slice (some ⟨b, off, none⟩) n c) ∧ bs.length = n ∧ n ≤ 4096 ∧ IsB bs ∧ RdA w0.heap.size w'.heap.size B w' (.slice (some ⟨b, off, none⟩) n c) bs ∧ k' ≤ k ∧ SrcR w0 w' B v cs k' size ∧ Kept R w w'
def BnG (R : Nat → Prop) (g : Nat) (w0 w w' : World) (e : Ending) (B : Nat) (v : Value) (cs : List Int) (k : Nat) (size : Int) : Prop :=
 ∃ (off n c : Nat) (bs : List Int) (k' : Nat), e = .returned (.slice (some ⟨g, off, none⟩) n c) ∧ bs.length = n ∧ n ≤ 4096 ∧ IsB bs ∧ RdA w0.heap.size w'.heap.size B w' (.slice (some ⟨g, off, none⟩) n c) bs ∧ k' ≤ k ∧ SrcR w0 w' B v cs k' size ∧ Kept R w w'
theorem isB_set {bs : List Int} (h : IsB bs) (i : Nat) (x : Int) (hx : 0 ≤ x ∧ x ≤ 255) : IsB (bs.set i x) := by
 intro y hy
 rcases List.mem_or_eq_of_mem_set hy with hy | rfl
 ·exact h y hy
 ·exact hx
theorem bn_of {R : Nat → Prop} {w0 w w' : World} {B : Nat} {v : Value} {cs : List Int} {k k' : Nat} {size : Int} {g c : Nat} {bs : List Int} (ho : Own 0 5 .u8 w' (.slice (some ⟨g, 0, none⟩) 4096 c) bs) (hl : bs.length = 4096) (hB : IsB bs) (hg : ¬ g = B) (hw : w0.heap.size ≤ g) (hk : k' ≤ k) (hs : SrcR w0 w' B v cs k' size) (hkk : Kept R w w') : BnR R w0 w w' (.returned (.slice (some ⟨g, 0, none⟩) 4096 c)) B v cs k size :=
 ⟨g, 0, 4096, c, bs, k', rfl, hl, Nat.le_refl _, hB, ho.rdA (fun b hb => by have e1 : g = b := (by simpa [Value.ownBlock] using hb); have := (ho.lt b hb).2; omega), hk, hs, hkk⟩
theorem bg_of {R : Nat → Prop} {w0 w w' : World} {B : Nat} {v : Value} {cs : List Int} {k k' : Nat} {size : Int} {g c : Nat} {bs : List Int} (ho : Own 0 5 .u8 w' (.slice (some ⟨g, 0, none⟩) 4096 c) bs) (hl : bs.length = 4096) (hB : IsB bs) (hg : ¬ g = B) (hw : w0.heap.size ≤ g) (hk : k' ≤ k) (hs : SrcR w0 w' B v cs k' size) (hkk : Kept R w w') : BnG R g w0 w w' (.returned (.slice (some ⟨g, 0, none⟩) 4096 c)) B v cs k size :=
 ⟨0, 4096, c, bs, k', rfl, hl, Nat.le_refl _, hB, ho.rdA (fun b hb => by have e1 : g = b := (by simpa [Value.ownBlock] using hb); have := (ho.lt b hb).2; omega), hk, hs, hkk⟩
structure BnI (w0 w wr : World) (B : Nat) (v : Value) (cs : List Int) (k : Nat) (size : Int) (g c : Nat) (bs : List Int) : Prop where
 src : SrcR w0 wr B v cs k size
 own : Own 0 5 .u8 wr (.slice (some ⟨g, 0, none⟩) 4096 c) bs
 kept : Kept (fun b => b = B ∨ b = g) w wr
 len : bs.length = 4096
 isB : IsB bs
section
variable {w0 w wr wx : World} {B : Nat} {v : Value} {cs : List Int} {k k' kE : Nat} {size : Int} {g c : Nat} {bs : List Int}
theorem BnI.same (h : BnI w0 w wr B v cs k size g c bs) (hk : Same wr wx) : BnI w0 w wx B v cs k size g c bs :=
 ⟨h.src.same hk, h.own.same hk, h.kept.trans (hk.mono (fun _ _ e => e.elim)), h.len, h.isB⟩
theorem BnI.draw (h : BnI w0 w wr B v cs k size g c bs) (hg : ¬ g = B) (hs : SrcR w0 wx B v cs k' size) (hk : Kept (fun b => b = B) wr wx) : BnI w0 w wx B v cs k' size g c bs :=
 ⟨hs, h.own.kept hk (fun b hb e => by have e1 : g = b := (by simpa [Value.ownBlock] using hb); omega), h.kept.trans (hk.mono (fun _ _ e => .inl e)), h.len, h.isB⟩
theorem BnI.store (h : BnI w0 w wr B v cs k size g c bs) (hg : ¬ g = B) (hw : w0.heap.size ≤ g) (j : Nat) (x : Int) (hx : 0 ≤ x ∧ x ≤ 255) : BnI w0 w (wr.setCell ⟨g, j, none⟩ (.int .u8 x)) B v cs k size g c (bs.set j x) := by
 have hkr : Kept (fun b => b = g) wr (wr.setCell ⟨g, j, none⟩ (.int .u8 x)) := (Kept.refl (fun b => b = g) wr).setCell (p := ⟨g, j, none⟩) (.inr rfl) _
 exact ⟨h.src.on hkr (fun e => by omega) (fun i hi e => by omega), h.own.stored h.len.symm j x, h.kept.trans (hkr.mono (fun _ _ e => .inr e)), by rw [List.length_set, h.len], isB_set h.isB j x hx⟩
theorem BnI.other {ys : List Int} (h : BnI w0 w wr B v cs k size g c bs) (hg : ¬ g = B) (hw : w0.heap.size ≤ g) (ho : Own 0 5 .u8 wx (.slice (some ⟨g, 0, none⟩) 4096 c) ys) (hkr : Kept (fun b => b = g) wr wx) (hl : ys.length = 4096) (hB : IsB ys) : BnI w0 w wx B v cs k size g c ys :=
 ⟨h.src.on hkr (fun e => by omega) (fun i hi e => by omega), ho, h.kept.trans (hkr.mono (fun _ _ e => .inr e)), hl, hB⟩
theorem BnI.fin (h : BnI w0 w wr B v cs k size g c bs) (hg : ¬ g = B) (hw : w0.heap.size ≤ g) (hk : k ≤ kE) : BnG (fun b => b = B ∨ b = g) g w0 w wr (.returned (.slice (some ⟨g, 0, none⟩) 4096 c)) B v cs kE size := bg_of h.own h.len h.isB hg hw hk h.src h.kept
end
theorem bend_g {w0 w : World} {B : Nat} {v : Value} {cs : List Int} {k : Nat} {size : Int} (g c : Nat) (bs : List Int) (h : SrcR w0 w B v cs k size) (hk : k ≤ 1073741000) (hg : ¬ g = B) (hw : w0.heap.size ≤ g) (hl : bs.length = 4096) (hbb : IsB bs) (ho : Own 0 5 .u8 w (.slice (some ⟨g, 0, none⟩) 4096 c) bs) :
  Calls Tryz.prog 67 #[.pointer (some ⟨B, 0, none⟩), .slice (some ⟨g, 0, none⟩) 4096 c] w fun e w' => BnG (fun b => b = B ∨ b = g) g w0 w w' e B v cs (k + 4) size := by
 have hcap : 4096 ≤ c := ho.caps.2
 have HI := (show Hid (BnI w0 w w B v cs k size g c bs) from ⟨h, ho, Kept.refl _ _, hl, hbb⟩)
 clear h ho hl hbb
 go_enter Tryz.func67, Tryz.ntmps67
 go_wp2_with fail
 refine (next_k 9 HI.out.src (by omega) (by constructor <;> decide)).mono ?_
 rintro e w1 ⟨z, rfl, hd, hs1, hk1⟩
 have HI1 := hid (HI.out.draw hg hs1 hk1)
 clear hd hs1 hk1 HI
 by_cases z0 : z = 0
 ·subst z0
  have h1 : ¬ c = 1 := by omega
  have h2 : (1 : Int) ≤ (c : Int) := by omega
  have HE := (show Hid (BnG (fun b => b = B ∨ b = g) g w0 w w1 (.returned (.slice (some ⟨g, 1, none⟩) 4095 (c - 1))) B v cs (k + 4) size) from ⟨1, 4095, c - 1, (bs.drop 1).take 4095, k + 1, rfl, by rw [List.length_take, List.length_drop, HI1.out.len]; rfl, by omega, isB_take (isB_drop HI1.out.isB _) _, fun w2 h2 => by
   have ho := HI1.out.own.kept h2 (fun b hb e => by have e1 : g = b := (by simpa [Value.ownBlock] using hb); have := (HI1.out.own.lt b hb).2; omega)
   have h := Rd.part (k := .u8) (w := w2) (b := g) (off := 0) (n := 4095) (c := c - 1) (bs := bs) (fun i hi => by rw [Nat.zero_add]; exact ho.cell HI1.out.len.symm i (by rw [← HI1.out.len]; exact hi)) 1 4095 (by rw [HI1.out.len]; omega) rfl (by omega) (by unfold maxLen; omega)
   rw [Nat.zero_add] at h
   exact h, by omega, HI1.out.src, HI1.out.kept⟩)
  go_wp2
  go_ret
  exact HE.out
 have e0 : (z == 0) = false := by simp [z0]
 by_cases z1 : z = 1
 ·subst z1
  have u0 := HI1.out.own.cell HI1.out.len.symm 15 (by omega)
  have uf := HI1.out.own.frozen HI1.out.len.symm 15
  have HI2 := hid (HI1.out.store hg hw 15 _ (wrapU8_bounds (bs.getD 15 0 + 1)))
  clear HI1
  go_wp2
  go_ret
  exact HI2.out.fin hg hw (by omega)
 have e1 : (z == 1) = false := by simp [z1]
 by_cases z2 : z = 2
 ·subst z2
  go_wp2_with fail
  refine (next_k 256 HI1.out.src (by omega) (by constructor <;> decide)).mono ?_
  rintro e w2 ⟨r, rfl, hd, hs', hk'⟩
  obtain ⟨hr1, hr2⟩ := hd.2 (by decide)
  have HI2 := hid (HI1.out.draw hg hs' hk')
  clear hd hs' hk' HI1
  have u0 := HI2.out.own.cell HI2.out.len.symm 4 (by omega)
  have uf := HI2.out.own.frozen HI2.out.len.symm 4
  have HI3 := hid (HI2.out.store hg hw 4 r (by omega))
  clear HI2
  go_wp2
  go_ret
  exact HI3.out.fin hg hw (by omega)
 have e2 : (z == 2) = false := by simp [z2]
 by_cases z3 : z = 3
 ·subst z3
  go_wp2_with fail
  refine (next_k 2 HI1.out.src (by omega) (by constructor <;> decide)).mono ?_
  rintro e w2 ⟨r, rfl, hd, hs', hk'⟩
  obtain ⟨hr1, hr2⟩ := hd.2 (by decide)
  have HI2 := hid (HI1.out.draw hg hs' hk')
  clear hd hs' hk' HI1
  obtain ⟨r, rfl⟩ : ∃ m : Nat, r = (m : Int) := ⟨r.toNat, by omega⟩
  obtain ⟨at1, hat⟩ : ∃ m : Nat, 18 + r = m := ⟨_, rfl⟩
  have q1 : IntKind.i64.wrap (18 + (r : Int)) = (at1 : Int) := by rw [IntKind.wrap_i64]; omega
  have hat2 : at1 ≤ 19 := by omega
  clear hat
  have u0 := HI2.out.own.cell HI2.out.len.symm at1 (by omega)
  have uf := HI2.out.own.frozen HI2.out.len.symm at1
  have HI3 := hid (HI2.out.store hg hw at1 1 (by omega))
  clear HI2
  go_wp2
  go_ret
  exact HI3.out.fin hg hw (by omega)
 have e3 : (z == 3) = false := by simp [z3]
 by_cases z4 : z = 4
 ·subst z4
  go_wp2_with fail
  refine (next_k 20 HI1.out.src (by omega) (by constructor <;> decide)).mono ?_
  rintro e w2 ⟨r, rfl, hd, hs', hk'⟩
  obtain ⟨hr1, hr2⟩ := hd.2 (by decide)
  have HI2 := hid (HI1.out.draw hg hs' hk')
  clear hd hs' hk' HI1
  have u0 := HI2.out.own.cell HI2.out.len.symm 16 (by omega)
  have uf := HI2.out.own.frozen HI2.out.len.symm 16
  have HI3 := hid (HI2.out.store hg hw 16 r (by omega))
  clear HI2
  go_wp2
  go_ret
  exact HI3.out.fin hg hw (by omega)
 have e4 : (z == 4) = false := by simp [z4]
 by_cases z5 : z = 5
 ·subst z5
  go_wp2_with fail
  refine (next_k 128 HI1.out.src (by omega) (by constructor <;> decide)).mono ?_
  rintro e w2 ⟨r, rfl, hd, hs', hk'⟩
  obtain ⟨hr1, hr2⟩ := hd.2 (by decide)
  have HI2 := hid (HI1.out.draw hg hs' hk')
  clear hd hs' hk' HI1
  obtain ⟨r, rfl⟩ : ∃ m : Nat, r = (m : Int) := ⟨r.toNat, by omega⟩
  obtain ⟨at1, hat⟩ : ∃ m : Nat, 20 + r = m := ⟨_, rfl⟩
  have q1 : IntKind.i64.wrap (20 + (r : Int)) = (at1 : Int) := by rw [IntKind.wrap_i64]; omega
  have hat2 : at1 ≤ 147 := by omega
  clear hat
  go_wp2_with fail
  refine (next_k 256 HI2.out.src (by omega) (by constructor <;> decide)).mono ?_
  rintro e w3 ⟨q, rfl, hd, hs', hk'⟩
  obtain ⟨hq1, hq2⟩ := hd.2 (by decide)
  have HI3 := hid (HI2.out.draw hg hs' hk')
  clear hd hs' hk' HI2
  have u0 := HI3.out.own.cell HI3.out.len.symm at1 (by omega)
  have uf := HI3.out.own.frozen HI3.out.len.symm at1
  have HI4 := hid (HI3.out.store hg hw at1 q (by omega))
  clear HI3
  go_wp2
  go_ret
  exact HI4.out.fin hg hw (by omega)
 have e5 : (z == 5) = false := by simp [z5]
 by_cases z6 : z = 6
 ·subst z6
  have n1 : ¬ c = 144 := by omega
  have n2 : ¬ c = 20 := by omega
  have g1 : (144 : Int) ≤ (c : Int) := by omega
  have g2 : (24 : Int) ≤ (c : Int) := by omega
  have hr : Rd .u8 w1 (.slice (some ⟨g, 20, none⟩) 4 (c - 20)) ((bs.drop 20).take 4) := by
   have h := Rd.part (k := .u8) (w := w1) (b := g) (off := 0) (n := 4) (c := c - 20) (bs := bs) (fun i hi => by rw [Nat.zero_add]; exact HI1.out.own.cell HI1.out.len.symm i (by rw [← HI1.out.len]; exact hi)) 20 4 (by rw [HI1.out.len]; omega) rfl (by omega) (by unfold maxLen; omega)
   rw [Nat.zero_add] at h
   exact h
  obtain ⟨ys, hys⟩ : ∃ ys, (bs.drop 20).take 4 = ys := ⟨_, rfl⟩
  have hyl : ys.length = 4 := by rw [← hys, List.length_take, List.length_drop, HI1.out.len]; rfl
  have HYB := (show Hid (IsB ys) from by unfold Hid; rw [← hys]; exact isB_take (isB_drop HI1.out.isB _) _)
  rw [hys] at hr
  clear hys
  have hkd : Same w1 w1.drew := (Kept.refl _ _).drew
  have hcp := run_copyOwn (P := Tryz.prog) 3 Tryz.underlying22 byte_one (HI1.out.own.same hkd) HI1.out.len.symm 144 (by omega) (hr.same hkd)
  rw [show behind g c 144 = some ⟨g, 144, none⟩ from if_neg n1, hyl] at hcp
  have HI2 := hid (HI1.out.other hg hw ((HI1.out.own.same hkd).laid HI1.out.len.symm 144 ys (by omega)) (Kept.setCells (R := fun b => b = g) (.inr rfl) _ _ (hkd.mono (fun _ _ e => e.elim))) (by rw [layI_length _ _ _ (by rw [HI1.out.len]; omega), HI1.out.len]) (isB_lay HI1.out.isB HYB.out _))
  clear hkd hr HYB
  go_wp2_with fail
  have hS : (fun _ : World => True) w1.drew := by trivial
  refine wp_region_V (fun _ : World => True) 99 5 rfl (by kernel_rfl) ?_
  refine tk 0 54 hS ?_
  refine tkV 1 55 (.slice (some ⟨g, 144, none⟩) (4096 - 144) (c - 144)) hS ?_
  refine tk 2 56 hS ?_
  refine tkV 3 57 (.slice (some ⟨g, 20, none⟩) 4 (c - 20)) hS ?_
  refine wpAnyV_one (i := 4) (by kernel_rfl) rfl (fun K hK => ?_)
  go_simp
  refine hK.out _ _ (fun _ => trivial) ?_
  clear hK K
  refine wpAnyV_done (by kernel_rfl) ?_
  try simp only [Act.put, sA, s0, sS]
  generalize w1.drew.setCells g 144 (vals .u8 ys) = w2 at HI2 ⊢
  clear hcp hS
  go_wp2
  go_ret
  exact HI2.out.fin hg hw (by omega)
 have e6 : (z == 6) = false := by simp [z6]
 by_cases z7 : z = 7
 ·subst z7
  go_wp2_with fail
  refine (next_k 3 HI1.out.src (by omega) (by constructor <;> decide)).mono ?_
  rintro e w2 ⟨r, rfl, hd, hs', hk'⟩
  obtain ⟨hr1, hr2⟩ := hd.2 (by decide)
  have HI2 := hid (HI1.out.draw hg hs' hk')
  clear hd hs' hk' HI1
  have q1 : IntKind.i64.wrap (4096 - r) = 4096 - r := by rw [IntKind.wrap_i64]; omega
  go_wp2_with fail
  refine (next_k 3 HI2.out.src (by omega) (by constructor <;> decide)).mono ?_
  rintro e w3 ⟨q, rfl, hd, hs', hk'⟩
  obtain ⟨hq1, hq2⟩ := hd.2 (by decide)
  have HI3 := hid (HI2.out.draw hg hs' hk')
  clear hd hs' hk' HI2
  go_wp2_with fail
  refine (l3Set_any g c bs 30 (4096 - r) q w3 HI3.out.len (by decide) (by omega) (by omega) HI3.out.own).mono ?_
  rintro e w4 ⟨rfl, ho4, hk4⟩
  have HI4 := hid (HI3.out.other hg hw ho4 hk4 (by rw [layI_length _ _ _ (by rw [layI_length _ _ _ (by rw [lows_length, HI3.out.len]; omega), lows_length, HI3.out.len]; omega), layI_length _ _ _ (by rw [lows_length, HI3.out.len]; omega), HI3.out.len]) (isB_lay (isB_lay HI3.out.isB (lows_isB _ _) _) (lows_isB _ _) _))
  clear ho4 hk4 HI3
  go_wp2
  go_ret
  exact HI4.out.fin hg hw (by omega)
 have e7 : (z == 7) = false := by simp [z7]
 by_cases z8 : z = 8
 ·subst z8
  have hn16 := numAt_in bs HI1.out.isB 16 2 (by decide) (by decide) (by rw [HI1.out.len]; decide)
  go_wp2_with fail
  refine (l3Bottom_any g 0 c bs w1 HI1.out.isB HI1.out.len HI1.out.own.rd).mono ?_
  rintro e w2 ⟨rfl, hk2⟩
  have HI2 := hid (HI1.out.same hk2)
  clear hk2 HI1
  obtain ⟨nb, hnb⟩ : ∃ x, numAt bs 16 2 = x := ⟨_, rfl⟩
  rw [hnb] at hn16 ⊢
  clear hnb
  go_wp2_with fail
  refine (next_k 2 HI2.out.src (by omega) (by constructor <;> decide)).mono ?_
  rintro e w3 ⟨q, rfl, hd, hs', hk'⟩
  obtain ⟨hq1, hq2⟩ := hd.2 (by decide)
  have HI3 := hid (HI2.out.draw hg hs' hk')
  clear hd hs' hk' HI2
  have q1 : IntKind.i64.wrap (q * 1000) = q * 1000 := by rw [IntKind.wrap_i64]; omega
  go_wp2_with fail
  refine (l3Set_any g c bs 29 nb (q * 1000) w3 HI3.out.len (by decide) (by omega) (by omega) HI3.out.own).mono ?_
  rintro e w4 ⟨rfl, ho4, hk4⟩
  have HI4 := hid (HI3.out.other hg hw ho4 hk4 (by rw [layI_length _ _ _ (by rw [layI_length _ _ _ (by rw [lows_length, HI3.out.len]; omega), lows_length, HI3.out.len]; omega), layI_length _ _ _ (by rw [lows_length, HI3.out.len]; omega), HI3.out.len]) (isB_lay (isB_lay HI3.out.isB (lows_isB _ _) _) (lows_isB _ _) _))
  clear ho4 hk4 HI3
  go_wp2
  go_ret
  exact HI4.out.fin hg hw (by omega)
 have e8 : (z == 8) = false := by simp [z8]
 go_wp2
 go_ret
 exact HI1.out.fin hg hw (by omega)
theorem bend_k {w0 w : World} {B : Nat} {v : Value} {cs : List Int} {k : Nat} {size : Int} (g c : Nat) (bs : List Int) (h : SrcR w0 w B v cs k size) (hk : k ≤ 1073741000) (hg : ¬ g = B) (hw : w0.heap.size ≤ g) (hl : bs.length = 4096) (hbb : IsB bs) (ho : Own 0 5 .u8 w (.slice (some ⟨g, 0, none⟩) 4096 c) bs) :
  Calls Tryz.prog 67 #[.pointer (some ⟨B, 0, none⟩), .slice (some ⟨g, 0, none⟩) 4096 c] w fun e w' => BnR (fun b => b = B ∨ b = g) w0 w w' e B v cs (k + 4) size := by
 refine (bend_g g c bs h hk hg hw hl hbb ho).mono ?_
 rintro e w' ⟨off, n, c', bs', k', h1, h2⟩
 exact ⟨g, off, n, c', bs', k', h1, h2⟩
theorem maybe_k {w0 w : World} {B : Nat} {v : Value} {cs : List Int} {k : Nat} {size : Int} (h : SrcR w0 w B v cs k size) (hk : k ≤ 1073700000) :
  Calls Tryz.prog 34 #[.pointer (some ⟨B, 0, none⟩)] w fun e w' => BnR (fun b => b = B) w0 w w' e B v cs (k + 500) size := by
 have hBw := h.lt
 have hw0 := h.kept.size
 have HS := hid h
 clear h
 go_enter Tryz.func34, Tryz.ntmps34
 go_wp2_with fail
 refine (next_k 16 HS.out (by omega) (by constructor <;> decide)).mono ?_
 rintro e w1 ⟨n, rfl, hd, hs1, hk1⟩
 obtain ⟨hn1, hn2⟩ := hd.2 (by decide)
 have HS1 := hid hs1
 have HK1 := hid hk1
 clear hd hs1 hk1 HS
 go_wp2_with fail
 refine (pg_k n hn1 hn2 HS1.out (by omega)).mono ?_
 rintro e w2 ⟨g, c, bs, k2, rfl, hl, hbb, ho, hgB, hk2, hs2, hgw, hkk2⟩
 have hz1 := HK1.out.size
 have HO := (show Hid (Own 0 5 .u8 w2 (.slice (some ⟨g, 0, none⟩) 4096 c) bs) from ho.mono (fun _ _ => Nat.zero_le _))
 have HS2 := hid hs2
 have HK2 := hid (HK1.out.trans hkk2)
 have HL := hid hl
 have HBB := hid hbb
 clear ho hs2 hkk2 HK1 HS1 hl hbb
 go_wp2_with fail
 refine (chance_k 5 HS2.out (by omega) (by constructor <;> decide)).mono ?_
 rintro e w3 ⟨b, rfl, hs3, hk3⟩
 have HO3 := hid (HO.out.kept hk3 (fun b hb e => by have e1 : g = b := (by simpa [Value.ownBlock] using hb); omega))
 have HS3 := hid hs3
 have HK3 := hid (HK2.out.trans hk3)
 clear hs3 hk3 HO HS2 HK2
 cases b
 ·go_wp2
  go_ret
  exact bn_of HO3.out HL.out HBB.out hgB (by omega) (by omega) HS3.out HK3.out
 ·go_wp2_with fail
  refine (bend_k g c bs HS3.out (by omega) hgB (by omega) HL.out HBB.out HO3.out).mono ?_
  rintro e w4 ⟨b4, off4, n4, c4, bs4, k4, rfl, hl4, hn4, hb4, hr4, hk4, hs4, hkk4⟩
  have HE := (show Hid (BnR (fun b => b = B) w0 w w4 (.returned (.slice (some ⟨b4, off4, none⟩) n4 c4)) B v cs (k + 500) size) from ⟨b4, off4, n4, c4, bs4, k4, rfl, hl4, hn4, hb4, hr4, by omega, hs4, HK3.out.next hkk4 (fun i hi e => by rcases e with e | e; exact e; omega)⟩)
  clear hl4 hb4 hr4 hs4 hkk4
  go_wp2
  go_ret
  exact HE.out
def RdW (F : Nat → Prop) (w : World) (v : Value) (bs : List Int) : Prop := ∀ w', Kept F w w' → Rd .u8 w' v bs
def DsR (w w' : World) (e : Ending) : Prop :=
 ∃ (b off n c : Nat) (bs : List Int) (s : Int) (u : Bool) (a : Option Addr) (cd : Nat) (d : List Int) (lsn : Int), e = .returned (.tuple #[.slice (some ⟨b, off, none⟩) n c, .int .i64 s, .agg #[.bool u, .slice a d.length cd], .int .i64 lsn]) ∧ bs.length = n ∧ n ≤ 4096 ∧ IsB bs ∧ Rd .u8 w' (.slice (some ⟨b, off, none⟩) n c) bs ∧
  d.length ≤ 1001 ∧ IsB d ∧ RdW (fun b => b < w.heap.size) w' (.slice a d.length cd) d ∧ (-1 ≤ s ∧ s ≤ 32) ∧ (-1 ≤ lsn ∧ lsn ≤ 1099511627777) ∧ Same w w'
theorem RdW.on {F : Nat → Prop} {w w' : World} {v : Value} {bs : List Int} (h : RdW F w v bs) (hk : Kept F w w') : RdW F w' v bs := fun w2 h2 => h w2 (hk.trans h2)
theorem Own.rdW {b0 : Nat} {e : TypeId} {F : Nat → Prop} {w : World} {v : Value} {bs : List Int} (h : Own b0 e .u8 w v bs) (hB : ∀ b, v.ownBlock = some b → ¬ F b) : RdW F w v bs := fun w' hk => (h.kept hk hB).rd
structure Pl (w w0 : World) (B X X0 : Nat) : Prop where
 b1 : w.heap.size ≤ B
 b2 : B < w0.heap.size
 x1 : w.heap.size ≤ X0
 x2 : X0 < w0.heap.size
 xb : ¬ B = X0
 x : w0.heap.size ≤ X
structure DsI (w w0 wr : World) (B : Nat) (v : Value) (cs : List Int) (k : Nat) (size : Int) (pv : Value) (bs : List Int) (X X0 : Nat) (u : Bool) (a : Option Addr) (dn cd : Nat) (d : List Int) : Prop where
 src : SrcR w0 wr B v cs k size
 page : RdW (fun b => b = X ∨ b < w0.heap.size) wr pv bs
 box : Blk wr X 34 [.bool u, .slice a dn cd]
 res : Blk wr X0 34 [.bool false, .slice none 0 0]
 dat : RdW (fun b => b = X ∨ b < w0.heap.size) wr (.slice a dn cd) d
 len : d.length = dn ∧ dn ≤ 1001
 isB : IsB d
 kept : Same w wr
section
variable {w w0 wr wx : World} {B : Nat} {v : Value} {cs : List Int} {k k' : Nat} {size : Int} {pv : Value} {bs : List Int} {X X0 : Nat} {u : Bool} {a : Option Addr} {dn cd : Nat} {d : List Int}
theorem DsI.draw (h : DsI w w0 wr B v cs k size pv bs X X0 u a dn cd d) (hp : Pl w w0 B X X0) (hs : SrcR w0 wx B v cs k' size) (hk : Kept (fun b => b = B) wr wx) : DsI w w0 wx B v cs k' size pv bs X X0 u a dn cd d :=
 ⟨hs, h.page.on (hk.mono (fun b _ e => .inr (by have h1 := hp.b2; have e' : b = B := e; omega))), h.box.kept hk (fun e => by have h1 := hp.b2; have h2 := hp.x; omega), h.res.kept hk (fun e => hp.xb e.symm), h.dat.on (hk.mono (fun b _ e => .inr (by have h1 := hp.b2; have e' : b = B := e; omega))), h.len, h.isB, h.kept.next hk (fun i hi e => by have h1 := hp.b1; have e' : i = B := e; omega)⟩
theorem DsI.same (h : DsI w w0 wr B v cs k size pv bs X X0 u a dn cd d) (hk : Same wr wx) : DsI w w0 wx B v cs k size pv bs X X0 u a dn cd d :=
 ⟨h.src.same hk, h.page.on (hk.mono (fun b _ e => e.elim)), h.box.same hk, h.res.same hk, h.dat.on (hk.mono (fun b _ e => e.elim)), h.len, h.isB, h.kept.trans hk⟩
theorem DsI.used (h : DsI w w0 wr B v cs k size pv bs X X0 u a dn cd d) (hp : Pl w w0 B X X0) (u' : Bool) : DsI w w0 (wr.setCell ⟨X, 0, none⟩ (.bool u')) B v cs k size pv bs X X0 u' a dn cd d := by
 have hk : Kept (fun b => b = X) wr (wr.setCell ⟨X, 0, none⟩ (.bool u')) := (Kept.refl (fun b => b = X) wr).setCell (p := ⟨X, 0, none⟩) (.inr rfl) _
 have h1 := hp.x; have h2 := hp.b2; have h3 := hp.x2; have h4 := hp.x1
 exact ⟨h.src.on hk (fun e => by omega) (fun i hi e => by omega), h.page.on (hk.mono (fun _ _ e => .inl e)), h.box.stored 0 (.bool u'), h.res.kept hk (fun e => by omega), h.dat.on (hk.mono (fun _ _ e => .inl e)), h.len, h.isB, h.kept.next hk (fun i hi e => by have e' : i = X := e; omega)⟩
theorem DsI.data {g N : Nat} {d' : List Int} (h : DsI w w0 wr B v cs k size pv bs X X0 u a dn cd d) (hp : Pl w w0 B X X0) (hl : d'.length = N) (hN : N ≤ 1001) (hb : IsB d') (ho : Own w0.heap.size 5 .u8 wr (.slice (some ⟨g, 0, none⟩) N N) d') (hg : ¬ g = X) : DsI w w0 (wr.setCell ⟨X, 1, none⟩ (.slice (some ⟨g, 0, none⟩) N N)) B v cs k size pv bs X X0 u (some ⟨g, 0, none⟩) N N d' := by
 have hk : Kept (fun b => b = X) wr (wr.setCell ⟨X, 1, none⟩ (.slice (some ⟨g, 0, none⟩) N N)) := (Kept.refl (fun b => b = X) wr).setCell (p := ⟨X, 1, none⟩) (.inr rfl) _
 have h1 := hp.x; have h2 := hp.b2; have h3 := hp.x2; have h4 := hp.x1
 have hd : RdW (fun b => b = X ∨ b < w0.heap.size) wr (.slice (some ⟨g, 0, none⟩) N N) d' := ho.rdW (fun b hb e => by have e1 : g = b := (by simpa [Value.ownBlock] using hb); have := (ho.lt b hb).1; omega)
 exact ⟨h.src.on hk (fun e => by omega) (fun i hi e => by omega), h.page.on (hk.mono (fun _ _ e => .inl e)), h.box.stored 1 _, h.res.kept hk (fun e => by omega), hd.on (hk.mono (fun _ _ e => .inl e)), ⟨hl, hN⟩, hb, h.kept.next hk (fun i hi e => by have e' : i = X := e; omega)⟩
end
theorem results_c4 {fn : Func} {p q r t : Tmp} {ty : TypeId} (h : fn.results = #[.tmp p, .tmp q, .cell r ty, .tmp t]) (tmps : Array Value) (P : Program) (w : World) :
  (results fn tmps).run P w =
   ((asAddr (tmps.getD r undef)).run P w).andThen fun a w₁ => ((loadVar ty a).run P w₁).andThen fun v w₂ => .ok (.tuple #[tmps.getD p undef, tmps.getD q undef, v, tmps.getD t undef]) w₂ := by
 simp only [results, h]
 simp [Sem.run_bind, Result.andThen]
theorem drawSet_any (v : Value) (cs : List Int) (w : World) (hb : IsB cs) (hn : cs.length ≤ 1048577) (hv : Rd .u8 w v cs) :
  Calls Tryz.prog 8 #[v] w fun e w' => DsR w w' e := by
 have b0 := Blk.new w #[.bool false, .slice none 0 0] 34
 have hk0 : Same w (w.alloc (.cells #[.bool false, .slice none 0 0] 34)) := (Kept.refl _ _).alloc _
 have k1 := source_r1 v cs _ hb hn (hv.same hk0)
 clear hv hb hn
 go_enter Tryz.func8, Tryz.ntmps8
 go_wp2_with fail
 obtain ⟨X0, hX⟩ : ∃ X, w.heap.size = X := ⟨_, rfl⟩
 rw [hX] at b0 ⊢
 generalize w.alloc (.cells #[.bool false, .slice none 0 0] 34) = w1 at *
 have HB0 := hid b0
 have HK0 := hid hk0
 have hl0 := b0.lt
 clear b0 hk0
 refine k1.mono ?_
 rintro e w0 ⟨B, size, rfl, hB, hs, hk⟩
 have HS0 := hid hs
 have HR0 := hid (HB0.out.same hk)
 have HK0 := hid (HK0.out.trans hk)
 have hB2 := hs.lt
 have hz0 := hk.size
 clear hs hk k1 HB0
 go_wp2_with fail
 refine (maybe_k HS0.out (by omega)).mono ?_
 rintro e w2 ⟨b, off, n, c, bs, k2, rfl, hl, hn, hbb, hrd, hk2, hs2, hkk2⟩
 have HS2 := hid hs2
 have HP2 := hid hrd
 have HK2 := hid hkk2
 have HL := hid hl
 have HBB := hid hbb
 have hz2 := hkk2.size
 clear hl hbb hrd hs2 hkk2 HS0
 go_wp2_with fail
 refine (next_k 8 HS2.out (by omega) (by constructor <;> decide)).mono ?_
 rintro e w3 ⟨s, rfl, hd, hs3, hk3⟩
 obtain ⟨hss1, hss2⟩ := hd.2 (by decide)
 have HS3 := hid hs3
 have HP3 := hid (HP2.out.draw hk3)
 have HK3 := hid (HK2.out.trans hk3)
 have hz3 := hk3.size
 clear hd hs3 hk3 HS2 HP2 HK2
 go_wp2_with fail
 refine (rec_k HS3.out (by omega)).mono ?_
 rintro e w4 ⟨u, ra, rc, d, k4, rfl, hdl, hdb, hdr, hk4, hs4, hkk4⟩
 have hz4 := hkk4.size
 obtain ⟨dn, hdn⟩ : ∃ n, d.length = n := ⟨_, rfl⟩
 rw [hdn] at hdr ⊢
 have hp : Pl w w0 B w4.heap.size X0 := ⟨by omega, hB2, by omega, by omega, by omega, by omega⟩
 have hk5 : Same w4 (w4.alloc (.cells #[.bool u, .slice ra dn rc] 34)) := (Kept.refl _ _).alloc _
 have HI := (show Hid (DsI w w0 (w4.alloc (.cells #[.bool u, .slice ra dn rc] 34)) B v cs k4 size (.slice (some ⟨b, off, none⟩) n c) bs w4.heap.size X0 u ra dn rc d) from ⟨hs4.same hk5, fun wy hy => (HP3.out.draw hkk4) wy ((hk5.mono (fun _ _ e => e.elim)).trans (hy.mono (fun i _ e => by rcases e with e | e; exact .inr (.inl (by omega)); exact .inr (.inr e)))), Blk.new _ _ _, ((HR0.out.kept HK3.out (fun e => by omega)).kept hkk4 (fun e => by omega)).same hk5, fun wy hy => hdr wy ((hk5.mono (fun _ _ e => e.elim)).trans (hy.mono (fun i _ e => by rcases e with e | e; exact .inr (.inl (by omega)); exact .inr (.inr e)))), ⟨hdn, by omega⟩, hdb, ((HK0.out.next (HK3.out.trans hkk4) (fun i hi e => by have e' : i = B := e; omega)).trans hk5)⟩)
 have hdn' : dn ≤ 1001 := by omega
 clear hdl hdb hdr hs4 hkk4 hk5 HS3 HP3 HK3 HR0 HK0 hdn
 obtain ⟨X, hX4⟩ : ∃ X, w4.heap.size = X := ⟨_, rfl⟩
 go_wp2_with fail
 rw [hX4] at HI hp
 try rw [hX4]
 generalize w4.alloc (.cells #[.bool u, .slice ra dn rc] 34) = w5 at *
 clear hX4
 refine (next_k 100000 HI.out.src (by omega) (by constructor <;> decide)).mono ?_
 rintro e w6 ⟨l, rfl, hd, hs6, hk6⟩
 obtain ⟨hl1, hl2⟩ := hd.2 (by decide)
 have HI6 := hid (HI.out.draw hp hs6 hk6)
 clear hd hs6 hk6 HI
 go_wp2_with fail
 refine (next_k 20 HI6.out.src (by omega) (by constructor <;> decide)).mono ?_
 rintro e w7 ⟨z, rfl, hd, hs7, hk7⟩
 have HI7 := hid (HI6.out.draw hp hs7 hk7)
 clear hd hs7 hk7 HI6
 go_upto_block 0 with fail
 go_cut [8, 10] (fun sv lv wx => ∃ (s l : Int) (u : Bool) (a : Option Addr) (dn cd k' : Nat) (d : List Int), sv = .int .i64 s ∧ lv = .int .i64 l ∧ -1 ≤ s ∧ s ≤ 32 ∧ -1 ≤ l ∧ l ≤ 1099511627777 ∧ Hid (DsI w w0 wx B v cs k' size (.slice (some ⟨b, off, none⟩) n c) bs X X0 u a dn cd d))
 case first =>
  by_cases z0 : z = 0
  ·subst z0
   go_wp2_with fail
   refine (next_k 2 HI7.out.src (by omega) (by constructor <;> decide)).mono ?_
   rintro e w8 ⟨r, rfl, hd, hs', hk'⟩
   obtain ⟨hr1, hr2⟩ := hd.2 (by decide)
   have HI8 := hid (HI7.out.draw hp hs' hk')
   clear hd hs' hk' HI7
   have q1 : IntKind.i64.wrap (32 - r) = 32 - r := by rw [IntKind.wrap_i64]; omega
   go_wp2_with fail
   go_meet
   case rel => exact ⟨32 - r, 512 + l, _, _, _, _, _, _, rfl, rfl, by omega, by omega, by omega, by omega, HI8⟩
  have e0 : (z == 0) = false := by simp [z0]
  by_cases z1 : z = 1
  ·subst z1
   go_wp2_with fail
   go_meet
   case rel => exact ⟨-1, 512 + l, _, _, _, _, _, _, rfl, rfl, by omega, by omega, by omega, by omega, HI7⟩
  have e1 : (z == 1) = false := by simp [z1]
  by_cases z2 : z = 2
  ·subst z2
   go_wp2_with fail
   refine (fill_k 1001 HI7.out.src (by omega) (by omega)).mono ?_
   rintro e w8 ⟨g, d2, rfl, hbl, hbb2, ho, hgB, hs', hgw, hk'⟩
   have hgX : ¬ g = X := fun e => by have := HI7.out.box.lt; omega
   have HI8 := hid (HI7.out.draw hp hs' hk')
   have HO := hid ho
   have HB2 := hid hbb2
   clear ho hs' hk' HI7 hbb2 hgw
   obtain ⟨x0, x1⟩ := HI8.out.box.all2
   have fx := HI8.out.box.frozen
   have HE := hid (HI8.out.data hp hbl (by omega) HB2.out HO.out hgX)
   clear HI8 HO
   go_wp2_with fail
   go_meet
   case rel => exact ⟨s, 512 + l, _, _, _, _, _, _, rfl, rfl, by omega, by omega, by omega, by omega, HE⟩
  have e2 : (z == 2) = false := by simp [z2]
  by_cases z3 : z = 3
  ·subst z3
   obtain ⟨x0, x1⟩ := HI7.out.box.all2
   have fx := HI7.out.box.frozen
   have HE := hid (HI7.out.used hp false)
   clear HI7
   go_wp2_with fail
   go_meet
   case rel => exact ⟨s, 512 + l, _, _, _, _, _, _, rfl, rfl, by omega, by omega, by omega, by omega, HE⟩
  have e3 : (z == 3) = false := by simp [z3]
  by_cases z4 : z = 4
  ·subst z4
   go_wp2_with fail
   refine (next_k 2 HI7.out.src (by omega) (by constructor <;> decide)).mono ?_
   rintro e w8 ⟨r, rfl, hd, hs', hk'⟩
   obtain ⟨hr1, hr2⟩ := hd.2 (by decide)
   have HI8 := hid (HI7.out.draw hp hs' hk')
   clear hd hs' hk' HI7
   have q1 : IntKind.i64.wrap (1099511627776 + r) = 1099511627776 + r := by rw [IntKind.wrap_i64]; omega
   go_wp2_with fail
   go_meet
   case rel => exact ⟨s, 1099511627776 + r, _, _, _, _, _, _, rfl, rfl, by omega, by omega, by omega, by omega, HI8⟩
  have e4 : (z == 4) = false := by simp [z4]
  by_cases z5 : z = 5
  ·subst z5
   go_wp2_with fail
   go_meet
   case rel => exact ⟨s, -1, _, _, _, _, _, _, rfl, rfl, by omega, by omega, by omega, by omega, HI7⟩
  have e5 : (z == 5) = false := by simp [z5]
  by_cases z6 : z = 6
  ·subst z6
   by_cases hn4 : n = 4096
   ·have HL4 := hid (HL.out.trans hn4)
    have hn16 := numAt_in bs HBB.out 16 2 (by decide) (by decide) (by rw [HL4.out]; decide)
    have kL := l3Bottom_any b off c bs w7 HBB.out HL4.out (by have h := HI7.out.page w7 (Kept.refl _ _); rw [hn4] at h; exact h)
    subst hn4
    go_wp2_with fail
    refine kL.mono ?_
    rintro e w8 ⟨rfl, hk8⟩
    have HI8 := hid (HI7.out.same hk8)
    clear hk8 HI7 kL
    obtain ⟨nb, hnb⟩ : ∃ x, numAt bs 16 2 = x := ⟨_, rfl⟩
    rw [hnb] at hn16 ⊢
    have p16 : (256 : Int) ^ 2 = 65536 := by decide
    rw [p16] at hn16
    clear hnb p16
    have q0 : IntKind.i64.wrap (nb - 148) = nb - 148 := by rw [IntKind.wrap_i64]; omega
    go_wp2_with fail
    refine (next_k 2 HI8.out.src (by omega) (by constructor <;> decide)).mono ?_
    rintro e w9 ⟨r, rfl, hd, hs', hk'⟩
    obtain ⟨hr1, hr2⟩ := hd.2 (by decide)
    have HI9 := hid (HI8.out.draw hp hs' hk')
    clear hd hs' hk' HI8
    obtain ⟨m, hm⟩ : ∃ m, nb - 148 + r = m := ⟨_, rfl⟩
    have q1 : IntKind.i64.wrap (nb - 148 + r) = m := by rw [IntKind.wrap_i64]; omega
    clear hm
    by_cases hm1 : 0 ≤ m
    ·by_cases hm2 : m ≤ 1000
     ·obtain ⟨N, rfl⟩ : ∃ N : Nat, m = (N : Int) := ⟨m.toNat, by omega⟩
      obtain ⟨x0, x1⟩ := HI9.out.box.all2
      have fx := HI9.out.box.frozen
      have HU := hid (HI9.out.used hp true)
      clear HI9
      go_upto_region 26 with fail
      generalize w9.setCell ⟨X, 0, none⟩ (.bool true) = w10 at HU ⊢
      clear x0 x1 fx
      go_wp2_with fail
      refine (fill_k N HU.out.src (by omega) (by omega)).mono ?_
      rintro e w11 ⟨g, d2, rfl, hbl, hbb2, ho, hgB, hs', hgw, hk'⟩
      have hgX : ¬ g = X := fun e => by have := HU.out.box.lt; omega
      have HV := hid (HU.out.draw hp hs' hk')
      have HO := hid ho
      have HB2 := hid hbb2
      clear ho hs' hk' HU hbb2 hgw
      obtain ⟨x0, x1⟩ := HV.out.box.all2
      have fx := HV.out.box.frozen
      have HE := hid (HV.out.data hp hbl (by omega) HB2.out HO.out hgX)
      clear HV HO
      go_wp2_with fail
      go_meet
      case rel => exact ⟨s, 512 + l, _, _, _, _, _, _, rfl, rfl, by omega, by omega, by omega, by omega, HE⟩
     ·have hm3 : ¬ m ≤ 1000 := hm2
      go_wp2_with fail
      go_meet
      case rel => exact ⟨s, 512 + l, _, _, _, _, _, _, rfl, rfl, by omega, by omega, by omega, by omega, HI9⟩
    ·have hm3 : ¬ 0 ≤ m := hm1
     go_wp2_with fail
     go_meet
     case rel => exact ⟨s, 512 + l, _, _, _, _, _, _, rfl, rfl, by omega, by omega, by omega, by omega, HI9⟩
   ·have hn5 : ¬ (n : Int) = 4096 := by omega
    go_wp2_with fail
    go_meet
    case rel => exact ⟨s, 512 + l, _, _, _, _, _, _, rfl, rfl, by omega, by omega, by omega, by omega, HI7⟩
  have e6 : (z == 6) = false := by simp [z6]
  by_cases z7 : z = 7
  ·subst z7
   by_cases hn4 : n = 4096
   ·have HL4 := hid (HL.out.trans hn4)
    have hn16 := numAt_in bs HBB.out 16 2 (by decide) (by decide) (by rw [HL4.out]; decide)
    have kL := l3Bottom_any b off c bs w7 HBB.out HL4.out (by have h := HI7.out.page w7 (Kept.refl _ _); rw [hn4] at h; exact h)
    subst hn4
    go_wp2_with fail
    refine kL.mono ?_
    rintro e w8 ⟨rfl, hk8⟩
    have HI8 := hid (HI7.out.same hk8)
    clear hk8 HI7 kL
    obtain ⟨nb, hnb⟩ : ∃ x, numAt bs 16 2 = x := ⟨_, rfl⟩
    rw [hnb] at hn16 ⊢
    have p16 : (256 : Int) ^ 2 = 65536 := by decide
    rw [p16] at hn16
    clear hnb p16
    have q0 : IntKind.i64.wrap (nb - 148) = nb - 148 := by rw [IntKind.wrap_i64]; omega
    go_wp2_with fail
    refine (next_k 2 HI8.out.src (by omega) (by constructor <;> decide)).mono ?_
    rintro e w9 ⟨r, rfl, hd, hs', hk'⟩
    obtain ⟨hr1, hr2⟩ := hd.2 (by decide)
    have HI9 := hid (HI8.out.draw hp hs' hk')
    clear hd hs' hk' HI8
    obtain ⟨m, hm⟩ : ∃ m, nb - 148 + r = m := ⟨_, rfl⟩
    have q1 : IntKind.i64.wrap (nb - 148 + r) = m := by rw [IntKind.wrap_i64]; omega
    clear hm
    by_cases hm1 : 0 ≤ m
    ·by_cases hm2 : m ≤ 1000
     ·obtain ⟨N, rfl⟩ : ∃ N : Nat, m = (N : Int) := ⟨m.toNat, by omega⟩
      obtain ⟨x0, x1⟩ := HI9.out.box.all2
      have fx := HI9.out.box.frozen
      have HU := hid (HI9.out.used hp true)
      clear HI9
      go_upto_region 26 with fail
      generalize w9.setCell ⟨X, 0, none⟩ (.bool true) = w10 at HU ⊢
      clear x0 x1 fx
      go_wp2_with fail
      refine (fill_k N HU.out.src (by omega) (by omega)).mono ?_
      rintro e w11 ⟨g, d2, rfl, hbl, hbb2, ho, hgB, hs', hgw, hk'⟩
      have hgX : ¬ g = X := fun e => by have := HU.out.box.lt; omega
      have HV := hid (HU.out.draw hp hs' hk')
      have HO := hid ho
      have HB2 := hid hbb2
      clear ho hs' hk' HU hbb2 hgw
      obtain ⟨x0, x1⟩ := HV.out.box.all2
      have fx := HV.out.box.frozen
      have HE := hid (HV.out.data hp hbl (by omega) HB2.out HO.out hgX)
      clear HV HO
      go_wp2_with fail
      go_meet
      case rel => exact ⟨s, 512 + l, _, _, _, _, _, _, rfl, rfl, by omega, by omega, by omega, by omega, HE⟩
     ·have hm3 : ¬ m ≤ 1000 := hm2
      go_wp2_with fail
      go_meet
      case rel => exact ⟨s, 512 + l, _, _, _, _, _, _, rfl, rfl, by omega, by omega, by omega, by omega, HI9⟩
    ·have hm3 : ¬ 0 ≤ m := hm1
     go_wp2_with fail
     go_meet
     case rel => exact ⟨s, 512 + l, _, _, _, _, _, _, rfl, rfl, by omega, by omega, by omega, by omega, HI9⟩
   ·have hn5 : ¬ (n : Int) = 4096 := by omega
    go_wp2_with fail
    go_meet
    case rel => exact ⟨s, 512 + l, _, _, _, _, _, _, rfl, rfl, by omega, by omega, by omega, by omega, HI7⟩
  have e7 : (z == 7) = false := by simp [z7]
  by_cases z8 : z = 8
  ·subst z8
   by_cases hn4 : n = 4096
   ·have HL4 := hid (HL.out.trans hn4)
    have hn16 := numAt_in bs HBB.out 16 2 (by decide) (by decide) (by rw [HL4.out]; decide)
    have kL := l3Bottom_any b off c bs w7 HBB.out HL4.out (by have h := HI7.out.page w7 (Kept.refl _ _); rw [hn4] at h; exact h)
    subst hn4
    go_wp2_with fail
    refine kL.mono ?_
    rintro e w8 ⟨rfl, hk8⟩
    have HI8 := hid (HI7.out.same hk8)
    clear hk8 HI7 kL
    obtain ⟨nb, hnb⟩ : ∃ x, numAt bs 16 2 = x := ⟨_, rfl⟩
    rw [hnb] at hn16 ⊢
    have p16 : (256 : Int) ^ 2 = 65536 := by decide
    rw [p16] at hn16
    clear hnb p16
    have q0 : IntKind.i64.wrap (nb - 148) = nb - 148 := by rw [IntKind.wrap_i64]; omega
    go_wp2_with fail
    refine (next_k 2 HI8.out.src (by omega) (by constructor <;> decide)).mono ?_
    rintro e w9 ⟨r, rfl, hd, hs', hk'⟩
    obtain ⟨hr1, hr2⟩ := hd.2 (by decide)
    have HI9 := hid (HI8.out.draw hp hs' hk')
    clear hd hs' hk' HI8
    obtain ⟨m, hm⟩ : ∃ m, nb - 148 + r = m := ⟨_, rfl⟩
    have q1 : IntKind.i64.wrap (nb - 148 + r) = m := by rw [IntKind.wrap_i64]; omega
    clear hm
    by_cases hm1 : 0 ≤ m
    ·by_cases hm2 : m ≤ 1000
     ·obtain ⟨N, rfl⟩ : ∃ N : Nat, m = (N : Int) := ⟨m.toNat, by omega⟩
      obtain ⟨x0, x1⟩ := HI9.out.box.all2
      have fx := HI9.out.box.frozen
      have HU := hid (HI9.out.used hp true)
      clear HI9
      go_upto_region 26 with fail
      generalize w9.setCell ⟨X, 0, none⟩ (.bool true) = w10 at HU ⊢
      clear x0 x1 fx
      go_wp2_with fail
      refine (fill_k N HU.out.src (by omega) (by omega)).mono ?_
      rintro e w11 ⟨g, d2, rfl, hbl, hbb2, ho, hgB, hs', hgw, hk'⟩
      have hgX : ¬ g = X := fun e => by have := HU.out.box.lt; omega
      have HV := hid (HU.out.draw hp hs' hk')
      have HO := hid ho
      have HB2 := hid hbb2
      clear ho hs' hk' HU hbb2 hgw
      obtain ⟨x0, x1⟩ := HV.out.box.all2
      have fx := HV.out.box.frozen
      have HE := hid (HV.out.data hp hbl (by omega) HB2.out HO.out hgX)
      clear HV HO
      go_wp2_with fail
      go_meet
      case rel => exact ⟨s, 512 + l, _, _, _, _, _, _, rfl, rfl, by omega, by omega, by omega, by omega, HE⟩
     ·have hm3 : ¬ m ≤ 1000 := hm2
      go_wp2_with fail
      go_meet
      case rel => exact ⟨s, 512 + l, _, _, _, _, _, _, rfl, rfl, by omega, by omega, by omega, by omega, HI9⟩
    ·have hm3 : ¬ 0 ≤ m := hm1
     go_wp2_with fail
     go_meet
     case rel => exact ⟨s, 512 + l, _, _, _, _, _, _, rfl, rfl, by omega, by omega, by omega, by omega, HI9⟩
   ·have hn5 : ¬ (n : Int) = 4096 := by omega
    go_wp2_with fail
    go_meet
    case rel => exact ⟨s, 512 + l, _, _, _, _, _, _, rfl, rfl, by omega, by omega, by omega, by omega, HI7⟩
  have e8 : (z == 8) = false := by simp [z8]
  go_wp2_with fail
  go_meet
  case rel => exact ⟨s, 512 + l, _, _, _, _, _, _, rfl, rfl, by omega, by omega, by omega, by omega, HI7⟩
 case rest =>
  obtain ⟨w8, rfl⟩ : ∃ x, x = wc := ⟨wc, rfl⟩
  obtain ⟨s, l, u, a, dn, cd, k', d, rfl, rfl, hs1, hs2, hl1, hl2, HI⟩ := hcut
  clear HI7
  let Y1 : World → Prop := fun wx : World => wx.cell? ⟨X, 0, none⟩ = some (.bool u) ∧ wx.cell? ⟨X, 1, none⟩ = some (.slice a dn cd)
  have hS : Y1 w8.drew := ⟨(HI.out.same (Kept.refl _ _).drew).box.cell 0, (HI.out.same (Kept.refl _ _).drew).box.cell 1⟩
  go_wp2_with fail
  refine wp_region_V Y1 99 8 rfl (by kernel_rfl) ?_
  have HIv := hid (HI.out.same (Kept.refl _ _).drew)
  generalize w8.drew = v1 at HIv hS ⊢
  refine tk 0 71 hS ?_
  refine tk 1 72 hS ?_
  refine tk 2 73 hS ?_
  refine tk 3 74 hS ?_
  refine tk 4 2 hS ?_
  refine tk 5 3 hS ?_
  obtain ⟨r0, r1⟩ := HIv.out.res.all2
  have fr := HIv.out.res.frozen
  have lr := HIv.out.res.lt
  have hkr : Kept (fun b => b = X0) v1 ((v1.setCell ⟨X0, 0, none⟩ (.bool u)).setCell ⟨X0, 1, none⟩ (.slice a dn cd)) := ((Kept.refl (fun b => b = X0) v1).setCell (p := ⟨X0, 0, none⟩) (.inr rfl) _).setCell (p := ⟨X0, 1, none⟩) (.inr rfl) _
  have hrb := (HIv.out.res.stored 0 (.bool u)).stored 1 (.slice a dn cd)
  have hbx := HIv.out.box.kept hkr (fun e => by have h1 := hp.x; have h2 := hp.x2; omega)
  refine wpAnyV_one (i := 6) (by kernel_rfl) rfl (fun K hK => ?_)
  go_simp
  have hS : Y1 ((v1.setCell ⟨X0, 0, none⟩ (.bool u)).setCell ⟨X0, 1, none⟩ (.slice a dn cd)) := ⟨hbx.cell 0, hbx.cell 1⟩
  refine hK.out _ _ (fun _ => hS) ?_
  clear hK K
  try simp only [Act.put, sA, s0, sS]
  generalize ((v1.setCell ⟨X0, 0, none⟩ (.bool u)).setCell ⟨X0, 1, none⟩ (.slice a dn cd)) = v2 at hkr hrb hbx hS ⊢
  refine tk 7 5 hS ?_
  refine wpAnyV_done (by kernel_rfl) ?_
  clear hS r0 r1 fr lr
  have z0 : v2.cell? ⟨X0, 0, none⟩ = some (.bool u) := hrb.cell 0
  have z1 : v2.cell? ⟨X0, 1, none⟩ = some (.slice a dn cd) := hrb.cell 1
  have HKR := hid hkr
  clear hkr hrb hbx
  go_wp2_with fail
  (try simp only [Exit.inBlock, Exit.then])
  refine bodyPost_ret (v := .tuple #[.slice (some ⟨b, off, none⟩) n c, .int .i64 s, .agg #[.bool u, .slice a dn cd], .int .i64 l]) ?_ rfl ?_
  ·rw [results_c4 rfl]
   go_simp
  have hF : Kept (fun b => b = X ∨ b < w0.heap.size) v1 v2 := HKR.out.mono (fun i _ e => .inr (by have h1 := hp.x2; have e' : i = X0 := e; omega))
  obtain ⟨e1, e2⟩ := HIv.out.len
  exact ⟨b, off, n, c, bs, s, u, a, cd, d, l, by rw [e1], HL.out, hn, HBB.out, HIv.out.page _ hF, by omega, HIv.out.isB, fun w3 h3 => by rw [e1]; exact HIv.out.dat _ (hF.trans (h3.mono (fun i _ e => .inr (by have h1 := hp.x1; have h2 := hp.x2; have e' : i < w.heap.size := e; omega)))), by omega, by omega, HIv.out.kept.next HKR.out (fun i hi e => by have h1 := hp.x1; have e' : i = X0 := e; omega)⟩
end Go.Proofs.YtdbpaadndaoihaaGreatDoor
