import Derived.Test.YtmnhflanhchdeaaG05
import Derived.Test.YtmnhflanhchdeaaG02
import Derived.Test.YtmnhflanhchdeaaG00
import Derived.RangeFuncWrites
import Derived.RangeFuncCalls
import Derived.RangeFuncLeaves
import Derived.TacticsIn
import Derived.OrdersIn
import Derived.RangeFuncNested
import Derived.RangeFuncBound
import Derived.Shelf.Abstract
import Derived.WalkKit
import Derived.OwnWalkIn
import Derived.TacticsInMore
import Derived.LoopNIn
import Derived.LoopIn
namespace Go.Proofs.Ytmnhflanhchdeaa
set_option maxRecDepth 100000
set_option maxHeartbeats 8000000
set_option linter.unusedVariables false
set_option linter.unusedSimpArgs false
open Go.RowKit Go Go.Shelf
theorem specFlushOps_any (x : StLog) (w : World) (hB : x.isB) (hn : x.szs ≤ 1048576) (hv : StLog.rd w x) :
    Calls Try.prog 18 #[x.val] w fun e w' => ∃ v, e = .returned v ∧ OpsR w w' (flushD x.dat) v := by
  have hF := fun wx (hk : Same w wx) => specLogFault_any x wx hB (by omega) (StLog.rd.same hv hk)
  obtain ⟨s, ep, st, fl, te, ta, tc, tb⟩ := x
  simp only [StLog.szs] at hn
  have HV := (show Hid (Rd .u8 w (.slice ta tb.length tc) tb) from hv)
  clear hB hv
  dsimp only [StLog.val, StLog.dat, BS.v, flushD] at hF ⊢
  have hk0 : Same w (w.alloc (.cells #[.int .i64 s, .int .i64 ep, .int .i64 st, .int .i64 fl, .slice ta tb.length tc] 29)) := (Kept.refl _ _).alloc _
  have b0 := Blk.newL w [.int .i64 s, .int .i64 ep, .int .i64 st, .int .i64 fl, .slice ta tb.length tc] 29
  have hF := hF _ hk0
  by_cases hc : logFd (s, ep, st, fl, tb) = 0 ∧ fl ≠ st
  case neg =>
    rw [if_neg hc]
    by_cases hg : logFd (s, ep, st, fl, tb) = 0
    · have he : fl = st := by
        by_cases h : fl = st
        · exact h
        · exact absurd ⟨hg, h⟩ hc
      subst he
      rw [hg] at hF
      clear hc hg
      go_enter Try.func18, Try.ntmps18
      go_wp2_with (go_at_call 10; refine hF.mono ?_; rintro e w1 ⟨rfl, hk1⟩; have b1 := b0.same hk1; have HK1 := (show Hid (Same w w1) from hk0.trans hk1); obtain ⟨c0, c1, c2, c3, c4⟩ := b1.all5)
      go_ret
      exact ⟨_, rfl, _, _, _, [], rfl, rfl, fun b hb => by have := foot_made hb; have := HK1.out.size; omega, opsR_made w1, HK1.out.alloc _⟩
    · obtain ⟨q, hq⟩ : ∃ q, logFd (s, ep, st, fl, tb) = q := ⟨_, rfl⟩
      rw [hq] at hF hg
      clear hc hq
      go_enter Try.func18, Try.ntmps18
      go_wp2_with (go_at_call 10; refine hF.mono ?_; rintro e w1 ⟨rfl, hk1⟩; have b1 := b0.same hk1; have HK1 := (show Hid (Same w w1) from hk0.trans hk1))
      go_ret
      exact ⟨_, rfl, _, _, _, [], rfl, rfl, fun b hb => by have := foot_made hb; have := HK1.out.size; omega, opsR_made w1, HK1.out.alloc _⟩
  rw [if_pos hc]
  obtain ⟨hg, hne⟩ := hc
  rw [hg] at hF
  obtain ⟨h1, h2, h3, h4, h5, h6⟩ := logFault_good hg
  dsimp only at h1 h2 h3 h4 h5 h6
  have hlen : 0 < tb.length := by omega
  obtain ⟨at0, hat⟩ : ∃ a : Int, fl - fl % 512 = a := ⟨_, rfl⟩
  rw [hat]
  have ha0 : 0 ≤ at0 := by omega
  have ha1 : at0 ≤ 1099511627776 := by omega
  have hwat : IntKind.i64.wrap (fl - fl % 512) = at0 := by rw [IntKind.wrap_i64, hat]; omega
  obtain ⟨M, hM⟩ : ∃ M, padM tb = M := ⟨_, rfl⟩
  have hM1 : tb.length ≤ 512 * M := by have := padM_le tb; omega
  have hM2 : 512 * M < tb.length + 512 := by have := padM_lt tb; omega
  rw [hM]
  have HM := hid hM
  have hfl0 : 0 ≤ fl := by omega
  have hne' : ¬ fl = st := hne
  obtain ⟨i0, hi, hz0, hz1, hz2⟩ := info_parts Try.infoROp
  clear hg h1 h2 h4 h5 h6 hM hne
  go_enter Try.func18, Try.ntmps18
  go_wp2_with fail
  refine hF.mono ?_
  rintro e w1 ⟨rfl, hk1⟩
  have b1 := b0.same hk1
  have HK1 := hid (hk0.trans hk1)
  have HB1 := (show Hid (Blk w1 w.heap.size 29 [.int .i64 s, .int .i64 ep, .int .i64 st, .int .i64 fl, .slice ta tb.length tc]) from b1)
  obtain ⟨c0, c1, c2, c3, c4⟩ := b1.all5
  clear hk1 b0 b1 hF hk0
  have hl1 := HB1.out.lt
  go_wp2_with fail
  refine (l1Copy_any _ tb _ (by omega) (HV.out.same (HK1.out.alloc _))).mono ?_
  rintro e w2 ⟨a2, n2, c2', rfl, ho2, hf2, hk2⟩
  obtain ⟨g2, e2, e3⟩ : ∃ g, a2 = some ⟨g, 0, none⟩ ∧ n2 = tb.length := by
    rcases ho2.form with ⟨_, h⟩ | ⟨g, cap, h, _⟩
    · rw [h] at hlen; simp at hlen
    · cases h; exact ⟨g, rfl, rfl⟩
  subst e2
  subst e3
  have HO2 := (show Hid (Own 0 5 .u8 w2 (.slice (some ⟨g2, 0, none⟩) tb.length c2') tb) from ho2)
  have HG2 : Hid (w1.heap.size < g2) := by have h := hf2 g2 rfl; rw [World.size_alloc] at h; unfold Hid; omega
  have HK2 := (show Hid (Same w w2) from (HK1.out.alloc _).trans hk2)
  have HB2 := (show Hid (Blk w2 w.heap.size 29 [.int .i64 s, .int .i64 ep, .int .i64 st, .int .i64 fl, .slice ta tb.length tc]) from (HB1.out.alloc _).same hk2)
  have HR2 := (show Hid (OwnR kOp 0 46 5 w2 (.slice (some ⟨w1.heap.size, 0, none⟩) 0 0) []) from (opsR_made w1).same hk2)
  clear ho2 hf2 hk2 c0 c1 c2 c3 c4
  obtain ⟨c0, c1, c2, c3, c4⟩ := HB2.out.all5
  go_wp2_with fail
  try rw [hwat]
  go_loopw [3, 4, 5] (fun o r t wr => ∃ (k j : Nat) (aa : Option Addr) (na ca : Nat) (qs : List EOp) (b off cc : Nat) (bs : List Int), k ≤ M ∧ o = .slice aa na ca ∧ r = .slice (some ⟨b, off, none⟩) (j - 512 * k) cc ∧ t = .int .i64 (at0 + 512 * (k : Int)) ∧
      tb.length ≤ j ∧ j ≤ 512 * M ∧ (k = 0 ∨ j = 512 * M) ∧ w1.heap.size < b ∧ Hid (bs = ((padL tb).take j).drop (512 * k)) ∧ Hid (k = 0 → Own 0 5 .u8 wr (.slice (some ⟨b, off, none⟩) (j - 512 * k) cc) bs) ∧ Hid (Rd .u8 wr (.slice (some ⟨b, off, none⟩) (j - 512 * k) cc) bs) ∧
      Hid (qs.length = k) ∧ Hid (datOpS qs = opsF s at0 tb k) ∧ Hid (OwnR kOp 0 46 5 wr (.slice aa na ca) qs) ∧ Hid (∀ x, footR kOp (.slice aa na ca) qs x → w1.heap.size ≤ x ∧ x ≠ b) ∧ Hid (Blk wr w.heap.size 29 [.int .i64 s, .int .i64 ep, .int .i64 st, .int .i64 fl, .slice ta tb.length tc]) ∧ Hid (Same w wr)) (fun _ r _ _ => lenV r)
  case atStart =>
    refine ⟨0, tb.length, _, _, _, [], g2, 0, c2', tb, Nat.zero_le _, rfl, by rw [Nat.mul_zero, Nat.sub_zero], by go_num, Nat.le_refl _, hM1, .inl rfl, HG2.out, ?_, fun _ => by rw [Nat.mul_zero, Nat.sub_zero]; exact HO2.out, ?_, rfl, rfl, HR2, fun x hx => ?_, HB2, HK2⟩
    · unfold Hid; rw [padL_take]; simp
    · unfold Hid; rw [Nat.mul_zero, Nat.sub_zero]; exact HO2.out.rd
    · have := foot_made hx
      have := HG2.out
      omega
  case round =>
    obtain ⟨k, j, aa, na, ca, qs, b, off, cc, bs, hk, rfl, rfl, rfl, hj1, hj2, hkj, hb, HBS, HOB, HRB, HQL, HQ, HOP, HFP, HBL, HKr⟩ := hrel
    clear c0 c1 c2 c3 c4 HO2 HG2 HK2 HB2 HR2
    by_cases hlt : k < M
    case neg =>
      obtain rfl : k = M := by omega
      obtain rfl : j = 512 * k := by omega
      rw [Nat.sub_self]
      have hkl : k ≤ 4096 := by omega
      have HKO := (show Hid ((wr.alloc (.cells #[.int .i64 2, .int .i64 0, .slice none 0 0] 46)).ownsRow 0 46 3 (.slice aa na ca) k (kOp.all qs)) from by have h := (HOP.out.same ((Kept.refl _ _).alloc (.cells #[.int .i64 2, .int .i64 0, .slice none 0 0] 46))).row; rw [HQL.out] at h; exact h)
      have HN5 := hid (Blk.newL wr [.int .i64 2, .int .i64 0, .slice none 0 0] 46)
      go_wp2_with (at_builtin; go_loud (refine wpList_append_lies _ rfl (.tmp 52) (.tmp 54) 35 rfl 0 46 i0 _ 3 40 Try.underlying35 hi hz0 hz1 hz2 rfl (by omega) (.slice aa na ca) k (kOp.all qs) rfl (by exact HKO.out) ⟨wr.heap.size, 0, none⟩ 1 1 [.int .i64 2, .int .i64 0, .slice none 0 0] rfl rfl (World.news_of_block (cs := #[.int .i64 2, .int .i64 0, .slice none 0 0]) (t := 46) (fr := (0, 0)) (by exact HN5.out)) (by simp [Value.oneCell']) (by omega) (by unfold maxLen; omega) (by omega) (Nat.zero_le _) (wr.heap.size + 1) (by simp) ?_); intro g5 cap5 w3 hown5 hgrow5 hat5 hlt5; have HOWN5 := (show Hid (w3.ownsRow 0 46 3 (.slice (some ⟨g5, 0, none⟩) (k + 1) cap5) (k + 1) (kOp.all qs ++ [.int .i64 2, .int .i64 0, .slice none 0 0])) from hown5); have HG5 := (show Hid ((wr.alloc (.cells #[.int .i64 2, .int .i64 0, .slice none 0 0] 46)).grownBy w3 (Value.slice aa na ca).ownBlock) from hgrow5); have HAT5 : Hid ((Value.slice aa na ca).ownBlock = some g5 ∨ g5 = wr.heap.size + 1) := hat5; clear hown5 hgrow5 hat5)
      have hsz := HKr.out.size
      have hzL := HBL.out.lt
      have hsnoc := OwnR.snoc (K := kOp) (⟨2, 0, .slice none 0 0, []⟩ : EOp) (HOP.out.same ((Kept.refl _ _).alloc (.cells #[.int .i64 2, .int .i64 0, .slice none 0 0] 46))) (Own.nil _ _ _ _) (fun b hb hf => by simp [kOp, Value.ownBlock] at hb) HG5.out HOWN5.out HQL.out.symm (by rw [World.size_alloc]; exact HAT5.out)
      go_ret
      refine ⟨_, rfl, _, _, _, _, rfl, ?_, fun x hx => ?_, hsnoc, ?_⟩
      · have h := HQ.out
        simp only [datOpS, List.map_append] at h ⊢
        rw [h]; rfl
      · rcases footR_snoc (v := .slice aa na ca) x hx with rfl | hx | hx
        · rcases HAT5.out with h | h
          · have := (HFP.out _ (.inl h)).1; omega
          · omega
        · have := (HFP.out x hx).1; omega
        · simp [kOp, Value.ownBlock] at hx
      · exact (HKr.out.alloc _).grown HG5.out (fun i e => .inl (by have := (HFP.out i (.inl e)).1; omega))
    have hj0 : 0 < j - 512 * k := by omega
    go_wp2_with fail
    go_loopw [4] (fun r wx => ∃ (j : Nat) (b off cc : Nat) (bs : List Int), r = .slice (some ⟨b, off, none⟩) (j - 512 * k) cc ∧
      tb.length ≤ j ∧ j ≤ 512 * M ∧ (k = 0 ∨ j = 512 * M) ∧ w1.heap.size < b ∧ Hid (bs = ((padL tb).take j).drop (512 * k)) ∧ Hid (k = 0 → Own 0 5 .u8 wx (.slice (some ⟨b, off, none⟩) (j - 512 * k) cc) bs) ∧ Hid (Rd .u8 wx (.slice (some ⟨b, off, none⟩) (j - 512 * k) cc) bs) ∧
      Hid (OwnR kOp 0 46 5 wx (.slice aa na ca) qs) ∧ Hid (∀ x, footR kOp (.slice aa na ca) qs x → w1.heap.size ≤ x ∧ x ≠ b) ∧ Hid (Blk wx w.heap.size 29 [.int .i64 s, .int .i64 ep, .int .i64 st, .int .i64 fl, .slice ta tb.length tc]) ∧ Hid (Same w wx)) (fun r _ => 512 * M - lenV r)
    case atStart => exact ⟨j, b, off, cc, bs, rfl, hj1, hj2, hkj, hb, HBS, HOB, HRB, HOP, HFP, HBL, HKr⟩
    case round =>
      clear HBS HOB HRB HOP HFP HBL HKr
      obtain ⟨j, b, off, cc, bs, rfl, hj1, hj2, hkj, hb, HBS, HOB, HRB, HOP, HFP, HBL, HKr⟩ := hrel
      by_cases hmod : (j - 512 * k) % 512 = 0
      case neg =>
        have hk0 : k = 0 := by omega
        obtain ⟨L, hL⟩ : ∃ L, j - 512 * k = L := ⟨_, rfl⟩
        have hLj : L = j := by omega
        have HK0' : Hid (k = 0) := hk0
        rw [hL] at HOB HRB ⊢
        have hm2 : ¬ (L : Int) % 512 = 0 := by omega
        have hbl : bs.length = L := by rw [HBS.out, hk0]; simp only [Nat.mul_zero, List.drop_zero, List.length_take, padL_length]; omega
        have HOA := (show Hid (Own 0 5 .u8 (wr.alloc (.cells #[.int .u8 0] 5)) (.slice (some ⟨b, off, none⟩) L cc) bs) from (HOB.out hk0).same ((Kept.refl _ _).alloc _))
        have hzr := HBL.out.lt
        have hz1r : w1.heap.size < wr.heap.size := by have h := (HOB.out hk0).lt b rfl; omega
        clear hk0
        go_wp2_with (at_builtin; go_loud (refine wpList_app rfl (.tmp 34) (.tmp 35) rfl (.slice (some ⟨b, off, none⟩) L cc) (.slice (some ⟨wr.heap.size, 0, none⟩) 1 1) bs [0] rfl rfl HOA.out (rd_one wr 0) (by simp; omega) ?_); intro a3 n3 c3 w3 hown hgr; have HO3 := (show Hid (Own 0 5 .u8 w3 (.slice a3 n3 c3) (bs ++ [0])) from hown); have HG3 := hid hgr; clear hown hgr)
        have hk0 := HK0'.out
        obtain ⟨g3, e2, e3⟩ : ∃ g, a3 = some ⟨g, 0, none⟩ ∧ n3 = j + 1 - 512 * k := by
          rcases HO3.out.form with ⟨_, h⟩ | ⟨g, cap, h, _⟩
          · simp at h
          · cases h; exact ⟨g, rfl, by rw [List.length_append, hbl]; simp only [List.length_singleton]; omega⟩
        subst e2
        subst e3
        have hza : (wr.alloc (.cells #[.int .u8 0] 5)).heap.size = wr.heap.size + 1 := World.size_alloc _ _
        have hkw : Same wr (wr.alloc (.cells #[.int .u8 0] 5)) := (Kept.refl _ _).alloc _
        go_roundw
        case rel =>
          refine ⟨j + 1, g3, 0, c3, bs ++ [0], rfl, by omega, by omega, .inl hk0, ?_, ?_, fun _ => HO3.out, HO3.out.rd, ?_, fun x hx => ⟨(HFP.out x hx).1, ?_⟩, ?_, ?_⟩
          · rcases HG3.out.own g3 rfl with h | h
            · have h : b = g3 := by simpa [Value.ownBlock] using h
              omega
            · omega
          · unfold Hid
            rw [padL_snoc tb j hj1 (by omega), HBS.out, hk0, Nat.mul_zero, List.drop_zero, List.drop_zero]
          · exact (HOP.out.same hkw).kept HG3.out.kept (fun x hx e => (HFP.out x hx).2 (by simpa [Value.ownBlock] using e.symm))
          · rintro rfl
            rcases HG3.out.own x rfl with h | h
            · exact (HFP.out x hx).2 (by simpa [Value.ownBlock] using h.symm)
            · have := (HOP.out.lt x hx).2; omega
          · exact (HBL.out.same hkw).kept HG3.out.kept (fun e => by have h : b = w.heap.size := (by simpa [Value.ownBlock] using e); omega)
          · exact (HKr.out.trans hkw).next HG3.out.kept (fun i hi e => by have h : b = i := (by simpa [Value.ownBlock] using e); omega)
        case measure => simp only [lenV]; omega
      have hm2 : (((j - 512 * k : Nat) : Int)) % 512 = 0 := by omega
      obtain rfl : j = 512 * M := by omega
      obtain ⟨L, hL⟩ : ∃ L, 512 * M - 512 * k = L := ⟨_, rfl⟩
      rw [hL] at HOB HRB hm2 ⊢
      have hL512 : 512 ≤ L := by omega
      have hbl : bs.length = L := by rw [HBS.out]; simp only [List.length_drop, List.length_take, padL_length]; omega
      obtain ⟨hcc, hcell⟩ : L ≤ cc ∧ Rd .u8 wr (.slice (some ⟨b, off, none⟩) bs.length cc) bs := by
        have h := HRB.out
        rw [← hbl] at h ⊢
        refine ⟨?_, h⟩
        rcases h.2 with ⟨h, _⟩ | ⟨b', off', c', h, hle, _⟩
        · rw [h] at hbl; simp at hbl; omega
        · cases h; exact hle
      have hch : (bs.drop 0).take 512 = chunkF tb k := by rw [List.drop_zero, HBS.out, ← HM.out]; exact padL_chunk tb k (by rw [HM.out]; exact hlt)
      have HCH := (show Hid (Rd .u8 wr (.slice (some ⟨b, off, none⟩) 512 cc) (chunkF tb k)) from by have h := hcell.cut 0 512 (by omega); rw [hch, Nat.add_zero, Nat.sub_zero, if_neg (by omega)] at h; exact h)
      have HTL := (show Hid (Rd .u8 wr (.slice (some (if cc = 512 then ⟨b, off, none⟩ else ⟨b, off + 512, none⟩)) (L - 512) (cc - 512)) (((padL tb).take (512 * M)).drop (512 * (k + 1)))) from by
        have h := hcell.cut 512 (L - 512) (by omega)
        rw [List.take_of_length_le (by rw [List.length_drop]; omega), HBS.out, List.drop_drop] at h
        rw [show 512 * (k + 1) = 512 * k + 512 from by omega]
        exact h)
      have hCL : (chunkF tb k).length = 512 := chunkF_length tb k (by rw [HM.out]; exact hlt)
      have HKM : Hid ((chunkF tb k).length ≤ 1099511627776) := by unfold Hid; omega
      have hkl : k ≤ 4096 := by omega
      have hLi : (512 : Int) ≤ (L : Int) := by omega
      have hci : (512 : Int) ≤ (cc : Int) := by omega
      have hLc : (L : Int) ≤ (cc : Int) := by omega
      obtain ⟨c0, c1, c2, c3, c4⟩ := HBL.out.all5
      have hzL := HBL.out.lt
      have hwat2 : IntKind.i64.wrap (at0 + 512 * (k : Int) + 512) = at0 + 512 * ((k + 1 : Nat) : Int) := by rw [IntKind.wrap_i64]; omega
      have hzb : b < wr.heap.size := by
        rcases HRB.out.2 with ⟨h, _⟩ | ⟨b', off', c', h, hle, hc⟩
        · rw [h] at hbl; simp at hbl; omega
        · cases h; exact World.block_lt_of_cell? wr _ (hc 0 (by omega))
      have HM2 := hid hM2
      clear hcell hch hM1 hM2 hj1 hj2 hkj hm2 hmod
      go_wp2_with fail
      have hS : (fun wx : World => wx.cell? ⟨w.heap.size, 0, none⟩ = some (.int .i64 s)) wr.drew := c0
      refine wp_region_V (fun wx : World => wx.cell? ⟨w.heap.size, 0, none⟩ = some (.int .i64 s)) 11 12 rfl (by kernel_rfl) ?_
      refine tk 0 37 hS ?_
      refine tk 1 38 hS ?_
      refine tk 2 39 hS ?_
      refine tk 3 40 hS ?_
      refine tk 5 42 hS ?_
      refine tk 6 43 hS ?_
      refine wpAnyV_one (i := 4) (by kernel_rfl) rfl (fun K hK => ?_)
      go_simp
      refine (specPlace_any s (at0 + 512 * (k : Int)) _).mono ?_
      rintro e w3 ⟨rfl, hk3⟩
      have HK3 : Hid (Same wr w3) := (Kept.refl _ _).drew.trans hk3
      clear hk3
      have hS : (fun wx : World => wx.cell? ⟨w.heap.size, 0, none⟩ = some (.int .i64 s)) w3 := HK3.out.cellOf c0 id
      go_wp2_with fail
      refine hK.out _ _ (fun _ => hS) ?_
      clear hK K
      try simp only [Act.put, sA, s0, sS]
      refine wpAnyV_one (i := 7) (by kernel_rfl) rfl (fun K hK => ?_)
      go_simp
      refine (l1Copy_any _ (chunkF tb k) _ HKM.out (HCH.out.same HK3.out)).mono ?_
      rintro e w4 ⟨a4, n4, c4', rfl, ho4, hf4, hk4⟩
      have HK4 : Hid (Same wr w4) := HK3.out.trans hk4
      have HO4 := (show Hid (Own 0 5 .u8 w4 (.slice a4 n4 c4') (chunkF tb k)) from ho4)
      have HF4 : Hid (∀ b, (Value.slice a4 n4 c4').ownBlock = some b → wr.heap.size ≤ b) := fun x hx => Nat.le_trans HK3.out.size (hf4 x hx)
      clear ho4 hf4 hk4
      have hS : (fun wx : World => wx.cell? ⟨w.heap.size, 0, none⟩ = some (.int .i64 s)) w4 := HK4.out.cellOf c0 id
      go_wp2_with fail
      refine hK.out _ _ (fun _ => hS) ?_
      clear hK K
      try simp only [Act.put, sA, s0, sS]
      refine tk 8 45 hS ?_
      refine wpAnyV_one (i := 9) (by kernel_rfl) rfl (fun K hK => ?_)
      go_simp
      have hS : (fun wx : World => wx.cell? ⟨w.heap.size, 0, none⟩ = some (.int .i64 s)) (w4.alloc (.cells #[.int .i64 1, .int .i64 (logPlace s (at0 + 512 * (k : Int))), .slice a4 n4 c4'] 46)) := (HK4.out.alloc _).cellOf c0 id
      refine hK.out _ _ (fun _ => hS) ?_
      clear hK K
      try simp only [Act.put, sA, s0, sS]
      have HKO := (show Hid ((w4.alloc (.cells #[.int .i64 1, .int .i64 (logPlace s (at0 + 512 * (k : Int))), .slice a4 n4 c4'] 46)).ownsRow 0 46 3 (.slice aa na ca) k (kOp.all qs)) from by have h := (HOP.out.same (HK4.out.alloc (.cells #[.int .i64 1, .int .i64 (logPlace s (at0 + 512 * (k : Int))), .slice a4 n4 c4'] 46))).row; rw [HQL.out] at h; exact h)
      have HN5 := hid (Blk.newL w4 [.int .i64 1, .int .i64 (logPlace s (at0 + 512 * (k : Int))), .slice a4 n4 c4'] 46)
      refine wpAnyV_one (i := 10) (by kernel_rfl) rfl (fun K hK => ?_)
      refine step_append_lies _ (by rfl) (.tmp 37) (.tmp 46) 35 (by rfl) 0 46 i0 _ 3 40 Try.underlying35 hi hz0 hz1 hz2 rfl (by omega) (.slice aa na ca) k (kOp.all qs) (by rfl) (by exact HKO.out) ⟨w4.heap.size, 0, none⟩ 1 1 [.int .i64 1, .int .i64 (logPlace s (at0 + 512 * (k : Int))), .slice a4 n4 c4'] (by rfl) (by rfl) (World.news_of_block (cs := #[.int .i64 1, .int .i64 (logPlace s (at0 + 512 * (k : Int))), .slice a4 n4 c4']) (t := 46) (fr := (0, 0)) (by exact HN5.out)) (by simp [Value.oneCell']) (by omega) (by unfold maxLen; omega) (by omega) (Nat.zero_le _) (w4.heap.size + 1) (by simp) ?_
      intro g5 cap5 w5 hown5 hgrow5 hat5 hlt5
      have HOWN5 := (show Hid (w5.ownsRow 0 46 3 (.slice (some ⟨g5, 0, none⟩) (k + 1) cap5) (k + 1) (kOp.all qs ++ [.int .i64 1, .int .i64 (logPlace s (at0 + 512 * (k : Int))), .slice a4 n4 c4'])) from hown5)
      have HG5 := (show Hid ((w4.alloc (.cells #[.int .i64 1, .int .i64 (logPlace s (at0 + 512 * (k : Int))), .slice a4 n4 c4'] 46)).grownBy w5 (Value.slice aa na ca).ownBlock) from hgrow5)
      have HAT5 : Hid ((Value.slice aa na ca).ownBlock = some g5 ∨ g5 = w4.heap.size + 1) := hat5
      have hnb : ¬ (Value.slice aa na ca).ownBlock = some w.heap.size := fun e => by have := (HFP.out _ (.inl e)).1; omega
      have HK5 := (show Hid (Kept (fun b => (Value.slice aa na ca).ownBlock = some b) wr w5) from ((HK4.out.alloc _).mono (fun _ _ e => e.elim)).trans (Kept.of_grown HG5.out (fun k e => e)))
      clear hown5 hgrow5 hat5
      have hS : (fun wx : World => wx.cell? ⟨w.heap.size, 0, none⟩ = some (.int .i64 s)) w5 := HK5.out.cellOf c0 hnb
      refine hK.out _ _ (fun _ => hS) ?_
      clear hK K
      try simp only [Act.put, sA, s0, sS]
      refine wpAnyV_one (i := 11) (by kernel_rfl) rfl (fun K hK => ?_)
      go_simp
      refine hK.out _ _ (fun h => absurd rfl h) ?_
      clear hK K
      refine wpAnyV_done (by kernel_rfl) ?_
      try simp only [Act.put, sA, s0, sS]
      have hz4 := HK4.out.size
      have hz5 := HK5.out.size
      have hsnoc := OwnR.snoc (K := kOp) (⟨1, logPlace s (at0 + 512 * (k : Int)), .slice a4 n4 c4', chunkF tb k⟩ : EOp) (HOP.out.same (HK4.out.alloc (.cells #[.int .i64 1, .int .i64 (logPlace s (at0 + 512 * (k : Int))), .slice a4 n4 c4'] 46))) (HO4.out.same ((Kept.refl _ _).alloc _)) (fun b hb hf => by have h1 := HF4.out b hb; have h2 := (HOP.out.lt b hf).2; omega) HG5.out HOWN5.out HQL.out.symm (by rw [World.size_alloc]; exact HAT5.out)
      have HSN := hid hsnoc
      clear hsnoc
      go_wp2
      try rw [hwat2]
      go_roundw
      case rel =>
        refine ⟨k + 1, 512 * M, _, _, _, _, b, (if cc = 512 then off else off + 512), cc - 512, _, by omega, rfl, ?_, rfl, by omega, Nat.le_refl _, .inr rfl, hb, rfl, fun h => by omega, ?_, ?_, ?_, HSN, fun x hx => ?_, ?_, ?_⟩
        · cases hcc' : decide (cc = 512)
          · have h : ¬ cc = 512 := by simpa using hcc'
            rw [if_neg h, if_neg h]
            rw [show 512 * M - 512 * (k + 1) = L - 512 from by omega]
          · have h : cc = 512 := by simpa using hcc'
            rw [if_pos h, if_pos h]
            rw [show 512 * M - 512 * (k + 1) = L - 512 from by omega]
        · unfold Hid
          rw [show 512 * M - 512 * (k + 1) = L - 512 from by omega]
          have h := HTL.out.kept HK5.out (fun x hx e => (HFP.out x (.inl e)).2 (by
            split at hx <;> simpa [Value.ownBlock] using hx.symm))
          split at h <;> rename_i hcc'
          · rw [if_pos hcc']; exact h
          · rw [if_neg hcc']; exact h
        · have := HQL.out; simp [Hid, this]
        · have h := HQ.out
          unfold Hid
          rw [opsF_succ]
          simp only [datOpS, List.map_append] at h ⊢
          rw [h]; rfl
        · rcases footR_snoc (v := .slice aa na ca) x hx with rfl | hx | hx
          · rcases HAT5.out with h | h
            · exact HFP.out _ (.inl h)
            · omega
          · exact HFP.out x hx
          · have := HF4.out x hx; omega
        · exact HBL.out.kept HK5.out hnb
        · exact HKr.out.next HK5.out (fun i hi e => by have := (HFP.out i (.inl e)).1; omega)
      case measure => have := HM2.out; simp only [lenV]; omega
section
variable {P : Program} {ops : Array Oper} {Q : Exit → Act → World → Prop} {l m : Nat}
def noDefer (o : Oper) : Bool := match o.op with
  | .defer _ => false
  | _ => true
theorem noDefer_spec {o : Oper} (h : noDefer o = true) (c : Call) : o.op ≠ .defer c := fun e => by simp [noDefer, e] at h
theorem wp_round {o : Oper} {a : Act} {w : World} {K K' : Act → World → Prop} (hd : noDefer o = true) (hK : ∀ a w, K a w → K' a w) (h : o.wp P a w K Q) : o.wpIn (Fence.wide.inRound l) m P a w K' Q := by
  unfold Oper.wp at h
  refine ⟨fun _ _ => trivial, ?_⟩
  rw [show (Fence.wide.inRound l).round = some l from rfl, Oper.semAt_some l _ _ (noDefer_spec hd)]
  generalize (execOp a.eval o).run P w = r at h ⊢
  cases r with
  | ok x w' =>
    cases x <;> simp only [Oper.upon] at h <;> simp only [Oper.uponIn]
    all_goals first
      | exact hK _ _ h
      | exact h.elim
      | (refine ⟨fun h => by simp [Fence.wide, Fence.inRound] at h, ?_⟩
         refine CallsIn.inRound l (callsIn_wide.2 (Calls.mono h ?_))
         intro e w'' he
         cases e <;> first | exact hK _ _ he | exact he)
      | (refine ⟨fun h => by simp [Fence.wide, Fence.inRound] at h, ?_⟩
         intro c cs _
         obtain ⟨v, w'', hr, hs⟩ := h c cs
         exact ⟨v, w'', hK _ _ hr, stepsIn_wide.2 hs⟩)
  | halt x w' => cases x <;> simp only [Oper.upon] at h <;> simp only [Oper.uponIn] <;> exact h
theorem wpList_round (hLO : ¬ LetsOut Q) : ∀ (os : List Oper) (a : Act) (w : World), os.all noDefer = true → wpList P ops Q os a w → wpListIn (Fence.wide.inRound l) m P ops Q os a w
  | [], _, _, _, h => h
  | o :: os, a, w, hd, h => by
    simp only [List.all_cons, Bool.and_eq_true] at hd
    unfold wpList at h
    unfold wpListIn
    split
    · rename_i hw
      rw [if_pos hw] at h
      rcases h with h | h
      · exact wp_round hd.1 (fun a w hk => wpList_round hLO os a w hd.2 hk) h
      · exact absurd h.2 hLO
    · rename_i hw
      rw [if_neg hw] at h
      exact ⟨fun _ _ => trivial, wpList_round hLO os _ w hd.2 h⟩
theorem wpOp_round (hLO : ¬ LetsOut Q) {i : Nat} {K K' : Act → World → Prop} {a : Act} {w : World} (hd : ops.all noDefer = true) (hK : ∀ a w, K a w → K' a w) (h : wpOp P ops Q i K a w) : wpOpIn (Fence.wide.inRound l) m P ops Q i K' a w := by
  unfold wpOp at h
  unfold wpOpIn
  cases ho : ops[i]? with
  | none => rw [ho] at h; exact hK _ _ h
  | some o =>
    rw [ho] at h
    dsimp only at h ⊢
    have hdo : noDefer o = true := by
      obtain ⟨hi, rfl⟩ := Array.getElem?_eq_some_iff.1 ho
      exact Array.all_eq_true.1 hd i hi
    split
    · rename_i hw
      rw [if_pos hw] at h
      rcases h with h | h
      · exact wp_round hdo hK h
      · exact absurd h.2 hLO
    · rename_i hw
      rw [if_neg hw] at h
      exact ⟨fun _ _ => trivial, hK _ _ h⟩
theorem wpAny_round (hLO : ¬ LetsOut Q) {md : Region.Mode} (hd : ops.all noDefer = true) : ∀ (fuel : Nat) (listed : Array Bool) (a : Act) (w : World), wpAny P md ops Q fuel listed a w → wpAnyIn (Fence.wide.inRound l) m P md ops Q fuel listed a w
  | 0, _, _, _, h => h
  | fuel + 1, _, _, _, h => ⟨h.1, fun i hi => wpOp_round hLO hd (fun a' w' h' => wpAny_round hLO hd fuel _ a' w' h') (h.2 i hi)⟩
theorem round_region {id : Nat} {os : List Oper} {a : Act} {w : World} (hLO : ¬ LetsOut Q) (hd : os.all noDefer = true) (h : wpList P os.toArray Q os a w) : (Code.region id os.toArray false).wpIn (Fence.wide.inRound l) m P Q a w :=
  wpIn_region_lit (wpList_round hLO os a w hd h)
theorem round_region_V {id : Nat} {a : Act} {w : World} (S : World → Prop) (s n : Nat) (hLO : ¬ LetsOut Q) (hd : ops.all noDefer = true) (hn : ops.size = n) (hm : P.follows .mixedOrders = true) (h : wpAnyV P .any ops Q S s n (Array.replicate n false) a w.drew) : (Code.region id ops true).wpIn (Fence.wide.inRound l) m P Q a w := by
  subst hn
  exact wpIn_region_any hm (wpAny_round hLO hd _ _ _ _ (wpAny_of_V _ _ _ _ h))
theorem letsOut_then {K : Act → World → Prop} (h : ¬ LetsOut Q) : ¬ LetsOut (Exit.then K Q) := fun ⟨a, w, hq⟩ => h ⟨a, w, hq⟩
theorem letsOut_block {id : Nat} (h : ¬ LetsOut Q) : ¬ LetsOut (Exit.inBlock id Q) := fun ⟨a, w, hq⟩ => h ⟨a, w, hq⟩
theorem letsOut_ownG {α : Type} {B : Nat} {Kp : World → World → Prop} {I : List α → World → Prop} {Ix : Code → List α → World → Prop} {xs : List α} {W : World} : ¬ LetsOut (ownPostG B Kp I Ix xs W) := fun ⟨_, _, h⟩ => h
end
def Bare (B : Nat) (w : World) (b : Nat) : Prop := B ≤ b ∧ ∃ o : Obj, w.heap[b]? = some o ∧ o.isCells = false
theorem kept_turn {B : Nat} {W W' : World} {row : Option Nat} (hg : W.grownBy W' row) (hr : ∀ r, row = some r → B ≤ r ∧ ∃ o : Obj, W.heap[r]? = some o ∧ o.isCells = false) : Kept (Bare B W) W W' :=
  Kept.of_grown hg (fun k e => hr k e)
theorem Blk.not_bare {w : World} {b B : Nat} {e : TypeId} {vs : List Value} (h : Blk w b e vs) : ¬ Bare B w b := fun ⟨_, o, ho, hc⟩ => by
  rw [show w.heap[b]? = _ from h] at ho
  cases ho
  cases hc
theorem Own.not_bare {base : Nat} {e : TypeId} {k : IntKind} {w : World} {v : Value} {bs : List Int} {B b : Nat} (h : Own base e k w v bs) (hb : v.ownBlock = some b) : ¬ Bare B w b := fun ⟨_, o, ho, hc⟩ => by
  rcases h.2 with ⟨rfl, _⟩ | ⟨g, cap, cur, rfl, _, hg, _⟩
  · simp [Value.ownBlock] at hb
  · have : g = b := by simpa [Value.ownBlock] using hb
    subst this
    rw [hg] at ho
    cases ho
    cases hc
theorem OwnR.not_bare {E : Type} {K : RowK E} {base : Nat} {tw tb : TypeId} {w : World} {v : Value} {qs : List E} {B b : Nat} (h : OwnR K base tw tb w v qs) (hb : footR K v qs b) : ¬ Bare B w b := by
  rcases hb with hb | ⟨p, hp, hb⟩
  · rintro ⟨_, o, ho, hc⟩
    rcases h.row.2 with ⟨rfl, _⟩ | ⟨g, cap, cur, rfl, _, hg, _⟩
    · simp [Value.ownBlock] at hb
    · have : g = b := by simpa [Value.ownBlock] using hb
      subst this
      rw [hg] at ho
      cases ho
      cases hc
  · exact (h.data p hp).not_bare hb
theorem keepsFrom_of {R : Nat → Prop} {B : Nat} {W W' : World} (hk : Kept R W W') (hr : ∀ b, R b → ¬ Bare B W b) : KeepsFrom B W W' :=
  ⟨hk.size, fun k o hB ho hc => (hk.block k (Array.getElem?_eq_some_iff.1 ho).1 (fun e => hr k e ⟨hB, o, ho, hc⟩)).trans ho⟩
theorem stretch_any (s fl st : Int) (w : World) : Calls Try.prog 33 #[.int .i64 s, .int .i64 fl, .int .i64 st] w fun e w' =>
    e = .returned (.func (.func 35) #[] #[.pointer (some ⟨w.heap.size + 1, 0, none⟩), .pointer (some ⟨w.heap.size + 1 + 1, 0, none⟩), .pointer (some ⟨w.heap.size, 0, none⟩)]) ∧
      Blk w' w.heap.size 2 [.int .i64 s] ∧ Blk w' (w.heap.size + 1) 2 [.int .i64 fl] ∧ Blk w' (w.heap.size + 1 + 1) 2 [.int .i64 st] ∧ w'.heap.size = w.heap.size + 1 + 1 + 1 ∧ Same w w' := by
  have b0 := (Blk.newA w [.int .i64 s] 2 [.int .i64 fl] 2).same ((Kept.refl _ _).alloc (.cells #[.int .i64 st] 2))
  have b1 := (Blk.newB w [.int .i64 s] 2 [.int .i64 fl] 2).same ((Kept.refl _ _).alloc (.cells #[.int .i64 st] 2))
  have b2 := Blk.newL ((w.alloc (.cells #[.int .i64 s] 2)).alloc (.cells #[.int .i64 fl] 2)) [.int .i64 st] 2
  simp only [World.size_alloc] at b2
  have H0 := hid b0
  have H1 := hid b1
  have H2 := hid b2
  clear b0 b1 b2
  have hmf : ∀ (fn : Fn) (first cap : Array Value) (w : World), (Instr.makeFunc fn first cap).run Try.prog w = .ok (.func fn first cap) w := fun _ _ _ _ => rfl
  go_enter Try.func33, Try.ntmps33
  go_wp2
  go_ret
  exact ⟨rfl, H0.out, H1.out, H2.out, by simp [World.size_alloc], (((Kept.refl _ _).alloc _).alloc _).alloc _⟩
def KpB (b : Nat) (W W' : World) : Prop := ∀ k, b ≤ k → k ≤ b + 2 → W'.heap[k]? = W.heap[k]?
theorem KpB.blk {b k : Nat} {W W' : World} {e : TypeId} {vs : List Value} (h : KpB b W W') (h1 : b ≤ k) (h2 : k ≤ b + 2) (hb : Blk W k e vs) : Blk W' k e vs := (h k h1 h2).trans hb
theorem KpB.t {b : Nat} {A B C : World} (h : KpB b A B) (k : KpB b B C) : KpB b A C := fun x h1 h2 => (k x h1 h2).trans (h x h1 h2)
theorem KpB.put {b : Nat} {w : World} (hw : b + 2 < w.heap.size) (W : World) (l : Nat) (o o' : Obj) (hl : w.heap.size ≤ l) (_ : W.heap[l]? = some o) (_ : o.isCells = false) (_ : o.isWalk = false) : KpB b W (W.putObj l o') := fun k _ h2 => World.putObj_heap_other (by omega)
theorem Same.grown {w w' : World} (h : Same w w') : w.grownBy w' none := ⟨h.os, h.tape, h.output, h.size, fun k hk _ => h.block k hk id⟩
def secs (s at0 : Int) (M : Nat) (k : Fin M) : Array Value := #[.int .i64 (at0 + 512 * (k.val : Int)), .int .i64 (logPlace s (at0 + 512 * (k.val : Int)))]
theorem stretch1_stops (n b M : Nat) (s fl st at0 : Int) (w : World) (hat : fl - fl % 512 = at0) (h0 : 0 ≤ fl) (h1 : st ≤ 1099511627776) (hfl : fl ≤ 1099511627776) (hlt : ∀ k : Nat, k < M → at0 + 512 * (k : Int) < st) (hM : st ≤ at0 + 512 * (M : Int))
    (b0 : Blk w b 2 [.int .i64 s]) (b1 : Blk w (b + 1) 2 [.int .i64 fl]) (b2 : Blk w (b + 1 + 1) 2 [.int .i64 st]) :
    SeqStopsK Fence.wide n Try.prog 35 #[.pointer (some ⟨b + 1, 0, none⟩), .pointer (some ⟨b + 1 + 1, 0, none⟩), .pointer (some ⟨b, 0, none⟩)] (secs s at0 M) (KpB b) (fun xs => xs.map Fin.val = List.range M) (fun xs => xs.map Fin.val = List.range xs.length) M w := by
  intro l J Jx W hW hJ hJx hY hJ0
  have hsw : Same w W := Kept.of_below hW
  have H0 := hid (b0.same hsw)
  have H1 := hid (b1.same hsw)
  have H2 := hid (b2.same hsw)
  have HJ0 := hid hJ0
  have HJ := hid hJ
  have HY := hid hY
  clear b0 b1 b2 hsw hW hJ0 hJ hJx hY
  have hm : M ≤ 2147483649 := by
    rcases Nat.eq_zero_or_pos M with h | h
    · omega
    · have := hlt (M - 1) (by omega); omega
  have k0 := fun wx => sectorStart_any fl wx h0 hfl
  rw [hat] at k0
  have c0 := H1.out.c0
  refine callsIn_of_wp Try.func35 rfl trivial ?_ rfl
  simp only [Try.ntmps35, List.size_toArray, List.length_cons, List.length_nil, Nat.reduceAdd, Nat.reduceSub, Array.replicate_succ, Array.replicate_zero, List.push_toArray, List.append_toArray, List.nil_append, List.cons_append]
  gi_wp2_with (refine ⟨trivial, (fun h => by simp [Fence.wide] at h), ?_⟩; refine (callsIn_wide.2 (k0 _)).mono ?_; rintro e w1 ⟨rfl, hk1⟩; have HK1 := (show Hid (Same W w1) from hk1); clear hk1)
  gi_loopw [5] (fun i wr => ∃ (k : Nat) (pre : List (Fin M)), k ≤ M ∧ i = .int .i64 (at0 + 512 * (k : Int)) ∧ Hid (pre.map Fin.val = List.range k) ∧ Hid (Blk wr b 2 [.int .i64 s]) ∧ Hid (Blk wr (b + 1 + 1) 2 [.int .i64 st]) ∧ Hid (Same W wr ∨ True) ∧ Hid (J pre wr)) (fun i _ => (1099511627776 + 1024 - intOf i).toNat)
  case atStart => exact ⟨0, [], Nat.zero_le _, by simp, rfl, H0.out.same HK1.out, H2.out.same HK1.out, .inr trivial, HJ.out _ _ _ none HJ0.out (Same.grown HK1.out) (fun r e => by cases e)⟩
  case round =>
    obtain ⟨k, pre, hk, rfl, HP, HB0, HB2, _, HJk⟩ := hrel
    have d0 := HB0.out.c0
    have d2 := HB2.out.c0
    by_cases hkM : k < M
    · have hlk := hlt k hkM
      have hpl : pre.length = k := by have := congrArg List.length HP.out; simpa using this
      have k1 := fun wx => implPlace_any s (at0 + 512 * (k : Int)) wx
      gi_wp2_with (refine ⟨trivial, (fun h => by simp [Fence.wide] at h), ?_⟩; refine (callsIn_wide.2 (k1 _)).mono ?_; rintro e w2 ⟨rfl, hk2⟩; have HK2 := (show Hid (Same wr w2) from hk2); clear hk2)
      have hJ2 : J pre w2 := HJ.out _ _ _ none HJk.out (Same.grown HK2.out) (fun r e => by cases e)
      obtain ⟨fn, tmps, assign, body, hy, hR⟩ := HY.out pre ⟨k, hkM⟩ w2 hJ2 (by omega)
      dsimp only [secs] at hy
      have hw5 : IntKind.i64.wrap (at0 + 512 * (k : Int) + 512) = at0 + 512 * ((k + 1 : Nat) : Int) := by rw [IntKind.wrap_i64]; omega
      rw [hy, Oper.uponIn_round]
      refine ⟨fun h => by simp [Fence.wide] at h, ?_⟩
      refine hR.mono ?_
      rintro e W3 (⟨rfl, hJ3, hk3⟩ | ⟨rfl, hJx3⟩)
      · have HJ3 := hid hJ3
        have HB03 := (show Hid (Blk W3 b 2 [.int .i64 s]) from hk3.blk (Nat.le_refl _) (by omega) (HB0.out.same HK2.out))
        have HB23 := (show Hid (Blk W3 (b + 1 + 1) 2 [.int .i64 st]) from hk3.blk (by omega) (by omega) (HB2.out.same HK2.out))
        clear hJ3 hk3 hR hy hJ2
        gi_wp2
        go_roundw
        case rel =>
          refine ⟨k + 1, pre ++ [⟨k, hkM⟩], by omega, ?_, ?_, HB03, HB23, .inr trivial, HJ3⟩
          · first | rfl | (rw [hw5]) | (congr 1; omega) | simp
          · unfold Hid
            rw [List.map_append, HP.out, List.range_succ]
            rfl
        case measure => simp only [intOf]; omega
      · gi_wp2
        refine bodyPost_ret (results_none rfl _ _ _) rfl ?_
        exact ⟨⟨_, rfl⟩, .inr ⟨_, by rw [List.map_append, HP.out, List.length_append, List.length_singleton, hpl, List.range_succ]; rfl, hJx3⟩⟩
    · obtain rfl : k = M := by omega
      have hnl : ¬ at0 + 512 * (k : Int) < st := by omega
      gi_wp2
      go_end0
      exact ⟨⟨_, rfl⟩, .inl ⟨pre, HP.out, HJk.out⟩⟩
end Go.Proofs.Ytmnhflanhchdeaa
