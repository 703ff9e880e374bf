/-
  spec.l7Copy.
-/
import Derived.Test.YtommabejmpafcaaPoolTy
import Derived.Test.YtommabejmpafcaaMemR3
import Derived.Test.YtommabejmpafcaaClone
import Derived.Deep.AppendLies
namespace Go.Proofs.Ytommabejmpafcaa
set_option maxRecDepth 100000
set_option maxHeartbeats 4000000
open Go.RowKit
set_option linter.unusedVariables false
set_option linter.unusedSimpArgs false

theorem l7Copy_any (v : Value) (hand : Int) (ps : List EFrame) (w : World) (hn : ps.length ≤ 1073741824) (hs : ∀ p ∈ ps, p.bs.length ≤ 1099511627776) (hv : RdR kFrame w v ps) :
    Calls Try.prog 71 #[.agg #[v, .int .i64 hand]] w fun e w' => ∃ a n c qs, e = .returned (.agg #[.slice a n c, .int .i64 hand]) ∧ datFrameS qs = datFrameS ps ∧
      (∀ b, footR kFrame (.slice a n c) qs b → w.heap.size ≤ b) ∧ OwnR kFrame 0 36 5 w' (.slice a n c) qs ∧ Same w w' := by
  obtain ⟨a, c, rfl⟩ := hv.form
  obtain ⟨i0, hi, hz0, hz1, hz2⟩ := info_parts Try.infoRFrame
  have hmax := hv.max
  unfold maxLen at hmax
  have HV := (show Hid (RdR kFrame w (.slice a ps.length c) ps) from hv)
  have HS : Hid (∀ p ∈ ps, p.bs.length ≤ 1099511627776) := hs
  clear hv hs
  obtain ⟨len, hl⟩ : ∃ n, ps.length = n := ⟨_, rfl⟩
  have HL : Hid (ps.length = len) := hl
  rw [hl] at HV hmax hn ⊢
  clear hl
  have b0 := ((Blk.newL w [.slice a len c, .int .i64 hand] 25).same ((Kept.refl _ _).alloc (.cells #[.slice none 0 0, .int .i64 0] 25))).same ((Kept.refl _ _).alloc (.cells #[.slice none 0 0, .int .i64 hand] 25))
  have b1 := (Blk.newB w [.slice a len c, .int .i64 hand] 25 [.slice none 0 0, .int .i64 0] 25).same ((Kept.refl _ _).alloc (.cells #[.slice none 0 0, .int .i64 hand] 25))
  have b2 := Blk.newL ((w.alloc (.cells #[.slice a len c, .int .i64 hand] 25)).alloc (.cells #[.slice none 0 0, .int .i64 0] 25)) [.slice none 0 0, .int .i64 hand] 25
  simp only [World.size_alloc] at b1 b2
  have hkb : Same w (((w.alloc (.cells #[.slice a len c, .int .i64 hand] 25)).alloc (.cells #[.slice none 0 0, .int .i64 0] 25)).alloc (.cells #[.slice none 0 0, .int .i64 hand] 25)) := (((Kept.refl _ _).alloc _).alloc _).alloc _
  go_enter Try.func71, Try.ntmps71
  go_wp2_with fail
  obtain ⟨wb, hwb⟩ : ∃ x, x = (((w.alloc (.cells #[.slice a len c, .int .i64 hand] 25)).alloc (.cells #[.slice none 0 0, .int .i64 0] 25)).alloc (.cells #[.slice none 0 0, .int .i64 hand] 25)) := ⟨_, rfl⟩
  rw [← hwb]
  rw [← hwb] at b0 b1 b2 hkb
  have hzw : wb.heap.size = w.heap.size + 3 := by rw [hwb]; simp [World.size_alloc]
  clear hwb
  have HB0 := (show Hid (Blk wb w.heap.size 25 [.slice a len c, .int .i64 hand]) from b0)
  have HB1 := (show Hid (Blk wb (w.heap.size + 1) 25 [.slice none 0 0, .int .i64 0]) from b1)
  have HB2 := (show Hid (Blk wb (w.heap.size + 1 + 1) 25 [.slice none 0 0, .int .i64 hand]) from b2)
  have HKB := (show Hid (Same w wb) from hkb)
  clear b0 b1 b2 hkb
  go_loopw [4] (fun i wr => ∃ (k : Nat) (aa : Option Addr) (na ca : Nat) (qs : List EFrame), k ≤ len ∧ i = .int .i64 k ∧ Hid (qs.length = k) ∧ Hid (datFrameS qs = datFrameS (ps.take k)) ∧ Hid (Blk wr (w.heap.size + 1 + 1) 25 [.slice aa na ca, .int .i64 hand]) ∧
      Hid (∀ b, footR kFrame (.slice aa na ca) qs b → w.heap.size + 1 + 1 < b) ∧ Hid (OwnR kFrame 0 36 5 wr (.slice aa na ca) qs) ∧ Hid (Kept (fun b => b = w.heap.size + 1 + 1) wb wr)) (fun i _ => len - (intOf i).toNat)
  case atStart => exact ⟨0, none, 0, 0, [], Nat.zero_le _, rfl, rfl, rfl, HB2, fun b hb => absurd hb (footR_nil b), OwnR.nil _ _ _ _ _, Kept.refl _ _⟩
  case round =>
    obtain ⟨k, aa, na, ca, qs, hk, rfl, HQL, HQ, HX, HFP, HOP, HKr⟩ := hrel
    have HP := (show Hid (Blk wr w.heap.size 25 [.slice a len c, .int .i64 hand]) from HB0.out.kept HKr.out (by intro e; omega))
    obtain ⟨g0, g1⟩ := HP.out.all2
    have HKW := (show Hid (Same w wr) from HKB.out.next HKr.out (fun b hb e => by omega))
    by_cases hlt : k < len
    · have hlp : k < ps.length := by rw [HL.out]; exact hlt
      obtain ⟨b, off, rfl, hc⟩ : ∃ b off, a = some ⟨b, off, none⟩ ∧ ∀ j i, (h : j < ps.length) → i < 6 → w.cell? ⟨b, off + (j * 6 + i), none⟩ = (kFrame.cells ps[j])[i]? := by
        rcases HV.out.row with ⟨hps, _⟩ | ⟨b, off, c', he, hc⟩
        · rw [hps] at hlp; simp at hlp
        · injection he with he1 he2 he3
          exact ⟨b, off, he1, hc⟩
      obtain ⟨p, hp⟩ : ∃ p, ps[k] = p := ⟨_, rfl⟩
      have hrd : Rd .u8 w ps[k].v ps[k].bs := HV.out.data _ (List.getElem_mem hlp)
      have hm1 := HS.out _ (List.getElem_mem hlp)
      have hcc : ∀ i, i < 6 → wr.cell? ⟨b, off + (k * 6 + i), none⟩ = (kFrame.cells ps[k])[i]? := fun i hi => by
        have h := hc k i hlp hi
        have hlen : (kFrame.cells ps[k]).length = 6 := kFrame.len _
        rw [List.getElem?_eq_getElem (by omega)] at h ⊢
        exact HKW.out.cellOf h id
      rw [hp] at hrd hm1 hcc
      have HPE : Hid (ps[k] = p) := hp
      clear hp hc
      obtain ⟨pg, pv, fb, pn, dt, rl, rf⟩ := p
      dsimp only at hrd hm1
      obtain ⟨a1, c1, e1⟩ := hrd.form
      subst e1
      obtain ⟨n1, hn1⟩ : ∃ n, fb.length = n := ⟨_, rfl⟩
      have HN : Hid (fb.length = n1) := hn1
      rw [hn1] at hrd hcc
      have HRD := (show Hid (Rd .u8 w (.slice a1 n1 c1) fb) from hrd)
      have HM1 : Hid (fb.length ≤ 1099511627776) := hm1
      have d0 : wr.cell? ⟨b, off + k * 6, none⟩ = some (.int .i64 pg) := by have h := hcc 0 (by decide); exact h
      have d1 : wr.cell? ⟨b, off + k * 6 + 1, none⟩ = some (.slice a1 n1 c1) := by have h := hcc 1 (by decide); rw [← Nat.add_assoc] at h; exact h
      have d2 : wr.cell? ⟨b, off + k * 6 + 2, none⟩ = some (.int .i64 pn) := by have h := hcc 2 (by decide); rw [← Nat.add_assoc] at h; exact h
      have d3 : wr.cell? ⟨b, off + k * 6 + 3, none⟩ = some (.bool dt) := by have h := hcc 3 (by decide); rw [← Nat.add_assoc] at h; exact h
      have d4 : wr.cell? ⟨b, off + k * 6 + 4, none⟩ = some (.int .i64 rl) := by have h := hcc 4 (by decide); rw [← Nat.add_assoc] at h; exact h
      have d5 : wr.cell? ⟨b, off + k * 6 + 5, none⟩ = some (.bool rf) := by have h := hcc 5 (by decide); rw [← Nat.add_assoc] at h; exact h
      clear hcc hrd hm1 hn1
      have ba := Blk.newL wr [.int .i64 pg, .slice a1 n1 c1, .int .i64 pn, .bool dt, .int .i64 rl, .bool rf] 36
      have hki : (k : Int) < (len : Int) := by omega
      go_wp2_with fail
      refine (l1Copy_any _ fb _ HM1.out (HRD.out.same (HKW.out.trans ((Kept.refl _ _).alloc _)))).mono ?_
      rintro e w2 ⟨a4, n4, c4, rfl, ho4, hf4, hk4⟩
      have HB4 := (show Hid (Blk w2 wr.heap.size 36 [.int .i64 pg, .slice a1 n1 c1, .int .i64 pn, .bool dt, .int .i64 rl, .bool rf]) from ba.same hk4)
      have HK4 := (show Hid (Same wr w2) from ((Kept.refl _ _).alloc _).trans hk4)
      have HO4 := (show Hid (Own 0 5 .u8 w2 (.slice a4 n4 c4) fb) from ho4)
      have HF4 : Hid (∀ b, (Value.slice a4 n4 c4).ownBlock = some b → wr.heap.size < b) := fun b hb => by have h := hf4 b hb; rw [World.size_alloc] at h; omega
      clear ho4 hf4 hk4 ba d0 d1 d2 d3 d4 d5 g0 g1
      have hxl : w.heap.size + 1 + 1 < wr.heap.size := HX.out.lt
      have h2l : wr.heap.size < w2.heap.size := HB4.out.lt
      have hs4 : (w2.setCell ⟨wr.heap.size, 1, none⟩ (.slice a4 n4 c4)).heap.size = w2.heap.size := by simp [World.setCell]
      have HK24 := (show Hid (Kept (fun b => b = wr.heap.size) w2 (w2.setCell ⟨wr.heap.size, 1, none⟩ (.slice a4 n4 c4))) from Kept.setCell (R := fun b => b = wr.heap.size) (Kept.refl _ _) (p := ⟨wr.heap.size, 1, none⟩) (.inr rfl) _)
      have HOP4 := (show Hid (OwnR kFrame 0 36 5 ((w2.setCell ⟨wr.heap.size, 1, none⟩ (.slice a4 n4 c4)).alloc (.cells #[.int .i64 pg, .slice a4 n4 c4, .int .i64 pn, .bool dt, .int .i64 rl, .bool rf] 36)) (.slice aa na ca) qs) from ((HOP.out.same HK4.out).kept HK24.out (fun b hb e => by have := (HOP.out.lt b hb).2; omega)).same ((Kept.refl _ _).alloc _))
      have HO5 := (show Hid (Own 0 5 .u8 ((w2.setCell ⟨wr.heap.size, 1, none⟩ (.slice a4 n4 c4)).alloc (.cells #[.int .i64 pg, .slice a4 n4 c4, .int .i64 pn, .bool dt, .int .i64 rl, .bool rf] 36)) (.slice a4 n4 c4) fb) from (HO4.out.kept HK24.out (fun b hb e => by have := HF4.out b hb; omega)).same ((Kept.refl _ _).alloc _))
      have HX5 := (show Hid (Blk ((w2.setCell ⟨wr.heap.size, 1, none⟩ (.slice a4 n4 c4)).alloc (.cells #[.int .i64 pg, .slice a4 n4 c4, .int .i64 pn, .bool dt, .int .i64 rl, .bool rf] 36)) (w.heap.size + 1 + 1) 25 [.slice aa na ca, .int .i64 hand]) from ((HX.out.same HK4.out).kept HK24.out (by intro e; omega)).same ((Kept.refl _ _).alloc _))
      have HN5 := (show Hid (Blk ((w2.setCell ⟨wr.heap.size, 1, none⟩ (.slice a4 n4 c4)).alloc (.cells #[.int .i64 pg, .slice a4 n4 c4, .int .i64 pn, .bool dt, .int .i64 rl, .bool rf] 36)) w2.heap.size 36 [.int .i64 pg, .slice a4 n4 c4, .int .i64 pn, .bool dt, .int .i64 rl, .bool rf]) from by have h := Blk.newL (w2.setCell ⟨wr.heap.size, 1, none⟩ (.slice a4 n4 c4)) [.int .i64 pg, .slice a4 n4 c4, .int .i64 pn, .bool dt, .int .i64 rl, .bool rf] 36; rw [hs4] at h; exact h)
      have HKO := (show Hid (((w2.setCell ⟨wr.heap.size, 1, none⟩ (.slice a4 n4 c4)).alloc (.cells #[.int .i64 pg, .slice a4 n4 c4, .int .i64 pn, .bool dt, .int .i64 rl, .bool rf] 36)).ownsRow 0 36 6 (.slice aa na ca) k (kFrame.all qs)) from by have h := HOP4.out.row; rw [HQL.out] at h; exact h)
      obtain ⟨c0, c1', c2, c3, c4', c5⟩ := HB4.out.all6
      have fz := HB4.out.frozen
      obtain ⟨x0, x1⟩ := (HX.out.same HK4.out).all2
      have fx := (HX.out.same HK4.out).frozen
      go_wp2_with (at_builtin; go_loud (refine wpList_append_lies _ rfl (.tmp 26) (.tmp 28) 23 rfl 0 36 i0 _ 6 64 Try.underlying23 hi hz0 hz1 hz2 rfl (by omega) (.slice aa na ca) k (kFrame.all qs) rfl (by exact HKO.out) ⟨w2.heap.size, 0, none⟩ 1 1 [.int .i64 pg, .slice a4 n4 c4, .int .i64 pn, .bool dt, .int .i64 rl, .bool rf] rfl rfl (World.news_of_block (cs := #[.int .i64 pg, .slice a4 n4 c4, .int .i64 pn, .bool dt, .int .i64 rl, .bool rf]) (t := 36) (fr := (0, 0)) (by exact HN5.out)) (by simp [Value.oneCell']) (by omega) (by unfold maxLen; omega) (by omega) (Nat.zero_le _) (w2.heap.size + 1) (by simp [World.setCell]) ?_); intro g5 cap5 w3 hown5 hgrow5 hat5 hlt5; have HX6 := (show Hid (Blk w3 (w.heap.size + 1 + 1) 25 [.slice aa na ca, .int .i64 hand]) from HX5.out.kept (Kept.of_grown hgrow5 (fun k e => e)) (fun e => absurd (HFP.out _ (.inl e)) (by omega))); have HOWN5 := (show Hid (w3.ownsRow 0 36 6 (.slice (some ⟨g5, 0, none⟩) (k + 1) cap5) (k + 1) (kFrame.all qs ++ [.int .i64 pg, .slice a4 n4 c4, .int .i64 pn, .bool dt, .int .i64 rl, .bool rf])) from hown5); have HG5 := (show Hid (((w2.setCell ⟨wr.heap.size, 1, none⟩ (.slice a4 n4 c4)).alloc (.cells #[.int .i64 pg, .slice a4 n4 c4, .int .i64 pn, .bool dt, .int .i64 rl, .bool rf] 36)).grownBy w3 (Value.slice aa na ca).ownBlock) from hgrow5); have HAT5 : Hid ((Value.slice aa na ca).ownBlock = some g5 ∨ g5 = w2.heap.size + 1) := hat5; have z0 := HX6.out.all2.1; have fz3 := HX6.out.frozen; have lz3 := HX6.out.lt; clear hown5 hgrow5 hat5)
      have hsnoc := OwnR.snoc (K := kFrame) (⟨pg, .slice a4 n4 c4, fb, pn, dt, rl, rf⟩ : EFrame) HOP4.out HO5.out (fun b hb hf => by have h1 := HF4.out b hb; have h2 := (HOP.out.lt b hf).2; omega) HG5.out HOWN5.out HQL.out.symm (by rw [World.size_alloc, hs4]; exact HAT5.out)
      have HN : Hid (∀ b, footR kFrame (.slice (some ⟨g5, 0, none⟩) (k + 1) cap5) (qs ++ [(⟨pg, .slice a4 n4 c4, fb, pn, dt, rl, rf⟩ : EFrame)]) b → w.heap.size + 1 + 1 < b) := fun b hb => by
        rcases footR_snoc (v := .slice aa na ca) b hb with rfl | hb | hb
        · rcases HAT5.out with h | h
          · exact HFP.out _ (.inl h)
          · omega
        · exact HFP.out b hb
        · have := HF4.out b hb; omega
      have HO6 := (show Hid (OwnR kFrame 0 36 5 (w3.setCell ⟨w.heap.size + 1 + 1, 0, none⟩ (.slice (some ⟨g5, 0, none⟩) (k + 1) cap5)) (.slice (some ⟨g5, 0, none⟩) (k + 1) cap5) (qs ++ [(⟨pg, .slice a4 n4 c4, fb, pn, dt, rl, rf⟩ : EFrame)])) from
        hsnoc.kept (Kept.setCell (Kept.refl (fun b => b = w.heap.size + 1 + 1) w3) (p := ⟨w.heap.size + 1 + 1, 0, none⟩) (.inr rfl) _) (fun b hb e => by have := HN.out b hb; omega))
      have HX7 := (show Hid (Blk (w3.setCell ⟨w.heap.size + 1 + 1, 0, none⟩ (.slice (some ⟨g5, 0, none⟩) (k + 1) cap5)) (w.heap.size + 1 + 1) 25 [.slice (some ⟨g5, 0, none⟩) (k + 1) cap5, .int .i64 hand]) from HX6.out.stored 0 _)
      have hzb : wb.heap.size ≤ wr.heap.size := HKr.out.size
      have hk3 : Kept (fun b => b = w.heap.size + 1 + 1) wb w3 :=
        (((HKr.out.next HK4.out (fun i _ h => h.elim)).next HK24.out (fun i hi e => by omega)).alloc _).grown HG5.out (fun i e => .inl (by have := HFP.out i (.inl e); omega))
      have HK7 := (show Hid (Kept (fun b => b = w.heap.size + 1 + 1) wb (w3.setCell ⟨w.heap.size + 1 + 1, 0, none⟩ (.slice (some ⟨g5, 0, none⟩) (k + 1) cap5))) from Kept.setCell hk3 (p := ⟨w.heap.size + 1 + 1, 0, none⟩) (.inr rfl) _)
      clear hsnoc hk3
      go_roundw
      case rel =>
        refine ⟨k + 1, some ⟨g5, 0, none⟩, k + 1, cap5, qs ++ [(⟨pg, .slice a4 n4 c4, fb, pn, dt, rl, rf⟩ : EFrame)], by omega, by go_num, ?_, ?_, HX7, HN, HO6, HK7⟩
        · have := HQL.out; simp [Hid, this]
        · have h1 := HQ.out
          unfold Hid
          rw [List.take_succ_eq_append_getElem hlp, HPE.out]
          simp only [datFrameS, List.map_append] at h1 ⊢
          rw [h1]; rfl
      case measure => simp [intOf]; omega
    · obtain rfl : len = k := by omega
      obtain ⟨x0, x1⟩ := HX.out.all2
      have HBz := (show Hid (Blk wr (w.heap.size + 1) 25 [.slice none 0 0, .int .i64 0]) from HB1.out.kept HKr.out (by intro e; omega))
      obtain ⟨z0, z1⟩ := HBz.out.all2
      have fz := HBz.out.frozen
      have lz := HBz.out.lt
      have hxl : w.heap.size + 1 + 1 < wr.heap.size := HX.out.lt
      go_wp2
      have hq := HQ.out
      rw [← HL.out, List.take_length] at hq
      refine bodyPost_ret (v := .agg #[.slice aa na ca, .int .i64 hand]) (by simp [results, Try.results71, go_sem, z0, z1]) rfl ⟨aa, na, ca, qs, rfl, hq, fun b hb => by have := HFP.out b hb; omega, ?_, ?_⟩
      · refine HOP.out.kept (R := fun b => b = w.heap.size + 1) ?_ (fun b hb e => by have := HFP.out b hb; omega)
        (iterate 2 refine Kept.setCell (R := fun b => b = w.heap.size + 1) ?_ (.inr rfl) _)
        exact Kept.refl _ _
      · (iterate 2 refine Kept.setCell ?_ (.inl (Nat.le_succ _)) _)
        exact HKW.out
end Go.Proofs.Ytommabejmpafcaa
