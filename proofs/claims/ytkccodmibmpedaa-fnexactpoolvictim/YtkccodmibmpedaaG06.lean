import Derived.Test.YtkccodmibmpedaaG05
import Derived.Test.YtkccodmibmpedaaPoolSpec
import Derived.Test.YtkccodmibmpedaaG01
import Derived.Test.YtkccodmibmpedaaG03
import Derived.Laws.AppendOwnNone
import Derived.Deep.AppendLies
namespace Go.Proofs.Ytkccodmibmpedaa
set_option maxRecDepth 100000
set_option maxHeartbeats 8000000
open Go.RowKit
set_option linter.unusedVariables false
set_option linter.unusedSimpArgs false
section
variable {w w' : World} {P : Nat} {hand : Int} {g n cap : Nat} {bl : List Nat} {ps : List EFrame}
theorem FP.kept {R : Nat → Prop} (h : FP w P hand g n cap bl ps) (hk : Kept R w w') (hr : ∀ b, footFP P g bl ps b → ¬ R b) : FP w' P hand g n cap bl ps :=
  ⟨h.top.kept hk (hr P (.inl rfl)), h.len, hk.owns h.row (fun b hb => hr b (.inr (.inl (by simpa [Value.ownBlock] using hb.symm)))), h.ptr.kept hk (fun b hb => hr b (.inr (.inr hb))), h.pg, h.outP, h.outg⟩
theorem FP.same (h : FP w P hand g n cap bl ps) (hk : Same w w') : FP w' P hand g n cap bl ps := h.kept hk (fun _ _ => id)
theorem FP.lt (h : FP w P hand g n cap bl ps) (b : Nat) (hb : footFP P g bl ps b) : b < w.heap.size := by
  rcases hb with rfl | rfl | hb
  · exact h.top.lt
  · exact (World.ownsRow.lt h.row _ rfl).2
  · exact h.ptr.lt b hb
theorem FP.at (h : FP w P hand g n cap bl ps) (k : Nat) (hk : k < n) : ∃ b p, bl[k]? = some b ∧ ps[k]? = some p ∧ w.cell? ⟨g, k, none⟩ = some (.pointer (some ⟨b, 0, none⟩)) ∧ Blk w b 46 (kFrame.cells p) := by
  have hlb : k < bl.length := by rw [h.ptr.len, ← h.len]; exact hk
  have hlp : k < ps.length := by rw [← h.len]; exact hk
  refine ⟨bl[k], ps[k], List.getElem?_eq_getElem hlb, List.getElem?_eq_getElem hlp, ?_, h.ptr.blk k _ _ (List.getElem?_eq_getElem hlb) (List.getElem?_eq_getElem hlp)⟩
  have hc := World.ownsRow.cellAt h.row k (by omega)
  rw [hc, List.getElem?_map, List.getElem?_eq_getElem hlb]
  rfl
end
def zF : EFrame := ⟨0, .slice none 0 0, [], 0, false, 0, false⟩
theorem made_frames {w : World} {v : Value} {n : Nat} (h : w.ownsRow 0 46 6 v n ((madeCells (Value.agg #[.int .i64 0, .slice none 0 0, .int .i64 0, .bool false, .int .i64 0, .bool false]).cells (n * 6)).toList.take (n * 6))) : OwnR kFrame 0 46 5 w v (List.replicate n zF) := by
  rw [List.take_of_length_le (by simp [madeCells])] at h
  exact ownR_made (K := kFrame) (zp := zF) (by decide) rfl rfl rfl h
theorem pool_any (P : Nat) (hand : Int) (g n cap : Nat) (bl : List Nat) (qs : List EFrame) (w : World) (h : FP w P hand g n cap bl qs) (hn : n ≤ 16) :
    Calls Try.prog 139 #[.pointer (some ⟨P, 0, none⟩)] w fun e w' => ∃ a m c, e = .returned (.agg #[.slice a m c, .int .i64 hand]) ∧ OwnR kFrame 0 46 5 w' (.slice a m c) qs ∧ (∀ b, footR kFrame (.slice a m c) qs b → w.heap.size ≤ b ∨ footS kFrame bl qs b) ∧ Same w w' := by
  obtain ⟨i0, hi, hz0, hz1, hz2⟩ := info_parts Try.infoRFrame
  have HF := (show Hid (FP w P hand g n cap bl qs) from h)
  have hPl := h.top.lt
  clear h
  have HB0 := (show Hid (Blk (w.alloc (.cells #[.slice none 0 0, .int .i64 0] 28)) w.heap.size 28 [.slice none 0 0, .int .i64 0]) from Blk.newL w [.slice none 0 0, .int .i64 0] 28)
  have HK0 := (show Hid (Same w (w.alloc (.cells #[.slice none 0 0, .int .i64 0] 28))) from (Kept.refl _ _).alloc _)
  go_enter Try.func139, Try.ntmps139
  go_wp2_with fail
  go_cut [3] (fun v wc => ∃ (G h : Nat), v = .pointer (some ⟨G, 0, none⟩) ∧ Hid (Blk wc G 28 [.slice (some ⟨h, 0, none⟩) n n, .int .i64 hand]) ∧ w.heap.size < G ∧ G ≠ h ∧ w.heap.size < h ∧ Hid (OwnR kFrame 0 46 5 wc (.slice (some ⟨h, 0, none⟩) n n) (List.replicate n zF)) ∧
      Hid (Blk wc w.heap.size 28 [.slice none 0 0, .int .i64 0]) ∧ Hid (Same w wc))
  case first =>
    have htop := (HF.out.same HK0.out).top
    have hS : (fun wx : World => wx.cell? ⟨P, 0, none⟩ = some (.slice (some ⟨g, 0, none⟩) n cap) ∧ wx.cell? ⟨P, 1, none⟩ = some (.int .i64 hand)) (w.alloc (.cells #[.slice none 0 0, .int .i64 0] 28)).drew := ⟨htop.cell 0, htop.cell 1⟩
    refine wp_region_V (fun wx : World => wx.cell? ⟨P, 0, none⟩ = some (.slice (some ⟨g, 0, none⟩) n cap) ∧ wx.cell? ⟨P, 1, none⟩ = some (.int .i64 hand)) 14 15 rfl (by kernel_rfl) ?_
    refine tk 0 6 hS ?_
    refine tk 1 7 hS ?_
    refine tk 2 8 hS ?_
    refine tk 3 9 hS ?_
    refine tk 4 10 hS ?_
    refine tk 5 11 hS ?_
    refine tk 7 13 hS ?_
    refine tk 8 14 hS ?_
    refine tk 9 15 hS ?_
    refine tk 10 16 hS ?_
    refine tk 11 17 hS ?_
    refine wpAnyV_two (i := 6) (j := 13) (by kernel_rfl) rfl rfl (fun K hK => ?_) (fun K hK => ?_)
    · refine step_mk (by rfl) (.tmp 11) (.tmp 11) 26 (by rfl) 0 46 i0 _ 6 Try.underlying26 hi hz0 hz1 .i64 .i64 _ _ n n (by rfl) (by rfl) (by rfl) (by rfl) (Nat.le_refl _) (by rw [hz2]; omega) (by unfold maxLen; omega) (Nat.zero_le _) ?_
      intro w1 hown1 hgrow1 hlt1
      have hk1 : Same (w.alloc (.cells #[.slice none 0 0, .int .i64 0] 28)) w1 := (Kept.refl (fun _ => False) (w.alloc (.cells #[.slice none 0 0, .int .i64 0] 28))).drew.trans (Kept.of_grown hgrow1 (fun k e => by cases e))
      have HK1 := (show Hid (Same (w.alloc (.cells #[.slice none 0 0, .int .i64 0] 28)) w1) from hk1)
      have HO1 := (show Hid (OwnR kFrame 0 46 5 w1 (.slice (some ⟨w.heap.size + 1, 0, none⟩) n n) (List.replicate n zF)) from (by unfold Hid; have h := made_frames hown1; simpa using h))
      have hz1' : w.heap.size + 1 < w1.heap.size := by simpa using hlt1
      have ht1 := htop.same hk1
      have hS1 : (fun wx : World => wx.cell? ⟨P, 0, none⟩ = some (.slice (some ⟨g, 0, none⟩) n cap) ∧ wx.cell? ⟨P, 1, none⟩ = some (.int .i64 hand)) w1 := ⟨ht1.cell 0, ht1.cell 1⟩
      refine hK.out _ _ (fun _ => hS1) ?_
      clear hK K hown1 hgrow1 hlt1 hk1
      try simp only [Act.put, sA, s0, sS]
      refine tk 12 18 hS1 ?_
      refine wpAnyV_one (i := 13) (by kernel_rfl) rfl (fun K hK => ?_)
      go_simp
      have hS2 : (fun wx : World => wx.cell? ⟨P, 0, none⟩ = some (.slice (some ⟨g, 0, none⟩) n cap) ∧ wx.cell? ⟨P, 1, none⟩ = some (.int .i64 hand)) (w1.alloc (.cells #[.slice none 0 0, .int .i64 0] 28)) := ⟨(ht1.alloc _).cell 0, (ht1.alloc _).cell 1⟩
      refine hK.out _ _ (fun _ => hS2) ?_
      clear hK K
      try simp only [Act.put, sA, s0, sS]
      refine wpAnyV_one (i := 14) (by kernel_rfl) rfl (fun K hK => ?_)
      go_simp
      refine hK.out _ _ (fun h => absurd rfl h) ?_
      clear hK K
      refine wpAnyV_done (by kernel_rfl) ?_
      try simp only [Act.put, sA, s0, sS]
      go_wp2_with fail
      go_meet
      case rel =>
        refine ⟨w1.heap.size, w.heap.size + 1, rfl, Blk.newL _ _ _, by omega, by omega, by omega, HO1.out.same ((Kept.refl _ _).alloc _), (HB0.out.same HK1.out).alloc _, (HK0.out.trans HK1.out).alloc _⟩
    · go_simp
      have hS1 : (fun wx : World => wx.cell? ⟨P, 0, none⟩ = some (.slice (some ⟨g, 0, none⟩) n cap) ∧ wx.cell? ⟨P, 1, none⟩ = some (.int .i64 hand)) ((w.alloc (.cells #[.slice none 0 0, .int .i64 0] 28)).drew.alloc (.cells #[.slice none 0 0, .int .i64 0] 28)) := ⟨(htop.drew.alloc _).cell 0, (htop.drew.alloc _).cell 1⟩
      refine hK.out _ _ (fun _ => hS1) ?_
      clear hK K
      try simp only [Act.put, sA, s0, sS]
      refine wpAnyV_one (i := 6) (by kernel_rfl) rfl (fun K hK => ?_)
      refine step_mk (by rfl) (.tmp 11) (.tmp 11) 26 (by rfl) 0 46 i0 _ 6 Try.underlying26 hi hz0 hz1 .i64 .i64 _ _ n n (by rfl) (by rfl) (by rfl) (by rfl) (Nat.le_refl _) (by rw [hz2]; omega) (by unfold maxLen; omega) (Nat.zero_le _) ?_
      intro w1 hown1 hgrow1 hlt1
      have hk1 : Same ((w.alloc (.cells #[.slice none 0 0, .int .i64 0] 28)).drew.alloc (.cells #[.slice none 0 0, .int .i64 0] 28)) w1 := Kept.of_grown hgrow1 (fun k e => by cases e)
      have HK1 := (show Hid (Same ((w.alloc (.cells #[.slice none 0 0, .int .i64 0] 28)).drew.alloc (.cells #[.slice none 0 0, .int .i64 0] 28)) w1) from hk1)
      have HO1 := (show Hid (OwnR kFrame 0 46 5 w1 (.slice (some ⟨w.heap.size + 1 + 1, 0, none⟩) n n) (List.replicate n zF)) from (by unfold Hid; have h := made_frames hown1; simpa using h))
      have hz1' : w.heap.size + 1 + 1 < w1.heap.size := by simpa using hlt1
      have hbz : Blk ((w.alloc (.cells #[.slice none 0 0, .int .i64 0] 28)).drew.alloc (.cells #[.slice none 0 0, .int .i64 0] 28)) (w.heap.size + 1) 28 [.slice none 0 0, .int .i64 0] := by
        have h := Blk.newL (w.alloc (.cells #[.slice none 0 0, .int .i64 0] 28)).drew [.slice none 0 0, .int .i64 0] 28
        simpa using h
      have ht1 := (htop.drew.alloc (.cells #[.slice none 0 0, .int .i64 0] 28)).same hk1
      have HZ1 := (show Hid (Blk w1 (w.heap.size + 1) 28 [.slice none 0 0, .int .i64 0]) from hbz.same hk1)
      have hS2 : (fun wx : World => wx.cell? ⟨P, 0, none⟩ = some (.slice (some ⟨g, 0, none⟩) n cap) ∧ wx.cell? ⟨P, 1, none⟩ = some (.int .i64 hand)) w1 := ⟨ht1.cell 0, ht1.cell 1⟩
      refine hK.out _ _ (fun _ => hS2) ?_
      clear hK K hown1 hgrow1 hlt1 hk1
      try simp only [Act.put, sA, s0, sS]
      refine tk 12 18 hS2 ?_
      obtain ⟨z0, z1⟩ := HZ1.out.all2
      have fz := HZ1.out.frozen
      refine wpAnyV_one (i := 14) (by kernel_rfl) rfl (fun K hK => ?_)
      go_simp
      refine hK.out _ _ (fun h => absurd rfl h) ?_
      clear hK K
      refine wpAnyV_done (by kernel_rfl) ?_
      try simp only [Act.put, sA, s0, sS]
      go_wp2_with fail
      go_meet
      case rel =>
        have hkw : Same w w1 := (((HK0.out.drew).alloc _).trans HK1.out)
        have hb0 := ((HB0.out.drew).alloc (.cells #[.slice none 0 0, .int .i64 0] 28)).same HK1.out
        have hst : Kept (fun b => b = w.heap.size + 1) w1 ((w1.setCell ⟨w.heap.size + 1, 0, none⟩ (.slice (some ⟨w.heap.size + 1 + 1, 0, none⟩) n n)).setCell ⟨w.heap.size + 1, 1, none⟩ (.int .i64 hand)) := Kept.setCell (R := fun b => b = w.heap.size + 1) (Kept.setCell (R := fun b => b = w.heap.size + 1) (Kept.refl _ _) (p := ⟨w.heap.size + 1, 0, none⟩) (.inr rfl) _) (p := ⟨w.heap.size + 1, 1, none⟩) (.inr rfl) _
        refine ⟨w.heap.size + 1, w.heap.size + 1 + 1, rfl, (HZ1.out.stored 0 _).stored 1 _, by omega, by omega, by omega, HO1.out.kept hst ?_, hb0.kept hst (by intro e; omega), hkw.next hst (fun i hi e => by omega)⟩
        intro b hb e
        rcases hb with hb | ⟨p, hp, hb⟩
        · simp [Value.ownBlock] at hb; omega
        · rw [List.eq_of_mem_replicate hp] at hb
          simp [kFrame, zF, Value.ownBlock] at hb
  obtain ⟨G, h, rfl, HG, hG, hGh, hh, HO, HZ, HK⟩ := hcut
  obtain ⟨x0, x1⟩ := (HF.out.same HK.out).top.all2
  clear HB0 HK0
  go_wp2_with fail
  go_loopw [25] (fun i wr => ∃ (k : Nat), k ≤ n ∧ i = .int .i64 k ∧ Hid (Blk wr G 28 [.slice (some ⟨h, 0, none⟩) n n, .int .i64 hand]) ∧ Hid (OwnR kFrame 0 46 5 wr (.slice (some ⟨h, 0, none⟩) n n) (qs.take k ++ List.replicate (n - k) zF)) ∧
      Hid (Blk wr w.heap.size 28 [.slice none 0 0, .int .i64 0]) ∧ Hid (Same w wr)) (fun i _ => n - (intOf i).toNat)
  case atStart => exact ⟨0, Nat.zero_le _, rfl, HG, by simpa using HO, HZ, HK⟩
  case round =>
    obtain ⟨k, hk, rfl, HGr, HOr, HZr, HKr⟩ := hrel
    have HFr := (show Hid (FP wr P hand g n cap bl qs) from HF.out.same HKr.out)
    clear x0 x1
    by_cases hlt : k < n
    · obtain ⟨bk, p, hbk, hpk, hck, hb⟩ := HFr.out.at k hlt
      have HBK : Hid (bl[k]? = some bk) := hbk
      have HPK : Hid (qs[k]? = some p) := hpk
      have hdat : Own 0 5 .u8 wr p.v p.bs := HFr.out.ptr.data p (List.mem_of_getElem? hpk)
      have HDP := hid hdat
      have hbl : bk < w.heap.size := HF.out.ptr.lt bk (.inl (List.mem_of_getElem? hbk))
      have hlq : k < qs.length := (List.getElem?_eq_some_iff.1 hpk).1
      have hlen := HF.out.len
      have HNE : Hid (∀ b, p.v.ownBlock = some b → ¬ footR kFrame (.slice (some ⟨h, 0, none⟩) n n) (qs.take k ++ zF :: List.replicate (n - (k + 1)) zF) b) := fun b hb hf => by
        have hbw : b < w.heap.size := HF.out.ptr.lt b (.inr ⟨p, List.mem_of_getElem? HPK.out, hb⟩)
        rcases hf with hf | ⟨q, hq, hf⟩
        · simp [Value.ownBlock] at hf; omega
        · rcases List.mem_append.1 hq with hq | hq
          · obtain ⟨j, hj⟩ := List.getElem?_of_mem hq
            have hjl : j < k := by have := (List.getElem?_eq_some_iff.1 hj).1; rw [List.length_take] at this; omega
            rw [List.getElem?_take_of_lt hjl] at hj
            have := HF.out.ptr.each j k q p b hj HPK.out hf hb
            omega
          · have hz : q = zF := by
              rcases List.mem_cons.1 hq with rfl | hq
              · rfl
              · exact List.eq_of_mem_replicate hq
            rw [hz] at hf
            simp [kFrame, zF, Value.ownBlock] at hf
      have HE : Hid (qs.take k ++ List.replicate (n - k) zF = qs.take k ++ zF :: List.replicate (n - (k + 1)) zF) := by
        unfold Hid
        rw [show n - k = (n - (k + 1)) + 1 from by omega, List.replicate_succ]
      have HT : Hid (qs.take (k + 1) = qs.take k ++ [p]) := by
        unfold Hid
        rw [List.take_succ_eq_append_getElem hlq]
        have := List.getElem?_eq_some_iff.1 HPK.out
        rw [this.2]
      have HTL : Hid ((qs.take k).length = k) := by simp [Hid]; omega
      clear hlen hlq hbk hpk
      obtain ⟨pg, pv, fb, pn, dt, rl, rf⟩ := p
      obtain ⟨a1, n1, c1, e1⟩ := slice_of_own hdat
      dsimp only at e1
      subst e1
      clear hdat
      have HBL := (show Hid (Blk wr bk 46 [.int .i64 pg, .slice a1 n1 c1, .int .i64 pn, .bool dt, .int .i64 rl, .bool rf]) from hb)
      clear hb
      have hki : (k : Int) < (n : Int) := by omega
      go_wp2_with fail
      obtain ⟨y0, y1⟩ := HGr.out.all2
      obtain ⟨c0, c1', c2, c3, c4, c5⟩ := HBL.out.all6
      have ho := HOr.out
      rw [HE.out] at ho
      have fh := ho.frozen (by simp [HTL.out]; omega)
      have hcells : ∀ i, i < 6 → wr.cell? ⟨h, k * 6 + i, none⟩ = (kFrame.cells zF)[i]? := fun i hi => ho.cellMid (by simp [HTL.out]; omega) i hi _ (by rw [HTL.out]; rfl)
      have u0 : wr.cell? ⟨h, k * 6, none⟩ = some (.int .i64 0) := hcells 0 (by decide)
      have u1 : wr.cell? ⟨h, k * 6 + 1, none⟩ = some (.slice none 0 0) := hcells 1 (by decide)
      have u2 : wr.cell? ⟨h, k * 6 + 2, none⟩ = some (.int .i64 0) := hcells 2 (by decide)
      have u3 : wr.cell? ⟨h, k * 6 + 3, none⟩ = some (.bool false) := hcells 3 (by decide)
      have u4 : wr.cell? ⟨h, k * 6 + 4, none⟩ = some (.int .i64 0) := hcells 4 (by decide)
      have u5 : wr.cell? ⟨h, k * 6 + 5, none⟩ = some (.bool false) := hcells 5 (by decide)
      have HO2 := hid ho
      clear ho hcells
      have hS : (fun wx : World => wx.cell? ⟨G, 0, none⟩ = some (.slice (some ⟨h, 0, none⟩) n n) ∧ wx.cell? ⟨bk, 0, none⟩ = some (.int .i64 pg) ∧ wx.cell? ⟨bk, 1, none⟩ = some (.slice a1 n1 c1) ∧ wx.cell? ⟨bk, 2, none⟩ = some (.int .i64 pn) ∧ wx.cell? ⟨bk, 3, none⟩ = some (.bool dt) ∧ wx.cell? ⟨bk, 4, none⟩ = some (.int .i64 rl) ∧ wx.cell? ⟨bk, 5, none⟩ = some (.bool rf)) wr.drew := ⟨y0, c0, c1', c2, c3, c4, c5⟩
      refine wp_region_V (fun wx : World => wx.cell? ⟨G, 0, none⟩ = some (.slice (some ⟨h, 0, none⟩) n n) ∧ wx.cell? ⟨bk, 0, none⟩ = some (.int .i64 pg) ∧ wx.cell? ⟨bk, 1, none⟩ = some (.slice a1 n1 c1) ∧ wx.cell? ⟨bk, 2, none⟩ = some (.int .i64 pn) ∧ wx.cell? ⟨bk, 3, none⟩ = some (.bool dt) ∧ wx.cell? ⟨bk, 4, none⟩ = some (.int .i64 rl) ∧ wx.cell? ⟨bk, 5, none⟩ = some (.bool rf)) 7 8 rfl (by kernel_rfl) ?_
      refine tk 0 30 hS ?_
      refine tk 1 31 hS ?_
      refine tk 2 32 hS ?_
      refine tk 3 33 hS ?_
      refine tk 4 34 hS ?_
      refine tk 5 35 hS ?_
      refine wpAnyV_one (i := 6) (by kernel_rfl) rfl (fun K hK => ?_)
      go_simp
      refine hK.out _ _ (fun _ => hS) ?_
      clear hK K
      try simp only [Act.put, sA, s0, sS]
      refine wpAnyV_one (i := 7) (by kernel_rfl) rfl (fun K hK => ?_)
      go_simp
      refine hK.out _ _ (fun h => absurd rfl h) ?_
      clear hK K
      refine wpAnyV_done (by kernel_rfl) ?_
      try simp only [Act.put, sA, s0, sS]
      have HEL := (show Hid (OwnR kFrame 0 46 5 (wr.setCells h (k * 6) [.int .i64 pg, .slice a1 n1 c1, .int .i64 pn, .bool dt, .int .i64 rl, .bool rf]) (.slice (some ⟨h, 0, none⟩) n n) (qs.take k ++ (⟨pg, .slice a1 n1 c1, fb, pn, dt, rl, rf⟩ : EFrame) :: List.replicate (n - (k + 1)) zF)) from
        OwnR.setElem (p' := (⟨pg, .slice a1 n1 c1, fb, pn, dt, rl, rf⟩ : EFrame)) HO2.out (by simp [HTL.out]; omega) (k * 6) (by rw [HTL.out]; rfl) HDP.out HNE.out)
      have HST := (show Hid (Kept (fun b => b = h) wr (wr.setCells h (k * 6) [.int .i64 pg, .slice a1 n1 c1, .int .i64 pn, .bool dt, .int .i64 rl, .bool rf])) from Kept.setCells (R := fun b => b = h) (.inr rfl) _ _ (Kept.refl _ _))
      clear u0 u1 u2 u3 u4 u5 c0 c1' c2 c3 c4 c5 y0 y1 hS fh hck
      go_wp2_with fail
      go_roundw
      case rel =>
        refine ⟨k + 1, by omega, by go_num, (HGr.out.kept HST.out hGh).drew, ?_, (HZr.out.kept HST.out (by intro e; omega)).drew, (HKr.out.next HST.out (fun i hi e => by omega)).drew⟩
        have h1 := HEL.out.same (Kept.refl (fun _ => False) _).drew
        rw [show qs.take k ++ (⟨pg, .slice a1 n1 c1, fb, pn, dt, rl, rf⟩ : EFrame) :: List.replicate (n - (k + 1)) zF = qs.take (k + 1) ++ List.replicate (n - (k + 1)) zF from by rw [HT.out]; simp] at h1
        exact h1
      case measure => simp [intOf]; omega
    · obtain rfl : n = k := by omega
      obtain ⟨y0, y1⟩ := HGr.out.all2
      obtain ⟨z0, z1⟩ := HZr.out.all2
      have fz := HZr.out.frozen
      have lz := HZr.out.lt
      go_wp2
      have ho := HOr.out
      rw [Nat.sub_self, List.replicate_zero, List.append_nil, List.take_of_length_le (by rw [← HF.out.len]; exact Nat.le_refl _)] at ho
      have hst : Kept (fun b => b = w.heap.size) wr ((wr.setCell ⟨w.heap.size, 0, none⟩ (.slice (some ⟨h, 0, none⟩) n n)).setCell ⟨w.heap.size, 1, none⟩ (.int .i64 hand)) := Kept.setCell (R := fun b => b = w.heap.size) (Kept.setCell (R := fun b => b = w.heap.size) (Kept.refl _ _) (p := ⟨w.heap.size, 0, none⟩) (.inr rfl) _) (p := ⟨w.heap.size, 1, none⟩) (.inr rfl) _
      refine bodyPost_ret (v := .agg #[.slice (some ⟨h, 0, none⟩) n n, .int .i64 hand]) (by simp [results, Try.results139, go_sem, z0, z1]) rfl ⟨_, _, _, rfl, ho.kept hst ?_, ?_, HKr.out.next hst (fun i hi e => by omega)⟩
      · intro b hb e
        rcases hb with hb | hb
        · simp [Value.ownBlock] at hb; omega
        · have := HF.out.ptr.lt b (.inr hb)
          omega
      · intro b hb
        rcases hb with hb | hb
        · simp [Value.ownBlock] at hb; exact .inl (by omega)
        · exact .inr (.inr hb)
end Go.Proofs.Ytkccodmibmpedaa

namespace Go.Proofs.Ytkccodmibmpedaa
set_option maxRecDepth 100000
set_option maxHeartbeats 4000000
open Go.RowKit
set_option linter.unusedVariables false
set_option linter.unusedSimpArgs false
def findFrom (page : Int) : Nat → List EFrame → Int
  | _, [] => -1
  | k, p :: ps => if p.page = page then (k : Int) else findFrom page (k + 1) ps
theorem findFrom_at {page : Int} {ps : List EFrame} {k : Nat} (hk : k < ps.length) :
    findFrom page k (ps.drop k) = if ps[k].page = page then (k : Int) else findFrom page (k + 1) (ps.drop (k + 1)) := by
  rw [List.drop_eq_getElem_cons hk]
  rfl
theorem findFrom_end {page : Int} {ps : List EFrame} : findFrom page ps.length (ps.drop ps.length) = -1 := by
  rw [List.drop_length]
  rfl
theorem poolF_len {ps : List EFrame} {hand : Int} (h : poolF ps hand = 0) : 1 ≤ ps.length ∧ ps.length ≤ 16 ∧ 0 ≤ hand ∧ hand < (ps.length : Int) := by
  unfold poolF at h
  by_cases h1 : ps.length < 1 ∨ 16 < ps.length
  · rw [if_pos h1] at h; cases h
  rw [if_neg h1] at h
  by_cases h2 : hand < 0 ∨ (ps.length : Int) ≤ hand
  · rw [if_pos h2] at h; cases h
  omega
end Go.Proofs.Ytkccodmibmpedaa

namespace Go.Proofs.Ytkccodmibmpedaa
set_option maxRecDepth 100000
open Go.RowKit
set_option linter.unusedVariables false
set_option linter.unusedSimpArgs false
theorem any_dat {ps qs : List EFrame} (h : datFrameS qs = datFrameS ps) (f : EFrame → Bool) (hf : ∀ p q : EFrame, p.dat = q.dat → f p = f q) : qs.any f = ps.any f := by
  induction qs generalizing ps with
  | nil =>
    cases ps with
    | nil => rfl
    | cons p ps => simp [datFrameS] at h
  | cons q qs ih =>
    cases ps with
    | nil => simp [datFrameS] at h
    | cons p ps =>
      simp only [datFrameS, List.map_cons, List.cons.injEq] at h
      rw [List.any_cons, List.any_cons, hf q p h.1, ih h.2]
theorem dat_take {ps qs : List EFrame} (h : datFrameS qs = datFrameS ps) (k : Nat) : datFrameS (qs.take k) = datFrameS (ps.take k) := by
  unfold datFrameS at h ⊢
  rw [List.map_take, List.map_take, h]
theorem EFrame.dat_eq {p q : EFrame} (h : p.dat = q.dat) : p.page = q.page ∧ p.bs = q.bs ∧ p.pins = q.pins ∧ p.dirty = q.dirty ∧ p.rl = q.rl ∧ p.rf = q.rf := by
  simp only [EFrame.dat, Prod.mk.injEq] at h
  exact h
theorem dat_len {ps qs : List EFrame} (h : datFrameS qs = datFrameS ps) : qs.length = ps.length := by rw [← datFrameS_length, h, datFrameS_length]
theorem dupAt_dat {ps qs : List EFrame} (h : datFrameS qs = datFrameS ps) (i : Nat) : dupAt qs i = dupAt ps i := by
  have hl := dat_len h
  unfold dupAt
  by_cases hi : i < ps.length
  · have hi' : i < qs.length := by omega
    rw [List.getElem?_eq_getElem hi, List.getElem?_eq_getElem hi']
    dsimp only
    rw [(EFrame.dat_eq (datFrameS_at h i hi' hi)).1]
    rw [any_dat (dat_take h i) (fun q => ps[i].page == q.page) (fun p q e => by rw [(EFrame.dat_eq e).1])]
  · rw [List.getElem?_eq_none (by omega), List.getElem?_eq_none (by omega)]
theorem poolF_dat {ps qs : List EFrame} {hand : Int} (h : datFrameS qs = datFrameS ps) : poolF qs hand = poolF ps hand := by
  have hl := dat_len h
  unfold poolF
  rw [hl]
  rw [any_dat h bad3 (fun p q e => by obtain ⟨e1, e2, e3, e4, e5, e6⟩ := EFrame.dat_eq e; unfold bad3; rw [e1, e2, e3, e4, e5, e6])]
  rw [any_dat h bad4 (fun p q e => by obtain ⟨e1, e2, e3, e4, e5, e6⟩ := EFrame.dat_eq e; unfold bad4; rw [e4, e5])]
  have hd : dup qs = dup ps := by
    unfold dup
    rw [hl]
    congr 1
    funext i
    exact dupAt_dat h i
  rw [hd]
theorem findFrom_dat {page : Int} {ps qs : List EFrame} (h : datFrameS qs = datFrameS ps) (k : Nat) : findFrom page k qs = findFrom page k ps := by
  induction qs generalizing ps k with
  | nil =>
    cases ps with
    | nil => rfl
    | cons p ps => simp [datFrameS] at h
  | cons q qs ih =>
    cases ps with
    | nil => simp [datFrameS] at h
    | cons p ps =>
      simp only [datFrameS, List.map_cons, List.cons.injEq] at h
      simp only [findFrom]
      rw [(EFrame.dat_eq h.1).1, ih h.2]
end Go.Proofs.Ytkccodmibmpedaa

namespace Go.Proofs.Ytkccodmibmpedaa
set_option maxRecDepth 100000
set_option maxHeartbeats 4000000
open Go.RowKit
set_option linter.unusedVariables false
set_option linter.unusedSimpArgs false
theorem idx_find (page : Int) (ps : List EFrame) (k : Nat) : idxFrom (fun p => p.page == page) k ps = findFrom page k ps := by
  induction ps generalizing k with
  | nil => rfl
  | cons p ps ih =>
    by_cases h : p.page = page
    · rw [show idxFrom (fun p => p.page == page) k (p :: ps) = k from if_pos (by simpa using h), show findFrom page k (p :: ps) = k from if_pos h]
    · rw [show idxFrom (fun p => p.page == page) k (p :: ps) = idxFrom (fun p => p.page == page) (k + 1) ps from if_neg (by simpa using h), show findFrom page k (p :: ps) = findFrom page (k + 1) ps from if_neg h]
      exact ih (k + 1)
end Go.Proofs.Ytkccodmibmpedaa

namespace Go.Proofs.Ytkccodmibmpedaa
set_option maxRecDepth 100000
set_option maxHeartbeats 4000000
open Go.RowKit
set_option linter.unusedVariables false
set_option linter.unusedSimpArgs false
def AsksP (fid : FuncId) (x : Value) (f : EFrame → Bool) (w : World) (bl : List Nat) (ps : List EFrame) : Prop :=
  ∀ (k b : Nat) (p : EFrame) (wx : World), bl[k]? = some b → ps[k]? = some p → Same w wx → Calls Try.prog fid #[.pointer (some ⟨b, 0, none⟩), x] wx fun e w' => e = .returned (.bool (f p)) ∧ Same wx w'
theorem indexP_any (fid : FuncId) (x : Value) (f : EFrame → Bool) (P : Nat) (hand : Int) (g n cap : Nat) (bl : List Nat) (ps : List EFrame) (w : World) (h : FP w P hand g n cap bl ps) (hn : n ≤ 16) (hent : Enters fid) (hf : AsksP fid x f w bl ps) :
    Calls Try.prog 163 #[.slice (some ⟨g, 0, none⟩) n cap, .func (.func fid) #[] #[x]] w fun e w' => e = .returned (.int .i64 (idxFrom f 0 ps)) ∧ Same w w' := by
  have HF := (show Hid (FP w P hand g n cap bl ps) from h)
  have HA0 := (show Hid (AsksP fid x f w bl ps) from hf)
  obtain ⟨R, hR⟩ : ∃ R, idxFrom f 0 ps = R := ⟨_, rfl⟩
  have HR : Hid (idxFrom f 0 (ps.drop 0) = R) := by rw [List.drop_zero]; exact hR
  rw [hR]
  clear h hf hR
  have hent' : ∀ (args : Array Value) (wx : World), (callFunc fid args).run Try.prog wx = .ok (.enter fid args) wx := hent
  clear hent
  go_enter Try.func163, Try.ntmps163
  go_wp2
  go_loopw [8] (fun i wr => ∃ k : Nat, k ≤ n ∧ i = .int .i64 k ∧ Hid (idxFrom f k (ps.drop k) = R) ∧ Hid (Same w wr)) (fun i _ => n - (intOf i).toNat)
  case atStart => exact ⟨0, Nat.zero_le _, rfl, HR, Kept.refl _ _⟩
  case round =>
    obtain ⟨k, hk, rfl, HA, HK⟩ := hrel
    by_cases hlt : k < n
    · obtain ⟨bk, p, hbk, hpk, hck, hb⟩ := (HF.out.same HK.out).at k hlt
      have hlp : k < ps.length := (List.getElem?_eq_some_iff.1 hpk).1
      have kf := HA0.out k bk p wr hbk hpk HK.out
      have HA2 : Hid ((if f p = true then (k : Int) else idxFrom f (k + 1) (ps.drop (k + 1))) = R) := by
        have h := HA.out
        rw [idxFrom_at hlp, (List.getElem?_eq_some_iff.1 hpk).2] at h
        exact h
      clear hb hbk hpk hlp
      have hki : (k : Int) < (n : Int) := by omega
      cases hb : f p with
      | true =>
        have HE : Hid ((k : Int) = R) := by have h := HA2.out; rw [if_pos hb] at h; exact h
        rw [hb] at kf
        clear HA2 HA hb
        go_wp2_with fail
        refine kf.mono ?_
        rintro e w1 ⟨rfl, hk1⟩
        have HK1 := (show Hid (Same w w1) from HK.out.trans hk1)
        clear kf hk1 hck
        go_wp2
        go_ret
        exact ⟨by rw [← HE.out]; rfl, HK1.out⟩
      | false =>
        have HE : Hid (idxFrom f (k + 1) (ps.drop (k + 1)) = R) := by have h := HA2.out; rw [if_neg (by simp [hb])] at h; exact h
        rw [hb] at kf
        clear HA2 HA hb
        go_wp2_with fail
        refine kf.mono ?_
        rintro e w1 ⟨rfl, hk1⟩
        have HK1 := (show Hid (Same w w1) from HK.out.trans hk1)
        clear kf hk1 hck
        go_wp2
        go_roundw
        case rel => exact ⟨k + 1, by omega, by go_num, HE, HK1⟩
        case measure => simp [intOf]; omega
    · obtain rfl : n = k := by omega
      have he : (-1 : Int) = R := by have h := HA.out; rw [HF.out.len, idxFrom_end] at h; exact h
      go_wp2
      go_ret
      exact ⟨by rw [← he]; rfl, HK.out⟩
theorem first1_any (page : Int) (C b : Nat) (p : EFrame) (w : World) (hb : Blk w b 46 (kFrame.cells p)) (hc : Blk w C 2 [.int .i64 page]) :
    Calls Try.prog 164 #[.pointer (some ⟨b, 0, none⟩), .pointer (some ⟨C, 0, none⟩)] w fun e w' => e = .returned (.bool (p.page == page)) ∧ Same w w' := by
  have c0 : w.cell? ⟨b, 0, none⟩ = some (.int .i64 p.page) := hb.cell 0
  have c1 : w.cell? ⟨C, 0, none⟩ = some (.int .i64 page) := hc.cell 0
  clear hb hc
  go_enter Try.func164, Try.ntmps164
  go_wp2_with fail
  have hS : (fun wx : World => wx.cell? ⟨b, 0, none⟩ = some (.int .i64 p.page) ∧ wx.cell? ⟨C, 0, none⟩ = some (.int .i64 page)) w.drew := ⟨c0, c1⟩
  refine wp_region_V (fun wx : World => wx.cell? ⟨b, 0, none⟩ = some (.int .i64 p.page) ∧ wx.cell? ⟨C, 0, none⟩ = some (.int .i64 page)) 6 7 rfl (by kernel_rfl) ?_
  refine tk 0 4 hS ?_
  refine tk 1 5 hS ?_
  refine tk 2 6 hS ?_
  refine tk 3 7 hS ?_
  refine tk 4 8 hS ?_
  refine tk 5 9 hS ?_
  refine wpAnyV_one (i := 6) (by kernel_rfl) rfl (fun K hK => ?_)
  go_simp
  refine hK.out _ _ (fun h => absurd rfl h) ?_
  clear hK K
  refine wpAnyV_done (by kernel_rfl) ?_
  try simp only [Act.put, sA, s0, sS]
  go_wp2
  go_ret
  exact ⟨rfl, (Kept.refl _ _).drew⟩
theorem enters_p1 : Enters 164 := fun args wx => by simp [callFunc, go_sem, Try.func164, Try.f164]
theorem first_any (page : Int) (P : Nat) (hand : Int) (g n cap : Nat) (bl : List Nat) (ps : List EFrame) (w : World) (h : FP w P hand g n cap bl ps) (hn : n ≤ 16) :
    Calls Try.prog 140 #[.pointer (some ⟨P, 0, none⟩), .int .i64 page] w fun e w' => e = .returned (.int .i64 (findFrom page 0 ps)) ∧ Same w w' := by
  have hk0 : Same w (w.alloc (.cells #[.int .i64 page] 2)) := (Kept.refl _ _).alloc _
  have hbC : Blk (w.alloc (.cells #[.int .i64 page] 2)) w.heap.size 2 [.int .i64 page] := Blk.newL w [.int .i64 page] 2
  have k0 := indexP_any 164 (.pointer (some ⟨w.heap.size, 0, none⟩)) (fun p => p.page == page) P hand g n cap bl ps _ (h.same hk0) hn enters_p1 (fun k b p wx hb hp hk => first1_any page w.heap.size b p wx ((h.ptr.blk k b p hb hp).same (hk0.trans hk)) (hbC.same hk))
  rw [idx_find] at k0
  obtain ⟨x0, x1⟩ := h.top.all2
  have hPl := h.top.lt
  have hmf : ∀ (fn : Fn) (first cap : Array Value) (w : World), (Instr.makeFunc fn first cap).run Try.prog w = .ok (.func fn first cap) w := fun _ _ _ _ => rfl
  have HK0 := hid hk0
  clear h hbC hk0
  generalize findFrom page 0 ps = R at k0 ⊢
  go_enter Try.func140, Try.ntmps140
  go_wp2_with fail
  refine k0.mono ?_
  rintro e w1 ⟨rfl, hk1⟩
  go_wp2
  go_ret
  exact ⟨rfl, HK0.out.trans hk1⟩
end Go.Proofs.Ytkccodmibmpedaa

namespace Go.Proofs.Ytkccodmibmpedaa
set_option maxRecDepth 100000
set_option maxHeartbeats 4000000
open Go.RowKit
set_option linter.unusedVariables false
set_option linter.unusedSimpArgs false
section
variable {w : World} {P : Nat} {hand : Int} {g n cap : Nat} {bl : List Nat} {ps : List EFrame}
theorem FP.storeOwn {k b i : Nat} {p p' : EFrame} {u : Value} (h : FP w P hand g n cap bl ps) (hb : bl[k]? = some b) (hp : ps[k]? = some p) (hc : kFrame.cells p' = (kFrame.cells p).set i u) (hv : p'.v = p.v) (hs : p'.bs = p.bs) :
    FP (w.setCell ⟨b, i, none⟩ u) P hand g n cap bl (ps.set k p') := by
  have hbm : b ∈ bl := List.mem_of_getElem? hb
  have hk : Kept (fun x => x = b) w (w.setCell ⟨b, i, none⟩ u) := Kept.setCell (R := fun x => x = b) (Kept.refl _ _) (p := ⟨b, i, none⟩) (.inr rfl) _
  refine ⟨h.top.kept hk (fun e => h.outP (.inl (e ▸ hbm))), by rw [List.length_set]; exact h.len, hk.owns h.row (fun x hx e => h.outg (.inl (by simp [Value.ownBlock] at hx; rw [hx, e]; exact hbm))), h.ptr.storeOwn hb hp hc hv hs, h.pg, fun hf => h.outP (footS_set hp hv _ hf), fun hf => h.outg (footS_set hp hv _ hf)⟩
end
theorem dat_set (ps : List EFrame) (k : Nat) (p : EFrame) : datFrameS (ps.set k p) = (datFrameS ps).set k p.dat := by unfold datFrameS; rw [List.map_set]
theorem dat_at {ps : List EFrame} {k : Nat} {p : EFrame} (h : ps[k]? = some p) : (datFrameS ps)[k]? = some p.dat := by unfold datFrameS; rw [List.getElem?_map, h]; rfl
end Go.Proofs.Ytkccodmibmpedaa

namespace Go.Proofs.Ytkccodmibmpedaa
open Go.RowKit
set_option linter.unusedVariables false
set_option linter.unusedSimpArgs false
abbrev FD := Int × List Int × Int × Bool × Int × Bool
def unref (d : FD) : FD := (d.1, d.2.1, d.2.2.1, d.2.2.2.1, d.2.2.2.2.1, false)
def clk : Nat → List FD → Nat → Option (Nat × Nat × List FD)
  | 0, _, _ => none
  | f + 1, fs, h => match fs[h]? with
    | none => none
    | some d => if 0 < d.2.2.1 then clk f fs ((h + 1) % fs.length) else if d.2.2.2.2.2 = false then some (h, (h + 1) % fs.length, fs) else clk f (fs.set h (unref d)) ((h + 1) % fs.length)
section
variable {f h : Nat} {fs : List FD} {d : FD}
theorem clk_pinned (hd : fs[h]? = some d) (hp : 0 < d.2.2.1) : clk (f + 1) fs h = clk f fs ((h + 1) % fs.length) := by
  simp only [clk, hd]
  rw [if_pos hp]
theorem clk_found (hd : fs[h]? = some d) (hp : ¬ 0 < d.2.2.1) (hr : d.2.2.2.2.2 = false) : clk (f + 1) fs h = some (h, (h + 1) % fs.length, fs) := by
  simp only [clk, hd]
  rw [if_neg hp, if_pos hr]
theorem clk_ref (hd : fs[h]? = some d) (hp : ¬ 0 < d.2.2.1) (hr : d.2.2.2.2.2 = true) : clk (f + 1) fs h = clk f (fs.set h (unref d)) ((h + 1) % fs.length) := by
  simp only [clk, hd]
  rw [if_neg hp, if_neg (by rw [hr]; simp)]
end
theorem next_at {n h i : Nat} (hi : 0 < i) : ((h + 1) % n + (i - 1)) % n = (h + i) % n := by
  rw [Nat.mod_add_mod, show h + 1 + (i - 1) = h + i from by omega]
theorem clk_second (m : Nat) : ∀ (fs : List FD) (h i : Nat) (d : FD), h < fs.length → i < m → fs[(h + i) % fs.length]? = some d → ¬ 0 < d.2.2.1 → d.2.2.2.2.2 = false → clk m fs h ≠ none := by
  induction m with
  | zero => intro fs h i d _ hi; omega
  | succ m ih =>
    intro fs h i d hh hi hd hp hr
    have hn : (h + 1) % fs.length < fs.length := Nat.mod_lt _ (by omega)
    obtain ⟨x, hx⟩ : ∃ x, fs[h]? = some x := ⟨_, List.getElem?_eq_getElem hh⟩
    by_cases hxp : 0 < x.2.2.1
    · rw [clk_pinned hx hxp]
      have hi0 : 0 < i := by
        rcases Nat.eq_zero_or_pos i with rfl | h0
        · rw [Nat.add_zero, Nat.mod_eq_of_lt hh, hx] at hd
          obtain rfl := Option.some.inj hd
          exact absurd hxp hp
        · exact h0
      exact ih fs _ (i - 1) d hn (by omega) (by rw [next_at hi0]; exact hd) hp hr
    · cases hxr : x.2.2.2.2.2 with
      | false => rw [clk_found hx hxp hxr]; simp
      | true =>
        rw [clk_ref hx hxp hxr]
        have hi0 : 0 < i := by
          rcases Nat.eq_zero_or_pos i with rfl | h0
          · rw [Nat.add_zero, Nat.mod_eq_of_lt hh, hx] at hd
            obtain rfl := Option.some.inj hd
            rw [hxr] at hr
            cases hr
          · exact h0
        by_cases he : (h + i) % fs.length = h
        · have := ih (fs.set h (unref x)) ((h + 1) % fs.length) (i - 1) (unref x) (by rw [List.length_set]; exact hn) (by omega) (by rw [List.length_set, next_at hi0, he, List.getElem?_set_self hh]) hxp rfl
          exact this
        · exact ih (fs.set h (unref x)) ((h + 1) % fs.length) (i - 1) d (by rw [List.length_set]; exact hn) (by omega) (by rw [List.length_set, next_at hi0, List.getElem?_set_ne (fun e => he e.symm)]; exact hd) hp hr
theorem clk_first (j : Nat) : ∀ (fs : List FD) (h i : Nat) (d : FD), h < fs.length → i < j → fs[(h + i) % fs.length]? = some d → ¬ 0 < d.2.2.1 → clk (j + fs.length) fs h ≠ none := by
  induction j with
  | zero => intro fs h i d _ hi; omega
  | succ j ih =>
    intro fs h i d hh hi hd hp
    have hn : (h + 1) % fs.length < fs.length := Nat.mod_lt _ (by omega)
    obtain ⟨x, hx⟩ : ∃ x, fs[h]? = some x := ⟨_, List.getElem?_eq_getElem hh⟩
    rw [show j + 1 + fs.length = (j + fs.length) + 1 from by omega]
    by_cases hxp : 0 < x.2.2.1
    · rw [clk_pinned hx hxp]
      have hi0 : 0 < i := by
        rcases Nat.eq_zero_or_pos i with rfl | h0
        · rw [Nat.add_zero, Nat.mod_eq_of_lt hh, hx] at hd
          obtain rfl := Option.some.inj hd
          exact absurd hxp hp
        · exact h0
      exact ih fs _ (i - 1) d hn (by omega) (by rw [next_at hi0]; exact hd) hp
    · cases hxr : x.2.2.2.2.2 with
      | false => rw [clk_found hx hxp hxr]; simp
      | true =>
        rw [clk_ref hx hxp hxr]
        refine clk_second _ (fs.set h (unref x)) ((h + 1) % fs.length) (fs.length - 1) (unref x) (by rw [List.length_set]; exact hn) (by omega) ?_ hxp rfl
        rw [List.length_set, Nat.mod_add_mod, show h + 1 + (fs.length - 1) = h + fs.length from by omega, Nat.add_mod_right, Nat.mod_eq_of_lt hh, List.getElem?_set_self hh]
theorem clk_some {fs : List FD} {h k : Nat} {d : FD} (hh : h < fs.length) (hk : fs[k]? = some d) (hp : ¬ 0 < d.2.2.1) : clk (fs.length + fs.length) fs h ≠ none := by
  have hkl : k < fs.length := (List.getElem?_eq_some_iff.1 hk).1
  refine clk_first fs.length fs h ((k + (fs.length - h)) % fs.length) d hh (Nat.mod_lt _ (by omega)) ?_ hp
  rw [Nat.add_mod_mod, show h + (k + (fs.length - h)) = k + fs.length from by omega, Nat.add_mod_right, Nat.mod_eq_of_lt hkl]
  exact hk
theorem clk_none (f : Nat) : ∀ (fs : List FD) (h : Nat), (∀ d ∈ fs, 0 < d.2.2.1) → clk f fs h = none := by
  induction f with
  | zero => intro fs h _; rfl
  | succ f ih =>
    intro fs h hp
    cases hd : fs[h]? with
    | none => simp only [clk, hd]
    | some d => rw [clk_pinned hd (hp d (List.mem_of_getElem? hd))]; exact ih fs _ hp
def stp : Nat → List FD → Nat → Nat
  | 0, _, _ => 0
  | f + 1, fs, h => match fs[h]? with
    | none => 0
    | some d => if 0 < d.2.2.1 then 1 + stp f fs ((h + 1) % fs.length) else if d.2.2.2.2.2 = false then 0 else 1 + stp f (fs.set h (unref d)) ((h + 1) % fs.length)
section
variable {f h : Nat} {fs : List FD} {d : FD}
theorem stp_pinned (hd : fs[h]? = some d) (hp : 0 < d.2.2.1) : stp (f + 1) fs h = 1 + stp f fs ((h + 1) % fs.length) := by
  simp only [stp, hd]
  rw [if_pos hp]
theorem stp_found (hd : fs[h]? = some d) (hp : ¬ 0 < d.2.2.1) (hr : d.2.2.2.2.2 = false) : stp (f + 1) fs h = 0 := by
  simp only [stp, hd]
  rw [if_neg hp, if_pos hr]
theorem stp_ref (hd : fs[h]? = some d) (hp : ¬ 0 < d.2.2.1) (hr : d.2.2.2.2.2 = true) : stp (f + 1) fs h = 1 + stp f (fs.set h (unref d)) ((h + 1) % fs.length) := by
  simp only [stp, hd]
  rw [if_neg hp, if_neg (by rw [hr]; simp)]
end
theorem stp_mono (f : Nat) : ∀ (fs : List FD) (h : Nat), clk f fs h ≠ none → ∀ F, f ≤ F → stp F fs h = stp f fs h := by
  induction f with
  | zero => intro fs h hc; exact absurd rfl hc
  | succ f ih =>
    intro fs h hc F hF
    obtain ⟨G, rfl⟩ : ∃ G, F = G + 1 := ⟨F - 1, by omega⟩
    cases hd : fs[h]? with
    | none => simp only [clk, hd] at hc; exact absurd rfl hc
    | some d =>
      by_cases hp : 0 < d.2.2.1
      · rw [clk_pinned hd hp] at hc
        rw [stp_pinned hd hp, stp_pinned hd hp, ih fs _ hc G (by omega)]
      · cases hr : d.2.2.2.2.2 with
        | false => rw [stp_found hd hp hr, stp_found hd hp hr]
        | true =>
          rw [clk_ref hd hp hr] at hc
          rw [stp_ref hd hp hr, stp_ref hd hp hr, ih _ _ hc G (by omega)]
def red (d : FD) : Int × Bool := (d.2.2.1, d.2.2.2.2.2)
theorem stp_red (f : Nat) : ∀ (fs gs : List FD) (h : Nat), fs.map red = gs.map red → stp f fs h = stp f gs h := by
  induction f with
  | zero => intro fs gs h _; rfl
  | succ f ih =>
    intro fs gs h he
    have hl : fs.length = gs.length := by have := congrArg List.length he; simpa using this
    have ha : fs[h]?.map red = gs[h]?.map red := by have := congrArg (fun l => l[h]?) he; simpa using this
    cases hd : fs[h]? with
    | none =>
      rw [hd] at ha
      cases hg : gs[h]? with
      | none => simp only [stp, hd, hg]
      | some x => rw [hg] at ha; cases ha
    | some d =>
      rw [hd] at ha
      cases hg : gs[h]? with
      | none => rw [hg] at ha; cases ha
      | some x =>
        rw [hg] at ha
        have hx : red d = red x := Option.some.inj ha
        simp only [red, Prod.mk.injEq] at hx
        obtain ⟨e1, e2⟩ := hx
        by_cases hp : 0 < d.2.2.1
        · rw [stp_pinned hd hp, stp_pinned hg (by rw [← e1]; exact hp), ih fs gs _ he, hl]
        · cases hr : d.2.2.2.2.2 with
          | false => rw [stp_found hd hp hr, stp_found hg (by rw [← e1]; exact hp) (by rw [← e2]; exact hr)]
          | true =>
            rw [stp_ref hd hp hr, stp_ref hg (by rw [← e1]; exact hp) (by rw [← e2]; exact hr), hl]
            rw [ih (fs.set h (unref d)) (gs.set h (unref x)) _ ?_]
            rw [List.map_set, List.map_set, he]
            congr 1
            simp [red, unref, e1]
end Go.Proofs.Ytkccodmibmpedaa

namespace Go.Proofs.Ytkccodmibmpedaa
set_option maxHeartbeats 400000
open Go.RowKit
theorem l1Copy_any (v : Value) (bs : List Int) (w : World) (hn : bs.length ≤ 1099511627776) (hv : Rd .u8 w v bs) :
    Calls Try.prog 109 #[v] w fun e w' => ∃ a n c, e = .returned (.slice a n c) ∧ Own 0 5 .u8 w' (.slice a n c) bs ∧ (∀ b, (Value.slice a n c).ownBlock = some b → w.heap.size ≤ b) ∧ Same w w' := by
  obtain ⟨i0, hi, hz0, hz1, hz2⟩ := info_parts Try.infoByte'
  rcases hv.2 with ⟨rfl, a, c, rfl, hac⟩ | ⟨b, off, c, rfl, _, hc⟩
  · cases a with
    | none =>
      obtain rfl : c = 0 := hac rfl
      clear hv hn hac
      go_enter Try.func109, Try.ntmps109
      go_wp2_with (at_builtin; refine wpList_append_own_none rfl (.tmp 3) (.tmp 4) 38 rfl w.heap.size 5 i0 1 Try.underlying38 hi _ 0 [] rfl (World.ownsRow_made w #[] 0 (Nat.le_refl _) (by simp) (by simp)) rfl ?_)
      go_ret
      exact ⟨_, _, _, rfl, (World.ownsRow_made w #[] 0 (Nat.zero_le _) (by simp) (by simp)), fun b hb => by simp [Value.ownBlock] at hb; omega, (Kept.refl _ _).alloc _⟩
    | some ad =>
      clear hv hn hac
      go_enter Try.func109, Try.ntmps109
      go_wp2_with (at_builtin; refine wpList_append_own _ rfl (.tmp 3) (.tmp 4) 38 rfl w.heap.size 5 i0 (.int .u8 0) 1 1 Try.underlying38 hi hz0 hz1 hz2 rfl (by decide) (.slice (some ⟨w.heap.size, 0, none⟩) 0 0) 0 [] rfl (World.ownsRow_made w #[] 0 (Nat.le_refl _) (by simp) (by simp)) ad 0 c [] rfl rfl (fun j u h => by simp at h) (fun u h => by simp at h) (by simp) (by simp) (by simp) ?_; intro v' w1 hown1 hgrow1 _; have HF := (show Hid (Own w.heap.size 5 .u8 w1 v' []) from hown1); have HK : Hid (Same w w1) := ((Kept.refl _ _).alloc _).grown hgrow1 (fun k e => .inl (by simp [Value.ownBlock] at e; omega)); obtain ⟨aa, na, ca, rfl⟩ := slice_of_own HF.out; clear hown1 hgrow1)
      go_ret
      exact ⟨_, _, _, rfl, HF.out.mono (fun b _ => Nat.zero_le b), fun b hb => (HF.out.lt b hb).1, HK.out⟩
  · have HC : Hid (∀ i, i < bs.length → (w.alloc (.cells #[] 5)).cell? ⟨b, off + i, none⟩ = some (.int .u8 (bs.getD i 0))) := fun i hi => ((Kept.refl (fun _ => False) w).alloc _).cellOf (hc i hi) id
    clear hv hc
    go_enter Try.func109, Try.ntmps109
    go_wp2_with (at_builtin; refine wpList_append_own _ rfl (.tmp 3) (.tmp 4) 38 rfl w.heap.size 5 i0 (.int .u8 0) 1 1 Try.underlying38 hi hz0 hz1 hz2 rfl (by decide) (.slice (some ⟨w.heap.size, 0, none⟩) 0 0) 0 [] rfl (World.ownsRow_made w #[] 0 (Nat.le_refl _) (by simp) (by simp)) ⟨b, off, none⟩ bs.length c (vals .u8 bs) rfl (by simp [vals_length]) (news_of HC.out) vals_one (by unfold maxLen; omega) (by omega) (by simp) ?_; intro v' w1 hown1 hgrow1 _; have HF := (show Hid (Own w.heap.size 5 .u8 w1 v' bs) from (by simpa [Own, Hid] using hown1)); have HK : Hid (Same w w1) := ((Kept.refl _ _).alloc _).grown hgrow1 (fun k e => .inl (by simp [Value.ownBlock] at e; omega)); obtain ⟨aa, na, ca, rfl⟩ := slice_of_own HF.out; clear hown1 hgrow1)
    go_ret
    exact ⟨_, _, _, rfl, HF.out.mono (fun b _ => Nat.zero_le b), fun b hb => (HF.out.lt b hb).1, HK.out⟩
end Go.Proofs.Ytkccodmibmpedaa

namespace Go.Proofs.Ytkccodmibmpedaa
set_option maxRecDepth 100000
set_option maxHeartbeats 4000000
open Go.RowKit
set_option linter.unusedVariables false
set_option linter.unusedSimpArgs false
theorem l7Copy_any (v : Value) (hand : Int) (ps : List EFrame) (w : World) (hn : ps.length ≤ 1073741824) (hs : ∀ p ∈ ps, p.bs.length ≤ 1099511627776) (hv : RdR kFrame w v ps) :
    Calls Try.prog 65 #[.agg #[v, .int .i64 hand]] w fun e w' => ∃ a n c qs, e = .returned (.agg #[.slice a n c, .int .i64 hand]) ∧ datFrameS qs = datFrameS ps ∧
      (∀ b, footR kFrame (.slice a n c) qs b → w.heap.size ≤ b) ∧ OwnR kFrame 0 46 5 w' (.slice a n c) qs ∧ Same w w' := by
  obtain ⟨a, c, rfl⟩ := hv.form
  obtain ⟨i0, hi, hz0, hz1, hz2⟩ := info_parts Try.infoRFrame
  have hmax := hv.max
  unfold maxLen at hmax
  have HV := (show Hid (RdR kFrame w (.slice a ps.length c) ps) from hv)
  have HS : Hid (∀ p ∈ ps, p.bs.length ≤ 1099511627776) := hs
  clear hv hs
  obtain ⟨len, hl⟩ : ∃ n, ps.length = n := ⟨_, rfl⟩
  have HL : Hid (ps.length = len) := hl
  rw [hl] at HV hmax hn ⊢
  clear hl
  have b0 := ((Blk.newL w [.slice a len c, .int .i64 hand] 28).same ((Kept.refl _ _).alloc (.cells #[.slice none 0 0, .int .i64 0] 28))).same ((Kept.refl _ _).alloc (.cells #[.slice none 0 0, .int .i64 hand] 28))
  have b1 := (Blk.newB w [.slice a len c, .int .i64 hand] 28 [.slice none 0 0, .int .i64 0] 28).same ((Kept.refl _ _).alloc (.cells #[.slice none 0 0, .int .i64 hand] 28))
  have b2 := Blk.newL ((w.alloc (.cells #[.slice a len c, .int .i64 hand] 28)).alloc (.cells #[.slice none 0 0, .int .i64 0] 28)) [.slice none 0 0, .int .i64 hand] 28
  simp only [World.size_alloc] at b1 b2
  have hkb : Same w (((w.alloc (.cells #[.slice a len c, .int .i64 hand] 28)).alloc (.cells #[.slice none 0 0, .int .i64 0] 28)).alloc (.cells #[.slice none 0 0, .int .i64 hand] 28)) := (((Kept.refl _ _).alloc _).alloc _).alloc _
  go_enter Try.func65, Try.ntmps65
  go_wp2_with fail
  obtain ⟨wb, hwb⟩ : ∃ x, x = (((w.alloc (.cells #[.slice a len c, .int .i64 hand] 28)).alloc (.cells #[.slice none 0 0, .int .i64 0] 28)).alloc (.cells #[.slice none 0 0, .int .i64 hand] 28)) := ⟨_, rfl⟩
  rw [← hwb]
  rw [← hwb] at b0 b1 b2 hkb
  have hzw : wb.heap.size = w.heap.size + 3 := by rw [hwb]; simp [World.size_alloc]
  clear hwb
  have HB0 := (show Hid (Blk wb w.heap.size 28 [.slice a len c, .int .i64 hand]) from b0)
  have HB1 := (show Hid (Blk wb (w.heap.size + 1) 28 [.slice none 0 0, .int .i64 0]) from b1)
  have HB2 := (show Hid (Blk wb (w.heap.size + 1 + 1) 28 [.slice none 0 0, .int .i64 hand]) from b2)
  have HKB := (show Hid (Same w wb) from hkb)
  clear b0 b1 b2 hkb
  go_loopw [4] (fun i wr => ∃ (k : Nat) (aa : Option Addr) (na ca : Nat) (qs : List EFrame), k ≤ len ∧ i = .int .i64 k ∧ Hid (qs.length = k) ∧ Hid (datFrameS qs = datFrameS (ps.take k)) ∧ Hid (Blk wr (w.heap.size + 1 + 1) 28 [.slice aa na ca, .int .i64 hand]) ∧
      Hid (∀ b, footR kFrame (.slice aa na ca) qs b → w.heap.size + 1 + 1 < b) ∧ Hid (OwnR kFrame 0 46 5 wr (.slice aa na ca) qs) ∧ Hid (Kept (fun b => b = w.heap.size + 1 + 1) wb wr)) (fun i _ => len - (intOf i).toNat)
  case atStart => exact ⟨0, none, 0, 0, [], Nat.zero_le _, rfl, rfl, rfl, HB2, fun b hb => absurd hb (footR_nil b), OwnR.nil _ _ _ _ _, Kept.refl _ _⟩
  case round =>
    obtain ⟨k, aa, na, ca, qs, hk, rfl, HQL, HQ, HX, HFP, HOP, HKr⟩ := hrel
    have HP := (show Hid (Blk wr w.heap.size 28 [.slice a len c, .int .i64 hand]) from HB0.out.kept HKr.out (by intro e; omega))
    obtain ⟨g0, g1⟩ := HP.out.all2
    have HKW := (show Hid (Same w wr) from HKB.out.next HKr.out (fun b hb e => by omega))
    by_cases hlt : k < len
    · have hlp : k < ps.length := by rw [HL.out]; exact hlt
      obtain ⟨b, off, rfl, hc⟩ : ∃ b off, a = some ⟨b, off, none⟩ ∧ ∀ j i, (h : j < ps.length) → i < 6 → w.cell? ⟨b, off + (j * 6 + i), none⟩ = (kFrame.cells ps[j])[i]? := by
        rcases HV.out.row with ⟨hps, _⟩ | ⟨b, off, c', he, hc⟩
        · rw [hps] at hlp; simp at hlp
        · injection he with he1 he2 he3
          exact ⟨b, off, he1, hc⟩
      obtain ⟨p, hp⟩ : ∃ p, ps[k] = p := ⟨_, rfl⟩
      have hrd : Rd .u8 w ps[k].v ps[k].bs := HV.out.data _ (List.getElem_mem hlp)
      have hm1 := HS.out _ (List.getElem_mem hlp)
      have hcc : ∀ i, i < 6 → wr.cell? ⟨b, off + (k * 6 + i), none⟩ = (kFrame.cells ps[k])[i]? := fun i hi => by
        have h := hc k i hlp hi
        have hlen : (kFrame.cells ps[k]).length = 6 := kFrame.len _
        rw [List.getElem?_eq_getElem (by omega)] at h ⊢
        exact HKW.out.cellOf h id
      rw [hp] at hrd hm1 hcc
      have HPE : Hid (ps[k] = p) := hp
      clear hp hc
      obtain ⟨pg, pv, fb, pn, dt, rl, rf⟩ := p
      dsimp only at hrd hm1
      obtain ⟨a1, c1, e1⟩ := hrd.form
      subst e1
      obtain ⟨n1, hn1⟩ : ∃ n, fb.length = n := ⟨_, rfl⟩
      have HN : Hid (fb.length = n1) := hn1
      rw [hn1] at hrd hcc
      have HRD := (show Hid (Rd .u8 w (.slice a1 n1 c1) fb) from hrd)
      have HM1 : Hid (fb.length ≤ 1099511627776) := hm1
      have d0 : wr.cell? ⟨b, off + k * 6, none⟩ = some (.int .i64 pg) := by have h := hcc 0 (by decide); exact h
      have d1 : wr.cell? ⟨b, off + k * 6 + 1, none⟩ = some (.slice a1 n1 c1) := by have h := hcc 1 (by decide); rw [← Nat.add_assoc] at h; exact h
      have d2 : wr.cell? ⟨b, off + k * 6 + 2, none⟩ = some (.int .i64 pn) := by have h := hcc 2 (by decide); rw [← Nat.add_assoc] at h; exact h
      have d3 : wr.cell? ⟨b, off + k * 6 + 3, none⟩ = some (.bool dt) := by have h := hcc 3 (by decide); rw [← Nat.add_assoc] at h; exact h
      have d4 : wr.cell? ⟨b, off + k * 6 + 4, none⟩ = some (.int .i64 rl) := by have h := hcc 4 (by decide); rw [← Nat.add_assoc] at h; exact h
      have d5 : wr.cell? ⟨b, off + k * 6 + 5, none⟩ = some (.bool rf) := by have h := hcc 5 (by decide); rw [← Nat.add_assoc] at h; exact h
      clear hcc hrd hm1 hn1
      have ba := Blk.newL wr [.int .i64 pg, .slice a1 n1 c1, .int .i64 pn, .bool dt, .int .i64 rl, .bool rf] 46
      have hki : (k : Int) < (len : Int) := by omega
      go_wp2_with fail
      refine (l1Copy_any _ fb _ HM1.out (HRD.out.same (HKW.out.trans ((Kept.refl _ _).alloc _)))).mono ?_
      rintro e w2 ⟨a4, n4, c4, rfl, ho4, hf4, hk4⟩
      have HB4 := (show Hid (Blk w2 wr.heap.size 46 [.int .i64 pg, .slice a1 n1 c1, .int .i64 pn, .bool dt, .int .i64 rl, .bool rf]) from ba.same hk4)
      have HK4 := (show Hid (Same wr w2) from ((Kept.refl _ _).alloc _).trans hk4)
      have HO4 := (show Hid (Own 0 5 .u8 w2 (.slice a4 n4 c4) fb) from ho4)
      have HF4 : Hid (∀ b, (Value.slice a4 n4 c4).ownBlock = some b → wr.heap.size < b) := fun b hb => by have h := hf4 b hb; rw [World.size_alloc] at h; omega
      clear ho4 hf4 hk4 ba d0 d1 d2 d3 d4 d5 g0 g1
      have hxl : w.heap.size + 1 + 1 < wr.heap.size := HX.out.lt
      have h2l : wr.heap.size < w2.heap.size := HB4.out.lt
      have hs4 : (w2.setCell ⟨wr.heap.size, 1, none⟩ (.slice a4 n4 c4)).heap.size = w2.heap.size := by simp [World.setCell]
      have HK24 := (show Hid (Kept (fun b => b = wr.heap.size) w2 (w2.setCell ⟨wr.heap.size, 1, none⟩ (.slice a4 n4 c4))) from Kept.setCell (R := fun b => b = wr.heap.size) (Kept.refl _ _) (p := ⟨wr.heap.size, 1, none⟩) (.inr rfl) _)
      have HOP4 := (show Hid (OwnR kFrame 0 46 5 ((w2.setCell ⟨wr.heap.size, 1, none⟩ (.slice a4 n4 c4)).alloc (.cells #[.int .i64 pg, .slice a4 n4 c4, .int .i64 pn, .bool dt, .int .i64 rl, .bool rf] 46)) (.slice aa na ca) qs) from ((HOP.out.same HK4.out).kept HK24.out (fun b hb e => by have := (HOP.out.lt b hb).2; omega)).same ((Kept.refl _ _).alloc _))
      have HO5 := (show Hid (Own 0 5 .u8 ((w2.setCell ⟨wr.heap.size, 1, none⟩ (.slice a4 n4 c4)).alloc (.cells #[.int .i64 pg, .slice a4 n4 c4, .int .i64 pn, .bool dt, .int .i64 rl, .bool rf] 46)) (.slice a4 n4 c4) fb) from (HO4.out.kept HK24.out (fun b hb e => by have := HF4.out b hb; omega)).same ((Kept.refl _ _).alloc _))
      have HX5 := (show Hid (Blk ((w2.setCell ⟨wr.heap.size, 1, none⟩ (.slice a4 n4 c4)).alloc (.cells #[.int .i64 pg, .slice a4 n4 c4, .int .i64 pn, .bool dt, .int .i64 rl, .bool rf] 46)) (w.heap.size + 1 + 1) 28 [.slice aa na ca, .int .i64 hand]) from ((HX.out.same HK4.out).kept HK24.out (by intro e; omega)).same ((Kept.refl _ _).alloc _))
      have HN5 := (show Hid (Blk ((w2.setCell ⟨wr.heap.size, 1, none⟩ (.slice a4 n4 c4)).alloc (.cells #[.int .i64 pg, .slice a4 n4 c4, .int .i64 pn, .bool dt, .int .i64 rl, .bool rf] 46)) w2.heap.size 46 [.int .i64 pg, .slice a4 n4 c4, .int .i64 pn, .bool dt, .int .i64 rl, .bool rf]) from by have h := Blk.newL (w2.setCell ⟨wr.heap.size, 1, none⟩ (.slice a4 n4 c4)) [.int .i64 pg, .slice a4 n4 c4, .int .i64 pn, .bool dt, .int .i64 rl, .bool rf] 46; rw [hs4] at h; exact h)
      have HKO := (show Hid (((w2.setCell ⟨wr.heap.size, 1, none⟩ (.slice a4 n4 c4)).alloc (.cells #[.int .i64 pg, .slice a4 n4 c4, .int .i64 pn, .bool dt, .int .i64 rl, .bool rf] 46)).ownsRow 0 46 6 (.slice aa na ca) k (kFrame.all qs)) from by have h := HOP4.out.row; rw [HQL.out] at h; exact h)
      obtain ⟨c0, c1', c2, c3, c4', c5⟩ := HB4.out.all6
      have fz := HB4.out.frozen
      obtain ⟨x0, x1⟩ := (HX.out.same HK4.out).all2
      have fx := (HX.out.same HK4.out).frozen
      go_wp2_with (at_builtin; go_loud (refine wpList_append_lies _ rfl (.tmp 26) (.tmp 28) 26 rfl 0 46 i0 _ 6 64 Try.underlying26 hi hz0 hz1 hz2 rfl (by omega) (.slice aa na ca) k (kFrame.all qs) rfl (by exact HKO.out) ⟨w2.heap.size, 0, none⟩ 1 1 [.int .i64 pg, .slice a4 n4 c4, .int .i64 pn, .bool dt, .int .i64 rl, .bool rf] rfl rfl (World.news_of_block (cs := #[.int .i64 pg, .slice a4 n4 c4, .int .i64 pn, .bool dt, .int .i64 rl, .bool rf]) (t := 46) (fr := (0, 0)) (by exact HN5.out)) (by simp [Value.oneCell']) (by omega) (by unfold maxLen; omega) (by omega) (Nat.zero_le _) (w2.heap.size + 1) (by simp [World.setCell]) ?_); intro g5 cap5 w3 hown5 hgrow5 hat5 hlt5; have HX6 := (show Hid (Blk w3 (w.heap.size + 1 + 1) 28 [.slice aa na ca, .int .i64 hand]) from HX5.out.kept (Kept.of_grown hgrow5 (fun k e => e)) (fun e => absurd (HFP.out _ (.inl e)) (by omega))); have HOWN5 := (show Hid (w3.ownsRow 0 46 6 (.slice (some ⟨g5, 0, none⟩) (k + 1) cap5) (k + 1) (kFrame.all qs ++ [.int .i64 pg, .slice a4 n4 c4, .int .i64 pn, .bool dt, .int .i64 rl, .bool rf])) from hown5); have HG5 := (show Hid (((w2.setCell ⟨wr.heap.size, 1, none⟩ (.slice a4 n4 c4)).alloc (.cells #[.int .i64 pg, .slice a4 n4 c4, .int .i64 pn, .bool dt, .int .i64 rl, .bool rf] 46)).grownBy w3 (Value.slice aa na ca).ownBlock) from hgrow5); have HAT5 : Hid ((Value.slice aa na ca).ownBlock = some g5 ∨ g5 = w2.heap.size + 1) := hat5; have z0 := HX6.out.all2.1; have fz3 := HX6.out.frozen; have lz3 := HX6.out.lt; clear hown5 hgrow5 hat5)
      have hsnoc := OwnR.snoc (K := kFrame) (⟨pg, .slice a4 n4 c4, fb, pn, dt, rl, rf⟩ : EFrame) HOP4.out HO5.out (fun b hb hf => by have h1 := HF4.out b hb; have h2 := (HOP.out.lt b hf).2; omega) HG5.out HOWN5.out HQL.out.symm (by rw [World.size_alloc, hs4]; exact HAT5.out)
      have HN : Hid (∀ b, footR kFrame (.slice (some ⟨g5, 0, none⟩) (k + 1) cap5) (qs ++ [(⟨pg, .slice a4 n4 c4, fb, pn, dt, rl, rf⟩ : EFrame)]) b → w.heap.size + 1 + 1 < b) := fun b hb => by
        rcases footR_snoc (v := .slice aa na ca) b hb with rfl | hb | hb
        · rcases HAT5.out with h | h
          · exact HFP.out _ (.inl h)
          · omega
        · exact HFP.out b hb
        · have := HF4.out b hb; omega
      have HO6 := (show Hid (OwnR kFrame 0 46 5 (w3.setCell ⟨w.heap.size + 1 + 1, 0, none⟩ (.slice (some ⟨g5, 0, none⟩) (k + 1) cap5)) (.slice (some ⟨g5, 0, none⟩) (k + 1) cap5) (qs ++ [(⟨pg, .slice a4 n4 c4, fb, pn, dt, rl, rf⟩ : EFrame)])) from
        hsnoc.kept (Kept.setCell (Kept.refl (fun b => b = w.heap.size + 1 + 1) w3) (p := ⟨w.heap.size + 1 + 1, 0, none⟩) (.inr rfl) _) (fun b hb e => by have := HN.out b hb; omega))
      have HX7 := (show Hid (Blk (w3.setCell ⟨w.heap.size + 1 + 1, 0, none⟩ (.slice (some ⟨g5, 0, none⟩) (k + 1) cap5)) (w.heap.size + 1 + 1) 28 [.slice (some ⟨g5, 0, none⟩) (k + 1) cap5, .int .i64 hand]) from HX6.out.stored 0 _)
      have hzb : wb.heap.size ≤ wr.heap.size := HKr.out.size
      have hk3 : Kept (fun b => b = w.heap.size + 1 + 1) wb w3 :=
        (((HKr.out.next HK4.out (fun i _ h => h.elim)).next HK24.out (fun i hi e => by omega)).alloc _).grown HG5.out (fun i e => .inl (by have := HFP.out i (.inl e); omega))
      have HK7 := (show Hid (Kept (fun b => b = w.heap.size + 1 + 1) wb (w3.setCell ⟨w.heap.size + 1 + 1, 0, none⟩ (.slice (some ⟨g5, 0, none⟩) (k + 1) cap5))) from Kept.setCell hk3 (p := ⟨w.heap.size + 1 + 1, 0, none⟩) (.inr rfl) _)
      clear hsnoc hk3
      go_roundw
      case rel =>
        refine ⟨k + 1, some ⟨g5, 0, none⟩, k + 1, cap5, qs ++ [(⟨pg, .slice a4 n4 c4, fb, pn, dt, rl, rf⟩ : EFrame)], by omega, by go_num, ?_, ?_, HX7, HN, HO6, HK7⟩
        · have := HQL.out; simp [Hid, this]
        · have h1 := HQ.out
          unfold Hid
          rw [List.take_succ_eq_append_getElem hlp, HPE.out]
          simp only [datFrameS, List.map_append] at h1 ⊢
          rw [h1]; rfl
      case measure => simp [intOf]; omega
    · obtain rfl : len = k := by omega
      obtain ⟨x0, x1⟩ := HX.out.all2
      have HBz := (show Hid (Blk wr (w.heap.size + 1) 28 [.slice none 0 0, .int .i64 0]) from HB1.out.kept HKr.out (by intro e; omega))
      obtain ⟨z0, z1⟩ := HBz.out.all2
      have fz := HBz.out.frozen
      have lz := HBz.out.lt
      have hxl : w.heap.size + 1 + 1 < wr.heap.size := HX.out.lt
      go_wp2
      have hq := HQ.out
      rw [← HL.out, List.take_length] at hq
      refine bodyPost_ret (v := .agg #[.slice aa na ca, .int .i64 hand]) (by simp [results, Try.results65, go_sem, z0, z1]) rfl ⟨aa, na, ca, qs, rfl, hq, fun b hb => by have := HFP.out b hb; omega, ?_, ?_⟩
      · refine HOP.out.kept (R := fun b => b = w.heap.size + 1) ?_ (fun b hb e => by have := HFP.out b hb; omega)
        (iterate 2 refine Kept.setCell (R := fun b => b = w.heap.size + 1) ?_ (.inr rfl) _)
        exact Kept.refl _ _
      · (iterate 2 refine Kept.setCell ?_ (.inl (Nat.le_succ _)) _)
        exact HKW.out
end Go.Proofs.Ytkccodmibmpedaa
