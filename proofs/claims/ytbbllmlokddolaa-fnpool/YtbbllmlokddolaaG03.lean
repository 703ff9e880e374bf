import Derived.Test.YtbbllmlokddolaaG02
import Derived.Test.YtbbllmlokddolaaG01
namespace Go.Proofs.Ytbbllmlokddolaa
set_option maxRecDepth 100000
set_option maxHeartbeats 8000000
open Go.RowKit
set_option linter.unusedVariables false
set_option linter.unusedSimpArgs false
section
variable {w w' : World} {P : Nat} {hand : Int} {g n cap : Nat} {bl : List Nat} {ps : List EFrame}
theorem FP.kept {R : Nat → Prop} (h : FP w P hand g n cap bl ps) (hk : Kept R w w') (hr : ∀ b, footFP P g bl ps b → ¬ R b) : FP w' P hand g n cap bl ps :=
  ⟨h.top.kept hk (hr P (.inl rfl)), h.len, hk.owns h.row (fun b hb => hr b (.inr (.inl (by simpa [Value.ownBlock] using hb.symm)))), h.ptr.kept hk (fun b hb => hr b (.inr (.inr hb))), h.pg, h.outP, h.outg⟩
theorem FP.same (h : FP w P hand g n cap bl ps) (hk : Same w w') : FP w' P hand g n cap bl ps := h.kept hk (fun _ _ => id)
theorem FP.lt (h : FP w P hand g n cap bl ps) (b : Nat) (hb : footFP P g bl ps b) : b < w.heap.size := by
  rcases hb with rfl | rfl | hb
  · exact h.top.lt
  · exact (World.ownsRow.lt h.row _ rfl).2
  · exact h.ptr.lt b hb
theorem FP.at (h : FP w P hand g n cap bl ps) (k : Nat) (hk : k < n) : ∃ b p, bl[k]? = some b ∧ ps[k]? = some p ∧ w.cell? ⟨g, k, none⟩ = some (.pointer (some ⟨b, 0, none⟩)) ∧ Blk w b 36 (kFrame.cells p) := by
  have hlb : k < bl.length := by rw [h.ptr.len, ← h.len]; exact hk
  have hlp : k < ps.length := by rw [← h.len]; exact hk
  refine ⟨bl[k], ps[k], List.getElem?_eq_getElem hlb, List.getElem?_eq_getElem hlp, ?_, h.ptr.blk k _ _ (List.getElem?_eq_getElem hlb) (List.getElem?_eq_getElem hlp)⟩
  have hc := World.ownsRow.cellAt h.row k (by omega)
  rw [hc, List.getElem?_map, List.getElem?_eq_getElem hlb]
  rfl
end
def zF : EFrame := ⟨0, .slice none 0 0, [], 0, false, 0, false⟩
theorem made_frames {w : World} {v : Value} {n : Nat} (h : w.ownsRow 0 36 6 v n ((madeCells (Value.agg #[.int .i64 0, .slice none 0 0, .int .i64 0, .bool false, .int .i64 0, .bool false]).cells (n * 6)).toList.take (n * 6))) : OwnR kFrame 0 36 5 w v (List.replicate n zF) := by
  rw [List.take_of_length_le (by simp [madeCells])] at h
  exact ownR_made (K := kFrame) (zp := zF) (by decide) rfl rfl rfl h
theorem pool_any (P : Nat) (hand : Int) (g n cap : Nat) (bl : List Nat) (qs : List EFrame) (w : World) (h : FP w P hand g n cap bl qs) (hn : n ≤ 16) :
    Calls Try.prog 49 #[.pointer (some ⟨P, 0, none⟩)] w fun e w' => ∃ a m c, e = .returned (.agg #[.slice a m c, .int .i64 hand]) ∧ OwnR kFrame 0 36 5 w' (.slice a m c) qs ∧ (∀ b, footR kFrame (.slice a m c) qs b → w.heap.size ≤ b ∨ footS kFrame bl qs b) ∧ Same w w' := by
  obtain ⟨i0, hi, hz0, hz1, hz2⟩ := info_parts Try.infoRFrame
  have HF := (show Hid (FP w P hand g n cap bl qs) from h)
  have hPl := h.top.lt
  clear h
  have HB0 := (show Hid (Blk (w.alloc (.cells #[.slice none 0 0, .int .i64 0] 25)) w.heap.size 25 [.slice none 0 0, .int .i64 0]) from Blk.newL w [.slice none 0 0, .int .i64 0] 25)
  have HK0 := hid (sameA w [.slice none 0 0, .int .i64 0] 25)
  go_enter Try.func49, Try.ntmps49
  go_wp2_with fail
  go_cut [3] (fun v wc => ∃ (G h : Nat), v = .pointer (some ⟨G, 0, none⟩) ∧ Hid (Blk wc G 25 [.slice (some ⟨h, 0, none⟩) n n, .int .i64 hand]) ∧ w.heap.size < G ∧ G ≠ h ∧ w.heap.size < h ∧ Hid (OwnR kFrame 0 36 5 wc (.slice (some ⟨h, 0, none⟩) n n) (List.replicate n zF)) ∧
      Hid (Blk wc w.heap.size 25 [.slice none 0 0, .int .i64 0]) ∧ Hid (Same w wc))
  case first =>
    have htop := (HF.out.same HK0.out).top
    have hS : (fun wx : World => wx.cell? ⟨P, 0, none⟩ = some (.slice (some ⟨g, 0, none⟩) n cap) ∧ wx.cell? ⟨P, 1, none⟩ = some (.int .i64 hand)) (w.alloc (.cells #[.slice none 0 0, .int .i64 0] 25)).drew := ⟨htop.cell 0, htop.cell 1⟩
    refine wp_region_V (fun wx : World => wx.cell? ⟨P, 0, none⟩ = some (.slice (some ⟨g, 0, none⟩) n cap) ∧ wx.cell? ⟨P, 1, none⟩ = some (.int .i64 hand)) 14 15 rfl (by kernel_rfl) ?_
    refine tk 0 6 hS ?_
    refine tk 1 7 hS ?_
    refine tk 2 8 hS ?_
    refine tk 3 9 hS ?_
    refine tk 4 10 hS ?_
    refine tk 5 11 hS ?_
    refine tk 7 13 hS ?_
    refine tk 8 14 hS ?_
    refine tk 9 15 hS ?_
    refine tk 10 16 hS ?_
    refine tk 11 17 hS ?_
    refine wpAnyV_two (i := 6) (j := 13) (by kernel_rfl) rfl rfl (fun K hK => ?_) (fun K hK => ?_)
    · refine step_mk (by rfl) (.tmp 11) (.tmp 11) 23 (by rfl) 0 36 i0 _ 6 Try.underlying23 hi hz0 hz1 .i64 .i64 _ _ n n (by rfl) (by rfl) (by rfl) (by rfl) (Nat.le_refl _) (by rw [hz2]; omega) (by unfold maxLen; omega) (Nat.zero_le _) ?_
      intro w1 hown1 hgrow1 hlt1
      have hk1 : Same (w.alloc (.cells #[.slice none 0 0, .int .i64 0] 25)) w1 := (Kept.refl (fun _ => False) (w.alloc (.cells #[.slice none 0 0, .int .i64 0] 25))).drew.trans (Kept.of_grown hgrow1 (fun k e => by cases e))
      have HK1 := (show Hid (Same (w.alloc (.cells #[.slice none 0 0, .int .i64 0] 25)) w1) from hk1)
      have HO1 := (show Hid (OwnR kFrame 0 36 5 w1 (.slice (some ⟨w.heap.size + 1, 0, none⟩) n n) (List.replicate n zF)) from (by unfold Hid; have h := made_frames hown1; simpa using h))
      have hz1' : w.heap.size + 1 < w1.heap.size := by simpa using hlt1
      have ht1 := htop.same hk1
      have hS1 : (fun wx : World => wx.cell? ⟨P, 0, none⟩ = some (.slice (some ⟨g, 0, none⟩) n cap) ∧ wx.cell? ⟨P, 1, none⟩ = some (.int .i64 hand)) w1 := ⟨ht1.cell 0, ht1.cell 1⟩
      refine hK.out _ _ (fun _ => hS1) ?_
      clear hK K hown1 hgrow1 hlt1 hk1
      try simp only [Act.put, sA, s0, sS]
      refine tk 12 18 hS1 ?_
      refine wpAnyV_one (i := 13) (by kernel_rfl) rfl (fun K hK => ?_)
      go_simp
      have hS2 : (fun wx : World => wx.cell? ⟨P, 0, none⟩ = some (.slice (some ⟨g, 0, none⟩) n cap) ∧ wx.cell? ⟨P, 1, none⟩ = some (.int .i64 hand)) (w1.alloc (.cells #[.slice none 0 0, .int .i64 0] 25)) := ⟨(ht1.alloc _).cell 0, (ht1.alloc _).cell 1⟩
      refine hK.out _ _ (fun _ => hS2) ?_
      clear hK K
      try simp only [Act.put, sA, s0, sS]
      refine wpAnyV_one (i := 14) (by kernel_rfl) rfl (fun K hK => ?_)
      go_simp
      refine hK.out _ _ (fun h => absurd rfl h) ?_
      clear hK K
      refine wpAnyV_done (by kernel_rfl) ?_
      try simp only [Act.put, sA, s0, sS]
      go_wp2_with fail
      go_meet
      case rel =>
        refine ⟨w1.heap.size, w.heap.size + 1, rfl, Blk.newL _ _ _, by omega, by omega, by omega, HO1.out.same ((Kept.refl _ _).alloc _), (HB0.out.same HK1.out).alloc _, (HK0.out.trans HK1.out).alloc _⟩
    · go_simp
      have hS1 : (fun wx : World => wx.cell? ⟨P, 0, none⟩ = some (.slice (some ⟨g, 0, none⟩) n cap) ∧ wx.cell? ⟨P, 1, none⟩ = some (.int .i64 hand)) ((w.alloc (.cells #[.slice none 0 0, .int .i64 0] 25)).drew.alloc (.cells #[.slice none 0 0, .int .i64 0] 25)) := ⟨(htop.drew.alloc _).cell 0, (htop.drew.alloc _).cell 1⟩
      refine hK.out _ _ (fun _ => hS1) ?_
      clear hK K
      try simp only [Act.put, sA, s0, sS]
      refine wpAnyV_one (i := 6) (by kernel_rfl) rfl (fun K hK => ?_)
      refine step_mk (by rfl) (.tmp 11) (.tmp 11) 23 (by rfl) 0 36 i0 _ 6 Try.underlying23 hi hz0 hz1 .i64 .i64 _ _ n n (by rfl) (by rfl) (by rfl) (by rfl) (Nat.le_refl _) (by rw [hz2]; omega) (by unfold maxLen; omega) (Nat.zero_le _) ?_
      intro w1 hown1 hgrow1 hlt1
      have hk1 : Same ((w.alloc (.cells #[.slice none 0 0, .int .i64 0] 25)).drew.alloc (.cells #[.slice none 0 0, .int .i64 0] 25)) w1 := Kept.of_grown hgrow1 (fun k e => by cases e)
      have HK1 := (show Hid (Same ((w.alloc (.cells #[.slice none 0 0, .int .i64 0] 25)).drew.alloc (.cells #[.slice none 0 0, .int .i64 0] 25)) w1) from hk1)
      have HO1 := (show Hid (OwnR kFrame 0 36 5 w1 (.slice (some ⟨w.heap.size + 1 + 1, 0, none⟩) n n) (List.replicate n zF)) from (by unfold Hid; have h := made_frames hown1; simpa using h))
      have hz1' : w.heap.size + 1 + 1 < w1.heap.size := by simpa using hlt1
      have hbz : Blk ((w.alloc (.cells #[.slice none 0 0, .int .i64 0] 25)).drew.alloc (.cells #[.slice none 0 0, .int .i64 0] 25)) (w.heap.size + 1) 25 [.slice none 0 0, .int .i64 0] := by
        have h := Blk.newL (w.alloc (.cells #[.slice none 0 0, .int .i64 0] 25)).drew [.slice none 0 0, .int .i64 0] 25
        simpa using h
      have ht1 := (htop.drew.alloc (.cells #[.slice none 0 0, .int .i64 0] 25)).same hk1
      have HZ1 := hid (hbz.same hk1)
      have hS2 : (fun wx : World => wx.cell? ⟨P, 0, none⟩ = some (.slice (some ⟨g, 0, none⟩) n cap) ∧ wx.cell? ⟨P, 1, none⟩ = some (.int .i64 hand)) w1 := ⟨ht1.cell 0, ht1.cell 1⟩
      refine hK.out _ _ (fun _ => hS2) ?_
      clear hK K hown1 hgrow1 hlt1 hk1
      try simp only [Act.put, sA, s0, sS]
      refine tk 12 18 hS2 ?_
      obtain ⟨z0, z1⟩ := HZ1.out.all2
      have fz := HZ1.out.frozen
      refine wpAnyV_one (i := 14) (by kernel_rfl) rfl (fun K hK => ?_)
      go_simp
      refine hK.out _ _ (fun h => absurd rfl h) ?_
      clear hK K
      refine wpAnyV_done (by kernel_rfl) ?_
      try simp only [Act.put, sA, s0, sS]
      go_wp2_with fail
      go_meet
      case rel =>
        have hkw : Same w w1 := (((HK0.out.drew).alloc _).trans HK1.out)
        have hb0 := ((HB0.out.drew).alloc (.cells #[.slice none 0 0, .int .i64 0] 25)).same HK1.out
        have hst : Kept (fun b => b = w.heap.size + 1) w1 ((w1.setCell ⟨w.heap.size + 1, 0, none⟩ (.slice (some ⟨w.heap.size + 1 + 1, 0, none⟩) n n)).setCell ⟨w.heap.size + 1, 1, none⟩ (.int .i64 hand)) := Kept.setCell (R := fun b => b = w.heap.size + 1) (Kept.setCell (R := fun b => b = w.heap.size + 1) (Kept.refl _ _) (p := ⟨w.heap.size + 1, 0, none⟩) (.inr rfl) _) (p := ⟨w.heap.size + 1, 1, none⟩) (.inr rfl) _
        refine ⟨w.heap.size + 1, w.heap.size + 1 + 1, rfl, (HZ1.out.stored 0 _).stored 1 _, by omega, by omega, by omega, HO1.out.kept hst ?_, hb0.kept hst (by intro e; omega), hkw.next hst (fun i hi e => by omega)⟩
        intro b hb e
        rcases hb with hb | ⟨p, hp, hb⟩
        · simp [Value.ownBlock] at hb; omega
        · rw [List.eq_of_mem_replicate hp] at hb
          simp [kFrame, zF, Value.ownBlock] at hb
  obtain ⟨G, h, rfl, HG, hG, hGh, hh, HO, HZ, HK⟩ := hcut
  obtain ⟨x0, x1⟩ := (HF.out.same HK.out).top.all2
  clear HB0 HK0
  go_wp2_with fail
  go_loopw [25] (fun i wr => ∃ (k : Nat), k ≤ n ∧ i = .int .i64 k ∧ Hid (Blk wr G 25 [.slice (some ⟨h, 0, none⟩) n n, .int .i64 hand]) ∧ Hid (OwnR kFrame 0 36 5 wr (.slice (some ⟨h, 0, none⟩) n n) (qs.take k ++ List.replicate (n - k) zF)) ∧
      Hid (Blk wr w.heap.size 25 [.slice none 0 0, .int .i64 0]) ∧ Hid (Same w wr)) (fun i _ => n - (intOf i).toNat)
  case atStart => exact ⟨0, Nat.zero_le _, rfl, HG, by simpa using HO, HZ, HK⟩
  case round =>
    obtain ⟨k, hk, rfl, HGr, HOr, HZr, HKr⟩ := hrel
    have HFr := (show Hid (FP wr P hand g n cap bl qs) from HF.out.same HKr.out)
    clear x0 x1
    by_cases hlt : k < n
    · obtain ⟨bk, p, hbk, hpk, hck, hb⟩ := HFr.out.at k hlt
      have HBK : Hid (bl[k]? = some bk) := hbk
      have HPK : Hid (qs[k]? = some p) := hpk
      have hdat : Own 0 5 .u8 wr p.v p.bs := HFr.out.ptr.data p (List.mem_of_getElem? hpk)
      have HDP := hid hdat
      have hbl : bk < w.heap.size := HF.out.ptr.lt bk (.inl (List.mem_of_getElem? hbk))
      have hlq : k < qs.length := (List.getElem?_eq_some_iff.1 hpk).1
      have hlen := HF.out.len
      have HNE : Hid (∀ b, p.v.ownBlock = some b → ¬ footR kFrame (.slice (some ⟨h, 0, none⟩) n n) (qs.take k ++ zF :: List.replicate (n - (k + 1)) zF) b) := fun b hb hf => by
        have hbw : b < w.heap.size := HF.out.ptr.lt b (.inr ⟨p, List.mem_of_getElem? HPK.out, hb⟩)
        rcases hf with hf | ⟨q, hq, hf⟩
        · simp [Value.ownBlock] at hf; omega
        · rcases List.mem_append.1 hq with hq | hq
          · obtain ⟨j, hj⟩ := List.getElem?_of_mem hq
            have hjl : j < k := by have := (List.getElem?_eq_some_iff.1 hj).1; rw [List.length_take] at this; omega
            rw [List.getElem?_take_of_lt hjl] at hj
            have := HF.out.ptr.each j k q p b hj HPK.out hf hb
            omega
          · have hz : q = zF := by
              rcases List.mem_cons.1 hq with rfl | hq
              · rfl
              · exact List.eq_of_mem_replicate hq
            rw [hz] at hf
            simp [kFrame, zF, Value.ownBlock] at hf
      have HE : Hid (qs.take k ++ List.replicate (n - k) zF = qs.take k ++ zF :: List.replicate (n - (k + 1)) zF) := by
        unfold Hid
        rw [show n - k = (n - (k + 1)) + 1 from by omega, List.replicate_succ]
      have HT : Hid (qs.take (k + 1) = qs.take k ++ [p]) := by
        unfold Hid
        rw [List.take_succ_eq_append_getElem hlq]
        have := List.getElem?_eq_some_iff.1 HPK.out
        rw [this.2]
      have HTL : Hid ((qs.take k).length = k) := by simp [Hid]; omega
      clear hlen hlq hbk hpk
      obtain ⟨pg, pv, fb, pn, dt, rl, rf⟩ := p
      obtain ⟨a1, n1, c1, e1⟩ := slice_of_own hdat
      dsimp only at e1
      subst e1
      clear hdat
      have HBL := (show Hid (Blk wr bk 36 [.int .i64 pg, .slice a1 n1 c1, .int .i64 pn, .bool dt, .int .i64 rl, .bool rf]) from hb)
      clear hb
      have hki : (k : Int) < (n : Int) := by omega
      go_wp2_with fail
      obtain ⟨y0, y1⟩ := HGr.out.all2
      obtain ⟨c0, c1', c2, c3, c4, c5⟩ := HBL.out.all6
      have ho := HOr.out
      rw [HE.out] at ho
      have fh := ho.frozen (by simp [HTL.out]; omega)
      have hcells : ∀ i, i < 6 → wr.cell? ⟨h, k * 6 + i, none⟩ = (kFrame.cells zF)[i]? := fun i hi => ho.cellMid (by simp [HTL.out]; omega) i hi _ (by rw [HTL.out]; rfl)
      have u0 : wr.cell? ⟨h, k * 6, none⟩ = some (.int .i64 0) := hcells 0 (by decide)
      have u1 : wr.cell? ⟨h, k * 6 + 1, none⟩ = some (.slice none 0 0) := hcells 1 (by decide)
      have u2 : wr.cell? ⟨h, k * 6 + 2, none⟩ = some (.int .i64 0) := hcells 2 (by decide)
      have u3 : wr.cell? ⟨h, k * 6 + 3, none⟩ = some (.bool false) := hcells 3 (by decide)
      have u4 : wr.cell? ⟨h, k * 6 + 4, none⟩ = some (.int .i64 0) := hcells 4 (by decide)
      have u5 : wr.cell? ⟨h, k * 6 + 5, none⟩ = some (.bool false) := hcells 5 (by decide)
      have HO2 := hid ho
      clear ho hcells
      have hS : (fun wx : World => wx.cell? ⟨G, 0, none⟩ = some (.slice (some ⟨h, 0, none⟩) n n) ∧ wx.cell? ⟨bk, 0, none⟩ = some (.int .i64 pg) ∧ wx.cell? ⟨bk, 1, none⟩ = some (.slice a1 n1 c1) ∧ wx.cell? ⟨bk, 2, none⟩ = some (.int .i64 pn) ∧ wx.cell? ⟨bk, 3, none⟩ = some (.bool dt) ∧ wx.cell? ⟨bk, 4, none⟩ = some (.int .i64 rl) ∧ wx.cell? ⟨bk, 5, none⟩ = some (.bool rf)) wr.drew := ⟨y0, c0, c1', c2, c3, c4, c5⟩
      refine wp_region_V (fun wx : World => wx.cell? ⟨G, 0, none⟩ = some (.slice (some ⟨h, 0, none⟩) n n) ∧ wx.cell? ⟨bk, 0, none⟩ = some (.int .i64 pg) ∧ wx.cell? ⟨bk, 1, none⟩ = some (.slice a1 n1 c1) ∧ wx.cell? ⟨bk, 2, none⟩ = some (.int .i64 pn) ∧ wx.cell? ⟨bk, 3, none⟩ = some (.bool dt) ∧ wx.cell? ⟨bk, 4, none⟩ = some (.int .i64 rl) ∧ wx.cell? ⟨bk, 5, none⟩ = some (.bool rf)) 7 8 rfl (by kernel_rfl) ?_
      refine tk 0 30 hS ?_
      refine tk 1 31 hS ?_
      refine tk 2 32 hS ?_
      refine tk 3 33 hS ?_
      refine tk 4 34 hS ?_
      refine tk 5 35 hS ?_
      refine wpAnyV_one (i := 6) (by kernel_rfl) rfl (fun K hK => ?_)
      go_simp
      refine hK.out _ _ (fun _ => hS) ?_
      clear hK K
      try simp only [Act.put, sA, s0, sS]
      refine wpAnyV_one (i := 7) (by kernel_rfl) rfl (fun K hK => ?_)
      go_simp
      refine hK.out _ _ (fun h => absurd rfl h) ?_
      clear hK K
      refine wpAnyV_done (by kernel_rfl) ?_
      try simp only [Act.put, sA, s0, sS]
      have HEL := (show Hid (OwnR kFrame 0 36 5 (wr.setCells h (k * 6) [.int .i64 pg, .slice a1 n1 c1, .int .i64 pn, .bool dt, .int .i64 rl, .bool rf]) (.slice (some ⟨h, 0, none⟩) n n) (qs.take k ++ (⟨pg, .slice a1 n1 c1, fb, pn, dt, rl, rf⟩ : EFrame) :: List.replicate (n - (k + 1)) zF)) from
        OwnR.setElem (p' := (⟨pg, .slice a1 n1 c1, fb, pn, dt, rl, rf⟩ : EFrame)) HO2.out (by simp [HTL.out]; omega) (k * 6) (by rw [HTL.out]; rfl) HDP.out HNE.out)
      have HST := (show Hid (Kept (fun b => b = h) wr (wr.setCells h (k * 6) [.int .i64 pg, .slice a1 n1 c1, .int .i64 pn, .bool dt, .int .i64 rl, .bool rf])) from Kept.setCells (R := fun b => b = h) (.inr rfl) _ _ (Kept.refl _ _))
      clear u0 u1 u2 u3 u4 u5 c0 c1' c2 c3 c4 c5 y0 y1 hS fh hck
      go_wp2_with fail
      go_roundw
      case rel =>
        refine ⟨k + 1, by omega, by go_num, (HGr.out.kept HST.out hGh).drew, ?_, (HZr.out.kept HST.out (by intro e; omega)).drew, (HKr.out.next HST.out (fun i hi e => by omega)).drew⟩
        have h1 := HEL.out.same (Kept.refl (fun _ => False) _).drew
        rw [show qs.take k ++ (⟨pg, .slice a1 n1 c1, fb, pn, dt, rl, rf⟩ : EFrame) :: List.replicate (n - (k + 1)) zF = qs.take (k + 1) ++ List.replicate (n - (k + 1)) zF from by rw [HT.out]; simp] at h1
        exact h1
      case measure => simp [intOf]; omega
    · obtain rfl : n = k := by omega
      obtain ⟨y0, y1⟩ := HGr.out.all2
      obtain ⟨z0, z1⟩ := HZr.out.all2
      have fz := HZr.out.frozen
      have lz := HZr.out.lt
      go_wp2
      have ho := HOr.out
      rw [Nat.sub_self, List.replicate_zero, List.append_nil, List.take_of_length_le (by rw [← HF.out.len]; exact Nat.le_refl _)] at ho
      have hst : Kept (fun b => b = w.heap.size) wr ((wr.setCell ⟨w.heap.size, 0, none⟩ (.slice (some ⟨h, 0, none⟩) n n)).setCell ⟨w.heap.size, 1, none⟩ (.int .i64 hand)) := Kept.setCell (R := fun b => b = w.heap.size) (Kept.setCell (R := fun b => b = w.heap.size) (Kept.refl _ _) (p := ⟨w.heap.size, 0, none⟩) (.inr rfl) _) (p := ⟨w.heap.size, 1, none⟩) (.inr rfl) _
      refine bodyPost_ret (v := .agg #[.slice (some ⟨h, 0, none⟩) n n, .int .i64 hand]) (by simp [results, Try.results49, go_sem, z0, z1]) rfl ⟨_, _, _, rfl, ho.kept hst ?_, ?_, HKr.out.next hst (fun i hi e => by omega)⟩
      · intro b hb e
        rcases hb with hb | hb
        · simp [Value.ownBlock] at hb; omega
        · have := HF.out.ptr.lt b (.inr hb)
          omega
      · intro b hb
        rcases hb with hb | hb
        · simp [Value.ownBlock] at hb; exact .inl (by omega)
        · exact .inr (.inr hb)
end Go.Proofs.Ytbbllmlokddolaa

namespace Go.Proofs.Ytbbllmlokddolaa
set_option maxRecDepth 100000
set_option maxHeartbeats 4000000
open Go.RowKit
set_option linter.unusedVariables false
set_option linter.unusedSimpArgs false
theorem idx_find (page : Int) (ps : List EFrame) (k : Nat) : idxFrom (fun p => p.page == page) k ps = findFrom page k ps := by
  induction ps generalizing k with
  | nil => rfl
  | cons p ps ih =>
    by_cases h : p.page = page
    · rw [show idxFrom (fun p => p.page == page) k (p :: ps) = k from if_pos (by simpa using h), show findFrom page k (p :: ps) = k from if_pos h]
    · rw [show idxFrom (fun p => p.page == page) k (p :: ps) = idxFrom (fun p => p.page == page) (k + 1) ps from if_neg (by simpa using h), show findFrom page k (p :: ps) = findFrom page (k + 1) ps from if_neg h]
      exact ih (k + 1)
theorem findFrom_none {page : Int} {ps : List EFrame} (k : Nat) (h : ∀ p ∈ ps, p.page ≠ page) : findFrom page k ps = -1 := by
  induction ps generalizing k with
  | nil => rfl
  | cons p ps ih =>
    rw [show findFrom page k (p :: ps) = findFrom page (k + 1) ps from if_neg (h p (by simp))]
    exact ih (k + 1) (fun q hq => h q (by simp [hq]))
theorem poolF_any3 {ps : List EFrame} {hand : Int} (h : poolF ps hand = 0) : ∀ p ∈ ps, bad3 p = false := by
  obtain ⟨h1, h2, h3, h4⟩ := poolF_len h
  unfold poolF at h
  rw [if_neg (by omega), if_neg (by omega)] at h
  have hb : ps.any bad3 = false := by
    cases hx : ps.any bad3 with
    | false => rfl
    | true => rw [hx] at h; simp at h
  intro p hp
  cases hx : bad3 p with
  | false => rfl
  | true => rw [List.any_eq_true.2 ⟨p, hp, hx⟩] at hb; cases hb
theorem findP_eq (ps : List EFrame) (hand page : Int) : findP ps hand page = if poolF ps hand ≠ 0 ∨ isPageB page = false then -1 else findFrom page 0 ps := by
  unfold findP
  by_cases h0 : poolF ps hand ≠ 0
  · rw [if_pos (.inl h0), if_pos (.inl h0)]
  · have h1 : poolF ps hand = 0 := Classical.not_not.1 h0
    by_cases hp : page = -1
    · rw [if_pos (.inr hp), if_pos (.inr (by rw [hp]; rfl))]
    · rw [if_neg (by simp [h1, hp])]
      by_cases h2 : isPageB page = false
      · rw [if_pos (.inr h2)]
        refine findFrom_none 0 (fun p hpm e => ?_)
        unfold isPageB at h2
        rcases pageOK_of (poolF_any3 h1 p hpm) with h | ⟨x, h, hx⟩
        · omega
        · have h3 : page = (x : Int) := by omega
          rw [h3] at h2
          simp at h2
          omega
      · rw [if_neg (by simp [h1, h2])]
theorem find1_any (page : Int) (P : Nat) (p : EFrame) (a : Option Addr) (c : Nat) (w : World) (hv : p.v = .slice a p.bs.length c) (hb : Blk w P 2 [.int .i64 page]) :
    Calls Try.prog 29 #[.agg #[.int .i64 p.page, p.v, .int .i64 p.pins, .bool p.dirty, .int .i64 p.rl, .bool p.rf], .pointer (some ⟨P, 0, none⟩)] w fun e w' => e = .returned (.bool (p.page == page)) ∧ Same w w' := by
  rw [hv]
  have hc := hb.c0
  have hl := hb.lt
  clear hb
  go_enter Try.func29, Try.ntmps29
  go_wp2
  go_ret
  exact ⟨rfl, (Kept.refl _ _).alloc _⟩
theorem enters_f1 : Enters 29 := fun args wx => by simp [callFunc, go_sem, Try.func29, Try.f29]
theorem implPoolFind_any (v : Value) (hand page : Int) (ps : List EFrame) (w : World) (hv : RdR kFrame w v ps) :
    Calls Try.prog 8 #[.agg #[v, .int .i64 hand], .int .i64 page] w fun e w' => e = .returned (.int .i64 (findP ps hand page)) ∧ Same w w' := by
  obtain ⟨a, c, rfl⟩ := hv.form
  have HV := (show Hid (RdR kFrame w (.slice a ps.length c) ps) from hv)
  clear hv
  have hk0 : Same w ((w.alloc (.cells #[.slice a ps.length c, .int .i64 hand] 25)).alloc (.cells #[.int .i64 page] 2)) := ((Kept.refl _ _).alloc _).alloc _
  have HB0 := (show Hid (Blk ((w.alloc (.cells #[.slice a ps.length c, .int .i64 hand] 25)).alloc (.cells #[.int .i64 page] 2)) w.heap.size 25 [.slice a ps.length c, .int .i64 hand]) from Blk.newA w [.slice a ps.length c, .int .i64 hand] 25 [.int .i64 page] 2)
  have HB1 := (show Hid (Blk ((w.alloc (.cells #[.slice a ps.length c, .int .i64 hand] 25)).alloc (.cells #[.int .i64 page] 2)) (w.heap.size + 1) 2 [.int .i64 page]) from Blk.newB w [.slice a ps.length c, .int .i64 hand] 25 [.int .i64 page] 2)
  have k0 := implPoolFault_any (.slice a ps.length c) hand ps _ (HV.out.same hk0)
  have HK0 := (show Hid (Same w _) from hk0)
  have kp := isPage_eq page
  have ki := fun (wx : World) (h : Same w wx) (hb : Blk wx (w.heap.size + 1) 2 [.int .i64 page]) => indexF1_any 29 (.pointer (some ⟨w.heap.size + 1, 0, none⟩)) (fun p => p.page == page) (.slice a ps.length c) ps wx (HV.out.same h) enters_f1 (fun p wy a1 c1 hp he hk => find1_any page (w.heap.size + 1) p a1 c1 wy he (hb.same hk))
  rw [idx_find] at ki
  have hmf : ∀ (fn : Fn) (first cap : Array Value) (w : World), (Instr.makeFunc fn first cap).run Try.prog w = .ok (.func fn first cap) w := fun _ _ _ _ => rfl
  obtain ⟨R, hR⟩ : ∃ R, findP ps hand page = R := ⟨_, rfl⟩
  rw [hR]
  rw [findP_eq] at hR
  obtain ⟨q, hq⟩ : ∃ q, poolF ps hand = q := ⟨_, rfl⟩
  rw [hq] at hR k0
  clear hq hk0
  by_cases h0 : q = 0
  · subst h0
    cases hp : isPageB page with
    | false =>
      rw [hp] at kp hR
      rw [if_pos (.inr rfl)] at hR
      subst hR
      go_enter Try.func8, Try.ntmps8
      go_wp2_with fail
      refine k0.mono ?_
      rintro e w1 ⟨rfl, hk1⟩
      have HK1 := (show Hid (Same w w1) from HK0.out.trans hk1)
      have g1 := (HB1.out.same hk1).c0
      go_wp2_with fail
      refine (kp _).mono ?_
      rintro e w2 ⟨rfl, rfl⟩
      go_wp2
      go_ret
      exact ⟨rfl, HK1.out⟩
    | true =>
      rw [hp] at kp hR
      rw [if_neg (by simp)] at hR
      rw [hR] at ki
      clear hR
      go_enter Try.func8, Try.ntmps8
      go_wp2_with fail
      refine k0.mono ?_
      rintro e w1 ⟨rfl, hk1⟩
      have HK1 := (show Hid (Same w w1) from HK0.out.trans hk1)
      have HB11 := (show Hid (Blk w1 (w.heap.size + 1) 2 [.int .i64 page]) from HB1.out.same hk1)
      have g1 := (HB1.out.same hk1).c0
      obtain ⟨g2, g3⟩ := (HB0.out.same hk1).all2
      clear hk1
      go_wp2_with fail
      refine (kp _).mono ?_
      rintro e w2 ⟨rfl, rfl⟩
      go_wp2_with fail
      refine (ki _ HK1.out HB11.out).mono ?_
      rintro e w3 ⟨rfl, hk3⟩
      go_wp2
      go_ret
      exact ⟨rfl, HK1.out.trans hk3⟩
  · rw [if_pos (.inl h0)] at hR
    subst hR
    go_enter Try.func8, Try.ntmps8
    go_wp2_with fail
    refine k0.mono ?_
    rintro e w1 ⟨rfl, hk1⟩
    have HK1 := (show Hid (Same w w1) from HK0.out.trans hk1)
    go_wp2
    go_ret
    exact ⟨rfl, HK1.out⟩
end Go.Proofs.Ytbbllmlokddolaa

namespace Go.Proofs.Ytbbllmlokddolaa
set_option maxRecDepth 100000
set_option maxHeartbeats 4000000
open Go.RowKit
set_option linter.unusedVariables false
set_option linter.unusedSimpArgs false
def AsksP (fid : FuncId) (x : Value) (f : EFrame → Bool) (w : World) (bl : List Nat) (ps : List EFrame) : Prop :=
  ∀ (k b : Nat) (p : EFrame) (wx : World), bl[k]? = some b → ps[k]? = some p → Same w wx → Calls Try.prog fid #[.pointer (some ⟨b, 0, none⟩), x] wx fun e w' => e = .returned (.bool (f p)) ∧ Same wx w'
theorem indexP_any (fid : FuncId) (x : Value) (f : EFrame → Bool) (P : Nat) (hand : Int) (g n cap : Nat) (bl : List Nat) (ps : List EFrame) (w : World) (h : FP w P hand g n cap bl ps) (hn : n ≤ 16) (hent : Enters fid) (hf : AsksP fid x f w bl ps) :
    Calls Try.prog 59 #[.slice (some ⟨g, 0, none⟩) n cap, .func (.func fid) #[] #[x]] w fun e w' => e = .returned (.int .i64 (idxFrom f 0 ps)) ∧ Same w w' := by
  have HF := (show Hid (FP w P hand g n cap bl ps) from h)
  have HA0 := (show Hid (AsksP fid x f w bl ps) from hf)
  obtain ⟨R, hR⟩ : ∃ R, idxFrom f 0 ps = R := ⟨_, rfl⟩
  have HR : Hid (idxFrom f 0 (ps.drop 0) = R) := by rw [List.drop_zero]; exact hR
  rw [hR]
  clear h hf hR
  have hent' : ∀ (args : Array Value) (wx : World), (callFunc fid args).run Try.prog wx = .ok (.enter fid args) wx := hent
  clear hent
  go_enter Try.func59, Try.ntmps59
  go_wp2
  go_loopw [8] (fun i wr => ∃ k : Nat, k ≤ n ∧ i = .int .i64 k ∧ Hid (idxFrom f k (ps.drop k) = R) ∧ Hid (Same w wr)) (fun i _ => n - (intOf i).toNat)
  case atStart => exact ⟨0, Nat.zero_le _, rfl, HR, Kept.refl _ _⟩
  case round =>
    obtain ⟨k, hk, rfl, HA, HK⟩ := hrel
    by_cases hlt : k < n
    · obtain ⟨bk, p, hbk, hpk, hck, hb⟩ := (HF.out.same HK.out).at k hlt
      have hlp : k < ps.length := (List.getElem?_eq_some_iff.1 hpk).1
      have kf := HA0.out k bk p wr hbk hpk HK.out
      have HA2 : Hid ((if f p = true then (k : Int) else idxFrom f (k + 1) (ps.drop (k + 1))) = R) := by
        have h := HA.out
        rw [idxFrom_at hlp, (List.getElem?_eq_some_iff.1 hpk).2] at h
        exact h
      clear hb hbk hpk hlp
      have hki : (k : Int) < (n : Int) := by omega
      cases hb : f p with
      | true =>
        have HE : Hid ((k : Int) = R) := by have h := HA2.out; rw [if_pos hb] at h; exact h
        rw [hb] at kf
        clear HA2 HA hb
        go_wp2_with fail
        refine kf.mono ?_
        rintro e w1 ⟨rfl, hk1⟩
        have HK1 := (show Hid (Same w w1) from HK.out.trans hk1)
        clear kf hk1 hck
        go_wp2
        go_ret
        exact ⟨by rw [← HE.out]; rfl, HK1.out⟩
      | false =>
        have HE : Hid (idxFrom f (k + 1) (ps.drop (k + 1)) = R) := by have h := HA2.out; rw [if_neg (by simp [hb])] at h; exact h
        rw [hb] at kf
        clear HA2 HA hb
        go_wp2_with fail
        refine kf.mono ?_
        rintro e w1 ⟨rfl, hk1⟩
        have HK1 := (show Hid (Same w w1) from HK.out.trans hk1)
        clear kf hk1 hck
        go_wp2
        go_roundw
        case rel => exact ⟨k + 1, by omega, by go_num, HE, HK1⟩
        case measure => simp [intOf]; omega
    · obtain rfl : n = k := by omega
      have he : (-1 : Int) = R := by have h := HA.out; rw [HF.out.len, idxFrom_end] at h; exact h
      go_wp2
      go_ret
      exact ⟨by rw [← he]; rfl, HK.out⟩
theorem first1_any (page : Int) (C b : Nat) (p : EFrame) (w : World) (hb : Blk w b 36 (kFrame.cells p)) (hc : Blk w C 2 [.int .i64 page]) :
    Calls Try.prog 60 #[.pointer (some ⟨b, 0, none⟩), .pointer (some ⟨C, 0, none⟩)] w fun e w' => e = .returned (.bool (p.page == page)) ∧ Same w w' := by
  have c0 := hb.c0
  have c1 := hc.c0
  clear hb hc
  go_enter Try.func60, Try.ntmps60
  go_wp2_with fail
  have hS : (fun wx : World => wx.cell? ⟨b, 0, none⟩ = some (.int .i64 p.page) ∧ wx.cell? ⟨C, 0, none⟩ = some (.int .i64 page)) w.drew := ⟨c0, c1⟩
  refine wp_region_V (fun wx : World => wx.cell? ⟨b, 0, none⟩ = some (.int .i64 p.page) ∧ wx.cell? ⟨C, 0, none⟩ = some (.int .i64 page)) 6 7 rfl (by kernel_rfl) ?_
  refine tk 0 4 hS ?_
  refine tk 1 5 hS ?_
  refine tk 2 6 hS ?_
  refine tk 3 7 hS ?_
  refine tk 4 8 hS ?_
  refine tk 5 9 hS ?_
  refine wpAnyV_one (i := 6) (by kernel_rfl) rfl (fun K hK => ?_)
  go_simp
  refine hK.out _ _ (fun h => absurd rfl h) ?_
  clear hK K
  refine wpAnyV_done (by kernel_rfl) ?_
  try simp only [Act.put, sA, s0, sS]
  go_wp2
  go_ret
  exact ⟨rfl, (Kept.refl _ _).drew⟩
theorem enters_p1 : Enters 60 := fun args wx => by simp [callFunc, go_sem, Try.func60, Try.f60]
theorem first_any (page : Int) (P : Nat) (hand : Int) (g n cap : Nat) (bl : List Nat) (ps : List EFrame) (w : World) (h : FP w P hand g n cap bl ps) (hn : n ≤ 16) :
    Calls Try.prog 50 #[.pointer (some ⟨P, 0, none⟩), .int .i64 page] w fun e w' => e = .returned (.int .i64 (findFrom page 0 ps)) ∧ Same w w' := by
  have hk0 : Same w (w.alloc (.cells #[.int .i64 page] 2)) := (Kept.refl _ _).alloc _
  have hbC : Blk (w.alloc (.cells #[.int .i64 page] 2)) w.heap.size 2 [.int .i64 page] := Blk.newL w [.int .i64 page] 2
  have k0 := indexP_any 60 (.pointer (some ⟨w.heap.size, 0, none⟩)) (fun p => p.page == page) P hand g n cap bl ps _ (h.same hk0) hn enters_p1 (fun k b p wx hb hp hk => first1_any page w.heap.size b p wx ((h.ptr.blk k b p hb hp).same (hk0.trans hk)) (hbC.same hk))
  rw [idx_find] at k0
  obtain ⟨x0, x1⟩ := h.top.all2
  have hPl := h.top.lt
  have hmf : ∀ (fn : Fn) (first cap : Array Value) (w : World), (Instr.makeFunc fn first cap).run Try.prog w = .ok (.func fn first cap) w := fun _ _ _ _ => rfl
  have HK0 := hid hk0
  clear h hbC hk0
  generalize findFrom page 0 ps = R at k0 ⊢
  go_enter Try.func50, Try.ntmps50
  go_wp2_with fail
  refine k0.mono ?_
  rintro e w1 ⟨rfl, hk1⟩
  go_wp2
  go_ret
  exact ⟨rfl, HK0.out.trans hk1⟩
def findB (page : Int) (ps : List EFrame) : Int := if isPageB page = false then -1 else findFrom page 0 ps
theorem findB_eq {ps : List EFrame} {hand : Int} (page : Int) (h : poolF ps hand = 0) : findB page ps = findP ps hand page := by
  rw [findP_eq]
  unfold findB
  simp [h]
theorem find_any (page : Int) (P : Nat) (hand : Int) (g n cap : Nat) (bl : List Nat) (ps : List EFrame) (w : World) (h : FP w P hand g n cap bl ps) (hn : n ≤ 16) :
    Calls Try.prog 52 #[.pointer (some ⟨P, 0, none⟩), .int .i64 page] w fun e w' => e = .returned (.int .i64 (findB page ps)) ∧ Same w w' := by
  have kp := isPage_eq page
  have k0 := first_any page P hand g n cap bl ps w h hn
  unfold findB
  clear h
  generalize findFrom page 0 ps = R at k0 ⊢
  cases hp : isPageB page with
  | false =>
    rw [hp] at kp
    go_enter Try.func52, Try.ntmps52
    go_wp2_with fail
    refine (kp _).mono ?_
    rintro e w1 ⟨rfl, rfl⟩
    go_wp2
    go_ret
    exact ⟨rfl, Kept.refl _ _⟩
  | true =>
    rw [hp] at kp
    go_enter Try.func52, Try.ntmps52
    go_wp2_with fail
    refine (kp _).mono ?_
    rintro e w1 ⟨rfl, rfl⟩
    go_wp2_with fail
    refine k0.mono ?_
    rintro e w2 ⟨rfl, hk2⟩
    go_wp2
    go_ret
    exact ⟨by simp, hk2⟩
end Go.Proofs.Ytbbllmlokddolaa

namespace Go.Proofs.Ytbbllmlokddolaa
set_option maxRecDepth 100000
set_option maxHeartbeats 4000000
open Go.RowKit
set_option linter.unusedVariables false
set_option linter.unusedSimpArgs false
theorem findB_lt {page : Int} {ps : List EFrame} (h : findB page ps ≠ -1) : ∃ j : Nat, findB page ps = (j : Int) ∧ j < ps.length := by
  unfold findB at h ⊢
  by_cases hp : isPageB page = false
  · rw [if_pos hp] at h; exact absurd rfl h
  rw [if_neg hp] at h ⊢
  by_cases h0 : findFrom page 0 ps < 0
  · exfalso
    have key : ∀ (qs : List EFrame) (k : Nat), findFrom page k qs = -1 ∨ 0 ≤ findFrom page k qs := fun qs => by
      induction qs with
      | nil => exact fun k => .inl rfl
      | cons q qs ih =>
        intro k
        by_cases hq : q.page = page
        · rw [show findFrom page k (q :: qs) = k from if_pos hq]; exact .inr (by omega)
        · rw [show findFrom page k (q :: qs) = findFrom page (k + 1) qs from if_neg hq]; exact ih (k + 1)
    rcases key ps 0 with h1 | h1
    · exact h h1
    · omega
  · obtain ⟨j, e, _, hj⟩ := findFrom_lt ps 0 h0
    exact ⟨j, e, by omega⟩
section
variable {w : World} {P : Nat} {hand : Int} {g n cap : Nat} {bl : List Nat} {ps : List EFrame}
theorem FP.storeOwn {k b i : Nat} {p p' : EFrame} {u : Value} (h : FP w P hand g n cap bl ps) (hb : bl[k]? = some b) (hp : ps[k]? = some p) (hc : kFrame.cells p' = (kFrame.cells p).set i u) (hv : p'.v = p.v) (hs : p'.bs = p.bs) :
    FP (w.setCell ⟨b, i, none⟩ u) P hand g n cap bl (ps.set k p') := by
  have hbm : b ∈ bl := List.mem_of_getElem? hb
  have hk : Kept (fun x => x = b) w (w.setCell ⟨b, i, none⟩ u) := Kept.setCell (R := fun x => x = b) (Kept.refl _ _) (p := ⟨b, i, none⟩) (.inr rfl) _
  refine ⟨h.top.kept hk (fun e => h.outP (.inl (e ▸ hbm))), by rw [List.length_set]; exact h.len, hk.owns h.row (fun x hx e => h.outg (.inl (by simp [Value.ownBlock] at hx; rw [hx, e]; exact hbm))), h.ptr.storeOwn hb hp hc hv hs, h.pg, fun hf => h.outP (footS_set hp hv _ hf), fun hf => h.outg (footS_set hp hv _ hf)⟩
end
theorem set_again {ps : List EFrame} {k : Nat} (h : k < ps.length) (p : EFrame) : (ps.set k p)[k]? = some p := List.getElem?_set_self h
theorem dat_set (ps : List EFrame) (k : Nat) (p : EFrame) : datFrameS (ps.set k p) = (datFrameS ps).set k p.dat := by unfold datFrameS; rw [List.map_set]
theorem dat_at {ps : List EFrame} {k : Nat} {p : EFrame} (h : ps[k]? = some p) : (datFrameS ps)[k]? = some p.dat := by unfold datFrameS; rw [List.getElem?_map, h]; rfl
def pinT (page : Int) (ps : List EFrame) : Int × Int × List (Int × List Int × Int × Bool × Int × Bool) :=
  if findB page ps = -1 then (2, 0, datFrameS ps) else
  match (datFrameS ps)[(findB page ps).toNat]? with
  | none => (0, 0, [])
  | some d => if 2147483647 ≤ d.2.2.1 then (3, 0, datFrameS ps) else (0, findB page ps, (datFrameS ps).set (findB page ps).toNat (d.1, d.2.1, d.2.2.1 + 1, d.2.2.2.1, d.2.2.2.2.1, true))
theorem pinM_any (page : Int) (P : Nat) (hand : Int) (g n cap : Nat) (bl : List Nat) (ps : List EFrame) (w : World) (h : FP w P hand g n cap bl ps) (hn : n ≤ 16) (hpin : ∀ p ∈ ps, 0 ≤ p.pins ∧ p.pins ≤ 2147483647) :
    Calls Try.prog 36 #[.pointer (some ⟨P, 0, none⟩), .int .i64 page] w fun e w' => ∃ fr cd bl' qs', e = .returned (.tuple #[.int .i64 fr, .int .i64 cd]) ∧ FP w' P hand g n cap bl' qs' ∧ (cd, fr, datFrameS qs') = pinT page ps ∧ (∀ b, footS kFrame bl' qs' b → footS kFrame bl ps b ∨ w.heap.size ≤ b) ∧ Kept (footFP P g bl ps) w w' := by
  have k0 := find_any page P hand g n cap bl ps w h hn
  have HF := (show Hid (FP w P hand g n cap bl ps) from h)
  obtain ⟨fi, hfi⟩ : ∃ x, findB page ps = x := ⟨_, rfl⟩
  have HFI : Hid (findB page ps = fi) := hfi
  rw [hfi] at k0
  by_cases h1 : fi = -1
  · subst h1
    clear h hpin hfi
    go_enter Try.func36, Try.ntmps36
    go_wp2_with fail
    refine k0.mono ?_
    rintro e w1 ⟨rfl, hk1⟩
    go_wp2
    go_ret2
    exact ⟨0, 2, bl, ps, rfl, HF.out.same hk1, by unfold pinT; rw [HFI.out, if_pos rfl], fun b hb => .inl hb, hk1.mono (fun _ _ e => e.elim)⟩
  obtain ⟨k, hk, hkl⟩ := findB_lt (by rw [hfi]; exact h1)
  obtain rfl : fi = (k : Int) := by rw [← hfi]; exact hk
  have hkn : k < n := by rw [h.len]; exact hkl
  obtain ⟨bk, p, hbk, hpk, hck, hb⟩ := h.at k hkn
  have hpp := hpin p (List.mem_of_getElem? hpk)
  have hdat := h.ptr.data p (List.mem_of_getElem? hpk)
  have HBK : Hid (bl[k]? = some bk) := hbk
  have HPK : Hid (ps[k]? = some p) := hpk
  have HIN : Hid (footFP P g bl ps bk) := .inr (.inr (.inl (List.mem_of_getElem? hbk)))
  obtain ⟨pg, pv, fb, pn, dt, rl, rf⟩ := p
  obtain ⟨a1, n1, c1, e1⟩ := slice_of_own (show Own 0 5 .u8 w pv fb from hdat)
  subst e1
  have HB := (show Hid (Blk w bk 36 [.int .i64 pg, .slice a1 n1 c1, .int .i64 pn, .bool dt, .int .i64 rl, .bool rf]) from hb)
  obtain ⟨x0, x1⟩ := h.top.all2
  dsimp only at hpp
  have HT : Hid (pinT page ps = if 2147483647 ≤ pn then (3, 0, datFrameS ps) else (0, (k : Int), (datFrameS ps).set k (pg, fb, pn + 1, dt, rl, true))) := by
    unfold pinT Hid
    rw [HFI.out, if_neg h1, Int.toNat_natCast, dat_at HPK.out]
    rfl
  have hki : (k : Int) < (n : Int) := by omega
  clear hb hdat hpin hbk hpk hfi hk
  by_cases h2 : 2147483647 ≤ pn
  · have HH := hid h2
    go_enter Try.func36, Try.ntmps36
    go_wp2_with fail
    refine k0.mono ?_
    rintro e w1 ⟨rfl, hk1⟩
    have HK1 := (show Hid (Same w w1) from hk1)
    have HB1 := hid (HB.out.same hk1)
    obtain ⟨c0, c1', c2, c3, c4, c5⟩ := HB1.out.all6
    have fz := HB1.out.frozen
    have y0 : w1.cell? ⟨P, 0, none⟩ = some (.slice (some ⟨g, 0, none⟩) n cap) := hk1.cellOf x0 id
    have yk : w1.cell? ⟨g, k, none⟩ = some (.pointer (some ⟨bk, 0, none⟩)) := hk1.cellOf hck id
    clear hk1 x0 x1 hck
    go_wp2
    go_ret2
    exact ⟨0, 3, bl, ps, rfl, HF.out.same HK1.out, by rw [HT.out, if_pos HH.out], fun b hb => .inl hb, HK1.out.mono (fun _ _ e => e.elim)⟩
  have HH := hid h2
  have hwp : IntKind.i64.wrap (pn + 1) = pn + 1 := by rw [IntKind.wrap_i64]; omega
  go_enter Try.func36, Try.ntmps36
  go_wp2_with fail
  refine k0.mono ?_
  rintro e w1 ⟨rfl, hk1⟩
  have HK1 := (show Hid (Same w w1) from hk1)
  have HB1 := hid (HB.out.same hk1)
  obtain ⟨c0, c1', c2, c3, c4, c5⟩ := HB1.out.all6
  have fz := HB1.out.frozen
  have y0 : w1.cell? ⟨P, 0, none⟩ = some (.slice (some ⟨g, 0, none⟩) n cap) := hk1.cellOf x0 id
  have yk : w1.cell? ⟨g, k, none⟩ = some (.pointer (some ⟨bk, 0, none⟩)) := hk1.cellOf hck id
  clear hk1 x0 x1 hck
  go_wp2
  go_ret2
  have f0 := FP.storeOwn (i := 2) (u := .int .i64 (pn + 1)) (p' := (⟨pg, .slice a1 n1 c1, fb, pn + 1, dt, rl, rf⟩ : EFrame)) (HF.out.same HK1.out) HBK.out HPK.out rfl rfl rfl
  have f1 := FP.storeOwn (i := 5) (u := .bool (true)) (p' := (⟨pg, .slice a1 n1 c1, fb, pn + 1, dt, rl, true⟩ : EFrame)) f0 HBK.out (set_again (by exact hkl) _) rfl rfl rfl
  refine ⟨(k : Int), 0, bl, _, rfl, f1, ?_, ?_, ?_⟩
  · rw [HT.out, if_neg (by have := HH.out; omega)]
    simp only [List.set_set, dat_set]
    rfl
  · intro b hb
    left
    rw [List.set_set] at hb
    exact footS_set (p' := (⟨pg, .slice a1 n1 c1, fb, pn + 1, dt, rl, true⟩ : EFrame)) HPK.out rfl _ hb
  · refine Kept.next (R := footFP P g bl ps) (R' := fun b => b = bk) (HK1.out.mono (fun _ _ e => e.elim)) ?_ (fun i hi e => by rw [e]; exact HIN.out)
    (iterate 2 refine Kept.setCell (R := fun b => b = bk) ?_ (.inr rfl) _)
    exact Kept.refl _ _
def unpinT (page : Int) (ps : List EFrame) : Int × Int × List (Int × List Int × Int × Bool × Int × Bool) :=
  if findB page ps = -1 then (2, 0, datFrameS ps) else
  match (datFrameS ps)[(findB page ps).toNat]? with
  | none => (0, 0, [])
  | some d => if d.2.2.1 ≤ 0 then (3, 0, datFrameS ps) else (0, findB page ps, (datFrameS ps).set (findB page ps).toNat (d.1, d.2.1, d.2.2.1 - 1, d.2.2.2.1, d.2.2.2.2.1, d.2.2.2.2.2))
theorem unpinM_any (page : Int) (P : Nat) (hand : Int) (g n cap : Nat) (bl : List Nat) (ps : List EFrame) (w : World) (h : FP w P hand g n cap bl ps) (hn : n ≤ 16) (hpin : ∀ p ∈ ps, 0 ≤ p.pins ∧ p.pins ≤ 2147483647) :
    Calls Try.prog 38 #[.pointer (some ⟨P, 0, none⟩), .int .i64 page] w fun e w' => ∃ fr cd bl' qs', e = .returned (.tuple #[.int .i64 fr, .int .i64 cd]) ∧ FP w' P hand g n cap bl' qs' ∧ (cd, fr, datFrameS qs') = unpinT page ps ∧ (∀ b, footS kFrame bl' qs' b → footS kFrame bl ps b ∨ w.heap.size ≤ b) ∧ Kept (footFP P g bl ps) w w' := by
  have k0 := find_any page P hand g n cap bl ps w h hn
  have HF := (show Hid (FP w P hand g n cap bl ps) from h)
  obtain ⟨fi, hfi⟩ : ∃ x, findB page ps = x := ⟨_, rfl⟩
  have HFI : Hid (findB page ps = fi) := hfi
  rw [hfi] at k0
  by_cases h1 : fi = -1
  · subst h1
    clear h hpin hfi
    go_enter Try.func38, Try.ntmps38
    go_wp2_with fail
    refine k0.mono ?_
    rintro e w1 ⟨rfl, hk1⟩
    go_wp2
    go_ret2
    exact ⟨0, 2, bl, ps, rfl, HF.out.same hk1, by unfold unpinT; rw [HFI.out, if_pos rfl], fun b hb => .inl hb, hk1.mono (fun _ _ e => e.elim)⟩
  obtain ⟨k, hk, hkl⟩ := findB_lt (by rw [hfi]; exact h1)
  obtain rfl : fi = (k : Int) := by rw [← hfi]; exact hk
  have hkn : k < n := by rw [h.len]; exact hkl
  obtain ⟨bk, p, hbk, hpk, hck, hb⟩ := h.at k hkn
  have hpp := hpin p (List.mem_of_getElem? hpk)
  have hdat := h.ptr.data p (List.mem_of_getElem? hpk)
  have HBK : Hid (bl[k]? = some bk) := hbk
  have HPK : Hid (ps[k]? = some p) := hpk
  have HIN : Hid (footFP P g bl ps bk) := .inr (.inr (.inl (List.mem_of_getElem? hbk)))
  obtain ⟨pg, pv, fb, pn, dt, rl, rf⟩ := p
  obtain ⟨a1, n1, c1, e1⟩ := slice_of_own (show Own 0 5 .u8 w pv fb from hdat)
  subst e1
  have HB := (show Hid (Blk w bk 36 [.int .i64 pg, .slice a1 n1 c1, .int .i64 pn, .bool dt, .int .i64 rl, .bool rf]) from hb)
  obtain ⟨x0, x1⟩ := h.top.all2
  dsimp only at hpp
  have HT : Hid (unpinT page ps = if pn ≤ 0 then (3, 0, datFrameS ps) else (0, (k : Int), (datFrameS ps).set k (pg, fb, pn - 1, dt, rl, rf))) := by
    unfold unpinT Hid
    rw [HFI.out, if_neg h1, Int.toNat_natCast, dat_at HPK.out]
    rfl
  have hki : (k : Int) < (n : Int) := by omega
  clear hb hdat hpin hbk hpk hfi hk
  by_cases h2 : pn ≤ 0
  · have HH := hid h2
    go_enter Try.func38, Try.ntmps38
    go_wp2_with fail
    refine k0.mono ?_
    rintro e w1 ⟨rfl, hk1⟩
    have HK1 := (show Hid (Same w w1) from hk1)
    have HB1 := hid (HB.out.same hk1)
    obtain ⟨c0, c1', c2, c3, c4, c5⟩ := HB1.out.all6
    have fz := HB1.out.frozen
    have y0 : w1.cell? ⟨P, 0, none⟩ = some (.slice (some ⟨g, 0, none⟩) n cap) := hk1.cellOf x0 id
    have yk : w1.cell? ⟨g, k, none⟩ = some (.pointer (some ⟨bk, 0, none⟩)) := hk1.cellOf hck id
    clear hk1 x0 x1 hck
    go_wp2
    go_ret2
    exact ⟨0, 3, bl, ps, rfl, HF.out.same HK1.out, by rw [HT.out, if_pos HH.out], fun b hb => .inl hb, HK1.out.mono (fun _ _ e => e.elim)⟩
  have HH := hid h2
  have hwp : IntKind.i64.wrap (pn - 1) = pn - 1 := by rw [IntKind.wrap_i64]; omega
  go_enter Try.func38, Try.ntmps38
  go_wp2_with fail
  refine k0.mono ?_
  rintro e w1 ⟨rfl, hk1⟩
  have HK1 := (show Hid (Same w w1) from hk1)
  have HB1 := hid (HB.out.same hk1)
  obtain ⟨c0, c1', c2, c3, c4, c5⟩ := HB1.out.all6
  have fz := HB1.out.frozen
  have y0 : w1.cell? ⟨P, 0, none⟩ = some (.slice (some ⟨g, 0, none⟩) n cap) := hk1.cellOf x0 id
  have yk : w1.cell? ⟨g, k, none⟩ = some (.pointer (some ⟨bk, 0, none⟩)) := hk1.cellOf hck id
  clear hk1 x0 x1 hck
  go_wp2
  go_ret2
  have f0 := FP.storeOwn (i := 2) (u := .int .i64 (pn - 1)) (p' := (⟨pg, .slice a1 n1 c1, fb, pn - 1, dt, rl, rf⟩ : EFrame)) (HF.out.same HK1.out) HBK.out HPK.out rfl rfl rfl
  refine ⟨(k : Int), 0, bl, _, rfl, f0, ?_, ?_, ?_⟩
  · rw [HT.out, if_neg (by have := HH.out; omega)]
    simp only [List.set_set, dat_set]
    rfl
  · intro b hb
    left
    exact footS_set (p' := (⟨pg, .slice a1 n1 c1, fb, pn - 1, dt, rl, rf⟩ : EFrame)) HPK.out rfl _ hb
  · refine Kept.next (R := footFP P g bl ps) (R' := fun b => b = bk) (HK1.out.mono (fun _ _ e => e.elim)) ?_ (fun i hi e => by rw [e]; exact HIN.out)
    (iterate 1 refine Kept.setCell (R := fun b => b = bk) ?_ (.inr rfl) _)
    exact Kept.refl _ _
def cleanT (page : Int) (ps : List EFrame) : Int × Int × List (Int × List Int × Int × Bool × Int × Bool) :=
  if findB page ps = -1 then (2, 0, datFrameS ps) else
  match (datFrameS ps)[(findB page ps).toNat]? with
  | none => (0, 0, [])
  | some d => (0, findB page ps, (datFrameS ps).set (findB page ps).toNat (d.1, d.2.1, d.2.2.1, false, 0, d.2.2.2.2.2))
theorem cleanM_any (page : Int) (P : Nat) (hand : Int) (g n cap : Nat) (bl : List Nat) (ps : List EFrame) (w : World) (h : FP w P hand g n cap bl ps) (hn : n ≤ 16) (hpin : ∀ p ∈ ps, 0 ≤ p.pins ∧ p.pins ≤ 2147483647) :
    Calls Try.prog 42 #[.pointer (some ⟨P, 0, none⟩), .int .i64 page] w fun e w' => ∃ fr cd bl' qs', e = .returned (.tuple #[.int .i64 fr, .int .i64 cd]) ∧ FP w' P hand g n cap bl' qs' ∧ (cd, fr, datFrameS qs') = cleanT page ps ∧ (∀ b, footS kFrame bl' qs' b → footS kFrame bl ps b ∨ w.heap.size ≤ b) ∧ Kept (footFP P g bl ps) w w' := by
  have k0 := find_any page P hand g n cap bl ps w h hn
  have HF := (show Hid (FP w P hand g n cap bl ps) from h)
  obtain ⟨fi, hfi⟩ : ∃ x, findB page ps = x := ⟨_, rfl⟩
  have HFI : Hid (findB page ps = fi) := hfi
  rw [hfi] at k0
  by_cases h1 : fi = -1
  · subst h1
    clear h hpin hfi
    go_enter Try.func42, Try.ntmps42
    go_wp2_with fail
    refine k0.mono ?_
    rintro e w1 ⟨rfl, hk1⟩
    go_wp2
    go_ret2
    exact ⟨0, 2, bl, ps, rfl, HF.out.same hk1, by unfold cleanT; rw [HFI.out, if_pos rfl], fun b hb => .inl hb, hk1.mono (fun _ _ e => e.elim)⟩
  obtain ⟨k, hk, hkl⟩ := findB_lt (by rw [hfi]; exact h1)
  obtain rfl : fi = (k : Int) := by rw [← hfi]; exact hk
  have hkn : k < n := by rw [h.len]; exact hkl
  obtain ⟨bk, p, hbk, hpk, hck, hb⟩ := h.at k hkn
  have hpp := hpin p (List.mem_of_getElem? hpk)
  have hdat := h.ptr.data p (List.mem_of_getElem? hpk)
  have HBK : Hid (bl[k]? = some bk) := hbk
  have HPK : Hid (ps[k]? = some p) := hpk
  have HIN : Hid (footFP P g bl ps bk) := .inr (.inr (.inl (List.mem_of_getElem? hbk)))
  obtain ⟨pg, pv, fb, pn, dt, rl, rf⟩ := p
  obtain ⟨a1, n1, c1, e1⟩ := slice_of_own (show Own 0 5 .u8 w pv fb from hdat)
  subst e1
  have HB := (show Hid (Blk w bk 36 [.int .i64 pg, .slice a1 n1 c1, .int .i64 pn, .bool dt, .int .i64 rl, .bool rf]) from hb)
  obtain ⟨x0, x1⟩ := h.top.all2
  dsimp only at hpp
  have HT : Hid (cleanT page ps = (0, (k : Int), (datFrameS ps).set k (pg, fb, pn, false, 0, rf))) := by
    unfold cleanT Hid
    rw [HFI.out, if_neg h1, Int.toNat_natCast, dat_at HPK.out]
    rfl
  have hki : (k : Int) < (n : Int) := by omega
  clear hb hdat hpin hbk hpk hfi hk
  go_enter Try.func42, Try.ntmps42
  go_wp2_with fail
  refine k0.mono ?_
  rintro e w1 ⟨rfl, hk1⟩
  have HK1 := (show Hid (Same w w1) from hk1)
  have HB1 := hid (HB.out.same hk1)
  obtain ⟨c0, c1', c2, c3, c4, c5⟩ := HB1.out.all6
  have fz := HB1.out.frozen
  have y0 : w1.cell? ⟨P, 0, none⟩ = some (.slice (some ⟨g, 0, none⟩) n cap) := hk1.cellOf x0 id
  have yk : w1.cell? ⟨g, k, none⟩ = some (.pointer (some ⟨bk, 0, none⟩)) := hk1.cellOf hck id
  clear hk1 x0 x1 hck
  go_wp2
  go_ret2
  have f0 := FP.storeOwn (i := 3) (u := .bool (false)) (p' := (⟨pg, .slice a1 n1 c1, fb, pn, false, rl, rf⟩ : EFrame)) (HF.out.same HK1.out) HBK.out HPK.out rfl rfl rfl
  have f1 := FP.storeOwn (i := 4) (u := .int .i64 (0)) (p' := (⟨pg, .slice a1 n1 c1, fb, pn, false, 0, rf⟩ : EFrame)) f0 HBK.out (set_again (by exact hkl) _) rfl rfl rfl
  refine ⟨(k : Int), 0, bl, _, rfl, f1, ?_, ?_, ?_⟩
  · rw [HT.out]
    simp only [List.set_set, dat_set]
    rfl
  · intro b hb
    left
    rw [List.set_set] at hb
    exact footS_set (p' := (⟨pg, .slice a1 n1 c1, fb, pn, false, 0, rf⟩ : EFrame)) HPK.out rfl _ hb
  · refine Kept.next (R := footFP P g bl ps) (R' := fun b => b = bk) (HK1.out.mono (fun _ _ e => e.elim)) ?_ (fun i hi e => by rw [e]; exact HIN.out)
    (iterate 2 refine Kept.setCell (R := fun b => b = bk) ?_ (.inr rfl) _)
    exact Kept.refl _ _
end Go.Proofs.Ytbbllmlokddolaa

namespace Go.Proofs.Ytbbllmlokddolaa
set_option maxRecDepth 100000
set_option maxHeartbeats 4000000
open Go.RowKit
set_option linter.unusedVariables false
set_option linter.unusedSimpArgs false
def Turns (fid : FuncId) (xs : Array Value) (hand : Int) (ps : List EFrame) (T : Int × Int × List (Int × List Int × Int × Bool × Int × Bool)) (w : World) : Prop :=
  ∀ (wx : World) (P g n cap : Nat) (bl : List Nat) (qs : List EFrame), FP wx P hand g n cap bl qs → n ≤ 16 → datFrameS qs = datFrameS ps → poolF ps hand = 0 → Same w wx → (∀ b, footFP P g bl qs b → w.heap.size ≤ b) →
    Calls Try.prog fid (#[.pointer (some ⟨P, 0, none⟩)] ++ xs) wx fun e w' => ∃ fr cd bl' qs', e = .returned (.tuple #[.int .i64 fr, .int .i64 cd]) ∧ FP w' P hand g n cap bl' qs' ∧ (cd, fr, datFrameS qs') = T ∧ (∀ b, footS kFrame bl' qs' b → footS kFrame bl qs b ∨ wx.heap.size ≤ b) ∧ Kept (footFP P g bl qs) wx w'
def turnP (T : Int × Int × List (Int × List Int × Int × Bool × Int × Bool)) (ps : List EFrame) (hand : Int) : Int × Int × Int × List (Int × List Int × Int × Bool × Int × Bool) :=
  if poolF ps hand ≠ 0 then (1, 0, 0, []) else if T.1 ≠ 0 then (T.1, 0, 0, []) else (0, T.2.1, hand, T.2.2)
theorem turned_any (fid : FuncId) (xs : Array Value) (v : Value) (hand : Int) (ps : List EFrame) (T : Int × Int × List (Int × List Int × Int × Bool × Int × Bool)) (w : World) (hv : RdR kFrame w v ps) (hent : Enters fid) (hT : Turns fid xs hand ps T w) :
    Calls Try.prog 30 #[.agg #[v, .int .i64 hand], .func (.func fid) #[] xs] w fun e w' => ∃ cd fr a n c hd qs, e = .returned (.agg #[.int .i64 cd, .int .i64 fr, .slice a n c, .int .i64 hd]) ∧ (cd, fr, hd, datFrameS qs) = turnP T ps hand ∧ (∀ b, footR kFrame (.slice a n c) qs b → w.heap.size ≤ b) ∧ OwnR kFrame 0 36 5 w' (.slice a n c) qs ∧ Same w w' := by
  obtain ⟨a, c, rfl⟩ := hv.form
  have hk0 : Same w ((w.alloc (.cells #[.slice a ps.length c, .int .i64 hand] 25)).alloc (.cells #[.int .i64 0, .int .i64 0, .slice none 0 0, .int .i64 0] 33)) := ((Kept.refl _ _).alloc _).alloc _
  have b0 := Blk.newA w [.slice a ps.length c, .int .i64 hand] 25 [.int .i64 0, .int .i64 0, .slice none 0 0, .int .i64 0] 33
  have b1 := Blk.newB w [.slice a ps.length c, .int .i64 hand] 25 [.int .i64 0, .int .i64 0, .slice none 0 0, .int .i64 0] 33
  have k0 := implPoolFault_any (.slice a ps.length c) hand ps _ (hv.same hk0)
  have HV := (show Hid (RdR kFrame w (.slice a ps.length c) ps) from hv)
  have HT := (show Hid (Turns fid xs hand ps T w) from hT)
  have hent' : ∀ (args : Array Value) (wx : World), (callFunc fid args).run Try.prog wx = .ok (.enter fid args) wx := hent
  clear hv hT hent
  obtain ⟨R, hR⟩ : ∃ R, turnP T ps hand = R := ⟨_, rfl⟩
  rw [hR]
  unfold turnP at hR
  obtain ⟨q, hq⟩ : ∃ q, poolF ps hand = q := ⟨_, rfl⟩
  have HQ : Hid (poolF ps hand = q) := hq
  rw [hq] at hR k0
  go_enter Try.func30, Try.ntmps30
  go_wp2_with fail
  refine k0.mono ?_
  rintro e w1 ⟨rfl, hk1⟩
  have HK1 := (show Hid (Same w w1) from hk0.trans hk1)
  have HB0 := hid (b0.same hk1)
  have HB1 := hid (b1.same hk1)
  clear hk0 hk1 b0 b1 k0
  obtain ⟨g0, g1⟩ := HB0.out.all2
  obtain ⟨z0, z1, z2, z3⟩ := HB1.out.all4
  have fz := HB1.out.frozen
  have lz := HB1.out.lt
  by_cases h0 : q = 0
  · subst h0
    rw [if_neg (by simp)] at hR
    obtain ⟨hl1, hl16, _, _⟩ := poolF_len hq
    have hfr := frame_of hq
    have HM : Hid (∀ p ∈ ps, p.bs.length ≤ 1099511627776) := fun p hp => Nat.le_trans (hfr p hp).2 (by omega)
    clear hfr hq
    go_wp2_with fail
    refine (openPool_any (.slice a ps.length c) hand ps _ (HV.out.same HK1.out) hl1 hl16 HM.out).mono ?_
    rintro e w2 ⟨P, g, n, cap, bl, qs, rfl, hd2, hf2, hn2, hk2⟩
    have hn : n ≤ 16 := by rw [hf2.len, dat_len hd2]; exact hl16
    have HF2 := (show Hid (FP w2 P hand g n cap bl qs) from hf2)
    have HD2 : Hid (datFrameS qs = datFrameS ps) := hd2
    have HN2 : Hid (∀ b, footFP P g bl qs b → w1.heap.size ≤ b) := hn2
    have HK2 := (show Hid (Same w w2) from HK1.out.trans hk2)
    have HB12 := hid (HB1.out.same hk2)
    have hz2 : w1.heap.size ≤ w2.heap.size := hk2.size
    have kt := HT.out w2 P g n cap bl qs hf2 hn hd2 HQ.out HK2.out (fun b hb => by have := hn2 b hb; omega)
    clear hd2 hf2 hn2 hk2 g0 g1 z0 z1 z2 z3 fz hl1 hl16
    go_wp2_with fail
    refine kt.mono ?_
    rintro e w3 ⟨fr, cd, bl', qs', rfl, hf3, ht3, hn3, hk3⟩
    have HT3 : Hid ((cd, fr, datFrameS qs') = T) := ht3
    have HF3 := (show Hid (FP w3 P hand g n cap bl' qs') from hf3)
    have HN3 : Hid (∀ b, footS kFrame bl' qs' b → w1.heap.size ≤ b) := fun b hb => by
      rcases hn3 b hb with h | h
      · exact HN2.out b (.inr (.inr h))
      · omega
    have HK3 := (show Hid (Same w w3) from HK2.out.next hk3 (fun i hi e => by have := HN2.out i e; omega))
    have HB13 := (show Hid (Blk w3 (w.heap.size + 1) 33 [.int .i64 0, .int .i64 0, .slice none 0 0, .int .i64 0]) from HB12.out.kept hk3 (fun e => by have := HN2.out _ e; omega))
    rw [← ht3] at hR
    dsimp only at hR
    clear kt hf3 ht3 hn3 hk3
    obtain ⟨z0, z1, z2, z3⟩ := HB13.out.all4
    have fz := HB13.out.frozen
    have lz3 := HB13.out.lt
    by_cases h3 : cd = 0
    · subst h3
      rw [if_neg (by simp)] at hR
      have HR := hid hR
      go_wp2_with fail
      refine (pool_any P hand g n cap bl' qs' _ HF3.out hn).mono ?_
      rintro e w4 ⟨a4, m4, c4, rfl, ho4, hf4, hk4⟩
      have HO4 := (show Hid (OwnR kFrame 0 36 5 w4 (.slice a4 m4 c4) qs') from ho4)
      have HF4 : Hid (∀ b, footR kFrame (.slice a4 m4 c4) qs' b → w1.heap.size ≤ b) := fun b hb => by
        rcases hf4 b hb with h | h
        · have h1 := HB13.out.lt
          have h2 := HF3.out.lt P (.inl rfl)
          have h3 := HN2.out P (.inl rfl)
          omega
        · exact HN3.out b h
      have HK4 := (show Hid (Same w w4) from HK3.out.trans hk4)
      have HB14 := hid (HB13.out.same hk4)
      clear ho4 hf4 hk4 z0 z1 z2 z3 fz
      obtain ⟨z0, z1, z2, z3⟩ := HB14.out.all4
      have fz := HB14.out.frozen
      have lz4 := HB14.out.lt
      go_wp2
      refine bodyPost_ret (v := .agg #[.int .i64 0, .int .i64 fr, .slice a4 m4 c4, .int .i64 hand]) (by simp [results, Try.results30, go_sem, z0, z1, z2, z3]) rfl ⟨0, fr, a4, m4, c4, hand, qs', rfl, HR.out, fun b hb => by have := HF4.out b hb; omega, HO4.out.kept (R := fun b => b = w.heap.size + 1) ?_ (fun b hb e => by have := HF4.out b hb; omega), ?_⟩
      · (iterate 4 refine Kept.setCell (R := fun b => b = w.heap.size + 1) ?_ (.inr rfl) _)
        exact Kept.refl _ _
      · (iterate 4 refine Kept.setCell ?_ (.inl (Nat.le_succ _)) _)
        exact HK4.out
    · rw [if_pos h3] at hR
      have HR := hid hR
      go_wp2
      refine bodyPost_ret (v := .agg #[.int .i64 cd, .int .i64 0, .slice none 0 0, .int .i64 0]) (by simp [results, Try.results30, go_sem, z0, z1, z2, z3]) rfl ⟨cd, 0, none, 0, 0, 0, [], rfl, ?_, fun b hb => absurd hb (footR_nil b), OwnR.nil _ _ _ _ _, ?_⟩
      · rw [← HR.out]; rfl
      · (iterate 4 refine Kept.setCell ?_ (.inl (Nat.le_succ _)) _)
        exact HK3.out
  · rw [if_pos h0] at hR
    have HR := hid hR
    go_wp2
    refine bodyPost_ret (v := .agg #[.int .i64 1, .int .i64 0, .slice none 0 0, .int .i64 0]) (by simp [results, Try.results30, go_sem, z0, z1, z2, z3]) rfl ⟨1, 0, none, 0, 0, 0, [], rfl, ?_, fun b hb => absurd hb (footR_nil b), OwnR.nil _ _ _ _ _, ?_⟩
    · rw [← HR.out]; rfl
    · (iterate 4 refine Kept.setCell ?_ (.inl (Nat.le_succ _)) _)
      exact HK1.out
end Go.Proofs.Ytbbllmlokddolaa

namespace Go.Proofs.Ytbbllmlokddolaa
open Go.RowKit
set_option linter.unusedVariables false
set_option linter.unusedSimpArgs false
theorem findB_dat {page : Int} {ps qs : List EFrame} (h : datFrameS qs = datFrameS ps) : findB page qs = findB page ps := by
  unfold findB
  rw [findFrom_dat h]
theorem atP_none {ps : List EFrame} {hand page : Int} (h : poolF ps hand = 0) (h2 : findB page ps = -1) : atP ps hand page = (0, 2) := by
  unfold atP
  rw [if_neg (by simp [h]), ← findB_eq page h, h2, if_pos (by decide)]
theorem atP_some {ps : List EFrame} {hand page : Int} (h : poolF ps hand = 0) (h2 : findB page ps ≠ -1) : atP ps hand page = (findB page ps, 0) := by
  obtain ⟨j, hj, _⟩ := findB_lt h2
  unfold atP
  rw [if_neg (by simp [h]), ← findB_eq page h, hj, if_neg (by omega)]
end Go.Proofs.Ytbbllmlokddolaa
