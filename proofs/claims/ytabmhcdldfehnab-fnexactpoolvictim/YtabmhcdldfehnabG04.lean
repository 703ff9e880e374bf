import Derived.Test.YtabmhcdldfehnabG02
import Derived.Test.YtabmhcdldfehnabG03
import Derived.Deep.DeepCutAuto
namespace Go.Proofs.Ytabmhcdldfehnab
set_option maxRecDepth 100000
set_option maxHeartbeats 8000000
open Go.RowKit
set_option linter.unusedVariables false
set_option linter.unusedSimpArgs false
theorem Try.infoPtrF : (Try.prog.info? 64).map (fun i => (i.zero, i.size, i.bytes)) = some (some (.pointer none), 1, 8) := by kernel_rfl
theorem made_ptrs (n : Nat) : (madeCells (Value.pointer none).cells (n * 1)).toList.take (n * 1) = List.replicate n (.pointer none) := by
  apply List.ext_getElem?
  intro j
  by_cases hj : j < n
  · rw [List.getElem?_take_of_lt (by omega)]
    simp [madeCells, hj, Value.cells, Nat.mod_one]
  · rw [List.getElem?_eq_none (by simp [madeCells]; omega), List.getElem?_eq_none (by simp; omega)]
structure FP (w : World) (P : Nat) (hand : Int) (g n cap : Nat) (bl : List Nat) (ps : List EFrame) : Prop where
  top : Blk w P 69 [.slice (some ⟨g, 0, none⟩) n cap, .int .i64 hand]
  len : n = ps.length
  row : w.ownsRow 0 64 1 (.slice (some ⟨g, 0, none⟩) n cap) n (bl.map ptrV)
  ptr : Ptrs kFrame 46 5 w bl ps
  pg : P ≠ g
  outP : ¬ footS kFrame bl ps P
  outg : ¬ footS kFrame bl ps g
def footFP (P g : Nat) (bl : List Nat) (ps : List EFrame) (b : Nat) : Prop := b = P ∨ b = g ∨ footS kFrame bl ps b
theorem ptrs_step (bl : List Nat) (n k b : Nat) (hk : k < n) (hl : bl.length = k) : (bl.map ptrV ++ List.replicate (n - k) (Value.pointer none)).set k (ptrV b) = (bl ++ [b]).map ptrV ++ List.replicate (n - (k + 1)) (Value.pointer none) := by
  rw [List.set_append_right (h := by simp [hl]), List.length_map, hl, Nat.sub_self, show n - k = (n - (k + 1)) + 1 from by omega, List.replicate_succ, List.set_cons_zero]
  simp
theorem openPool_any (v : Value) (hand : Int) (ps : List EFrame) (w : World) (hv : RdR kFrame w v ps) (hl0 : 1 ≤ ps.length) (hl16 : ps.length ≤ 16) (hsm : ∀ p ∈ ps, p.bs.length ≤ 1099511627776) :
    Calls Try.prog 34 #[.agg #[v, .int .i64 hand]] w fun e w' => ∃ P g n cap bl qs, e = .returned (.pointer (some ⟨P, 0, none⟩)) ∧ datFrameS qs = datFrameS ps ∧ FP w' P hand g n cap bl qs ∧ (∀ b, footFP P g bl qs b → w.heap.size ≤ b) ∧ Same w w' := by
  obtain ⟨i0, hi, hz0, hz1, hz2⟩ := info_parts Try.infoPtrF
  rcases hv.row with ⟨hps, _⟩ | ⟨b, off, c, rfl, hc⟩
  · rw [hps] at hl0; simp at hl0
  have HV := (show Hid (RdR kFrame w (.slice (some ⟨b, off, none⟩) ps.length c) ps) from hv)
  have HC : Hid (∀ j i, (h : j < ps.length) → i < 6 → w.cell? ⟨b, off + (j * 6 + i), none⟩ = (kFrame.cells ps[j])[i]?) := hc
  have HS : Hid (∀ p ∈ ps, p.bs.length ≤ 1099511627776) := hsm
  clear hv hc hsm
  generalize hl : ps.length = len at hl0 hl16 HV ⊢
  have HL : Hid (ps.length = len) := hl
  clear hl
  have HB0 := (show Hid (Blk (w.alloc (.cells #[.slice (some ⟨b, off, none⟩) len c, .int .i64 hand] 28)) w.heap.size 28 [.slice (some ⟨b, off, none⟩) len c, .int .i64 hand]) from Blk.newL w [.slice (some ⟨b, off, none⟩) len c, .int .i64 hand] 28)
  go_enter Try.func34, Try.ntmps34
  go_wp2_with fail
  go_cut [3] (fun v wc => ∃ (P g : Nat), v = .pointer (some ⟨P, 0, none⟩) ∧ Hid (Blk wc P 69 [.slice (some ⟨g, 0, none⟩) len len, .int .i64 hand]) ∧ w.heap.size < P ∧ P ≠ g ∧ w.heap.size < g ∧ Hid (wc.ownsRow 0 64 1 (.slice (some ⟨g, 0, none⟩) len len) len (List.replicate len (.pointer none))) ∧
      Hid (Blk wc w.heap.size 28 [.slice (some ⟨b, off, none⟩) len c, .int .i64 hand]) ∧ Hid (Same w wc))
  case first =>
    have hS : (fun wx : World => wx.cell? ⟨w.heap.size, 0, none⟩ = some (.slice (some ⟨b, off, none⟩) len c) ∧ wx.cell? ⟨w.heap.size, 1, none⟩ = some (.int .i64 hand)) (w.alloc (.cells #[.slice (some ⟨b, off, none⟩) len c, .int .i64 hand] 28)).drew := ⟨HB0.out.cell 0, HB0.out.cell 1⟩
    refine wp_region_V (fun wx : World => wx.cell? ⟨w.heap.size, 0, none⟩ = some (.slice (some ⟨b, off, none⟩) len c) ∧ wx.cell? ⟨w.heap.size, 1, none⟩ = some (.int .i64 hand)) 9 10 rfl (by kernel_rfl) ?_
    refine tk 0 6 hS ?_
    refine tk 1 7 hS ?_
    refine tk 2 8 hS ?_
    refine tk 4 10 hS ?_
    refine tk 5 11 hS ?_
    refine wpAnyV_one (i := 3) (by kernel_rfl) rfl (fun K hK => ?_)
    refine step_mk (by rfl) (.tmp 8) (.tmp 8) 65 (by rfl) 0 64 i0 _ 1 Try.underlying65 hi hz0 hz1 .i64 .i64 _ _ len len (by rfl) (by rfl) (by rfl) (by rfl) (Nat.le_refl _) (by rw [hz2]; omega) (by unfold maxLen; omega) (Nat.zero_le _) ?_
    intro w1 hown1 hgrow1 hlt1
    rw [made_ptrs] at hown1
    have hk1 : Same (w.alloc (.cells #[.slice (some ⟨b, off, none⟩) len c, .int .i64 hand] 28)) w1 := (Kept.refl (fun _ => False) (w.alloc (.cells #[.slice (some ⟨b, off, none⟩) len c, .int .i64 hand] 28))).drew.trans (Kept.of_grown hgrow1 (fun k e => by cases e))
    have HK1 := (show Hid (Same (w.alloc (.cells #[.slice (some ⟨b, off, none⟩) len c, .int .i64 hand] 28)) w1) from hk1)
    have HO1 := (show Hid (w1.ownsRow 0 64 1 (.slice (some ⟨w.heap.size + 1, 0, none⟩) len len) len (List.replicate len (.pointer none))) from (by unfold Hid; simpa using hown1))
    have hz1' : w.heap.size + 1 < w1.heap.size := by simpa using hlt1
    have hB1 := HB0.out.same hk1
    have hS1 : (fun wx : World => wx.cell? ⟨w.heap.size, 0, none⟩ = some (.slice (some ⟨b, off, none⟩) len c) ∧ wx.cell? ⟨w.heap.size, 1, none⟩ = some (.int .i64 hand)) w1 := ⟨hB1.cell 0, hB1.cell 1⟩
    refine hK.out _ _ (fun _ => hS1) ?_
    clear hK K hown1 hgrow1 hlt1 hk1
    try simp only [Act.put, sA, s0, sS]
    refine tk 6 12 hS1 ?_
    refine tk 7 13 hS1 ?_
    refine wpAnyV_one (i := 8) (by kernel_rfl) rfl (fun K hK => ?_)
    go_simp
    have hS2 : (fun wx : World => wx.cell? ⟨w.heap.size, 0, none⟩ = some (.slice (some ⟨b, off, none⟩) len c) ∧ wx.cell? ⟨w.heap.size, 1, none⟩ = some (.int .i64 hand)) (w1.alloc (.cells #[.slice (some ⟨w.heap.size + 1, 0, none⟩) len len, .int .i64 hand] 69)) := ⟨(hB1.alloc _).cell 0, (hB1.alloc _).cell 1⟩
    refine hK.out _ _ (fun _ => hS2) ?_
    clear hK K
    try simp only [Act.put, sA, s0, sS]
    refine wpAnyV_one (i := 9) (by kernel_rfl) rfl (fun K hK => ?_)
    go_simp
    refine hK.out _ _ (fun h => absurd rfl h) ?_
    clear hK K
    refine wpAnyV_done (by kernel_rfl) ?_
    try simp only [Act.put, sA, s0, sS]
    go_wp2_with fail
    go_meet
    case rel =>
      refine ⟨w1.heap.size, w.heap.size + 1, rfl, Blk.newL _ _ _, by omega, by omega, by omega, ?_, hB1.alloc _, ?_⟩
      · exact Kept.owns (R := fun _ => False) ((Kept.refl _ _).alloc _) HO1.out (fun _ _ => id)
      · exact (((Kept.refl _ _).alloc _).trans HK1.out).alloc _
  obtain ⟨P, g, rfl, HX, hP, hPg, hg, HR, HB, HK⟩ := hcut
  obtain ⟨x0, x1⟩ := HB.out.all2
  have hPl := HX.out.lt
  have hgl : g < wc.heap.size := (World.ownsRow.lt HR.out g rfl).2
  clear HB0
  go_wp2_with fail
  go_loopw [18] (fun i wr => ∃ (k : Nat) (bl : List Nat) (qs : List EFrame), k ≤ len ∧ i = .int .i64 k ∧ Hid (bl.length = k) ∧ Hid (datFrameS qs = datFrameS (ps.take k)) ∧ Hid (Blk wr P 69 [.slice (some ⟨g, 0, none⟩) len len, .int .i64 hand]) ∧
      Hid (wr.ownsRow 0 64 1 (.slice (some ⟨g, 0, none⟩) len len) len (bl.map ptrV ++ List.replicate (len - k) (.pointer none))) ∧ Hid (Ptrs kFrame 46 5 wr bl qs) ∧ Hid (∀ b, footS kFrame bl qs b → wc.heap.size ≤ b) ∧ Hid (Same w wr) ∧ wc.heap.size ≤ wr.heap.size) (fun i _ => len - (intOf i).toNat)
  case atStart => exact ⟨0, [], [], Nat.zero_le _, rfl, rfl, rfl, HX, HR, Ptrs.nil _ _ _ _, fun b h => by rcases h with h | ⟨p, h, _⟩ <;> simp at h, HK, Nat.le_refl _⟩
  case round =>
    obtain ⟨k, bl, qs, hk, rfl, HBL, HQ, HXr, HRr, HPr, HFr, HKr, hzr⟩ := hrel
    by_cases hlt : k < len
    · have hlp : k < ps.length := by rw [HL.out]; exact hlt
      obtain ⟨p, hp⟩ : ∃ p, ps[k] = p := ⟨_, rfl⟩
      have hrd : Rd .u8 w ps[k].v ps[k].bs := HV.out.data _ (List.getElem_mem hlp)
      have hm1 := HS.out _ (List.getElem_mem hlp)
      have hcc : ∀ i, i < 6 → wr.cell? ⟨b, off + (k * 6 + i), none⟩ = (kFrame.cells ps[k])[i]? := fun i hi => by
        have h := HC.out k i hlp hi
        have hlen : (kFrame.cells ps[k]).length = 6 := kFrame.len _
        rw [List.getElem?_eq_getElem (by omega)] at h ⊢
        exact HKr.out.cellOf h id
      rw [hp] at hrd hm1 hcc
      have HPE : Hid (ps[k] = p) := hp
      clear hp
      obtain ⟨pg, pv, fb, pn, dt, rl, rf⟩ := p
      dsimp only at hrd hm1
      obtain ⟨a1, c1, e1⟩ := hrd.form
      subst e1
      obtain ⟨n1, hn1⟩ : ∃ n, fb.length = n := ⟨_, rfl⟩
      rw [hn1] at hrd hcc
      have HRD := (show Hid (Rd .u8 w (.slice a1 n1 c1) fb) from hrd)
      have HM1 : Hid (fb.length ≤ 1099511627776) := hm1
      have d0 : wr.cell? ⟨b, off + k * 6, none⟩ = some (.int .i64 pg) := by have h := hcc 0 (by decide); exact h
      have d1 : wr.cell? ⟨b, off + k * 6 + 1, none⟩ = some (.slice a1 n1 c1) := by have h := hcc 1 (by decide); rw [← Nat.add_assoc] at h; exact h
      have d2 : wr.cell? ⟨b, off + k * 6 + 2, none⟩ = some (.int .i64 pn) := by have h := hcc 2 (by decide); rw [← Nat.add_assoc] at h; exact h
      have d3 : wr.cell? ⟨b, off + k * 6 + 3, none⟩ = some (.bool dt) := by have h := hcc 3 (by decide); rw [← Nat.add_assoc] at h; exact h
      have d4 : wr.cell? ⟨b, off + k * 6 + 4, none⟩ = some (.int .i64 rl) := by have h := hcc 4 (by decide); rw [← Nat.add_assoc] at h; exact h
      have d5 : wr.cell? ⟨b, off + k * 6 + 5, none⟩ = some (.bool rf) := by have h := hcc 5 (by decide); rw [← Nat.add_assoc] at h; exact h
      clear hcc hrd hm1 hn1 x0 x1
      have ba := Blk.newL wr [.int .i64 pg, .slice a1 n1 c1, .int .i64 pn, .bool dt, .int .i64 rl, .bool rf] 46
      have hki : (k : Int) < (len : Int) := by omega
      go_wp2_with fail
      refine (cloneS_any _ fb _ HM1.out (HRD.out.same (HKr.out.trans ((Kept.refl _ _).alloc _)))).mono ?_
      rintro e w2 ⟨a4, n4, c4, rfl, ho4, hf4, hk4⟩
      have HB4 := hid (ba.same hk4)
      have HK4 := (show Hid (Same wr w2) from ((Kept.refl _ _).alloc _).trans hk4)
      have HO4 := (show Hid (Own 0 5 .u8 w2 (.slice a4 n4 c4) fb) from ho4)
      have HF4 : Hid (∀ b, (Value.slice a4 n4 c4).ownBlock = some b → wr.heap.size < b) := fun b hb => by have h := hf4 b hb; rw [World.size_alloc] at h; omega
      clear ho4 hf4 hk4 ba d0 d1 d2 d3 d4 d5
      have h2l : wr.heap.size < w2.heap.size := HB4.out.lt
      obtain ⟨c0, c1', c2, c3, c4', c5⟩ := HB4.out.all6
      have fz := HB4.out.frozen
      obtain ⟨y0, y1⟩ := (HXr.out.same HK4.out).all2
      have hrow4 := Kept.owns HK4.out HRr.out (fun _ _ => id)
      have yk : w2.cell? ⟨g, k, none⟩ = some (.pointer none) := by
        have h := World.ownsRow.cellAt hrow4 k (by omega)
        rw [h, List.getElem?_append_right (by simp [HBL.out]), List.length_map, HBL.out, Nat.sub_self, List.getElem?_replicate, if_pos (by omega)]
      have fg := World.ownsRow.frozenAt hrow4
      have HR4 := hid hrow4
      clear hrow4
      have HK23 := (show Hid (Kept (fun b => b = wr.heap.size) w2 (w2.setCell ⟨wr.heap.size, 1, none⟩ (.slice a4 n4 c4))) from Kept.setCell (R := fun b => b = wr.heap.size) (Kept.refl _ _) (p := ⟨wr.heap.size, 1, none⟩) (.inr rfl) _)
      have HK34 := (show Hid (Kept (fun b => b = g) (w2.setCell ⟨wr.heap.size, 1, none⟩ (.slice a4 n4 c4)) ((w2.setCell ⟨wr.heap.size, 1, none⟩ (.slice a4 n4 c4)).setCell ⟨g, k, none⟩ (.pointer (some ⟨wr.heap.size, 0, none⟩)))) from Kept.setCell (R := fun b => b = g) (Kept.refl _ _) (p := ⟨g, k, none⟩) (.inr rfl) _)
      have HFT : Hid (∀ b, footS kFrame bl qs b → wc.heap.size ≤ b ∧ b < wr.heap.size) := fun b hb => ⟨HFr.out b hb, HPr.out.lt b hb⟩
      have HU3 := (show Hid (Own 0 5 .u8 (w2.setCell ⟨wr.heap.size, 1, none⟩ (.slice a4 n4 c4)) (.slice a4 n4 c4) fb) from HO4.out.kept HK23.out (fun b hb e => by have := HF4.out b hb; omega))
      have HP3 := (show Hid (Ptrs kFrame 46 5 (w2.setCell ⟨wr.heap.size, 1, none⟩ (.slice a4 n4 c4)) (bl ++ [wr.heap.size]) (qs ++ [(⟨pg, .slice a4 n4 c4, fb, pn, dt, rl, rf⟩ : EFrame)])) from
        Ptrs.snoc (p := (⟨pg, .slice a4 n4 c4, fb, pn, dt, rl, rf⟩ : EFrame)) ((HPr.out.same HK4.out).kept HK23.out (fun b hb e => by have := HFT.out b hb; omega)) (HB4.out.stored 1 _) HU3.out (fun h => by have := HFT.out _ h; omega)
          (fun x hx => ⟨fun h => by have h1 := HFT.out x h; have h2 := HF4.out x hx; omega, by have h2 := HF4.out x hx; omega⟩))
      have HFN : Hid (∀ b, footS kFrame (bl ++ [wr.heap.size]) (qs ++ [(⟨pg, .slice a4 n4 c4, fb, pn, dt, rl, rf⟩ : EFrame)]) b → wc.heap.size ≤ b) := fun b hb => by
        rcases hb with hb | ⟨q, hq, hb⟩
        · rcases List.mem_append.1 hb with hb | hb
          · exact (HFT.out b (.inl hb)).1
          · simp at hb; omega
        · rcases List.mem_append.1 hq with hq | hq
          · exact (HFT.out b (.inr ⟨q, hq, hb⟩)).1
          · simp at hq
            subst hq
            have := HF4.out b hb
            omega
      go_wp2
      go_roundw
      case rel =>
        refine ⟨k + 1, bl ++ [wr.heap.size], qs ++ [(⟨pg, .slice a4 n4 c4, fb, pn, dt, rl, rf⟩ : EFrame)], by omega, by go_num, ?_, ?_, ?_, ?_, HP3.out.kept HK34.out (fun b hb e => by have := HFN.out b hb; omega), HFN, ?_, ?_⟩
        · have := HBL.out; simp [Hid, this]
        · have h1 := HQ.out
          unfold Hid
          rw [List.take_succ_eq_append_getElem hlp, HPE.out]
          simp only [datFrameS, List.map_append] at h1 ⊢
          rw [h1]; rfl
        · exact ((HXr.out.same HK4.out).kept HK23.out (by intro e; omega)).kept HK34.out hPg
        · unfold Hid
          rw [← ptrs_step bl len k wr.heap.size hlt HBL.out]
          exact (World.ownsRow.stored (Kept.owns HK23.out HR4.out (fun x hx e => by simp [Value.ownBlock] at hx; omega)) k _).1
        · exact ((HKr.out.trans HK4.out).next HK23.out (fun i hi e => by omega)).next HK34.out (fun i hi e => by omega)
        · simp [World.setCell]; omega
      case measure => simp [intOf]; omega
    · obtain rfl : len = k := by omega
      go_wp2
      go_ret
      refine ⟨P, g, len, len, bl, qs, rfl, ?_, ⟨HXr.out, ?_, ?_, HPr.out, hPg, fun h => by have := HFr.out _ h; omega, fun h => by have := HFr.out _ h; omega⟩, ?_, HKr.out⟩
      · have h := HQ.out
        rw [← HL.out, List.take_length] at h
        exact h
      · rw [← HPr.out.len]; exact HBL.out.symm
      · have h := HRr.out
        rw [Nat.sub_self, List.replicate_zero, List.append_nil] at h
        exact h
      · intro b hb
        rcases hb with rfl | rfl | hb
        · omega
        · omega
        · have h1 := HFr.out b hb
          have h2 := HK.out.size
          omega
end Go.Proofs.Ytabmhcdldfehnab

namespace Go.Proofs.Ytabmhcdldfehnab
set_option maxRecDepth 100000
set_option maxHeartbeats 8000000
open Go.RowKit
set_option linter.unusedVariables false
set_option linter.unusedSimpArgs false
section
variable {w w' : World} {P : Nat} {hand : Int} {g n cap : Nat} {bl : List Nat} {ps : List EFrame}
theorem FP.kept {R : Nat → Prop} (h : FP w P hand g n cap bl ps) (hk : Kept R w w') (hr : ∀ b, footFP P g bl ps b → ¬ R b) : FP w' P hand g n cap bl ps :=
  ⟨h.top.kept hk (hr P (.inl rfl)), h.len, hk.owns h.row (fun b hb => hr b (.inr (.inl (by simpa [Value.ownBlock] using hb.symm)))), h.ptr.kept hk (fun b hb => hr b (.inr (.inr hb))), h.pg, h.outP, h.outg⟩
theorem FP.same (h : FP w P hand g n cap bl ps) (hk : Same w w') : FP w' P hand g n cap bl ps := h.kept hk (fun _ _ => id)
theorem FP.lt (h : FP w P hand g n cap bl ps) (b : Nat) (hb : footFP P g bl ps b) : b < w.heap.size := by
  rcases hb with rfl | rfl | hb
  · exact h.top.lt
  · exact (World.ownsRow.lt h.row _ rfl).2
  · exact h.ptr.lt b hb
theorem FP.at (h : FP w P hand g n cap bl ps) (k : Nat) (hk : k < n) : ∃ b p, bl[k]? = some b ∧ ps[k]? = some p ∧ w.cell? ⟨g, k, none⟩ = some (.pointer (some ⟨b, 0, none⟩)) ∧ Blk w b 46 (kFrame.cells p) := by
  have hlb : k < bl.length := by rw [h.ptr.len, ← h.len]; exact hk
  have hlp : k < ps.length := by rw [← h.len]; exact hk
  refine ⟨bl[k], ps[k], List.getElem?_eq_getElem hlb, List.getElem?_eq_getElem hlp, ?_, h.ptr.blk k _ _ (List.getElem?_eq_getElem hlb) (List.getElem?_eq_getElem hlp)⟩
  have hc := World.ownsRow.cellAt h.row k (by omega)
  rw [hc, List.getElem?_map, List.getElem?_eq_getElem hlb]
  rfl
end
def zF : EFrame := ⟨0, .slice none 0 0, [], 0, false, 0, false⟩
theorem made_frames {w : World} {v : Value} {n : Nat} (h : w.ownsRow 0 46 6 v n ((madeCells (Value.agg #[.int .i64 0, .slice none 0 0, .int .i64 0, .bool false, .int .i64 0, .bool false]).cells (n * 6)).toList.take (n * 6))) : OwnR kFrame 0 46 5 w v (List.replicate n zF) := by
  rw [List.take_of_length_le (by simp [madeCells])] at h
  exact ownR_made (K := kFrame) (zp := zF) (by decide) rfl rfl rfl h
theorem pool_any (P : Nat) (hand : Int) (g n cap : Nat) (bl : List Nat) (qs : List EFrame) (w : World) (h : FP w P hand g n cap bl qs) (hn : n ≤ 16) :
    Calls Try.prog 35 #[.pointer (some ⟨P, 0, none⟩)] w fun e w' => ∃ a m c, e = .returned (.agg #[.slice a m c, .int .i64 hand]) ∧ OwnR kFrame 0 46 5 w' (.slice a m c) qs ∧ (∀ b, footR kFrame (.slice a m c) qs b → w.heap.size ≤ b ∨ footS kFrame bl qs b) ∧ Same w w' := by
  obtain ⟨i0, hi, hz0, hz1, hz2⟩ := info_parts Try.infoRFrame
  have HF := (show Hid (FP w P hand g n cap bl qs) from h)
  have hPl := h.top.lt
  clear h
  have HB0 := (show Hid (Blk (w.alloc (.cells #[.slice none 0 0, .int .i64 0] 28)) w.heap.size 28 [.slice none 0 0, .int .i64 0]) from Blk.newL w [.slice none 0 0, .int .i64 0] 28)
  have HK0 := hid (sameA w [.slice none 0 0, .int .i64 0] 28)
  go_enter Try.func35, Try.ntmps35
  go_wp2_with fail
  go_cut [3] (fun v wc => ∃ (G h : Nat), v = .pointer (some ⟨G, 0, none⟩) ∧ Hid (Blk wc G 28 [.slice (some ⟨h, 0, none⟩) n n, .int .i64 hand]) ∧ w.heap.size < G ∧ G ≠ h ∧ w.heap.size < h ∧ Hid (OwnR kFrame 0 46 5 wc (.slice (some ⟨h, 0, none⟩) n n) (List.replicate n zF)) ∧
      Hid (Blk wc w.heap.size 28 [.slice none 0 0, .int .i64 0]) ∧ Hid (Same w wc))
  case first =>
    have htop := (HF.out.same HK0.out).top
    have hS : (fun wx : World => wx.cell? ⟨P, 0, none⟩ = some (.slice (some ⟨g, 0, none⟩) n cap) ∧ wx.cell? ⟨P, 1, none⟩ = some (.int .i64 hand)) (w.alloc (.cells #[.slice none 0 0, .int .i64 0] 28)).drew := ⟨htop.cell 0, htop.cell 1⟩
    refine wp_region_V (fun wx : World => wx.cell? ⟨P, 0, none⟩ = some (.slice (some ⟨g, 0, none⟩) n cap) ∧ wx.cell? ⟨P, 1, none⟩ = some (.int .i64 hand)) 14 15 rfl (by kernel_rfl) ?_
    refine tk 0 6 hS ?_
    refine tk 1 7 hS ?_
    refine tk 2 8 hS ?_
    refine tk 3 9 hS ?_
    refine tk 4 10 hS ?_
    refine tk 5 11 hS ?_
    refine tk 7 13 hS ?_
    refine tk 8 14 hS ?_
    refine tk 9 15 hS ?_
    refine tk 10 16 hS ?_
    refine tk 11 17 hS ?_
    refine wpAnyV_two (i := 6) (j := 13) (by kernel_rfl) rfl rfl (fun K hK => ?_) (fun K hK => ?_)
    · refine step_mk (by rfl) (.tmp 11) (.tmp 11) 26 (by rfl) 0 46 i0 _ 6 Try.underlying26 hi hz0 hz1 .i64 .i64 _ _ n n (by rfl) (by rfl) (by rfl) (by rfl) (Nat.le_refl _) (by rw [hz2]; omega) (by unfold maxLen; omega) (Nat.zero_le _) ?_
      intro w1 hown1 hgrow1 hlt1
      have hk1 : Same (w.alloc (.cells #[.slice none 0 0, .int .i64 0] 28)) w1 := (Kept.refl (fun _ => False) (w.alloc (.cells #[.slice none 0 0, .int .i64 0] 28))).drew.trans (Kept.of_grown hgrow1 (fun k e => by cases e))
      have HK1 := (show Hid (Same (w.alloc (.cells #[.slice none 0 0, .int .i64 0] 28)) w1) from hk1)
      have HO1 := (show Hid (OwnR kFrame 0 46 5 w1 (.slice (some ⟨w.heap.size + 1, 0, none⟩) n n) (List.replicate n zF)) from (by unfold Hid; have h := made_frames hown1; simpa using h))
      have hz1' : w.heap.size + 1 < w1.heap.size := by simpa using hlt1
      have ht1 := htop.same hk1
      have hS1 : (fun wx : World => wx.cell? ⟨P, 0, none⟩ = some (.slice (some ⟨g, 0, none⟩) n cap) ∧ wx.cell? ⟨P, 1, none⟩ = some (.int .i64 hand)) w1 := ⟨ht1.cell 0, ht1.cell 1⟩
      refine hK.out _ _ (fun _ => hS1) ?_
      clear hK K hown1 hgrow1 hlt1 hk1
      try simp only [Act.put, sA, s0, sS]
      refine tk 12 18 hS1 ?_
      refine wpAnyV_one (i := 13) (by kernel_rfl) rfl (fun K hK => ?_)
      go_simp
      have hS2 : (fun wx : World => wx.cell? ⟨P, 0, none⟩ = some (.slice (some ⟨g, 0, none⟩) n cap) ∧ wx.cell? ⟨P, 1, none⟩ = some (.int .i64 hand)) (w1.alloc (.cells #[.slice none 0 0, .int .i64 0] 28)) := ⟨(ht1.alloc _).cell 0, (ht1.alloc _).cell 1⟩
      refine hK.out _ _ (fun _ => hS2) ?_
      clear hK K
      try simp only [Act.put, sA, s0, sS]
      refine wpAnyV_one (i := 14) (by kernel_rfl) rfl (fun K hK => ?_)
      go_simp
      refine hK.out _ _ (fun h => absurd rfl h) ?_
      clear hK K
      refine wpAnyV_done (by kernel_rfl) ?_
      try simp only [Act.put, sA, s0, sS]
      go_wp2_with fail
      go_meet
      case rel =>
        refine ⟨w1.heap.size, w.heap.size + 1, rfl, Blk.newL _ _ _, by omega, by omega, by omega, HO1.out.same ((Kept.refl _ _).alloc _), (HB0.out.same HK1.out).alloc _, (HK0.out.trans HK1.out).alloc _⟩
    · go_simp
      have hS1 : (fun wx : World => wx.cell? ⟨P, 0, none⟩ = some (.slice (some ⟨g, 0, none⟩) n cap) ∧ wx.cell? ⟨P, 1, none⟩ = some (.int .i64 hand)) ((w.alloc (.cells #[.slice none 0 0, .int .i64 0] 28)).drew.alloc (.cells #[.slice none 0 0, .int .i64 0] 28)) := ⟨(htop.drew.alloc _).cell 0, (htop.drew.alloc _).cell 1⟩
      refine hK.out _ _ (fun _ => hS1) ?_
      clear hK K
      try simp only [Act.put, sA, s0, sS]
      refine wpAnyV_one (i := 6) (by kernel_rfl) rfl (fun K hK => ?_)
      refine step_mk (by rfl) (.tmp 11) (.tmp 11) 26 (by rfl) 0 46 i0 _ 6 Try.underlying26 hi hz0 hz1 .i64 .i64 _ _ n n (by rfl) (by rfl) (by rfl) (by rfl) (Nat.le_refl _) (by rw [hz2]; omega) (by unfold maxLen; omega) (Nat.zero_le _) ?_
      intro w1 hown1 hgrow1 hlt1
      have hk1 : Same ((w.alloc (.cells #[.slice none 0 0, .int .i64 0] 28)).drew.alloc (.cells #[.slice none 0 0, .int .i64 0] 28)) w1 := Kept.of_grown hgrow1 (fun k e => by cases e)
      have HK1 := (show Hid (Same ((w.alloc (.cells #[.slice none 0 0, .int .i64 0] 28)).drew.alloc (.cells #[.slice none 0 0, .int .i64 0] 28)) w1) from hk1)
      have HO1 := (show Hid (OwnR kFrame 0 46 5 w1 (.slice (some ⟨w.heap.size + 1 + 1, 0, none⟩) n n) (List.replicate n zF)) from (by unfold Hid; have h := made_frames hown1; simpa using h))
      have hz1' : w.heap.size + 1 + 1 < w1.heap.size := by simpa using hlt1
      have hbz : Blk ((w.alloc (.cells #[.slice none 0 0, .int .i64 0] 28)).drew.alloc (.cells #[.slice none 0 0, .int .i64 0] 28)) (w.heap.size + 1) 28 [.slice none 0 0, .int .i64 0] := by
        have h := Blk.newL (w.alloc (.cells #[.slice none 0 0, .int .i64 0] 28)).drew [.slice none 0 0, .int .i64 0] 28
        simpa using h
      have ht1 := (htop.drew.alloc (.cells #[.slice none 0 0, .int .i64 0] 28)).same hk1
      have HZ1 := hid (hbz.same hk1)
      have hS2 : (fun wx : World => wx.cell? ⟨P, 0, none⟩ = some (.slice (some ⟨g, 0, none⟩) n cap) ∧ wx.cell? ⟨P, 1, none⟩ = some (.int .i64 hand)) w1 := ⟨ht1.cell 0, ht1.cell 1⟩
      refine hK.out _ _ (fun _ => hS2) ?_
      clear hK K hown1 hgrow1 hlt1 hk1
      try simp only [Act.put, sA, s0, sS]
      refine tk 12 18 hS2 ?_
      obtain ⟨z0, z1⟩ := HZ1.out.all2
      have fz := HZ1.out.frozen
      refine wpAnyV_one (i := 14) (by kernel_rfl) rfl (fun K hK => ?_)
      go_simp
      refine hK.out _ _ (fun h => absurd rfl h) ?_
      clear hK K
      refine wpAnyV_done (by kernel_rfl) ?_
      try simp only [Act.put, sA, s0, sS]
      go_wp2_with fail
      go_meet
      case rel =>
        have hkw : Same w w1 := (((HK0.out.drew).alloc _).trans HK1.out)
        have hb0 := ((HB0.out.drew).alloc (.cells #[.slice none 0 0, .int .i64 0] 28)).same HK1.out
        have hst : Kept (fun b => b = w.heap.size + 1) w1 ((w1.setCell ⟨w.heap.size + 1, 0, none⟩ (.slice (some ⟨w.heap.size + 1 + 1, 0, none⟩) n n)).setCell ⟨w.heap.size + 1, 1, none⟩ (.int .i64 hand)) := Kept.setCell (R := fun b => b = w.heap.size + 1) (Kept.setCell (R := fun b => b = w.heap.size + 1) (Kept.refl _ _) (p := ⟨w.heap.size + 1, 0, none⟩) (.inr rfl) _) (p := ⟨w.heap.size + 1, 1, none⟩) (.inr rfl) _
        refine ⟨w.heap.size + 1, w.heap.size + 1 + 1, rfl, (HZ1.out.stored 0 _).stored 1 _, by omega, by omega, by omega, HO1.out.kept hst ?_, hb0.kept hst (by intro e; omega), hkw.next hst (fun i hi e => by omega)⟩
        intro b hb e
        rcases hb with hb | ⟨p, hp, hb⟩
        · simp [Value.ownBlock] at hb; omega
        · rw [List.eq_of_mem_replicate hp] at hb
          simp [kFrame, zF, Value.ownBlock] at hb
  obtain ⟨G, h, rfl, HG, hG, hGh, hh, HO, HZ, HK⟩ := hcut
  obtain ⟨x0, x1⟩ := (HF.out.same HK.out).top.all2
  clear HB0 HK0
  go_wp2_with fail
  go_loopw [25] (fun i wr => ∃ (k : Nat), k ≤ n ∧ i = .int .i64 k ∧ Hid (Blk wr G 28 [.slice (some ⟨h, 0, none⟩) n n, .int .i64 hand]) ∧ Hid (OwnR kFrame 0 46 5 wr (.slice (some ⟨h, 0, none⟩) n n) (qs.take k ++ List.replicate (n - k) zF)) ∧
      Hid (Blk wr w.heap.size 28 [.slice none 0 0, .int .i64 0]) ∧ Hid (Same w wr)) (fun i _ => n - (intOf i).toNat)
  case atStart => exact ⟨0, Nat.zero_le _, rfl, HG, by simpa using HO, HZ, HK⟩
  case round =>
    obtain ⟨k, hk, rfl, HGr, HOr, HZr, HKr⟩ := hrel
    have HFr := (show Hid (FP wr P hand g n cap bl qs) from HF.out.same HKr.out)
    clear x0 x1
    by_cases hlt : k < n
    · obtain ⟨bk, p, hbk, hpk, hck, hb⟩ := HFr.out.at k hlt
      have HBK : Hid (bl[k]? = some bk) := hbk
      have HPK : Hid (qs[k]? = some p) := hpk
      have hdat : Own 0 5 .u8 wr p.v p.bs := HFr.out.ptr.data p (List.mem_of_getElem? hpk)
      have HDP := hid hdat
      have hbl : bk < w.heap.size := HF.out.ptr.lt bk (.inl (List.mem_of_getElem? hbk))
      have hlq : k < qs.length := (List.getElem?_eq_some_iff.1 hpk).1
      have hlen := HF.out.len
      have HNE : Hid (∀ b, p.v.ownBlock = some b → ¬ footR kFrame (.slice (some ⟨h, 0, none⟩) n n) (qs.take k ++ zF :: List.replicate (n - (k + 1)) zF) b) := fun b hb hf => by
        have hbw : b < w.heap.size := HF.out.ptr.lt b (.inr ⟨p, List.mem_of_getElem? HPK.out, hb⟩)
        rcases hf with hf | ⟨q, hq, hf⟩
        · simp [Value.ownBlock] at hf; omega
        · rcases List.mem_append.1 hq with hq | hq
          · obtain ⟨j, hj⟩ := List.getElem?_of_mem hq
            have hjl : j < k := by have := (List.getElem?_eq_some_iff.1 hj).1; rw [List.length_take] at this; omega
            rw [List.getElem?_take_of_lt hjl] at hj
            have := HF.out.ptr.each j k q p b hj HPK.out hf hb
            omega
          · have hz : q = zF := by
              rcases List.mem_cons.1 hq with rfl | hq
              · rfl
              · exact List.eq_of_mem_replicate hq
            rw [hz] at hf
            simp [kFrame, zF, Value.ownBlock] at hf
      have HE : Hid (qs.take k ++ List.replicate (n - k) zF = qs.take k ++ zF :: List.replicate (n - (k + 1)) zF) := by
        unfold Hid
        rw [show n - k = (n - (k + 1)) + 1 from by omega, List.replicate_succ]
      have HT : Hid (qs.take (k + 1) = qs.take k ++ [p]) := by
        unfold Hid
        rw [List.take_succ_eq_append_getElem hlq]
        have := List.getElem?_eq_some_iff.1 HPK.out
        rw [this.2]
      have HTL : Hid ((qs.take k).length = k) := by simp [Hid]; omega
      clear hlen hlq hbk hpk
      obtain ⟨pg, pv, fb, pn, dt, rl, rf⟩ := p
      obtain ⟨a1, n1, c1, e1⟩ := slice_of_own hdat
      dsimp only at e1
      subst e1
      clear hdat
      have HBL := (show Hid (Blk wr bk 46 [.int .i64 pg, .slice a1 n1 c1, .int .i64 pn, .bool dt, .int .i64 rl, .bool rf]) from hb)
      clear hb
      have hki : (k : Int) < (n : Int) := by omega
      go_wp2_with fail
      obtain ⟨y0, y1⟩ := HGr.out.all2
      obtain ⟨c0, c1', c2, c3, c4, c5⟩ := HBL.out.all6
      have ho := HOr.out
      rw [HE.out] at ho
      have fh := ho.frozen (by simp [HTL.out]; omega)
      have hcells : ∀ i, i < 6 → wr.cell? ⟨h, k * 6 + i, none⟩ = (kFrame.cells zF)[i]? := fun i hi => ho.cellMid (by simp [HTL.out]; omega) i hi _ (by rw [HTL.out]; rfl)
      have u0 : wr.cell? ⟨h, k * 6, none⟩ = some (.int .i64 0) := hcells 0 (by decide)
      have u1 : wr.cell? ⟨h, k * 6 + 1, none⟩ = some (.slice none 0 0) := hcells 1 (by decide)
      have u2 : wr.cell? ⟨h, k * 6 + 2, none⟩ = some (.int .i64 0) := hcells 2 (by decide)
      have u3 : wr.cell? ⟨h, k * 6 + 3, none⟩ = some (.bool false) := hcells 3 (by decide)
      have u4 : wr.cell? ⟨h, k * 6 + 4, none⟩ = some (.int .i64 0) := hcells 4 (by decide)
      have u5 : wr.cell? ⟨h, k * 6 + 5, none⟩ = some (.bool false) := hcells 5 (by decide)
      have HO2 := hid ho
      clear ho hcells
      have hS : (fun wx : World => wx.cell? ⟨G, 0, none⟩ = some (.slice (some ⟨h, 0, none⟩) n n) ∧ wx.cell? ⟨bk, 0, none⟩ = some (.int .i64 pg) ∧ wx.cell? ⟨bk, 1, none⟩ = some (.slice a1 n1 c1) ∧ wx.cell? ⟨bk, 2, none⟩ = some (.int .i64 pn) ∧ wx.cell? ⟨bk, 3, none⟩ = some (.bool dt) ∧ wx.cell? ⟨bk, 4, none⟩ = some (.int .i64 rl) ∧ wx.cell? ⟨bk, 5, none⟩ = some (.bool rf)) wr.drew := ⟨y0, c0, c1', c2, c3, c4, c5⟩
      refine wp_region_V (fun wx : World => wx.cell? ⟨G, 0, none⟩ = some (.slice (some ⟨h, 0, none⟩) n n) ∧ wx.cell? ⟨bk, 0, none⟩ = some (.int .i64 pg) ∧ wx.cell? ⟨bk, 1, none⟩ = some (.slice a1 n1 c1) ∧ wx.cell? ⟨bk, 2, none⟩ = some (.int .i64 pn) ∧ wx.cell? ⟨bk, 3, none⟩ = some (.bool dt) ∧ wx.cell? ⟨bk, 4, none⟩ = some (.int .i64 rl) ∧ wx.cell? ⟨bk, 5, none⟩ = some (.bool rf)) 7 8 rfl (by kernel_rfl) ?_
      refine tk 0 30 hS ?_
      refine tk 1 31 hS ?_
      refine tk 2 32 hS ?_
      refine tk 3 33 hS ?_
      refine tk 4 34 hS ?_
      refine tk 5 35 hS ?_
      refine wpAnyV_one (i := 6) (by kernel_rfl) rfl (fun K hK => ?_)
      go_simp
      refine hK.out _ _ (fun _ => hS) ?_
      clear hK K
      try simp only [Act.put, sA, s0, sS]
      refine wpAnyV_one (i := 7) (by kernel_rfl) rfl (fun K hK => ?_)
      go_simp
      refine hK.out _ _ (fun h => absurd rfl h) ?_
      clear hK K
      refine wpAnyV_done (by kernel_rfl) ?_
      try simp only [Act.put, sA, s0, sS]
      have HEL := (show Hid (OwnR kFrame 0 46 5 (wr.setCells h (k * 6) [.int .i64 pg, .slice a1 n1 c1, .int .i64 pn, .bool dt, .int .i64 rl, .bool rf]) (.slice (some ⟨h, 0, none⟩) n n) (qs.take k ++ (⟨pg, .slice a1 n1 c1, fb, pn, dt, rl, rf⟩ : EFrame) :: List.replicate (n - (k + 1)) zF)) from
        OwnR.setElem (p' := (⟨pg, .slice a1 n1 c1, fb, pn, dt, rl, rf⟩ : EFrame)) HO2.out (by simp [HTL.out]; omega) (k * 6) (by rw [HTL.out]; rfl) HDP.out HNE.out)
      have HST := (show Hid (Kept (fun b => b = h) wr (wr.setCells h (k * 6) [.int .i64 pg, .slice a1 n1 c1, .int .i64 pn, .bool dt, .int .i64 rl, .bool rf])) from Kept.setCells (R := fun b => b = h) (.inr rfl) _ _ (Kept.refl _ _))
      clear u0 u1 u2 u3 u4 u5 c0 c1' c2 c3 c4 c5 y0 y1 hS fh hck
      go_wp2_with fail
      go_roundw
      case rel =>
        refine ⟨k + 1, by omega, by go_num, (HGr.out.kept HST.out hGh).drew, ?_, (HZr.out.kept HST.out (by intro e; omega)).drew, (HKr.out.next HST.out (fun i hi e => by omega)).drew⟩
        have h1 := HEL.out.same (Kept.refl (fun _ => False) _).drew
        rw [show qs.take k ++ (⟨pg, .slice a1 n1 c1, fb, pn, dt, rl, rf⟩ : EFrame) :: List.replicate (n - (k + 1)) zF = qs.take (k + 1) ++ List.replicate (n - (k + 1)) zF from by rw [HT.out]; simp] at h1
        exact h1
      case measure => simp [intOf]; omega
    · obtain rfl : n = k := by omega
      obtain ⟨y0, y1⟩ := HGr.out.all2
      obtain ⟨z0, z1⟩ := HZr.out.all2
      have fz := HZr.out.frozen
      have lz := HZr.out.lt
      go_wp2
      have ho := HOr.out
      rw [Nat.sub_self, List.replicate_zero, List.append_nil, List.take_of_length_le (by rw [← HF.out.len]; exact Nat.le_refl _)] at ho
      have hst : Kept (fun b => b = w.heap.size) wr ((wr.setCell ⟨w.heap.size, 0, none⟩ (.slice (some ⟨h, 0, none⟩) n n)).setCell ⟨w.heap.size, 1, none⟩ (.int .i64 hand)) := Kept.setCell (R := fun b => b = w.heap.size) (Kept.setCell (R := fun b => b = w.heap.size) (Kept.refl _ _) (p := ⟨w.heap.size, 0, none⟩) (.inr rfl) _) (p := ⟨w.heap.size, 1, none⟩) (.inr rfl) _
      refine bodyPost_ret (v := .agg #[.slice (some ⟨h, 0, none⟩) n n, .int .i64 hand]) (by simp [results, Try.results35, go_sem, z0, z1]) rfl ⟨_, _, _, rfl, ho.kept hst ?_, ?_, HKr.out.next hst (fun i hi e => by omega)⟩
      · intro b hb e
        rcases hb with hb | hb
        · simp [Value.ownBlock] at hb; omega
        · have := HF.out.ptr.lt b (.inr hb)
          omega
      · intro b hb
        rcases hb with hb | hb
        · simp [Value.ownBlock] at hb; exact .inl (by omega)
        · exact .inr (.inr hb)
end Go.Proofs.Ytabmhcdldfehnab

namespace Go.Proofs.Ytabmhcdldfehnab
set_option maxRecDepth 100000
set_option maxHeartbeats 4000000
open Go.RowKit
set_option linter.unusedVariables false
set_option linter.unusedSimpArgs false
def findFrom (page : Int) : Nat → List EFrame → Int
  | _, [] => -1
  | k, p :: ps => if p.page = page then (k : Int) else findFrom page (k + 1) ps
def findP (ps : List EFrame) (hand page : Int) : Int := if poolF ps hand ≠ 0 ∨ page = -1 then -1 else findFrom page 0 ps
theorem findFrom_at {page : Int} {ps : List EFrame} {k : Nat} (hk : k < ps.length) :
    findFrom page k (ps.drop k) = if ps[k].page = page then (k : Int) else findFrom page (k + 1) (ps.drop (k + 1)) := by
  rw [List.drop_eq_getElem_cons hk]
  rfl
theorem findFrom_end {page : Int} {ps : List EFrame} : findFrom page ps.length (ps.drop ps.length) = -1 := by
  rw [List.drop_length]
  rfl
theorem poolF_len {ps : List EFrame} {hand : Int} (h : poolF ps hand = 0) : 1 ≤ ps.length ∧ ps.length ≤ 16 ∧ 0 ≤ hand ∧ hand < (ps.length : Int) := by
  unfold poolF at h
  by_cases h1 : ps.length < 1 ∨ 16 < ps.length
  · rw [if_pos h1] at h; cases h
  rw [if_neg h1] at h
  by_cases h2 : hand < 0 ∨ (ps.length : Int) ≤ hand
  · rw [if_pos h2] at h; cases h
  omega
theorem specPoolFind_any (v : Value) (hand page : Int) (ps : List EFrame) (w : World) (hv : RdR kFrame w v ps) :
    Calls Try.prog 30 #[.agg #[v, .int .i64 hand], .int .i64 page] w fun e w' => e = .returned (.int .i64 (findP ps hand page)) ∧ Same w w' := by
  obtain ⟨a, c, rfl⟩ := hv.form
  have hmax := hv.max
  unfold maxLen at hmax
  have HV := (show Hid (RdR kFrame w (.slice a ps.length c) ps) from hv)
  clear hv
  have HB0 := (show Hid (Blk (w.alloc (.cells #[.slice a ps.length c, .int .i64 hand] 28)) w.heap.size 28 [.slice a ps.length c, .int .i64 hand]) from Blk.newL w [.slice a ps.length c, .int .i64 hand] 28)
  have HK0 := hid (sameA w [.slice a ps.length c, .int .i64 hand] 28)
  have k0 := specPoolFault_any (.slice a ps.length c) hand ps (w.alloc (.cells #[.slice a ps.length c, .int .i64 hand] 28)) (HV.out.same HK0.out)
  obtain ⟨len, hl⟩ : ∃ n, ps.length = n := ⟨_, rfl⟩
  have HL : Hid (ps.length = len) := hl
  obtain ⟨R, hR⟩ : ∃ R, findP ps hand page = R := ⟨_, rfl⟩
  rw [hR]
  unfold findP at hR
  obtain ⟨q, hq⟩ : ∃ q, poolF ps hand = q := ⟨_, rfl⟩
  rw [hq] at hR k0
  rw [hl] at HV HB0 HK0 hmax k0 ⊢
  by_cases h0 : q = 0
  · have hlen := poolF_len (hq.trans h0)
    rw [hl] at hlen
    obtain ⟨hl1, hl16, hh0, hh1⟩ := hlen
    clear hl hq
    subst h0
    by_cases h1 : page = -1
    · rw [if_pos (.inr h1)] at hR
      subst hR
      subst h1
      go_enter Try.func30, Try.ntmps30
      go_wp2_with fail
      refine k0.mono ?_
      rintro e w1 ⟨rfl, hk1⟩
      have HK1 := (show Hid (Same w w1) from HK0.out.trans hk1)
      go_wp2
      go_ret
      exact ⟨rfl, HK1.out⟩
    · rw [if_neg (by simp [h1])] at hR
      have HR : Hid (findFrom page 0 (ps.drop 0) = R) := by rw [List.drop_zero]; exact hR
      clear hR
      rcases HV.out.row with ⟨hps, _⟩ | ⟨b, off, c', he, hc⟩
      · have := HL.out
        rw [hps] at this
        simp at this
        omega
      injection he with he1 he2 he3
      subst he1 he3
      have HC : Hid (∀ j i, (h : j < ps.length) → i < 6 → w.cell? ⟨b, off + (j * 6 + i), none⟩ = (kFrame.cells ps[j])[i]?) := hc
      clear hc he2
      go_enter Try.func30, Try.ntmps30
      go_wp2_with fail
      refine k0.mono ?_
      rintro e w1 ⟨rfl, hk1⟩
      have HK1 := (show Hid (Same w w1) from HK0.out.trans hk1)
      have HB1 := hid (HB0.out.same hk1)
      clear hk1 k0
      go_wp2_with fail
      go_loopw [5] (fun i wr => ∃ k : Nat, k ≤ len ∧ i = .int .i64 k ∧ Hid (findFrom page k (ps.drop k) = R) ∧ Hid (Same w wr) ∧ Hid (Blk wr w.heap.size 28 [.slice (some ⟨b, off, none⟩) len c, .int .i64 hand])) (fun i _ => len - (intOf i).toNat)
      case atStart => exact ⟨0, Nat.zero_le _, rfl, HR, HK1, HB1⟩
      case round =>
        obtain ⟨k, hk, rfl, HA, HK, HB⟩ := hrel
        obtain ⟨g0, g1⟩ := HB.out.all2
        by_cases hlt : k < len
        · have hlp : k < ps.length := by rw [HL.out]; exact hlt
          obtain ⟨pg, hpg⟩ : ∃ x, ps[k].page = x := ⟨_, rfl⟩
          have HPG : Hid (ps[k].page = pg) := hpg
          have d0 : wr.cell? ⟨b, off + k * 6, none⟩ = some (.int .i64 pg) := by have h := HC.out k 0 hlp (by decide); rw [← hpg]; exact HK.out.cellOf h id
          clear hpg
          have HA2 : Hid ((if pg = page then (k : Int) else findFrom page (k + 1) (ps.drop (k + 1))) = R) := by have h := HA.out; rw [findFrom_at hlp, HPG.out] at h; exact h
          by_cases h2 : pg = page
          · have HE : Hid ((k : Int) = R) := by have h := HA2.out; rw [if_pos h2] at h; exact h
            clear HA2 HA
            subst h2
            go_wp2
            go_ret
            exact ⟨by rw [← HE.out]; rfl, HK.out⟩
          · go_wp2
            go_roundw
            case rel => exact ⟨k + 1, by omega, by go_num, by have h := HA2.out; rw [if_neg h2] at h; exact h, HK, HB⟩
            case measure => simp [intOf]; omega
        · obtain rfl : len = k := by omega
          have he : (-1 : Int) = R := by have h := HA.out; rw [← HL.out, findFrom_end] at h; exact h
          go_wp2
          go_ret
          exact ⟨by rw [← he]; rfl, HK.out⟩
  · rw [if_pos (.inl h0)] at hR
    subst hR
    go_enter Try.func30, Try.ntmps30
    go_wp2_with fail
    refine k0.mono ?_
    rintro e w1 ⟨rfl, hk1⟩
    have HK1 := (show Hid (Same w w1) from HK0.out.trans hk1)
    go_wp2
    go_ret
    exact ⟨rfl, HK1.out⟩
end Go.Proofs.Ytabmhcdldfehnab

namespace Go.Proofs.Ytabmhcdldfehnab
set_option maxRecDepth 100000
open Go.RowKit
set_option linter.unusedVariables false
set_option linter.unusedSimpArgs false
theorem any_dat {ps qs : List EFrame} (h : datFrameS qs = datFrameS ps) (f : EFrame → Bool) (hf : ∀ p q : EFrame, p.dat = q.dat → f p = f q) : qs.any f = ps.any f := by
  induction qs generalizing ps with
  | nil =>
    cases ps with
    | nil => rfl
    | cons p ps => simp [datFrameS] at h
  | cons q qs ih =>
    cases ps with
    | nil => simp [datFrameS] at h
    | cons p ps =>
      simp only [datFrameS, List.map_cons, List.cons.injEq] at h
      rw [List.any_cons, List.any_cons, hf q p h.1, ih h.2]
theorem dat_take {ps qs : List EFrame} (h : datFrameS qs = datFrameS ps) (k : Nat) : datFrameS (qs.take k) = datFrameS (ps.take k) := by
  unfold datFrameS at h ⊢
  rw [List.map_take, List.map_take, h]
theorem EFrame.dat_eq {p q : EFrame} (h : p.dat = q.dat) : p.page = q.page ∧ p.bs = q.bs ∧ p.pins = q.pins ∧ p.dirty = q.dirty ∧ p.rl = q.rl ∧ p.rf = q.rf := by
  simp only [EFrame.dat, Prod.mk.injEq] at h
  exact h
theorem dat_len {ps qs : List EFrame} (h : datFrameS qs = datFrameS ps) : qs.length = ps.length := by rw [← datFrameS_length, h, datFrameS_length]
theorem dupAt_dat {ps qs : List EFrame} (h : datFrameS qs = datFrameS ps) (i : Nat) : dupAt qs i = dupAt ps i := by
  have hl := dat_len h
  unfold dupAt
  by_cases hi : i < ps.length
  · have hi' : i < qs.length := by omega
    rw [List.getElem?_eq_getElem hi, List.getElem?_eq_getElem hi']
    dsimp only
    rw [(EFrame.dat_eq (datFrameS_at h i hi' hi)).1]
    rw [any_dat (dat_take h i) (fun q => ps[i].page == q.page) (fun p q e => by rw [(EFrame.dat_eq e).1])]
  · rw [List.getElem?_eq_none (by omega), List.getElem?_eq_none (by omega)]
theorem poolF_dat {ps qs : List EFrame} {hand : Int} (h : datFrameS qs = datFrameS ps) : poolF qs hand = poolF ps hand := by
  have hl := dat_len h
  unfold poolF
  rw [hl]
  rw [any_dat h bad3 (fun p q e => by obtain ⟨e1, e2, e3, e4, e5, e6⟩ := EFrame.dat_eq e; unfold bad3; rw [e1, e2, e3, e4, e5, e6])]
  rw [any_dat h bad4 (fun p q e => by obtain ⟨e1, e2, e3, e4, e5, e6⟩ := EFrame.dat_eq e; unfold bad4; rw [e4, e5])]
  have hd : dup qs = dup ps := by
    unfold dup
    rw [hl]
    congr 1
    funext i
    exact dupAt_dat h i
  rw [hd]
theorem findFrom_dat {page : Int} {ps qs : List EFrame} (h : datFrameS qs = datFrameS ps) (k : Nat) : findFrom page k qs = findFrom page k ps := by
  induction qs generalizing ps k with
  | nil =>
    cases ps with
    | nil => rfl
    | cons p ps => simp [datFrameS] at h
  | cons q qs ih =>
    cases ps with
    | nil => simp [datFrameS] at h
    | cons p ps =>
      simp only [datFrameS, List.map_cons, List.cons.injEq] at h
      simp only [findFrom]
      rw [(EFrame.dat_eq h.1).1, ih h.2]
end Go.Proofs.Ytabmhcdldfehnab

namespace Go.Proofs.Ytabmhcdldfehnab
set_option maxRecDepth 100000
set_option maxHeartbeats 4000000
open Go.RowKit
set_option linter.unusedVariables false
set_option linter.unusedSimpArgs false
theorem idx_find (page : Int) (ps : List EFrame) (k : Nat) : idxFrom (fun p => p.page == page) k ps = findFrom page k ps := by
  induction ps generalizing k with
  | nil => rfl
  | cons p ps ih =>
    by_cases h : p.page = page
    · rw [show idxFrom (fun p => p.page == page) k (p :: ps) = k from if_pos (by simpa using h), show findFrom page k (p :: ps) = k from if_pos h]
    · rw [show idxFrom (fun p => p.page == page) k (p :: ps) = idxFrom (fun p => p.page == page) (k + 1) ps from if_neg (by simpa using h), show findFrom page k (p :: ps) = findFrom page (k + 1) ps from if_neg h]
      exact ih (k + 1)
theorem findFrom_none {page : Int} {ps : List EFrame} (k : Nat) (h : ∀ p ∈ ps, p.page ≠ page) : findFrom page k ps = -1 := by
  induction ps generalizing k with
  | nil => rfl
  | cons p ps ih =>
    rw [show findFrom page k (p :: ps) = findFrom page (k + 1) ps from if_neg (h p (by simp))]
    exact ih (k + 1) (fun q hq => h q (by simp [hq]))
theorem poolF_any3 {ps : List EFrame} {hand : Int} (h : poolF ps hand = 0) : ∀ p ∈ ps, bad3 p = false := by
  obtain ⟨h1, h2, h3, h4⟩ := poolF_len h
  unfold poolF at h
  rw [if_neg (by omega), if_neg (by omega)] at h
  have hb : ps.any bad3 = false := by
    cases hx : ps.any bad3 with
    | false => rfl
    | true => rw [hx] at h; simp at h
  intro p hp
  cases hx : bad3 p with
  | false => rfl
  | true => rw [List.any_eq_true.2 ⟨p, hp, hx⟩] at hb; cases hb
theorem findP_eq (ps : List EFrame) (hand page : Int) : findP ps hand page = if poolF ps hand ≠ 0 ∨ isPageB page = false then -1 else findFrom page 0 ps := by
  unfold findP
  by_cases h0 : poolF ps hand ≠ 0
  · rw [if_pos (.inl h0), if_pos (.inl h0)]
  · have h1 : poolF ps hand = 0 := Classical.not_not.1 h0
    by_cases hp : page = -1
    · rw [if_pos (.inr hp), if_pos (.inr (by rw [hp]; rfl))]
    · rw [if_neg (by simp [h1, hp])]
      by_cases h2 : isPageB page = false
      · rw [if_pos (.inr h2)]
        refine findFrom_none 0 (fun p hpm e => ?_)
        unfold isPageB at h2
        rcases pageOK_of (poolF_any3 h1 p hpm) with h | ⟨x, h, hx⟩
        · omega
        · have h3 : page = (x : Int) := by omega
          rw [h3] at h2
          simp at h2
          omega
      · rw [if_neg (by simp [h1, h2])]
end Go.Proofs.Ytabmhcdldfehnab

namespace Go.Proofs.Ytabmhcdldfehnab
set_option maxRecDepth 100000
set_option maxHeartbeats 4000000
open Go.RowKit
set_option linter.unusedVariables false
set_option linter.unusedSimpArgs false
def AsksP (fid : FuncId) (x : Value) (f : EFrame → Bool) (w : World) (bl : List Nat) (ps : List EFrame) : Prop :=
  ∀ (k b : Nat) (p : EFrame) (wx : World), bl[k]? = some b → ps[k]? = some p → Same w wx → Calls Try.prog fid #[.pointer (some ⟨b, 0, none⟩), x] wx fun e w' => e = .returned (.bool (f p)) ∧ Same wx w'
theorem indexP_any (fid : FuncId) (x : Value) (f : EFrame → Bool) (P : Nat) (hand : Int) (g n cap : Nat) (bl : List Nat) (ps : List EFrame) (w : World) (h : FP w P hand g n cap bl ps) (hn : n ≤ 16) (hent : Enters fid) (hf : AsksP fid x f w bl ps) :
    Calls Try.prog 53 #[.slice (some ⟨g, 0, none⟩) n cap, .func (.func fid) #[] #[x]] w fun e w' => e = .returned (.int .i64 (idxFrom f 0 ps)) ∧ Same w w' := by
  have HF := (show Hid (FP w P hand g n cap bl ps) from h)
  have HA0 := (show Hid (AsksP fid x f w bl ps) from hf)
  obtain ⟨R, hR⟩ : ∃ R, idxFrom f 0 ps = R := ⟨_, rfl⟩
  have HR : Hid (idxFrom f 0 (ps.drop 0) = R) := by rw [List.drop_zero]; exact hR
  rw [hR]
  clear h hf hR
  have hent' : ∀ (args : Array Value) (wx : World), (callFunc fid args).run Try.prog wx = .ok (.enter fid args) wx := hent
  clear hent
  go_enter Try.func53, Try.ntmps53
  go_wp2
  go_loopw [8] (fun i wr => ∃ k : Nat, k ≤ n ∧ i = .int .i64 k ∧ Hid (idxFrom f k (ps.drop k) = R) ∧ Hid (Same w wr)) (fun i _ => n - (intOf i).toNat)
  case atStart => exact ⟨0, Nat.zero_le _, rfl, HR, Kept.refl _ _⟩
  case round =>
    obtain ⟨k, hk, rfl, HA, HK⟩ := hrel
    by_cases hlt : k < n
    · obtain ⟨bk, p, hbk, hpk, hck, hb⟩ := (HF.out.same HK.out).at k hlt
      have hlp : k < ps.length := (List.getElem?_eq_some_iff.1 hpk).1
      have kf := HA0.out k bk p wr hbk hpk HK.out
      have HA2 : Hid ((if f p = true then (k : Int) else idxFrom f (k + 1) (ps.drop (k + 1))) = R) := by
        have h := HA.out
        rw [idxFrom_at hlp, (List.getElem?_eq_some_iff.1 hpk).2] at h
        exact h
      clear hb hbk hpk hlp
      have hki : (k : Int) < (n : Int) := by omega
      cases hb : f p with
      | true =>
        have HE : Hid ((k : Int) = R) := by have h := HA2.out; rw [if_pos hb] at h; exact h
        rw [hb] at kf
        clear HA2 HA hb
        go_wp2_with fail
        refine kf.mono ?_
        rintro e w1 ⟨rfl, hk1⟩
        have HK1 := (show Hid (Same w w1) from HK.out.trans hk1)
        clear kf hk1 hck
        go_wp2
        go_ret
        exact ⟨by rw [← HE.out]; rfl, HK1.out⟩
      | false =>
        have HE : Hid (idxFrom f (k + 1) (ps.drop (k + 1)) = R) := by have h := HA2.out; rw [if_neg (by simp [hb])] at h; exact h
        rw [hb] at kf
        clear HA2 HA hb
        go_wp2_with fail
        refine kf.mono ?_
        rintro e w1 ⟨rfl, hk1⟩
        have HK1 := (show Hid (Same w w1) from HK.out.trans hk1)
        clear kf hk1 hck
        go_wp2
        go_roundw
        case rel => exact ⟨k + 1, by omega, by go_num, HE, HK1⟩
        case measure => simp [intOf]; omega
    · obtain rfl : n = k := by omega
      have he : (-1 : Int) = R := by have h := HA.out; rw [HF.out.len, idxFrom_end] at h; exact h
      go_wp2
      go_ret
      exact ⟨by rw [← he]; rfl, HK.out⟩
theorem first1_any (page : Int) (C b : Nat) (p : EFrame) (w : World) (hb : Blk w b 46 (kFrame.cells p)) (hc : Blk w C 2 [.int .i64 page]) :
    Calls Try.prog 54 #[.pointer (some ⟨b, 0, none⟩), .pointer (some ⟨C, 0, none⟩)] w fun e w' => e = .returned (.bool (p.page == page)) ∧ Same w w' := by
  have c0 := hb.c0
  have c1 := hc.c0
  clear hb hc
  go_enter Try.func54, Try.ntmps54
  go_wp2_with fail
  have hS : (fun wx : World => wx.cell? ⟨b, 0, none⟩ = some (.int .i64 p.page) ∧ wx.cell? ⟨C, 0, none⟩ = some (.int .i64 page)) w.drew := ⟨c0, c1⟩
  refine wp_region_V (fun wx : World => wx.cell? ⟨b, 0, none⟩ = some (.int .i64 p.page) ∧ wx.cell? ⟨C, 0, none⟩ = some (.int .i64 page)) 6 7 rfl (by kernel_rfl) ?_
  refine tk 0 4 hS ?_
  refine tk 1 5 hS ?_
  refine tk 2 6 hS ?_
  refine tk 3 7 hS ?_
  refine tk 4 8 hS ?_
  refine tk 5 9 hS ?_
  refine wpAnyV_one (i := 6) (by kernel_rfl) rfl (fun K hK => ?_)
  go_simp
  refine hK.out _ _ (fun h => absurd rfl h) ?_
  clear hK K
  refine wpAnyV_done (by kernel_rfl) ?_
  try simp only [Act.put, sA, s0, sS]
  go_wp2
  go_ret
  exact ⟨rfl, (Kept.refl _ _).drew⟩
theorem enters_p1 : Enters 54 := fun args wx => by simp [callFunc, go_sem, Try.func54, Try.f54]
theorem first_any (page : Int) (P : Nat) (hand : Int) (g n cap : Nat) (bl : List Nat) (ps : List EFrame) (w : World) (h : FP w P hand g n cap bl ps) (hn : n ≤ 16) :
    Calls Try.prog 41 #[.pointer (some ⟨P, 0, none⟩), .int .i64 page] w fun e w' => e = .returned (.int .i64 (findFrom page 0 ps)) ∧ Same w w' := by
  have hk0 : Same w (w.alloc (.cells #[.int .i64 page] 2)) := (Kept.refl _ _).alloc _
  have hbC : Blk (w.alloc (.cells #[.int .i64 page] 2)) w.heap.size 2 [.int .i64 page] := Blk.newL w [.int .i64 page] 2
  have k0 := indexP_any 54 (.pointer (some ⟨w.heap.size, 0, none⟩)) (fun p => p.page == page) P hand g n cap bl ps _ (h.same hk0) hn enters_p1 (fun k b p wx hb hp hk => first1_any page w.heap.size b p wx ((h.ptr.blk k b p hb hp).same (hk0.trans hk)) (hbC.same hk))
  rw [idx_find] at k0
  obtain ⟨x0, x1⟩ := h.top.all2
  have hPl := h.top.lt
  have hmf : ∀ (fn : Fn) (first cap : Array Value) (w : World), (Instr.makeFunc fn first cap).run Try.prog w = .ok (.func fn first cap) w := fun _ _ _ _ => rfl
  have HK0 := hid hk0
  clear h hbC hk0
  generalize findFrom page 0 ps = R at k0 ⊢
  go_enter Try.func41, Try.ntmps41
  go_wp2_with fail
  refine k0.mono ?_
  rintro e w1 ⟨rfl, hk1⟩
  go_wp2
  go_ret
  exact ⟨rfl, HK0.out.trans hk1⟩
def findB (page : Int) (ps : List EFrame) : Int := if isPageB page = false then -1 else findFrom page 0 ps
theorem findB_eq {ps : List EFrame} {hand : Int} (page : Int) (h : poolF ps hand = 0) : findB page ps = findP ps hand page := by
  rw [findP_eq]
  unfold findB
  simp [h]
theorem find_any (page : Int) (P : Nat) (hand : Int) (g n cap : Nat) (bl : List Nat) (ps : List EFrame) (w : World) (h : FP w P hand g n cap bl ps) (hn : n ≤ 16) :
    Calls Try.prog 36 #[.pointer (some ⟨P, 0, none⟩), .int .i64 page] w fun e w' => e = .returned (.int .i64 (findB page ps)) ∧ Same w w' := by
  have kp := isPage_eq page
  have k0 := first_any page P hand g n cap bl ps w h hn
  unfold findB
  clear h
  generalize findFrom page 0 ps = R at k0 ⊢
  cases hp : isPageB page with
  | false =>
    rw [hp] at kp
    go_enter Try.func36, Try.ntmps36
    go_wp2_with fail
    refine (kp _).mono ?_
    rintro e w1 ⟨rfl, rfl⟩
    go_wp2
    go_ret
    exact ⟨rfl, Kept.refl _ _⟩
  | true =>
    rw [hp] at kp
    go_enter Try.func36, Try.ntmps36
    go_wp2_with fail
    refine (kp _).mono ?_
    rintro e w1 ⟨rfl, rfl⟩
    go_wp2_with fail
    refine k0.mono ?_
    rintro e w2 ⟨rfl, hk2⟩
    go_wp2
    go_ret
    exact ⟨by simp, hk2⟩
end Go.Proofs.Ytabmhcdldfehnab

namespace Go.Proofs.Ytabmhcdldfehnab
set_option maxRecDepth 100000
set_option maxHeartbeats 4000000
open Go.RowKit
set_option linter.unusedVariables false
set_option linter.unusedSimpArgs false
def atP (ps : List EFrame) (hand page : Int) : Int × Int := if poolF ps hand ≠ 0 then (0, 1) else if findP ps hand page < 0 then (0, 2) else (findP ps hand page, 0)
theorem findFrom_lt {page : Int} (ps : List EFrame) (k : Nat) (h : ¬ findFrom page k ps < 0) : ∃ j : Nat, findFrom page k ps = (j : Int) ∧ k ≤ j ∧ j < k + ps.length := by
  induction ps generalizing k with
  | nil => exact absurd (show findFrom page k [] < 0 from by simp [findFrom]) h
  | cons p ps ih =>
    simp only [findFrom] at h ⊢
    by_cases hp : p.page = page
    · rw [if_pos hp]
      exact ⟨k, rfl, Nat.le_refl _, by simp⟩
    · rw [if_neg hp] at h ⊢
      obtain ⟨j, e, h1, h2⟩ := ih (k + 1) h
      exact ⟨j, e, by omega, by simp only [List.length_cons]; omega⟩
theorem atP_lt {ps : List EFrame} {hand page at_ : Int} (h : atP ps hand page = (at_, 0)) : poolF ps hand = 0 ∧ ∃ j : Nat, at_ = (j : Int) ∧ j < ps.length := by
  unfold atP at h
  by_cases h1 : poolF ps hand ≠ 0
  · rw [if_pos h1] at h; simp at h
  rw [if_neg h1] at h
  by_cases h2 : findP ps hand page < 0
  · rw [if_pos h2] at h; simp at h
  rw [if_neg h2] at h
  simp only [Prod.mk.injEq, and_true] at h
  have h0 : poolF ps hand = 0 := Classical.not_not.1 h1
  refine ⟨h0, ?_⟩
  unfold findP at h h2
  by_cases h3 : poolF ps hand ≠ 0 ∨ page = -1
  · rw [if_pos h3] at h2; omega
  rw [if_neg h3] at h h2
  obtain ⟨j, e, _, hj⟩ := findFrom_lt ps 0 h2
  exact ⟨j, by rw [← h, e], by omega⟩
theorem l7At_any (v : Value) (hand page : Int) (ps : List EFrame) (w : World) (hv : RdR kFrame w v ps) :
    Calls Try.prog 17 #[.agg #[v, .int .i64 hand], .int .i64 page] w fun e w' => e = .returned (.tuple #[.int .i64 (atP ps hand page).1, .int .i64 (atP ps hand page).2]) ∧ Same w w' := by
  obtain ⟨a, c, rfl⟩ := hv.form
  have HV := (show Hid (RdR kFrame w (.slice a ps.length c) ps) from hv)
  clear hv
  have HB0 := (show Hid (Blk (w.alloc (.cells #[.slice a ps.length c, .int .i64 hand] 28)) w.heap.size 28 [.slice a ps.length c, .int .i64 hand]) from Blk.newL w [.slice a ps.length c, .int .i64 hand] 28)
  have HK0 := hid (sameA w [.slice a ps.length c, .int .i64 hand] 28)
  have k0 := specPoolFault_any (.slice a ps.length c) hand ps (w.alloc (.cells #[.slice a ps.length c, .int .i64 hand] 28)) (HV.out.same HK0.out)
  have k1 := fun wx (h : Same w wx) => specPoolFind_any (.slice a ps.length c) hand page ps wx (HV.out.same h)
  obtain ⟨R, hR⟩ : ∃ R, atP ps hand page = R := ⟨_, rfl⟩
  rw [hR]
  unfold atP at hR
  obtain ⟨q, hq⟩ : ∃ q, poolF ps hand = q := ⟨_, rfl⟩
  obtain ⟨f, hf⟩ : ∃ f, findP ps hand page = f := ⟨_, rfl⟩
  rw [hq] at hR k0
  rw [hf] at hR k1
  clear hq hf
  by_cases h0 : q = 0
  · subst h0
    rw [if_neg (by simp)] at hR
    by_cases h1 : f < 0
    · rw [if_pos h1] at hR
      subst hR
      go_enter Try.func17, Try.ntmps17
      go_wp2_with fail
      refine k0.mono ?_
      rintro e w1 ⟨rfl, hk1⟩
      have HK1 := (show Hid (Same w w1) from HK0.out.trans hk1)
      obtain ⟨g0, g1⟩ := (HB0.out.same hk1).all2
      clear hk1
      go_wp2_with fail
      refine (k1 _ HK1.out).mono ?_
      rintro e w2 ⟨rfl, hk2⟩
      have HK2 := (show Hid (Same w w2) from HK1.out.trans hk2)
      go_wp2
      go_ret2
      exact ⟨rfl, HK2.out⟩
    · rw [if_neg h1] at hR
      subst hR
      go_enter Try.func17, Try.ntmps17
      go_wp2_with fail
      refine k0.mono ?_
      rintro e w1 ⟨rfl, hk1⟩
      have HK1 := (show Hid (Same w w1) from HK0.out.trans hk1)
      obtain ⟨g0, g1⟩ := (HB0.out.same hk1).all2
      clear hk1
      go_wp2_with fail
      refine (k1 _ HK1.out).mono ?_
      rintro e w2 ⟨rfl, hk2⟩
      have HK2 := (show Hid (Same w w2) from HK1.out.trans hk2)
      go_wp2
      go_ret2
      exact ⟨rfl, HK2.out⟩
  · rw [if_pos h0] at hR
    subst hR
    go_enter Try.func17, Try.ntmps17
    go_wp2_with fail
    refine k0.mono ?_
    rintro e w1 ⟨rfl, hk1⟩
    have HK1 := (show Hid (Same w w1) from HK0.out.trans hk1)
    go_wp2
    go_ret2
    exact ⟨rfl, HK1.out⟩
end Go.Proofs.Ytabmhcdldfehnab
