import Derived.Test.YtjlkphhdbopmiaaGreatG00
import Derived.Test.YtjlkphhdbopmiaaGreatG01
import Derived.Deep.RegionWith
import Derived.Deep.DeepMust
namespace Go.Proofs.YtjlkphhdbopmiaaGreat
set_option maxHeartbeats 2000000
open Go.RowKit
theorem markSectorWriteS_own (base : Nat) (va : Value) (ps : List PW) (k0 : Int) (w : World) (h0 : 0 ≤ k0) (h1 : endP k0 ps ≤ 1125899906842624) (hn : ps.length ≤ 1125899906842624)
  (ha : OwnP base 79 5 w va ps) :
  Calls Tryz.prog 30 #[va, .int .i64 k0] w fun e w' => e = .returned (.int .i64 (endP k0 ps)) ∧ OwnP base 79 5 w' va (markP k0 ps) ∧ Kept (footP va ps) w w' := by
 by_cases hz : ps.length = 0
 ·obtain rfl : ps = [] := List.length_eq_zero_iff.1 hz
  obtain ⟨aa, ca, rfl⟩ : ∃ aa ca, va = .slice aa 0 ca := by rcases ha.form with ⟨rfl, _⟩ | ⟨g, cap, rfl, _⟩ <;> exact ⟨_, _, rfl⟩
  have HA : Hid (OwnP base 79 5 w (.slice aa 0 ca) []) := ha
  clear ha hn hz
  go_enter Tryz.func30, Tryz.ntmps30
  go_wp2
  refine wp_loop_rounds 1 ?_
  rw [rounds_succ]
  go_wp2
  go_ret
  exact ⟨by simp [endP], by simpa [markP] using HA.out, Kept.refl _ _⟩
 ·obtain ⟨g, cap, rfl, hb, hlt, _, _⟩ : ∃ g cap, va = .slice (some ⟨g, 0, none⟩) ps.length cap ∧ base ≤ g ∧ g < w.heap.size ∧ ps.length ≤ cap ∧ cap ≤ maxLen := by
   rcases ha.form with ⟨_, rfl⟩ | h
   ·simp at hz
   ·exact h
  generalize hl : ps.length = len at *
  have HL : Hid (ps.length = len) := hl
  have H1 : Hid (endP k0 ps ≤ 1125899906842624) := h1
  have HA : Hid (OwnP base 79 5 w (.slice (some ⟨g, 0, none⟩) len cap) ps) := ha
  clear hl h1 ha
  go_enter Tryz.func30, Tryz.ntmps30
  go_wp2
  go_loopw [1, 5] (fun v i wr => ∃ (k : Nat) (c : Int), k ≤ len ∧ i = .int .i64 k ∧ v = .int .i64 c ∧ Hid (c = endP k0 (ps.take k)) ∧ Hid (OwnP base 79 5 wr (.slice (some ⟨g, 0, none⟩) len cap) (partP k0 ps k)) ∧ Hid (Kept (footP (.slice (some ⟨g, 0, none⟩) len cap) ps) w wr)) (fun _ i _ => len - (intOf i).toNat)
  case atStart => exact ⟨0, k0, Nat.zero_le _, rfl, rfl, rfl, by rw [partP_zero]; exact HA.out, Kept.refl _ _⟩
  case round =>
   obtain ⟨k, c, hk, rfl, rfl, HC, HO, HK⟩ := hrel
   by_cases hlt : k < len
   ·have hlp : k < ps.length := by rw [HL.out]; exact hlt
    have hf := HO.out.frozen (by rw [partP_length]; exact HL.out.symm) (k * 2)
    have hc := HO.out.sec (by rw [partP_length]; exact HL.out.symm) k (by rw [partP_length]; exact hlp)
    have hv : wr.cell? ⟨g, k * 2 + 1, none⟩ = some ps[k].v := by rw [HO.out.val (by rw [partP_length]; exact HL.out.symm) k (by rw [partP_length]; exact hlp), partP_vAt _ _ _ _ hlp]
    have hc0 : k0 ≤ c := by rw [HC.out]; exact endP_le _ _
    have hc1 : c + 1 + ps[k].bs.length ≤ 1125899906842624 := by rw [HC.out, ← endP_step k0 ps k hlp]; exact Int.le_trans (endP_take_le _ _ _) H1.out
    have HO2 : Hid (OwnP base 79 5 (wr.setCell ⟨g, k * 2, none⟩ (.int .i64 c)) (.slice (some ⟨g, 0, none⟩) len cap) (markP k0 (ps.take k) ++ ⟨c, ps[k].v, ps[k].bs⟩ :: ps.drop (k + 1))) := by
     have h := HO.out
     rw [partP_at _ _ _ hlp] at h
     have hl := HL.out
     exact h.setSec (by simp [markP_length]; omega) c _ (by simp [markP_length]; omega)
    go_wp2_with fail
    refine (markByteS_own base ps[k].v ps[k].bs (c + 1) _ (by omega) (by omega) (by omega) (HO2.out.data ⟨c, ps[k].v, ps[k].bs⟩ (by simp))).mono ?_
    rintro e w1 ⟨rfl, ho, hk1⟩
    have HO3 : Hid (OwnP base 79 5 w1 (.slice (some ⟨g, 0, none⟩) len cap) (partP k0 ps (k + 1))) := by
     rw [partP_step _ _ _ hlp, ← HC.out]
     exact HO2.out.setData hk1 ho
    have HK3 : Hid (Kept (footP (.slice (some ⟨g, 0, none⟩) len cap) ps) w w1) :=
     (HK.out.setCell (p := ⟨g, k * 2, none⟩) (.inr (.inl rfl)) _).trans (hk1.mono fun b _ hb => .inr ⟨ps[k], List.getElem_mem _, hb⟩)
    clear ho hk1 hv hc hf HO HO2
    go_wp2
    go_roundw
    case rel =>
     exact ⟨k + 1, c + 1 + ps[k].bs.length, by omega, by go_num, rfl, by rw [endP_step _ _ _ hlp, ← HC.out]; rfl, HO3, HK3⟩
    case measure => simp [intOf]; omega
   ·go_wp2
    go_ret
    obtain rfl : k = len := by omega
    have hl := HL.out
    have hc := HC.out
    have ho := HO.out
    rw [← hl, List.take_length] at hc
    rw [← hl, partP_all, hl] at ho
    exact ⟨ret_int hc, ho, HK.out⟩
theorem eqSectorWrite_own (base : Nat) (sec : Int) (va vb : Value) (bs : List Int) (w : World) (hn : bs.length ≤ 1125899906842624)
  (ha : Own base 5 .u8 w va bs) (hb : Own base 5 .u8 w vb bs) :
  Calls Tryz.prog 55 #[.agg #[.int .i64 sec, va], .agg #[.int .i64 sec, vb]] w fun e w' => e = .returned (.bool true) ∧ Same w w' := by
 obtain ⟨aa, na, ca, rfl⟩ : ∃ aa na ca, va = .slice aa na ca := by rcases ha.form with ⟨rfl, _⟩ | ⟨g, cap, rfl, _⟩ <;> exact ⟨_, _, _, rfl⟩
 obtain ⟨ab, nb, cb, rfl⟩ : ∃ aa na ca, vb = .slice aa na ca := by rcases hb.form with ⟨rfl, _⟩ | ⟨g, cap, rfl, _⟩ <;> exact ⟨_, _, _, rfl⟩
 have HA : Hid (Own base 5 .u8 w (.slice aa na ca) bs) := ha
 have HB : Hid (Own base 5 .u8 w (.slice ab nb cb) bs) := hb
 clear ha hb
 go_enter Tryz.func55, Tryz.ntmps55
 go_wp2_with fail
 refine (eqByteS_own base _ _ bs _ hn (HA.out.same (((Kept.refl _ _).alloc _).alloc _)) (HB.out.same (((Kept.refl _ _).alloc _).alloc _))).mono ?_
 rintro e w1 ⟨rfl, n1, rfl⟩
 go_wp2
 go_ret
 exact ⟨rfl, (((Kept.refl _ _).alloc _).alloc _).drewN _⟩
theorem eqSectorWriteS_own (base : Nat) (va vb : Value) (ps qs : List PW) (w : World) (hn : ps.length ≤ 1125899906842624) (hs : dataP ps = dataP qs) (hsm : ∀ p ∈ ps, p.bs.length ≤ 1125899906842624)
  (ha : OwnP base 79 5 w va ps) (hb : OwnP base 79 5 w vb qs) :
  Calls Tryz.prog 28 #[va, vb] w fun e w' => e = .returned (.bool true) ∧ Same w w' := by
 have hlen : qs.length = ps.length := by rw [← dataP_length, ← dataP_length, hs]
 by_cases hz : ps.length = 0
 ·obtain rfl : ps = [] := List.length_eq_zero_iff.1 hz
  obtain rfl : qs = [] := List.length_eq_zero_iff.1 hlen
  obtain ⟨aa, ca, rfl⟩ : ∃ aa ca, va = .slice aa 0 ca := by rcases ha.form with ⟨rfl, _⟩ | ⟨g, cap, rfl, _⟩ <;> exact ⟨_, _, rfl⟩
  obtain ⟨ab, cb, rfl⟩ : ∃ aa ca, vb = .slice aa 0 ca := by rcases hb.form with ⟨rfl, _⟩ | ⟨g, cap, rfl, _⟩ <;> exact ⟨_, _, rfl⟩
  clear ha hb hn hz hs
  go_enter Tryz.func28, Tryz.ntmps28
  go_wp2
  refine wp_loop_rounds 1 ?_
  rw [rounds_succ]
  go_wp2
  go_ret
  exact ⟨rfl, Kept.refl _ _⟩
 ·obtain ⟨ga, ca, rfl⟩ : ∃ g cap, va = .slice (some ⟨g, 0, none⟩) ps.length cap := by
   rcases ha.form with ⟨_, h⟩ | ⟨g, cap, h, _⟩
   ·simp [h] at hz
   ·exact ⟨g, cap, h⟩
  obtain ⟨gb, cb, rfl⟩ : ∃ g cap, vb = .slice (some ⟨g, 0, none⟩) ps.length cap := by
   rcases hb.form with ⟨_, h⟩ | ⟨g, cap, h, _⟩
   ·simp [h] at hlen; omega
   ·exact ⟨g, cap, by rw [h, hlen]⟩
  have HA : Hid (OwnP base 79 5 w (.slice (some ⟨ga, 0, none⟩) ps.length ca) ps) := ha
  have HB : Hid (OwnP base 79 5 w (.slice (some ⟨gb, 0, none⟩) ps.length cb) qs) := hb
  have HQ : Hid (qs.length = ps.length) := hlen
  have HS : Hid (dataP ps = dataP qs) := hs
  have HM : Hid (∀ p ∈ ps, p.bs.length ≤ 1125899906842624) := hsm
  clear ha hb hs hlen hsm
  generalize hl : ps.length = len at hn hz HA HB ⊢
  have HL : Hid (ps.length = len) := hl
  clear hl
  go_enter Tryz.func28, Tryz.ntmps28
  go_wp2
  go_loopw [5] (fun i wr => ∃ (k : Nat), k ≤ len ∧ i = .int .i64 k ∧ Hid (Same w wr)) (fun i _ => len - (intOf i).toNat)
  case atStart => exact ⟨0, Nat.zero_le _, rfl, Kept.refl _ _⟩
  case round =>
   obtain ⟨k, hk, rfl, HK⟩ := hrel
   by_cases hlt : k < len
   ·have hlp : k < ps.length := by rw [HL.out]; exact hlt
    have hlq : k < qs.length := by rw [HQ.out]; exact hlp
    have hoa := HA.out.same HK.out
    have hob := HB.out.same HK.out
    obtain ⟨s1, s2⟩ := dataP_at HS.out k hlp hlq
    have s3 := HM.out _ (List.getElem_mem hlp)
    have ha1 : wr.cell? ⟨ga, k * 2, none⟩ = some (.int .i64 ps[k].sec) := hoa.sec HL.out.symm k hlp
    have ha2 : wr.cell? ⟨ga, k * 2 + 1, none⟩ = some ps[k].v := hoa.val HL.out.symm k hlp
    have hb1 : wr.cell? ⟨gb, k * 2, none⟩ = some (.int .i64 ps[k].sec) := by rw [hob.sec (by rw [HQ.out, HL.out]) k hlq, s1]
    have hb2 : wr.cell? ⟨gb, k * 2 + 1, none⟩ = some qs[k].v := hob.val (by rw [HQ.out, HL.out]) k hlq
    have HDA : Hid (Own base 5 .u8 wr ps[k].v ps[k].bs) := hoa.data _ (List.getElem_mem hlp)
    have HDB : Hid (Own base 5 .u8 wr qs[k].v ps[k].bs) := by have := hob.data _ (List.getElem_mem hlq); rw [← s2] at this; exact this
    clear s1 s2 hoa hob
    go_wp2_with fail
    go_region_with (go_at_call 55; refine (eqSectorWrite_own base ps[k].sec ps[k].v qs[k].v ps[k].bs _ s3 (by exact HDA.out.same (Kept.refl _ _).drew) (by exact HDB.out.same (Kept.refl _ _).drew)).mono ?_; rintro e w1 ⟨rfl, hk1⟩)
    all_goals
     have HK1 : Hid (Same w w1) := HK.out.drew.trans hk1
     clear hk1 ha1 ha2 hb1 hb2 HDA HDB
     go_wp2
     go_roundw
     case rel => exact ⟨k + 1, by omega, by go_num, HK1⟩
     case measure => simp [intOf]; omega
   ·go_wp2
    go_ret
    exact ⟨rfl, HK.out⟩
theorem slice_of_ownP {base : Nat} {tw tb : TypeId} {w : World} {v : Value} {ps : List PW} (h : OwnP base tw tb w v ps) : ∃ aa na ca, v = .slice aa na ca := by
 rcases h.form with ⟨rfl, _⟩ | ⟨g, cap, rfl, _⟩ <;> exact ⟨_, _, _, rfl⟩
theorem eqDisk_own (base : Nat) (dv pv dv' pv' : Value) (dur : List Int) (ps qs : List PW) (w : World) (hd : dur.length ≤ 1125899906842624) (hn : ps.length ≤ 1125899906842624)
  (hs : dataP ps = dataP qs) (hsm : ∀ p ∈ ps, p.bs.length ≤ 1125899906842624)
  (ha : OwnD base 79 5 w dv pv dur ps) (hb : OwnD base 79 5 w dv' pv' dur qs) :
  Calls Tryz.prog 10 #[.agg #[dv, pv], .agg #[dv', pv']] w fun e w' => e = .returned (.bool true) ∧ Same w w' := by
 obtain ⟨a1, n1, c1, rfl⟩ := slice_of_own ha.dur
 obtain ⟨a2, n2, c2, rfl⟩ := slice_of_ownP ha.pend
 obtain ⟨a3, n3, c3, rfl⟩ := slice_of_own hb.dur
 obtain ⟨a4, n4, c4, rfl⟩ := slice_of_ownP hb.pend
 have HA := (show Hid (OwnD base 79 5 w _ _ dur ps) from ha)
 have HB := (show Hid (OwnD base 79 5 w _ _ dur qs) from hb)
 have HS : Hid (dataP ps = dataP qs) := hs
 have HM : Hid (∀ p ∈ ps, p.bs.length ≤ 1125899906842624) := hsm
 clear ha hb hs hsm
 go_enter Tryz.func10, Tryz.ntmps10
 go_wp2_with fail
 refine (eqByteS_own base _ _ dur _ hd (HA.out.dur.same (((Kept.refl _ _).alloc _).alloc _)) (HB.out.dur.same (((Kept.refl _ _).alloc _).alloc _))).mono ?_
 rintro e w1 ⟨rfl, m1, rfl⟩
 go_wp2_with fail
 refine (eqSectorWriteS_own base _ _ ps qs _ hn HS.out HM.out (HA.out.pend.same ((((Kept.refl _ _).alloc _).alloc _).drewN _)) (HB.out.pend.same ((((Kept.refl _ _).alloc _).alloc _).drewN _))).mono ?_
 rintro e w2 ⟨rfl, hk2⟩
 go_wp2
 go_ret
 exact ⟨rfl, ((((Kept.refl _ _).alloc _).alloc _).drewN _).trans hk2⟩
theorem markDisk_own (base : Nat) (dv pv : Value) (dur : List Int) (ps : List PW) (k0 : Int) (w : World) (h0 : 0 ≤ k0) (h1 : endP (k0 + dur.length) ps ≤ 1125899906842624) (hn : ps.length ≤ 1125899906842624)
  (ha : OwnD base 79 5 w dv pv dur ps) :
  Calls Tryz.prog 11 #[.agg #[dv, pv], .int .i64 k0] w fun e w' => e = .returned (.int .i64 (endP (k0 + dur.length) ps)) ∧
   OwnD base 79 5 w' dv pv (marks k0 dur.length) (markP (k0 + dur.length) ps) ∧ Kept (footD dv pv ps) w w' := by
 have hle := endP_le (k0 + dur.length) ps
 obtain ⟨a1, n1, c1, rfl⟩ := slice_of_own ha.dur
 obtain ⟨a2, n2, c2, rfl⟩ := slice_of_ownP ha.pend
 have HA := (show Hid (OwnD base 79 5 w _ _ dur ps) from ha)
 have H1 : Hid (endP (k0 + dur.length) ps ≤ 1125899906842624) := h1
 have hb1 : k0 + dur.length ≤ 1125899906842624 := by omega
 have hlt := HA.out.lt
 have HLT : Hid (∀ b, footD (.slice a1 n1 c1) (.slice a2 n2 c2) ps b → base ≤ b ∧ b < w.heap.size) := hlt
 clear ha h1 hle hlt
 go_enter Tryz.func11, Tryz.ntmps11
 go_wp2_with fail
 refine (markByteS_own base _ dur k0 _ (by omega) (by omega) (by omega) (HA.out.dur.same ((Kept.refl _ _).alloc _))).mono ?_
 rintro e w1 ⟨rfl, ho1, hk1⟩
 have hc : w1.cell? ⟨w.heap.size, 1, none⟩ = some (.slice a2 n2 c2) := by
  rw [hk1.cell (by simp) (fun e => by have := (HLT.out w.heap.size (.inl e)).2; omega)]; simp
 have HO1 : Hid (OwnP base 79 5 w1 (.slice a2 n2 c2) ps) :=
  (HA.out.pend.same ((Kept.refl _ _).alloc _)).kept hk1 (fun b hb e => HA.out.apart b hb e)
 have HK1 : Hid (Kept (fun b => (Value.slice a1 n1 c1).ownBlock = some b) w w1) := ((Kept.refl _ _).alloc _).trans hk1
 have HD1 : Hid (Own base 5 .u8 w1 (.slice a1 n1 c1) (marks k0 dur.length)) := ho1
 clear ho1 hk1
 go_wp2_with fail
 refine (markSectorWriteS_own base _ ps (k0 + dur.length) _ (by omega) H1.out hn HO1.out).mono ?_
 rintro e w2 ⟨rfl, ho2, hk2⟩
 have HF : Hid (OwnD base 79 5 w2 (.slice a1 n1 c1) (.slice a2 n2 c2) (marks k0 dur.length) (markP (k0 + dur.length) ps) ∧ Kept (footD (.slice a1 n1 c1) (.slice a2 n2 c2) ps) w w2) :=
  ⟨⟨HD1.out.kept hk2 (fun b hb e => HA.out.apart b e hb), ho2, fun b hb => HA.out.apart b ((footP_v (markP_v _ _) b).1 hb)⟩,
   (HK1.out.mono (fun b _ e => .inl e)).trans (hk2.mono (fun b _ e => .inr e))⟩
 clear ho2 hk2 hc HO1 HK1 HD1
 go_wp2
 go_ret
 exact ⟨rfl, HF.out⟩
theorem szByteS_any (a : Option Addr) (n c : Nat) (left : Int) (w : World) (h0 : 0 ≤ left) (h1 : left ≤ 1048576) (hn : n ≤ maxLen) :
  Calls Tryz.prog 14 #[.slice a n c, .int .i64 left] w fun e w' => ∃ r : Int, e = .returned (.int .i64 r) ∧ ((r = -1 ∧ left < n) ∨ (r = left - n ∧ 0 ≤ r)) ∧ w' = w := by
 unfold maxLen at hn
 by_cases h : left < n
 ·go_enter Tryz.func14, Tryz.ntmps14
  go_wp2
  go_ret
  exact ⟨_, rfl, .inl ⟨rfl, h⟩, rfl⟩
 ·go_enter Tryz.func14, Tryz.ntmps14
  go_wp2
  go_ret
  exact ⟨_, rfl, .inr ⟨rfl, by omega⟩, rfl⟩
theorem Tryz.infoSW : (Tryz.prog.info? 79).map (fun i => (i.zero, i.size, i.bytes)) = some (some (.agg #[.int .i64 0, .slice none 0 0]), 2, 32) := by kernel_rfl
theorem szSectorWrite_any (sec : Int) (a : Option Addr) (n c : Nat) (left : Int) (w : World) (h0 : 0 ≤ left) (h1 : left ≤ 1048576) (hn : n ≤ maxLen) :
  Calls Tryz.prog 33 #[.agg #[.int .i64 sec, .slice a n c], .int .i64 left] w fun e w' => ∃ r : Int, e = .returned (.int .i64 r) ∧ ((r = -1 ∧ left < n) ∨ (r = left - n ∧ 0 ≤ r)) ∧ Same w w' := by
 go_enter Tryz.func33, Tryz.ntmps33
 go_wp2_with fail
 refine (szByteS_any a n c left _ h0 h1 hn).mono ?_
 rintro e w1 ⟨r, rfl, hr, rfl⟩
 rcases hr with ⟨rfl, hr⟩ | ⟨hr, hr0⟩
 ·go_wp2
  go_ret
  exact ⟨_, rfl, .inl ⟨rfl, hr⟩, (Kept.refl _ _).alloc _⟩
 ·have HR : Hid (r = left - n) := hr
  clear hr
  go_wp2
  go_ret
  exact ⟨_, rfl, .inr ⟨HR.out, hr0⟩, (Kept.refl _ _).alloc _⟩
theorem szSectorWriteS_any (v : Value) (ps : List PW) (left : Int) (w : World) (h0 : 0 ≤ left) (h1 : left ≤ 1048576) (hp : RdP w v ps) :
  Calls Tryz.prog 15 #[v, .int .i64 left] w fun e w' => ∃ r : Int, e = .returned (.int .i64 r) ∧ (r = -1 ∨ (r = left - ps.length - sizeP ps ∧ 0 ≤ r)) ∧ Same w w' := by
 have hn := hp.len
 unfold maxLen at hn
 rcases hp.row with ⟨rfl, a, c, rfl⟩ | ⟨b, off, c, rfl, hc⟩
 ·clear hp hn
  go_enter Tryz.func15, Tryz.ntmps15
  go_wp2
  refine wp_loop_rounds 1 ?_
  rw [rounds_succ]
  go_wp2
  go_ret
  exact ⟨_, rfl, .inr ⟨by simp [sizeP], by omega⟩, Kept.refl _ _⟩
 ·have HP : Hid (RdP w (.slice (some ⟨b, off, none⟩) ps.length c) ps) := hp
  have HC : Hid (∀ i (h : i < ps.length), w.cell? ⟨b, off + i * 2, none⟩ = some (.int .i64 ps[i].sec) ∧ w.cell? ⟨b, off + i * 2 + 1, none⟩ = some ps[i].v) := hc
  clear hp hc
  generalize hl : ps.length = len at hn HP ⊢
  have HL : Hid (ps.length = len) := hl
  clear hl
  by_cases h : left < len
  ·go_enter Tryz.func15, Tryz.ntmps15
   go_wp2
   go_ret
   exact ⟨_, rfl, .inl rfl, Kept.refl _ _⟩
  ·go_enter Tryz.func15, Tryz.ntmps15
   go_wp2
   go_loopw [1, 5] (fun u i wr => ∃ (k : Nat) (r : Int), k ≤ len ∧ i = .int .i64 k ∧ u = .int .i64 r ∧ 0 ≤ r ∧ r ≤ left ∧ Hid (r = left - len - sizeP (ps.take k)) ∧ Hid (Same w wr)) (fun _ i _ => len - (intOf i).toNat)
   case atStart => exact ⟨0, left - len, Nat.zero_le _, rfl, rfl, by omega, by omega, by simp [sizeP, Hid], Kept.refl _ _⟩
   case round =>
    obtain ⟨k, r, hk, rfl, rfl, hr0, hr1, HR, HK⟩ := hrel
    by_cases hlt : k < len
    ·have hlp : k < ps.length := by rw [HL.out]; exact hlt
     obtain ⟨a1, c1, e1⟩ := (HP.out.data _ (List.getElem_mem hlp)).form
     have hm1 := (HP.out.data _ (List.getElem_mem hlp)).1
     have q1 := HK.out.cellOf (HC.out k hlp).1 id
     have q2 := HK.out.cellOf (HC.out k hlp).2 id
     rw [e1] at q2
     clear e1
     go_wp2_with fail
     refine (szSectorWrite_any _ _ _ _ _ _ hr0 (by omega) hm1).mono ?_
     rintro e w1 ⟨r1, rfl, hr2, hk1⟩
     have HK1 : Hid (Same w w1) := HK.out.trans hk1
     clear q1 q2 hk1
     rcases hr2 with ⟨rfl, hr2⟩ | ⟨hr2, hr3⟩
     ·go_wp2
      go_ret
      exact ⟨_, rfl, .inl rfl, HK1.out⟩
     ·have hr4 : r1 ≤ left := by omega
      have HR1 : Hid (r1 = r - ps[k].bs.length) := hr2
      clear hr2
      go_wp2
      go_roundw
      case rel => exact ⟨k + 1, r1, by omega, by go_num, rfl, hr3, hr4, by have h1 := HR1.out; have h2 := HR.out; have h3 := sizeP_step ps k hlp; unfold Hid; omega, HK1⟩
      case measure => simp [intOf]; omega
    ·go_wp2
     go_ret
     obtain rfl : k = len := by omega
     have h1 := HR.out
     have h2 := HL.out
     rw [← h2, List.take_length] at h1
     exact ⟨r, rfl, .inr ⟨by omega, hr0⟩, HK.out⟩
theorem szDisk_any (dv pv : Value) (dur : List Int) (ps : List PW) (left : Int) (w : World) (h0 : 0 ≤ left) (h1 : left ≤ 1048576) (hp : RdD w dv pv dur ps) :
  Calls Tryz.prog 4 #[.agg #[dv, pv], .int .i64 left] w fun e w' => ∃ r : Int, e = .returned (.int .i64 r) ∧ (r = -1 ∨ (r = left - dur.length - ps.length - sizeP ps ∧ 0 ≤ r)) ∧ Same w w' := by
 obtain ⟨a1, c1, rfl⟩ := hp.dur.form
 obtain ⟨a2, c2, rfl⟩ := hp.pend.form
 have hm := hp.dur.1
 have HP := (show Hid (RdP w _ ps) from hp.pend)
 clear hp
 go_enter Tryz.func4, Tryz.ntmps4
 go_wp2_with fail
 refine (szByteS_any _ _ _ left _ h0 h1 hm).mono ?_
 rintro e w1 ⟨r, rfl, hr, rfl⟩
 rcases hr with ⟨rfl, hr⟩ | ⟨hr, hr0⟩
 ·go_wp2
  go_ret
  exact ⟨_, rfl, .inl rfl, (Kept.refl _ _).alloc _⟩
 ·have hr1 : r ≤ left := by omega
  have HR : Hid (r = left - dur.length) := hr
  clear hr
  go_wp2_with fail
  refine (szSectorWriteS_any _ ps r _ hr0 (by omega) (HP.out.same ((Kept.refl _ _).alloc _))).mono ?_
  rintro e w2 ⟨r2, rfl, hr2, hk2⟩
  have HK2 : Hid (Same w w2) := ((Kept.refl _ _).alloc _).trans hk2
  clear hk2
  rcases hr2 with rfl | ⟨hr2, hr3⟩
  ·go_wp2
   go_ret
   exact ⟨_, rfl, .inl rfl, HK2.out⟩
  ·have HR2 : Hid (r2 = r - ps.length - sizeP ps) := hr2
   clear hr2
   go_wp2
   go_ret
   exact ⟨r2, rfl, .inr ⟨by have h1 := HR.out; have h2 := HR2.out; omega, hr3⟩, HK2.out⟩
theorem toSectorWrite_any (sec : Int) (v : Value) (bs : List Int) (w : World) (hn : bs.length ≤ 1099511627776) (hv : Rd .u8 w v bs) :
  Calls Tryz.prog 43 #[.agg #[.int .i64 sec, v]] w fun e w' => ∃ g, e = .returned (.agg #[.int .i64 sec, .slice (some ⟨g, 0, none⟩) bs.length bs.length]) ∧ w.heap.size ≤ g ∧ Own 0 5 .u8 w' (.slice (some ⟨g, 0, none⟩) bs.length bs.length) bs ∧ Same w w' := by
 obtain ⟨a, c, rfl⟩ := hv.form
 have HV := (show Hid (Rd .u8 w _ bs) from hv)
 clear hv
 go_enter Tryz.func43, Tryz.ntmps43
 go_wp2_with fail
 refine (toByteS_any _ bs _ hn (HV.out.same ((((Kept.refl _ _).alloc _).alloc _).alloc _))).mono ?_
 rintro e w1 ⟨g, rfl, hg, ho, hk⟩
 simp only [World.size_alloc] at hg
 have b1 := ((FBox.new (w.alloc (.cells #[.int .i64 sec, .slice a bs.length c] 70)) (.int .i64 0) (.slice none 0 0) 79).next _).same hk
 have b2 := (FBox.new ((w.alloc (.cells #[.int .i64 sec, .slice a bs.length c] 70)).alloc (.cells #[.int .i64 0, .slice none 0 0] 79)) (.int .i64 sec) (.slice none 0 0) 79).same hk
 simp only [World.size_alloc] at b1 b2
 have HO := (show Hid (Own 0 5 .u8 w1 _ bs) from ho)
 have HK : Hid (Same w w1) := ((((Kept.refl _ _).alloc _).alloc _).alloc _).trans hk
 have hz1 : w.heap.size + 1 + 1 < w1.heap.size := b2.lt
 obtain ⟨p1, p2, p3, p4⟩ := b1
 obtain ⟨q1, q2, q3, q4⟩ := b2
 clear ho hk
 go_wp2
 refine bodyPost_ret (v := .agg #[.int .i64 sec, .slice (some ⟨g, 0, none⟩) bs.length bs.length]) (by simp [results, Tryz.results43, go_sem, p1, p2]) rfl ⟨g, rfl, by omega, ?_, ?_⟩
 ·refine HO.out.kept (R := fun b => b = w.heap.size + 1 ∨ b = w.heap.size + 1 + 1) ?_ (fun b hb e => by simp [Value.ownBlock] at hb; omega)
  exact ((((Kept.refl _ _).setCell (.inr (.inr rfl)) _).setTwo (.inr (.inl rfl)) _ _))
 ·exact (HK.out.setCell (.inl (by simp; omega)) _).setTwo (.inl (by simp)) _ _
theorem toSectorWriteS_any (v : Value) (ps : List PW) (w : World) (hn : ps.length ≤ 1073741824) (hs : ∀ p ∈ ps, p.bs.length ≤ 1099511627776) (hv : RdP w v ps) :
  Calls Tryz.prog 23 #[v] w fun e w' => ∃ g qs, e = .returned (.slice (some ⟨g, 0, none⟩) ps.length ps.length) ∧ dataP qs = dataP ps ∧ (∀ b, footP (.slice (some ⟨g, 0, none⟩) ps.length ps.length) qs b → w.heap.size ≤ b) ∧
   OwnP 0 79 5 w' (.slice (some ⟨g, 0, none⟩) ps.length ps.length) qs ∧ Same w w' := by
 obtain ⟨i0, hi, hz0, hz1, hz2⟩ := info_parts Tryz.infoSW
 rcases hv.row with ⟨rfl, a, c, rfl⟩ | ⟨b, off, c, rfl, hc⟩
 ·clear hv hn hs
  go_enter Tryz.func23, Tryz.ntmps23
  go_wp2_with (at_make; refine wpList_make_full _ rfl (.tmp 6) (.tmp 6) 33 rfl 0 79 i0 (.agg #[.int .i64 0, .slice none 0 0]) 2 Tryz.underlying33 hi hz0 hz1 .i64 .i64 _ _ 0 rfl rfl (by simp) (by simp) (by simp) (by simp) (Nat.zero_le _) ?_; intro w1 hown1 hgrow1; have HO : Hid (OwnP 0 79 5 w1 (.slice (some ⟨w.heap.size, 0, none⟩) 0 0) []) := own_madeP (n := 0) (by simpa using hown1); have HK : Hid (Same w w1) := Kept.of_grown hgrow1 (fun k e => by cases e); clear hown1 hgrow1)
  refine wp_loop_rounds 1 ?_
  rw [rounds_succ]
  go_wp2
  go_ret
  refine ⟨w.heap.size, [], rfl, rfl, fun b hb => ?_, HO.out, HK.out⟩
  rcases hb with hb | ⟨p, hp, _⟩
  ·simp [Value.ownBlock] at hb; omega
  ·simp at hp
 ·have HP : Hid (RdP w (.slice (some ⟨b, off, none⟩) ps.length c) ps) := hv
  have HC : Hid (∀ i (h : i < ps.length), w.cell? ⟨b, off + i * 2, none⟩ = some (.int .i64 ps[i].sec) ∧ w.cell? ⟨b, off + i * 2 + 1, none⟩ = some ps[i].v) := hc
  have HS : Hid (∀ p ∈ ps, p.bs.length ≤ 1099511627776) := hs
  clear hc hv hs
  generalize hl : ps.length = len at hn HP ⊢
  have HL : Hid (ps.length = len) := hl
  clear hl
  go_enter Tryz.func23, Tryz.ntmps23
  go_wp2_with (at_make; refine wpList_make_full _ rfl (.tmp 6) (.tmp 6) 33 rfl 0 79 i0 (.agg #[.int .i64 0, .slice none 0 0]) 2 Tryz.underlying33 hi hz0 hz1 .i64 .i64 _ _ len rfl rfl (by simp) (by simp) (by rw [hz2]; omega) (by unfold maxLen; omega) (Nat.zero_le _) ?_; intro w1 hown1 hgrow1; have HO : Hid (OwnP 0 79 5 w1 (.slice (some ⟨w.heap.size, 0, none⟩) len len) (List.replicate len zeroPW)) := own_madeP (by simpa using hown1); have HK : Hid (Same w w1) := Kept.of_grown hgrow1 (fun k e => by cases e); clear hown1 hgrow1)
  go_loopw [4] (fun i wr => ∃ (k : Nat) (qs : List PW), k ≤ len ∧ i = .int .i64 k ∧ qs.length = k ∧ Hid (dataP qs = dataP (ps.take k)) ∧ Hid (∀ b, (∃ p ∈ qs, p.v.ownBlock = some b) → w.heap.size ≤ b) ∧ Hid (OwnP 0 79 5 wr (.slice (some ⟨w.heap.size, 0, none⟩) len len) (qs ++ List.replicate (len - k) zeroPW)) ∧ Hid (Same w wr)) (fun i _ => len - (intOf i).toNat)
  case atStart => exact ⟨0, [], Nat.zero_le _, rfl, rfl, rfl, fun b ⟨p, hp, _⟩ => by simp at hp, by simpa using HO, HK⟩
  case round =>
   obtain ⟨k, qs, hk, rfl, hql, HQ, HF, HOr, HKr⟩ := hrel
   have HQL : Hid (qs.length = k) := hql
   clear hql
   by_cases hlt : k < len
   ·have hlp : k < ps.length := by rw [HL.out]; exact hlt
    have hrep : List.replicate (len - k) zeroPW = zeroPW :: List.replicate (len - (k + 1)) zeroPW := by rw [show len - k = len - (k + 1) + 1 from by omega, List.replicate_succ]
    obtain ⟨a1, c1, e1⟩ := (HP.out.data _ (List.getElem_mem hlp)).form
    have hd := (HP.out.data _ (List.getElem_mem hlp)).same HKr.out
    have hm1 := HS.out _ (List.getElem_mem hlp)
    have q1 := HKr.out.cellOf (HC.out k hlp).1 id
    have q2 := HKr.out.cellOf (HC.out k hlp).2 id
    rw [e1] at q2 hd
    have HD := (show Hid (Rd .u8 wr _ ps[k].bs) from hd)
    have hlen : len = (qs ++ List.replicate (len - k) zeroPW).length := by simp [HQL.out]; omega
    have HLN := (show Hid (len = (qs ++ List.replicate (len - k) zeroPW).length) from hlen)
    clear e1 hd hlen
    go_wp2_with fail
    refine (toSectorWrite_any _ _ ps[k].bs _ hm1 HD.out).mono ?_
    rintro e w2 ⟨g, rfl, hg, ho, hk2⟩
    have HO2 := (show Hid (OwnP 0 79 5 w2 _ _) from HOr.out.same hk2)
    have r1 := HO2.out.sec HLN.out k (by have := HLN.out; omega)
    have r2 := HO2.out.val HLN.out k (by have := HLN.out; omega)
    have r3 := HO2.out.frozen HLN.out (k * 2)
    have r4 := HO2.out.frozen HLN.out (k * 2 + 1)
    have HK2 : Hid (Same w w2) := HKr.out.trans hk2
    have HO3 := (show Hid (Own 0 5 .u8 w2 _ ps[k].bs) from ho)
    have hg0 : w.heap.size ≤ g := Nat.le_trans HKr.out.size hg
    have HG : Hid (wr.heap.size ≤ g) := hg
    clear ho hk2 hg q1 q2
    go_wp2
    go_roundw
    case rel =>
     have ho := HO2.out
     rw [hrep] at ho
     have hq := HQL.out
     have hfin := ho.setBoth (by simp [hq]; omega) ps[k].sec _ ps[k].bs (k * 2) (by rw [hq]) HO3.out (fun b hb hf => by
      have h1 : b = g := by simpa [Value.ownBlock] using hb.symm
      have h2 : footP (.slice (some ⟨w.heap.size, 0, none⟩) len len) (qs ++ List.replicate (len - k) zeroPW) b := by rw [hrep]; exact hf
      have h3 := (HOr.out.lt b h2).2
      have h4 := HG.out
      omega)
     refine ⟨k + 1, qs ++ [⟨ps[k].sec, .slice (some ⟨g, 0, none⟩) ps[k].bs.length ps[k].bs.length, ps[k].bs⟩], by omega, by go_num, by simp [hq], ?_, ?_, ?_, ?_⟩
     ·have h1 := HQ.out
      unfold Hid
      rw [List.take_succ_eq_append_getElem hlp]
      simp only [dataP, List.map_append] at h1 ⊢
      rw [h1]; rfl
     ·rintro b ⟨p, hp, hb⟩
      rcases List.mem_append.1 hp with hp | hp
      ·exact HF.out b ⟨p, hp, hb⟩
      ·simp at hp
       subst hp
       simp [Value.ownBlock] at hb
       omega
     ·rw [List.append_assoc]
      exact hfin
     ·exact Kept.setCell (p := ⟨w.heap.size, k * 2 + 1, none⟩) (Kept.setCell (p := ⟨w.heap.size, k * 2, none⟩) HK2.out (.inl (Nat.le_refl _)) _) (.inl (Nat.le_refl _)) _
    case measure => simp [intOf]; omega
   ·go_wp2
    go_ret
    obtain rfl : k = len := by omega
    have h := HOr.out
    have h2 := HL.out
    have h3 := HQ.out
    rw [Nat.sub_self, List.replicate_zero, List.append_nil] at h
    rw [← h2, List.take_length] at h3
    refine ⟨w.heap.size, qs, rfl, h3, fun b hb => ?_, h, HKr.out⟩
    rcases hb with hb | hb
    ·simp [Value.ownBlock] at hb; omega
    ·exact HF.out b hb
theorem toDisk_any (dv pv : Value) (dur : List Int) (ps : List PW) (w : World) (hd : dur.length ≤ 1099511627776) (hn : ps.length ≤ 1073741824) (hs : ∀ p ∈ ps, p.bs.length ≤ 1099511627776) (hv : RdD w dv pv dur ps) :
  Calls Tryz.prog 6 #[.agg #[dv, pv]] w fun e w' => ∃ g g' qs, e = .returned (.agg #[.slice (some ⟨g, 0, none⟩) dur.length dur.length, .slice (some ⟨g', 0, none⟩) ps.length ps.length]) ∧ dataP qs = dataP ps ∧
   (∀ b, footD (.slice (some ⟨g, 0, none⟩) dur.length dur.length) (.slice (some ⟨g', 0, none⟩) ps.length ps.length) qs b → w.heap.size ≤ b) ∧
   OwnD 0 79 5 w' (.slice (some ⟨g, 0, none⟩) dur.length dur.length) (.slice (some ⟨g', 0, none⟩) ps.length ps.length) dur qs ∧ Same w w' := by
 obtain ⟨a1, c1, rfl⟩ := hv.dur.form
 obtain ⟨a2, c2, rfl⟩ := hv.pend.form
 have HV := (show Hid (RdD w _ _ dur ps) from hv)
 have HS : Hid (∀ p ∈ ps, p.bs.length ≤ 1099511627776) := hs
 clear hv hs
 go_enter Tryz.func6, Tryz.ntmps6
 go_wp2_with fail
 refine (toByteS_any _ dur _ hd (HV.out.dur.same ((((Kept.refl _ _).alloc _).alloc _).alloc _))).mono ?_
 rintro e w1 ⟨g, rfl, hg, ho, hk⟩
 simp only [World.size_alloc] at hg
 have b0 := (((FBox.new w (.slice a1 dur.length c1) (.slice a2 ps.length c2) 25).next _).next _).same hk
 have b1 := ((FBox.new (w.alloc (.cells #[.slice a1 dur.length c1, .slice a2 ps.length c2] 25)) (.slice none 0 0) (.slice none 0 0) 35).next _).same hk
 have b2 := (FBox.new ((w.alloc (.cells #[.slice a1 dur.length c1, .slice a2 ps.length c2] 25)).alloc (.cells #[.slice none 0 0, .slice none 0 0] 35)) (.slice none 0 0) (.slice none 0 0) 35).same hk
 simp only [World.size_alloc] at b1 b2
 have HO := (show Hid (Own 0 5 .u8 w1 _ dur) from ho)
 have HK : Hid (Same w w1) := ((((Kept.refl _ _).alloc _).alloc _).alloc _).trans hk
 have hz1 : w.heap.size + 1 + 1 < w1.heap.size := b2.lt
 have HB1 : Hid (FBox w1 (w.heap.size + 1) (.slice none 0 0) (.slice none 0 0)) := b1
 have HB2 : Hid (FBox w1 (w.heap.size + 1 + 1) (.slice none 0 0) (.slice none 0 0)) := b2
 obtain ⟨o1, o2, _, _⟩ := b0
 obtain ⟨p1, p2, p3, p4⟩ := b1
 obtain ⟨q1, q2, q3, q4⟩ := b2
 clear ho hk
 go_wp2_with fail
 have hkS : Same w (w1.setCell ⟨w.heap.size + 1 + 1, 0, none⟩ (.slice (some ⟨g, 0, none⟩) dur.length dur.length)) := HK.out.setCell (.inl (by simp; omega)) _
 refine (toSectorWriteS_any _ ps _ hn HS.out (HV.out.pend.same hkS)).mono ?_
 rintro e w2 ⟨g', qs, rfl, hq, hf, hop, hk2⟩
 have b1 := (HB1.out.other ⟨w.heap.size + 1 + 1, 0, none⟩ (by simp) (.slice (some ⟨g, 0, none⟩) dur.length dur.length)).same hk2
 have b2 := (HB2.out.set0 (.slice (some ⟨g, 0, none⟩) dur.length dur.length)).same hk2
 have ho2 := (HO.out.kept (Kept.setCell (Kept.refl (fun b => b = w.heap.size + 1 + 1) w1) (p := ⟨w.heap.size + 1 + 1, 0, none⟩) (.inr rfl) (.slice (some ⟨g, 0, none⟩) dur.length dur.length)) (fun b hb e => by simp [Value.ownBlock] at hb; omega)).same hk2
 have hlt := (HO.out.lt g rfl).2
 have HD2 : Hid (OwnD 0 79 5 w2 (.slice (some ⟨g, 0, none⟩) dur.length dur.length) (.slice (some ⟨g', 0, none⟩) ps.length ps.length) dur qs) :=
  ⟨ho2, hop, fun b hb e => by have h1 := hf b hb; simp [Value.ownBlock] at e; simp [World.setCell] at h1; omega⟩
 have HF : Hid (∀ b, footD (.slice (some ⟨g, 0, none⟩) dur.length dur.length) (.slice (some ⟨g', 0, none⟩) ps.length ps.length) qs b → w.heap.size + 1 + 1 < b) := fun b hb => by
  rcases hb with hb | hb
  ·simp [Value.ownBlock] at hb; omega
  ·have h1 := hf b hb; simp [World.setCell] at h1; omega
 have HQ : Hid (dataP qs = dataP ps) := hq
 have HK2 : Hid (Same w w2) := hkS.trans hk2
 clear p1 p2 p3 p4 q1 q2 q3 q4 o1 o2 ho2 hop hf hq hk2 hkS hlt
 obtain ⟨p1, p2, p3, p4⟩ := b1
 obtain ⟨q1, q2, q3, q4⟩ := b2
 go_wp2
 refine bodyPost_ret (v := .agg #[.slice (some ⟨g, 0, none⟩) dur.length dur.length, .slice (some ⟨g', 0, none⟩) ps.length ps.length]) (by simp [results, Tryz.results6, go_sem, p1, p2]) rfl ⟨g, g', qs, rfl, HQ.out, fun b hb => by have := HF.out b hb; omega, ?_, ?_⟩
 ·refine HD2.out.kept (R := fun b => b = w.heap.size + 1 ∨ b = w.heap.size + 1 + 1) ?_ (fun b hb e => by have := HF.out b hb; omega)
  exact (Kept.setTwo (Kept.setCell (Kept.refl _ _) (p := ⟨w.heap.size + 1 + 1, 1, none⟩) (.inr (.inr rfl)) _) (.inr (.inl rfl)) _ _)
 ·exact (HK2.out.setCell (p := ⟨w.heap.size + 1 + 1, 1, none⟩) (.inl (by simp; omega)) _).setTwo (.inl (by simp)) _ _
def Says (e : Ending) (P : Prop) : Prop := ∃ B : Bool, e = .returned (.bool B) ∧ (B = true ↔ P)
theorem says_true {P : Prop} (h : P) : Says (.returned (.bool true)) P := ⟨true, rfl, fun _ => h, fun _ => rfl⟩
theorem says_false {P : Prop} (h : ¬ P) : Says (.returned (.bool false)) P := ⟨false, rfl, fun h => by simp at h, fun hp => absurd hp h⟩
def validP (n : Nat) (p : Int × List Int) : Prop := 0 ≤ p.1 ∧ p.1 < n ∧ p.2.length = 512
def validHead (len m : Nat) : Prop := len % 512 = 0 ∧ 1 ≤ len / 512 ∧ len / 512 ≤ 1024 ∧ m ≤ 8192
def Valid (len : Nat) (ds : List (Int × List Int)) : Prop := validHead len ds.length ∧ ∀ p ∈ ds, validP (len / 512) p
theorem valid_no_at {len : Nat} {ps : List PW} {k : Nat} (h : k < ps.length) (hp : ¬ validP (len / 512) (ps[k].sec, ps[k].bs)) : ¬ Valid len (dataP ps) :=
 fun hv => hp (hv.2 _ (List.mem_map.2 ⟨ps[k], List.getElem_mem h, rfl⟩))
theorem valid_no_head {len : Nat} {ps : List PW} (hp : ¬ validHead len ps.length) : ¬ Valid len (dataP ps) :=
 fun hv => hp (by have := hv.1; rwa [dataP_length] at this)
theorem valid_yes {len : Nat} {ps : List PW} (hh : validHead len ps.length) (h : ∀ k (hk : k < ps.length), validP (len / 512) (ps[k].sec, ps[k].bs)) : Valid len (dataP ps) := by
 refine ⟨by rw [dataP_length]; exact hh, fun p hp => ?_⟩
 obtain ⟨q, hq, rfl⟩ := List.mem_map.1 hp
 obtain ⟨k, hk, rfl⟩ := List.getElem_of_mem hq
 exact h k hk
theorem l1Sectors_any (a : Option Addr) (n c : Nat) (a2 : Option Addr) (n2 c2 : Nat) (w : World) (hn : n ≤ maxLen) :
  Calls Tryz.prog 36 #[.agg #[.slice a n c, .slice a2 n2 c2]] w fun e w' => e = .returned (.int .i64 (n / 512 : Nat)) ∧ w' = w.alloc (.cells #[.slice a n c, .slice a2 n2 c2] 35) := by
 unfold maxLen at hn
 go_enter Tryz.func36, Tryz.ntmps36
 go_wp2
 go_ret
 exact ⟨ret_int (by omega), rfl⟩
theorem countSectors_any (a : Option Addr) (n c : Nat) (a2 : Option Addr) (n2 c2 : Nat) (w : World) (hn : n ≤ maxLen) :
  Calls Tryz.prog 62 #[.agg #[.slice a n c, .slice a2 n2 c2]] w fun e w' => e = .returned (.int .i64 (n / 512 : Nat)) ∧ w' = w.alloc (.cells #[.slice a n c, .slice a2 n2 c2] 35) := by
 unfold maxLen at hn
 go_enter Tryz.func62, Tryz.ntmps62
 go_wp2
 go_ret
 exact ⟨ret_int (by omega), rfl⟩
theorem specValid_head (a : Option Addr) (n c : Nat) (a2 : Option Addr) (n2 c2 : Nat) (w : World) (hn : n ≤ maxLen) (hn2 : n2 ≤ maxLen) (h : ¬ validHead n n2) :
  Calls Tryz.prog 35 #[.agg #[.slice a n c, .slice a2 n2 c2]] w fun e w' => e = .returned (.bool false) ∧ Same w w' := by
 have hm := hn
 have hm2 := hn2
 unfold maxLen at hn hn2
 by_cases h1 : n % 512 = 0
 ·have t1 : ((n : Int) % 512 != 0) = false := by simp; omega
  by_cases h2 : n / 512 < 1
  ·have t2 : (n : Int) / 512 < 1 := by omega
   go_enter Tryz.func35, Tryz.ntmps35
   go_wp2_with (go_at_call 36; refine (l1Sectors_any _ _ _ _ _ _ _ hm).mono ?_; rintro e w' ⟨rfl, rfl⟩)
   go_ret
   exact ⟨rfl, ((Kept.refl _ _).alloc _).alloc _⟩
  ·have t2 : ¬ (n : Int) / 512 < 1 := by omega
   by_cases h3 : 1024 < n / 512
   ·have t3 : 1024 < (n : Int) / 512 := by omega
    go_enter Tryz.func35, Tryz.ntmps35
    go_wp2_with (go_at_call 36; refine (l1Sectors_any _ _ _ _ _ _ _ hm).mono ?_; rintro e w' ⟨rfl, rfl⟩)
    go_ret
    exact ⟨rfl, ((Kept.refl _ _).alloc _).alloc _⟩
   ·have t3 : ¬ 1024 < (n : Int) / 512 := by omega
    have h4 : 8192 < n2 := by unfold validHead at h; omega
    have t4 : 8192 < (n2 : Int) := by omega
    clear h
    go_enter Tryz.func35, Tryz.ntmps35
    go_wp2_with (go_at_call 36; refine (l1Sectors_any _ _ _ _ _ _ _ hm).mono ?_; rintro e w' ⟨rfl, rfl⟩)
    go_ret
    exact ⟨rfl, ((Kept.refl _ _).alloc _).alloc _⟩
 ·have t1 : ((n : Int) % 512 != 0) = true := by simp; omega
  go_enter Tryz.func35, Tryz.ntmps35
  go_wp2_with (go_at_call 36; refine (l1Sectors_any _ _ _ _ _ _ _ hm).mono ?_; rintro e w' ⟨rfl, rfl⟩)
  go_ret
  exact ⟨rfl, ((Kept.refl _ _).alloc _).alloc _⟩
theorem specValid_loop (a : Option Addr) (n c : Nat) (v : Value) (ps : List PW) (w : World) (hn : n ≤ maxLen) (hp : RdP w v ps) (h : validHead n ps.length) :
  Calls Tryz.prog 35 #[.agg #[.slice a n c, v]] w fun e w' => Says e (Valid n (dataP ps)) ∧ Same w w' := by
 have hm := hn
 have hn2 := hp.len
 unfold maxLen at hn hn2
 obtain ⟨h1, h2, h3, h4⟩ := id h
 have t1 : ((n : Int) % 512 != 0) = false := by simp; omega
 have t2 : ¬ (n : Int) / 512 < 1 := by omega
 have t3 : ¬ 1024 < (n : Int) / 512 := by omega
 have t4 : ¬ 8192 < (ps.length : Int) := by omega
 have HH : Hid (validHead n ps.length) := h
 clear h h1 h2 h3 h4
 rcases hp.row with ⟨rfl, a2, c2, rfl⟩ | ⟨b, off, c2, rfl, hc⟩
 ·have HV : Hid (Valid n (dataP [])) := valid_yes HH.out (fun k hk => by simp at hk)
  clear hp hn2 t4
  go_enter Tryz.func35, Tryz.ntmps35
  go_wp2_with (go_at_call 36; refine (l1Sectors_any _ _ _ _ _ _ _ hm).mono ?_; rintro e w' ⟨rfl, rfl⟩)
  refine wp_loop_rounds 1 ?_
  rw [rounds_succ]
  go_wp2
  go_ret
  exact ⟨says_true HV.out, ((Kept.refl _ _).alloc _).alloc _⟩
 ·have HP : Hid (RdP w (.slice (some ⟨b, off, none⟩) ps.length c2) ps) := hp
  have HC : Hid (∀ i (h : i < ps.length), w.cell? ⟨b, off + i * 2, none⟩ = some (.int .i64 ps[i].sec) ∧ w.cell? ⟨b, off + i * 2 + 1, none⟩ = some ps[i].v) := hc
  clear hp hc
  generalize hl : ps.length = len at hn2 t4 HP HH ⊢
  have HL : Hid (ps.length = len) := hl
  clear hl
  go_enter Tryz.func35, Tryz.ntmps35
  go_wp2_with (go_at_call 36; refine (l1Sectors_any _ _ _ _ _ _ _ hm).mono ?_; rintro e w' ⟨rfl, rfl⟩)
  go_loop [4] (fun i => ∃ k : Nat, k ≤ len ∧ i = .int .i64 k ∧ Hid (∀ j (hj : j < ps.length), j < k → validP (n / 512) (ps[j].sec, ps[j].bs))) (fun i => len - (intOf i).toNat)
  case atStart => exact ⟨0, Nat.zero_le _, rfl, fun j _ h => by omega⟩
  case round =>
   obtain ⟨k, hk, rfl, HV⟩ := hrel
   by_cases hlt : k < len
   ·have hlp : k < ps.length := by rw [HL.out]; exact hlt
    obtain ⟨a1, c1, e1⟩ := (HP.out.data _ (List.getElem_mem hlp)).form
    have hm1 := (HP.out.data _ (List.getElem_mem hlp)).1
    unfold maxLen at hm1
    have hbw : b < w.heap.size := World.block_lt_of_cell? w ⟨b, off + k * 2, none⟩ (HC.out k hlp).1
    have q1 := (HC.out k hlp).1
    have q2 := (HC.out k hlp).2
    rw [e1] at q2
    clear e1
    have HN : Hid (¬ validP (n / 512) (ps[k].sec, ps[k].bs) → ¬ Valid n (dataP ps)) := fun h => valid_no_at hlp h
    have HE : Hid (validP (n / 512) (ps[k].sec, ps[k].bs) ↔ 0 ≤ ps[k].sec ∧ ps[k].sec < (n / 512 : Nat) ∧ ps[k].bs.length = 512) := Iff.rfl
    generalize hsec : ps[k].sec = sec at q1 HN HE
    generalize hbl : ps[k].bs.length = bl at q2 hm1 HE
    have HS : Hid (ps[k].sec = sec) := hsec
    clear hsec hbl
    by_cases s1 : sec < 0
    ·go_wp2
     go_ret
     exact ⟨says_false (HN.out (fun hv => by have := HE.out.1 hv; omega)), ((Kept.refl _ _).alloc _).alloc _⟩
    ·by_cases s2 : (n : Int) / 512 ≤ sec
     ·go_wp2
      go_ret
      exact ⟨says_false (HN.out (fun hv => by have := HE.out.1 hv; omega)), ((Kept.refl _ _).alloc _).alloc _⟩
     ·by_cases s3 : bl = 512
      ·have s4 : ((bl : Int) != 512) = false := by simp; omega
       go_wp2
       go_round
       case rel =>
        refine ⟨k + 1, by omega, by go_num, fun j hj hjk => ?_⟩
        by_cases e : j = k
        ·subst e
         rw [HS.out]
         exact HE.out.2 ⟨by omega, by omega, s3⟩
        ·exact HV.out j hj (by omega)
       case measure => simp [intOf]; omega
      ·have s4 : ((bl : Int) != 512) = true := by simp; omega
       go_wp2
       go_ret
       exact ⟨says_false (HN.out (fun hv => by have := HE.out.1 hv; omega)), ((Kept.refl _ _).alloc _).alloc _⟩
   ·go_wp2
    go_ret
    obtain rfl : k = len := by omega
    have h2 := HL.out
    have hv := valid_yes (ps := ps) (by rw [h2]; exact HH.out) (fun j hj => HV.out j hj (by omega))
    exact ⟨says_true hv, ((Kept.refl _ _).alloc _).alloc _⟩
theorem implValid_head (a : Option Addr) (n c : Nat) (a2 : Option Addr) (n2 c2 : Nat) (w : World) (hn : n ≤ maxLen) (hn2 : n2 ≤ maxLen) (h : ¬ validHead n n2) :
  Calls Tryz.prog 61 #[.agg #[.slice a n c, .slice a2 n2 c2]] w fun e w' => e = .returned (.bool false) ∧ Same w w' := by
 have hm := hn
 unfold maxLen at hn hn2
 by_cases h2 : n / 512 < 1
 ·have t2 : (n : Int) / 512 < 1 := by omega
  go_enter Tryz.func61, Tryz.ntmps61
  go_wp2_with (go_at_call 62; refine (countSectors_any _ _ _ _ _ _ _ hm).mono ?_; rintro e w' ⟨rfl, rfl⟩)
  go_ret
  exact ⟨rfl, ((Kept.refl _ _).alloc _).alloc _⟩
 ·have t2 : ¬ (n : Int) / 512 < 1 := by omega
  by_cases h3 : 1024 < n / 512
  ·have t3 : 1024 < (n : Int) / 512 := by omega
   go_enter Tryz.func61, Tryz.ntmps61
   go_wp2_with (go_at_call 62; refine (countSectors_any _ _ _ _ _ _ _ hm).mono ?_; rintro e w' ⟨rfl, rfl⟩)
   go_ret
   exact ⟨rfl, ((Kept.refl _ _).alloc _).alloc _⟩
  ·have t3 : ¬ 1024 < (n : Int) / 512 := by omega
   by_cases h1 : n % 512 = 0
   ·have t1 : ((n : Int) % 512 != 0) = false := by simp; omega
    have h4 : 8192 < n2 := by unfold validHead at h; omega
    have t4 : 8192 < (n2 : Int) := by omega
    clear h
    go_enter Tryz.func61, Tryz.ntmps61
    go_wp2_with (go_at_call 62; refine (countSectors_any _ _ _ _ _ _ _ hm).mono ?_; rintro e w' ⟨rfl, rfl⟩)
    go_ret
    exact ⟨rfl, ((Kept.refl _ _).alloc _).alloc _⟩
   ·have t1 : ((n : Int) % 512 != 0) = true := by simp; omega
    go_enter Tryz.func61, Tryz.ntmps61
    go_wp2_with (go_at_call 62; refine (countSectors_any _ _ _ _ _ _ _ hm).mono ?_; rintro e w' ⟨rfl, rfl⟩)
    go_ret
    exact ⟨rfl, ((Kept.refl _ _).alloc _).alloc _⟩
theorem implValid_loop (a : Option Addr) (n c : Nat) (v : Value) (ps : List PW) (w : World) (hn : n ≤ maxLen) (hp : RdP w v ps) (h : validHead n ps.length) :
  Calls Tryz.prog 61 #[.agg #[.slice a n c, v]] w fun e w' => Says e (Valid n (dataP ps)) ∧ Same w w' := by
 have hm := hn
 have hn2 := hp.len
 unfold maxLen at hn hn2
 obtain ⟨h1, h2, h3, h4⟩ := id h
 have t1 : ((n : Int) % 512 != 0) = false := by simp; omega
 have t2 : ¬ (n : Int) / 512 < 1 := by omega
 have t3 : ¬ 1024 < (n : Int) / 512 := by omega
 have t4 : ¬ 8192 < (ps.length : Int) := by omega
 have HH : Hid (validHead n ps.length) := h
 clear h h1 h2 h3 h4
 rcases hp.row with ⟨rfl, a2, c2, rfl⟩ | ⟨b, off, c2, rfl, hc⟩
 ·have HV : Hid (Valid n (dataP [])) := valid_yes HH.out (fun k hk => by simp at hk)
  clear hp hn2 t4
  go_enter Tryz.func61, Tryz.ntmps61
  go_wp2_with (go_at_call 62; refine (countSectors_any _ _ _ _ _ _ _ hm).mono ?_; rintro e w' ⟨rfl, rfl⟩)
  refine wp_loop_rounds 1 ?_
  rw [rounds_succ]
  go_wp2
  go_ret
  exact ⟨says_true HV.out, ((Kept.refl _ _).alloc _).alloc _⟩
 ·have HP : Hid (RdP w (.slice (some ⟨b, off, none⟩) ps.length c2) ps) := hp
  have HC : Hid (∀ i (h : i < ps.length), w.cell? ⟨b, off + i * 2, none⟩ = some (.int .i64 ps[i].sec) ∧ w.cell? ⟨b, off + i * 2 + 1, none⟩ = some ps[i].v) := hc
  clear hp hc
  generalize hl : ps.length = len at hn2 t4 HP HH ⊢
  have HL : Hid (ps.length = len) := hl
  clear hl
  go_enter Tryz.func61, Tryz.ntmps61
  go_wp2_with (go_at_call 62; refine (countSectors_any _ _ _ _ _ _ _ hm).mono ?_; rintro e w' ⟨rfl, rfl⟩)
  go_loopw [28] (fun i wr => ∃ k : Nat, k ≤ len ∧ i = .int .i64 k ∧ Hid (∀ j (hj : j < ps.length), j < k → validP (n / 512) (ps[j].sec, ps[j].bs)) ∧ Hid (Same w wr)) (fun i _ => len - (intOf i).toNat)
  case atStart => exact ⟨0, Nat.zero_le _, rfl, fun j _ h => by omega, ((Kept.refl _ _).alloc _).alloc _⟩
  case round =>
   obtain ⟨k, hk, rfl, HV, HK⟩ := hrel
   by_cases hlt : k < len
   ·have hlp : k < ps.length := by rw [HL.out]; exact hlt
    obtain ⟨a1, c1, e1⟩ := (HP.out.data _ (List.getElem_mem hlp)).form
    have hm1 := (HP.out.data _ (List.getElem_mem hlp)).1
    unfold maxLen at hm1
    have q1 := HK.out.cellOf (HC.out k hlp).1 id
    have q2 := HK.out.cellOf (HC.out k hlp).2 id
    rw [e1] at q2
    clear e1
    have HN : Hid (¬ validP (n / 512) (ps[k].sec, ps[k].bs) → ¬ Valid n (dataP ps)) := fun h => valid_no_at hlp h
    have HE : Hid (validP (n / 512) (ps[k].sec, ps[k].bs) ↔ 0 ≤ ps[k].sec ∧ ps[k].sec < (n / 512 : Nat) ∧ ps[k].bs.length = 512) := Iff.rfl
    generalize hsec : ps[k].sec = sec at q1 HN HE
    generalize hbl : ps[k].bs.length = bl at q2 hm1 HE
    have HS : Hid (ps[k].sec = sec) := hsec
    clear hsec hbl
    by_cases s1 : sec < 0
    ·go_wp2
     go_ret
     exact ⟨says_false (HN.out (fun hv => by have := HE.out.1 hv; omega)), HK.out.alloc _⟩
    ·by_cases s2 : (n : Int) / 512 ≤ sec
     ·go_wp2
      go_ret
      exact ⟨says_false (HN.out (fun hv => by have := HE.out.1 hv; omega)), HK.out.alloc _⟩
     ·by_cases s3 : bl = 512
      ·have s4 : ((bl : Int) != 512) = false := by simp; omega
       go_wp2
       go_roundw
       case rel =>
        refine ⟨k + 1, by omega, by go_num, fun j hj hjk => ?_, HK.out.alloc _⟩
        by_cases e : j = k
        ·subst e
         rw [HS.out]
         exact HE.out.2 ⟨by omega, by omega, s3⟩
        ·exact HV.out j hj (by omega)
       case measure => simp [intOf]; omega
      ·have s4 : ((bl : Int) != 512) = true := by simp; omega
       go_wp2
       go_ret
       exact ⟨says_false (HN.out (fun hv => by have := HE.out.1 hv; omega)), HK.out.alloc _⟩
   ·go_wp2
    go_ret
    obtain rfl : k = len := by omega
    have h2 := HL.out
    have hv := valid_yes (ps := ps) (by rw [h2]; exact HH.out) (fun j hj => HV.out j hj (by omega))
    exact ⟨says_true hv, HK.out⟩
theorem specValid_any (dv pv : Value) (dur : List Int) (ps : List PW) (w : World) (hp : RdD w dv pv dur ps) :
  Calls Tryz.prog 35 #[.agg #[dv, pv]] w fun e w' => Says e (Valid dur.length (dataP ps)) ∧ Same w w' := by
 obtain ⟨a1, c1, rfl⟩ := hp.dur.form
 by_cases h : validHead dur.length ps.length
 ·exact specValid_loop a1 dur.length c1 pv ps w hp.dur.1 hp.pend h
 ·obtain ⟨a2, c2, rfl⟩ := hp.pend.form
  exact (specValid_head a1 _ c1 a2 _ c2 w hp.dur.1 hp.pend.len h).mono fun e w' ⟨he, hk⟩ => ⟨by rw [he]; exact says_false (valid_no_head h), hk⟩
theorem implValid_any (dv pv : Value) (dur : List Int) (ps : List PW) (w : World) (hp : RdD w dv pv dur ps) :
  Calls Tryz.prog 61 #[.agg #[dv, pv]] w fun e w' => Says e (Valid dur.length (dataP ps)) ∧ Same w w' := by
 obtain ⟨a1, c1, rfl⟩ := hp.dur.form
 by_cases h : validHead dur.length ps.length
 ·exact implValid_loop a1 dur.length c1 pv ps w hp.dur.1 hp.pend h
 ·obtain ⟨a2, c2, rfl⟩ := hp.pend.form
  exact (implValid_head a1 _ c1 a2 _ c2 w hp.dur.1 hp.pend.len h).mono fun e w' ⟨he, hk⟩ => ⟨by rw [he]; exact says_false (valid_no_head h), hk⟩
end Go.Proofs.YtjlkphhdbopmiaaGreat
