/-
  Lists of Op in the laws (by tools/rowgen.py).
-/
import Derived.Test.YtmifgmgiplejiaaMemR2
import Derived.Test.YtmifgmgiplejiaaBytes
import Derived.Test.YtmifgmgiplejiaaCopyB
import Derived.Test.YtmifgmgiplejiaaSzB
import Derived.Test.YtmifgmgiplejiaaBlk
import Derived.Deep.RegionWith
import Derived.Deep.DeepMust
import Derived.Deep.DeepCutAuto
namespace Go.Proofs.Ytmifgmgiplejiaa
set_option maxRecDepth 100000
set_option maxHeartbeats 4000000
open Go.RowKit
set_option linter.unusedVariables false
set_option linter.unusedSimpArgs false

structure EOp where
  kind : Int
  sec : Int
  v : Value
  bs : List Int
def kOp : RowK EOp := ⟨3, fun p => [.int .i64 p.kind, .int .i64 p.sec, p.v], fun _ => rfl, EOp.v, EOp.bs⟩
def EOp.dat (p : EOp) : Int × Int × List Int := (p.kind, p.sec, p.bs)
def datOpS (ps : List EOp) : List (Int × Int × List Int) := ps.map EOp.dat
theorem datOpS_length (ps : List EOp) : (datOpS ps).length = ps.length := by simp [datOpS]
theorem datOpS_at {ps qs : List EOp} (h : datOpS ps = datOpS qs) (k : Nat) (h1 : k < ps.length) (h2 : k < qs.length) : ps[k].dat = qs[k].dat := by
  have := congrArg (fun l => l[k]?) h
  simpa [datOpS, h1, h2] using this
theorem Try.infoROp : (Try.prog.info? 64).map (fun i => (i.zero, i.size, i.bytes)) = some (some (.agg #[.int .i64 0, .int .i64 0, .slice none 0 0]), 3, 40) := by kernel_rfl
def sizeOpS : List EOp → Nat
  | [] => 0
  | p :: ps => p.bs.length + sizeOpS ps
theorem sizeOpS_append (ps qs : List EOp) : sizeOpS (ps ++ qs) = sizeOpS ps + sizeOpS qs := by
  induction ps with
  | nil => simp [sizeOpS]
  | cons p ps ih => simp only [List.cons_append, sizeOpS, ih]; omega
theorem sizeOpS_step (ps : List EOp) (j : Nat) (h : j < ps.length) : sizeOpS (ps.take (j + 1)) = sizeOpS (ps.take j) + ps[j].bs.length := by
  rw [List.take_succ_eq_append_getElem h, sizeOpS_append]
  simp [sizeOpS]
theorem sizeOpS_mem (ps : List EOp) (p : EOp) (h : p ∈ ps) : p.bs.length ≤ sizeOpS ps := by
  induction ps with
  | nil => cases h
  | cons q qs ih =>
    rcases List.mem_cons.1 h with rfl | h
    · simp [sizeOpS]
    · have := ih h; simp only [sizeOpS]; omega

theorem eqOp_own {ta tb : TypeId} (base : Nat) (kind : Int) (sec : Int) (va vb : Value) (bs : List Int) (w : World) (hn : bs.length ≤ 1125899906842624) (ha : Own base ta .u8 w va bs) (hb : Own base tb .u8 w vb bs) :
    Calls Try.prog 43 #[.agg #[.int .i64 kind, .int .i64 sec, va], .agg #[.int .i64 kind, .int .i64 sec, vb]] w fun e w' => e = .returned (.bool true) ∧ Same w w' := by
  obtain ⟨aa, na, ca, rfl⟩ := slice_of_own ha
  obtain ⟨ab, nb, cb, rfl⟩ := slice_of_own hb
  have HA : Hid (Own base ta .u8 w (.slice aa na ca) bs) := ha
  have HB : Hid (Own base tb .u8 w (.slice ab nb cb) bs) := hb
  have b0 := (Blk.newL w [.int .i64 kind, .int .i64 sec, .slice aa na ca] 64).same ((Kept.refl _ _).alloc (.cells #[.int .i64 kind, .int .i64 sec, .slice ab nb cb] 64))
  have b1 := Blk.newB w [.int .i64 kind, .int .i64 sec, .slice aa na ca] 64 [.int .i64 kind, .int .i64 sec, .slice ab nb cb] 64
  clear ha hb
  go_enter Try.func43, Try.ntmps43
  go_wp2_with fail
  refine (eqByteS_own base _ _ bs _ hn (HA.out.same (((Kept.refl _ _).alloc _).alloc _)) (HB.out.same (((Kept.refl _ _).alloc _).alloc _))).mono ?_
  rintro e w1 ⟨rfl, n1, hw⟩
  have hk : Same ((w.alloc (.cells #[.int .i64 kind, .int .i64 sec, .slice aa na ca] 64)).alloc (.cells #[.int .i64 kind, .int .i64 sec, .slice ab nb cb] 64)) w1 := by rw [hw]; exact (Kept.refl _ _).drewN _
  clear hw

  go_wp2
  go_ret
  exact ⟨rfl, (((Kept.refl _ _).alloc _).alloc _).trans hk⟩

theorem eqOpS_own {ta tb : TypeId} (base : Nat) (va vb : Value) (ps qs : List EOp) (w : World) (hn : ps.length ≤ 1125899906842624) (hs : datOpS ps = datOpS qs) (hsm : ∀ p ∈ ps, p.bs.length ≤ 1125899906842624)
    (ha : OwnR kOp base 64 ta w va ps) (hb : OwnR kOp base 64 tb w vb qs) :
    Calls Try.prog 24 #[va, vb] w fun e w' => e = .returned (.bool true) ∧ Same w w' := by
  have hlen : qs.length = ps.length := by rw [← datOpS_length, ← datOpS_length, hs]
  by_cases hz : ps.length = 0
  · obtain rfl : ps = [] := List.length_eq_zero_iff.1 hz
    obtain rfl : qs = [] := List.length_eq_zero_iff.1 hlen
    obtain ⟨aa, ca, rfl⟩ : ∃ aa ca, va = .slice aa 0 ca := by rcases ha.form with ⟨rfl, _⟩ | ⟨g, cap, rfl, _⟩ <;> exact ⟨_, _, rfl⟩
    obtain ⟨ab, cb, rfl⟩ : ∃ aa ca, vb = .slice aa 0 ca := by rcases hb.form with ⟨rfl, _⟩ | ⟨g, cap, rfl, _⟩ <;> exact ⟨_, _, rfl⟩
    clear ha hb hn hz hs
    go_enter Try.func24, Try.ntmps24
    go_wp2
    refine wp_loop_rounds 1 ?_
    rw [rounds_succ]
    go_wp2
    go_ret
    exact ⟨rfl, Kept.refl _ _⟩
  · obtain ⟨ga, ca, rfl⟩ : ∃ g cap, va = .slice (some ⟨g, 0, none⟩) ps.length cap := by
      rcases ha.form with ⟨_, h⟩ | ⟨g, cap, h, _⟩
      · simp [h] at hz
      · exact ⟨g, cap, h⟩
    obtain ⟨gb, cb, rfl⟩ : ∃ g cap, vb = .slice (some ⟨g, 0, none⟩) ps.length cap := by
      rcases hb.form with ⟨_, h⟩ | ⟨g, cap, h, _⟩
      · simp [h] at hlen; omega
      · exact ⟨g, cap, by rw [h, hlen]⟩
    have HA : Hid (OwnR kOp base 64 ta w (.slice (some ⟨ga, 0, none⟩) ps.length ca) ps) := ha
    have HB : Hid (OwnR kOp base 64 tb w (.slice (some ⟨gb, 0, none⟩) ps.length cb) qs) := hb
    have HQ : Hid (qs.length = ps.length) := hlen
    have HS : Hid (datOpS ps = datOpS qs) := hs
    have HM : Hid (∀ p ∈ ps, p.bs.length ≤ 1125899906842624) := hsm
    clear ha hb hs hlen hsm
    generalize hl : ps.length = len at hn hz HA HB ⊢
    have HL : Hid (ps.length = len) := hl
    clear hl
    go_enter Try.func24, Try.ntmps24
    go_wp2
    go_loopw [5] (fun i wr => ∃ (k : Nat), k ≤ len ∧ i = .int .i64 k ∧ Hid (Same w wr)) (fun i _ => len - (intOf i).toNat)
    case atStart => exact ⟨0, Nat.zero_le _, rfl, Kept.refl _ _⟩
    case round =>
      obtain ⟨k, hk, rfl, HK⟩ := hrel
      by_cases hlt : k < len
      · have hlp : k < ps.length := by rw [HL.out]; exact hlt
        have hlq : k < qs.length := by rw [HQ.out]; exact hlp
        have hoa := HA.out.same HK.out
        have hob := HB.out.same HK.out
        have hdd := datOpS_at HS.out k hlp hlq
        simp only [EOp.dat, Prod.mk.injEq] at hdd
        obtain ⟨d0, d1, d2⟩ := hdd
        have s3 := HM.out _ (List.getElem_mem hlp)
        have ha0 : wr.cell? ⟨ga, k * 3, none⟩ = some (.int .i64 ps[k].kind) := hoa.cell HL.out.symm k 0 hlp (by decide)
        have ha1 : wr.cell? ⟨ga, k * 3 + 1, none⟩ = some (.int .i64 ps[k].sec) := hoa.cell HL.out.symm k 1 hlp (by decide)
        have ha2 : wr.cell? ⟨ga, k * 3 + 2, none⟩ = some (ps[k].v) := hoa.cell HL.out.symm k 2 hlp (by decide)
        have hb0 : wr.cell? ⟨gb, k * 3, none⟩ = some (.int .i64 ps[k].kind) := by rw [d0]; exact hob.cell (by rw [HQ.out, HL.out]) k 0 hlq (by decide)
        have hb1 : wr.cell? ⟨gb, k * 3 + 1, none⟩ = some (.int .i64 ps[k].sec) := by rw [d1]; exact hob.cell (by rw [HQ.out, HL.out]) k 1 hlq (by decide)
        have hb2 : wr.cell? ⟨gb, k * 3 + 2, none⟩ = some (qs[k].v) := hob.cell (by rw [HQ.out, HL.out]) k 2 hlq (by decide)
        have HDA : Hid (Own base ta .u8 wr ps[k].v ps[k].bs) := hoa.data _ (List.getElem_mem hlp)
        have HDB : Hid (Own base tb .u8 wr qs[k].v ps[k].bs) := by have := hob.data _ (List.getElem_mem hlq); rw [d2]; exact this
        clear d0 d1 d2 hoa hob
        go_wp2_with fail
        go_region_with (go_at_call 43; refine (eqOp_own base ps[k].kind ps[k].sec ps[k].v qs[k].v ps[k].bs _ s3 (by exact HDA.out.same (Kept.refl _ _).drew) (by exact HDB.out.same (Kept.refl _ _).drew)).mono ?_; rintro e w1 ⟨rfl, hk1⟩)
        all_goals
          have HK1 : Hid (Same w w1) := HK.out.drew.trans hk1
          clear hk1 ha0 hb0 ha1 hb1 ha2 hb2 HDA HDB
          go_wp2
          go_roundw
          case rel => exact ⟨k + 1, by omega, by go_num, HK1⟩
          case measure => simp [intOf]; omega
      · go_wp2
        go_ret
        exact ⟨rfl, HK.out⟩

def mOp : MarkK kOp := ⟨fun k p => ⟨k, k + 1, p.v, marks (k + 1 + 1) p.bs.length⟩, fun p => 2 + p.bs.length, fun _ _ => rfl⟩
theorem endOpS_size (k : Int) (ps : List EOp) : endR mOp k ps = k + 2 * ps.length + sizeOpS ps := by
  induction ps generalizing k with
  | nil => simp [endR, sizeOpS]
  | cons p ps ih =>
    have h : ((mOp.sz p : Nat) : Int) = 2 + (p.bs.length : Int) := by simp [mOp]
    simp only [endR, ih, sizeOpS, List.length_cons]
    omega
theorem datOpS_size {ps qs : List EOp} (h : datOpS ps = datOpS qs) : sizeOpS ps = sizeOpS qs := by
  induction ps generalizing qs with
  | nil => cases qs with
    | nil => rfl
    | cons q qs => simp [datOpS] at h
  | cons p ps ih => cases qs with
    | nil => simp [datOpS] at h
    | cons q qs =>
      simp only [datOpS, List.map_cons, List.cons.injEq, EOp.dat, Prod.mk.injEq] at h
      simp only [sizeOpS, ih h.2, h.1.2.2]

theorem markOpS_own {tb : TypeId} (base : Nat) (va : Value) (ps : List EOp) (k0 : Int) (w : World) (h0 : 0 ≤ k0) (h1 : endR mOp k0 ps ≤ 1125899906842624) (hn : ps.length ≤ 1125899906842624)
    (ha : OwnR kOp base 64 tb w va ps) :
    Calls Try.prog 25 #[va, .int .i64 k0] w fun e w' => e = .returned (.int .i64 (endR mOp k0 ps)) ∧ OwnR kOp base 64 tb w' va (markR mOp k0 ps) ∧ Kept (footR kOp va ps) w w' := by
  by_cases hz : ps.length = 0
  · obtain rfl : ps = [] := List.length_eq_zero_iff.1 hz
    obtain ⟨aa, ca, rfl⟩ : ∃ aa ca, va = .slice aa 0 ca := by rcases ha.form with ⟨rfl, _⟩ | ⟨g, cap, rfl, _⟩ <;> exact ⟨_, _, rfl⟩
    have HA : Hid (OwnR kOp base 64 tb w (.slice aa 0 ca) []) := ha
    clear ha hn hz h1
    go_enter Try.func25, Try.ntmps25
    go_wp2
    refine wp_loop_rounds 1 ?_
    rw [rounds_succ]
    go_wp2
    go_ret
    exact ⟨by simp [endR], by simpa [markR] using HA.out, Kept.refl _ _⟩
  · obtain ⟨g, cap, rfl, hb, hlt, _, _⟩ : ∃ g cap, va = .slice (some ⟨g, 0, none⟩) ps.length cap ∧ base ≤ g ∧ g < w.heap.size ∧ ps.length ≤ cap ∧ cap ≤ maxLen := by
      rcases ha.form with ⟨_, rfl⟩ | h
      · simp at hz
      · exact h
    have H1 : Hid (endR mOp k0 ps ≤ 1125899906842624) := h1
    have HA0 : Hid (OwnR kOp base 64 tb w (.slice (some ⟨g, 0, none⟩) ps.length cap) ps) := ha
    clear h1 ha
    generalize hl : ps.length = len at *
    have HL : Hid (ps.length = len) := hl
    clear hl
    go_enter Try.func25, Try.ntmps25
    go_wp2
    go_loopw [1, 5] (fun v i wr => ∃ (k : Nat) (c : Int), k ≤ len ∧ i = .int .i64 k ∧ v = .int .i64 c ∧ Hid (c = endR mOp k0 (ps.take k)) ∧ Hid (OwnR kOp base 64 tb wr (.slice (some ⟨g, 0, none⟩) len cap) (partR mOp k0 ps k)) ∧ Hid (Kept (footR kOp (.slice (some ⟨g, 0, none⟩) len cap) ps) w wr)) (fun _ i _ => len - (intOf i).toNat)
    case atStart => exact ⟨0, k0, Nat.zero_le _, rfl, rfl, rfl, by rw [partR_zero]; exact HA0.out, Kept.refl _ _⟩
    case round =>
      obtain ⟨k, c, hk, rfl, rfl, HC, HO, HK⟩ := hrel
      by_cases hlt : k < len
      · have hlp : k < ps.length := by rw [HL.out]; exact hlt
        have hc0' : k0 ≤ c := by rw [HC.out]; exact endR_le _ _ _
        have hst := endR_step mOp k0 ps k hlp
        have hc1' : c + 2 + ps[k].bs.length ≤ 1125899906842624 := by have h2 := endR_take_le mOp k0 ps (k + 1); have h3 := H1.out; have h4 := HC.out; simp only [mOp] at hst; simp only [mOp] at h2 h3 h4; omega
        have HST := (show Hid (endR mOp k0 (ps.take (k + 1)) = endR mOp k0 (ps.take k) + (mOp.sz ps[k] : Nat)) from hst)
        clear hst
        have HP0 : Hid (OwnR kOp base 64 tb wr (.slice (some ⟨g, 0, none⟩) len cap) (markR mOp k0 (ps.take k) ++ ps[k] :: ps.drop (k + 1))) := by
          have h := HO.out
          rw [partR_at _ _ _ _ hlp] at h
          exact h
        have HLN : ∀ e : EOp, Hid (len = (markR mOp k0 (ps.take k) ++ e :: ps.drop (k + 1)).length) := fun e => by have hl := HL.out; simp [Hid, markR_length]; omega
        have HPL : Hid ((markR mOp k0 (ps.take k)).length = k) := by have hl := HL.out; simp [Hid, markR_length]; omega
        have hc0 : wr.cell? ⟨g, k * 3, none⟩ = some (.int .i64 ps[k].kind) := HP0.out.cellMid (HLN _).out 0 (by decide) _ (by rw [HPL.out]; rfl)
        have hc1 : wr.cell? ⟨g, k * 3 + 1, none⟩ = some (.int .i64 ps[k].sec) := HP0.out.cellMid (HLN _).out 1 (by decide) _ (by rw [HPL.out]; rfl)
        have hc2 : wr.cell? ⟨g, k * 3 + 2, none⟩ = some (ps[k].v) := HP0.out.cellMid (HLN _).out 2 (by decide) _ (by rw [HPL.out]; rfl)
        have fr := HO.out.frozen (by rw [partR_length]; exact HL.out.symm)
        have HP1 : Hid (OwnR kOp base 64 tb (wr.setCell ⟨g, k * 3, none⟩ (.int .i64 (c))) (.slice (some ⟨g, 0, none⟩) len cap) (markR mOp k0 (ps.take k) ++ ⟨c, ps[k].sec, ps[k].v, ps[k].bs⟩ :: ps.drop (k + 1))) := HP0.out.set (p' := ⟨c, ps[k].sec, ps[k].v, ps[k].bs⟩) (HLN _).out 0 (.int .i64 (c)) (by decide) rfl rfl rfl (k * 3) (by first | (rw [HPL.out]; done) | (rw [HPL.out]; rfl))
        have HP2 : Hid (OwnR kOp base 64 tb ((wr.setCell ⟨g, k * 3, none⟩ (.int .i64 (c))).setCell ⟨g, k * 3 + 1, none⟩ (.int .i64 (c + 1))) (.slice (some ⟨g, 0, none⟩) len cap) (markR mOp k0 (ps.take k) ++ ⟨c, c + 1, ps[k].v, ps[k].bs⟩ :: ps.drop (k + 1))) := HP1.out.set (p' := ⟨c, c + 1, ps[k].v, ps[k].bs⟩) (HLN _).out 1 (.int .i64 (c + 1)) (by decide) rfl rfl rfl (k * 3 + 1) (by first | (rw [HPL.out]; done) | (rw [HPL.out]; rfl))
        go_wp2_with fail
        refine (markByteS_own base ps[k].v ps[k].bs (c + 1 + 1) _ (by omega) (by omega) (by omega) (HP2.out.data ⟨c, c + 1, ps[k].v, ps[k].bs⟩ (by simp))).mono ?_
        rintro e w1 ⟨rfl, ho, hk1⟩
        have HQ0 : Hid (OwnR kOp base 64 tb w1 (.slice (some ⟨g, 0, none⟩) len cap) (markR mOp k0 (ps.take k) ++ ⟨c, c + 1, ps[k].v, marks (c + 1 + 1) ps[k].bs.length⟩ :: ps.drop (k + 1))) := HP2.out.setData (p' := (⟨c, c + 1, ps[k].v, marks (c + 1 + 1) ps[k].bs.length⟩ : EOp)) hk1 rfl rfl ho
        have fr1 : ∀ j, w1.frozen? ⟨g, j, none⟩ = false := fun j => HQ0.out.frozen (HLN _).out j
        have HO3 : Hid (OwnR kOp base 64 tb w1 (.slice (some ⟨g, 0, none⟩) len cap) (partR mOp k0 ps (k + 1))) := by
          rw [partR_step _ _ _ _ hlp, ← HC.out]
          exact HQ0.out
        have HK3 : Hid (Kept (footR kOp (.slice (some ⟨g, 0, none⟩) len cap) ps) w w1) := (((HK.out.setCell (p := ⟨g, k * 3, none⟩) (.inr (.inl rfl)) _).setCell (p := ⟨g, k * 3 + 1, none⟩) (.inr (.inl rfl)) _).trans (hk1.mono fun b _ hb => .inr ⟨ps[k], List.getElem_mem _, hb⟩))
        clear ho hk1 HO HP0 HP1 HP2 hc0 hc1 hc2
        go_wp2
        go_roundw
        case rel =>
          exact ⟨k + 1, c + 1 + 1 + (ps[k].bs.length : Int), by omega, by go_num, rfl, by unfold Hid; rw [HST.out, ← HC.out]; simp only [mOp]; omega, HO3, HK3⟩
        case measure => simp [intOf]; omega
      · go_wp2
        go_ret
        obtain rfl : k = len := by omega
        have hl := HL.out
        have hc := HC.out
        have ho := HO.out
        rw [← hl, List.take_length] at hc
        rw [← hl, partR_all, hl] at ho
        exact ⟨ret_int hc, ho, HK.out⟩

theorem heldOpS_own {tb : TypeId} (base : Nat) (va : Value) (ps : List EOp) (k0 : Int) (w : World) (h0 : 0 ≤ k0) (h1 : endR mOp k0 ps ≤ 1125899906842624) (hn : ps.length ≤ 1125899906842624)
    (ha : OwnR kOp base 64 tb w va (markR mOp k0 ps)) :
    Calls Try.prog 26 #[va, .int .i64 k0] w fun e w' => e = .returned (.int .i64 (endR mOp k0 ps)) ∧ w' = w := by
  by_cases hz : ps.length = 0
  · obtain rfl : ps = [] := List.length_eq_zero_iff.1 hz
    obtain ⟨aa, ca, rfl⟩ : ∃ aa ca, va = .slice aa 0 ca := by rcases ha.form with ⟨rfl, _⟩ | ⟨g, cap, rfl, _⟩ <;> exact ⟨_, _, rfl⟩
    clear ha hn hz h1
    go_enter Try.func26, Try.ntmps26
    go_wp2
    refine wp_loop_rounds 1 ?_
    rw [rounds_succ]
    go_wp2
    go_ret
    exact ⟨by simp [endR], rfl⟩
  · obtain ⟨g, cap, rfl⟩ : ∃ g cap, va = .slice (some ⟨g, 0, none⟩) ps.length cap := by
      rcases ha.form with ⟨_, h⟩ | ⟨g, cap, h, _⟩
      · have := congrArg List.length h; simp [markR_length] at this; simp [this] at hz
      · exact ⟨g, cap, by rw [h, markR_length]⟩
    have H1 : Hid (endR mOp k0 ps ≤ 1125899906842624) := h1
    have HA : Hid (OwnR kOp base 64 tb w (.slice (some ⟨g, 0, none⟩) ps.length cap) (markR mOp k0 ps)) := ha
    clear h1 ha
    generalize hl : ps.length = len at hn hz HA ⊢
    have HL : Hid (ps.length = len) := hl
    clear hl
    go_enter Try.func26, Try.ntmps26
    go_wp2
    go_loop [1, 5] (fun v i => ∃ (k : Nat) (c : Int), k ≤ len ∧ i = .int .i64 k ∧ v = .int .i64 c ∧ Hid (c = endR mOp k0 (ps.take k))) (fun _ i => len - (intOf i).toNat)
    case atStart => exact ⟨0, k0, Nat.zero_le _, rfl, rfl, rfl⟩
    case round =>
      obtain ⟨k, c, hk, rfl, rfl, HC⟩ := hrel
      by_cases hlt : k < len
      · have hlp : k < ps.length := by rw [HL.out]; exact hlt
        have hlm : k < (markR mOp k0 ps).length := by rw [markR_length]; exact hlp
        have hc0 : w.cell? ⟨g, k * 3, none⟩ = some (.int .i64 (c)) := by have h := HA.out.cell (by rw [markR_length]; exact HL.out.symm) k 0 hlm (by decide); rw [markR_at _ _ _ _ hlp, ← HC.out] at h; exact h
        have hc1 : w.cell? ⟨g, k * 3 + 1, none⟩ = some (.int .i64 (c + 1)) := by have h := HA.out.cell (by rw [markR_length]; exact HL.out.symm) k 1 hlm (by decide); rw [markR_at _ _ _ _ hlp, ← HC.out] at h; exact h
        have hc2 : w.cell? ⟨g, k * 3 + 2, none⟩ = some (ps[k].v) := by have h := HA.out.cell (by rw [markR_length]; exact HL.out.symm) k 2 hlm (by decide); rw [markR_at _ _ _ _ hlp, ← HC.out] at h; exact h
        have hd := HA.out.data _ (List.getElem_mem hlm)
        rw [markR_at _ _ _ _ hlp, ← HC.out] at hd
        have HD : Hid (Own base tb .u8 w ps[k].v (marks (c + 1 + 1) ps[k].bs.length)) := hd
        have hc0' : k0 ≤ c := by rw [HC.out]; exact endR_le _ _ _
        have hst := endR_step mOp k0 ps k hlp
        have hc1' : c + 2 + ps[k].bs.length ≤ 1125899906842624 := by have h2 := endR_take_le mOp k0 ps (k + 1); have h3 := H1.out; have h4 := HC.out; simp only [mOp] at hst; simp only [mOp] at h2 h3 h4; omega
        have HST := (show Hid (endR mOp k0 (ps.take (k + 1)) = endR mOp k0 (ps.take k) + (mOp.sz ps[k] : Nat)) from hst)
        clear hd hst
        go_wp2_with fail
        refine (heldByteS_own base ps[k].v ps[k].bs.length (c + 1 + 1) _ (by omega) (by omega) (by omega) HD.out).mono ?_
        rintro e w1 ⟨rfl, rfl⟩
        go_wp2
        go_round
        case rel => exact ⟨k + 1, c + 1 + 1 + (ps[k].bs.length : Int), by omega, by go_num, rfl, by unfold Hid; rw [HST.out, ← HC.out]; simp only [mOp]; omega⟩
        case measure => simp [intOf]; omega
      · go_wp2
        go_ret
        obtain rfl : k = len := by omega
        have hl := HL.out
        have hc := HC.out
        rw [← hl, List.take_length] at hc
        exact ⟨ret_int hc, rfl⟩

def zOp : EOp := ⟨0, 0, .slice none 0 0, []⟩
end Go.Proofs.Ytmifgmgiplejiaa
