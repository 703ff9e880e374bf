import Derived.Test.YtnkollbhicmdhaaDoorG21
import Derived.Test.YtnkollbhicmdhaaDoorG00
import Derived.Test.YtnkollbhicmdhaaDoorG02
import Derived.Test.YtnkollbhicmdhaaDoorG10
import Derived.Test.YtnkollbhicmdhaaDoorG01
import Derived.Test.YtnkollbhicmdhaaDoorG19
import Derived.Test.YtnkollbhicmdhaaDoorG18
import Derived.Test.YtnkollbhicmdhaaDoorG11
import Derived.Test.YtnkollbhicmdhaaDoorG09
import Derived.Test.YtnkollbhicmdhaaDoorG20
import Derived.Deep.RegionWith
import Derived.Deep.DeepMust
import Derived.Deep.DeepCutAuto
import Derived.Deep.AppendLies
namespace Go.Proofs.YtnkollbhicmdhaaDoor
set_option maxRecDepth 100000
set_option maxHeartbeats 4000000
open Go.RowKit
set_option linter.unusedVariables false
set_option linter.unusedSimpArgs false
structure EOp where
  kind : Int
  sec : Int
  v : Value
  bs : List Int
def kOp : RowK EOp := ⟨3, fun p => [.int .i64 p.kind, .int .i64 p.sec, p.v], fun _ => rfl, EOp.v, EOp.bs⟩
def EOp.dat (p : EOp) : Int × Int × List Int := (p.kind, p.sec, p.bs)
def datOpS (ps : List EOp) : List (Int × Int × List Int) := ps.map EOp.dat
theorem datOpS_length (ps : List EOp) : (datOpS ps).length = ps.length := by simp [datOpS]
theorem datOpS_at {ps qs : List EOp} (h : datOpS ps = datOpS qs) (k : Nat) (h1 : k < ps.length) (h2 : k < qs.length) : ps[k].dat = qs[k].dat := by
  have := congrArg (fun l => l[k]?) h
  simpa [datOpS, h1, h2] using this
theorem eqOp_own {ta tb : TypeId} (base : Nat) (kind : Int) (sec : Int) (va vb : Value) (bs : List Int) (w : World) (hn : bs.length ≤ 1125899906842624) (ha : Own base ta .u8 w va bs) (hb : Own base tb .u8 w vb bs) :
    Calls Tryd.prog 61 #[.agg #[.int .i64 kind, .int .i64 sec, va], .agg #[.int .i64 kind, .int .i64 sec, vb]] w fun e w' => e = .returned (.bool true) ∧ Same w w' := by
  obtain ⟨aa, na, ca, rfl⟩ := slice_of_own ha
  obtain ⟨ab, nb, cb, rfl⟩ := slice_of_own hb
  have HA : Hid (Own base ta .u8 w (.slice aa na ca) bs) := ha
  have HB : Hid (Own base tb .u8 w (.slice ab nb cb) bs) := hb
  have b0 := (Blk.newL w [.int .i64 kind, .int .i64 sec, .slice aa na ca] 78).same ((Kept.refl _ _).alloc (.cells #[.int .i64 kind, .int .i64 sec, .slice ab nb cb] 78))
  have b1 := Blk.newB w [.int .i64 kind, .int .i64 sec, .slice aa na ca] 78 [.int .i64 kind, .int .i64 sec, .slice ab nb cb] 78
  clear ha hb
  go_enter Tryd.func61, Tryd.ntmps61
  go_wp2_with fail
  refine (eqByteS_own base _ _ bs _ hn (HA.out.same (((Kept.refl _ _).alloc _).alloc _)) (HB.out.same (((Kept.refl _ _).alloc _).alloc _))).mono ?_
  rintro e w1 ⟨rfl, n1, hw⟩
  have hk : Same ((w.alloc (.cells #[.int .i64 kind, .int .i64 sec, .slice aa na ca] 78)).alloc (.cells #[.int .i64 kind, .int .i64 sec, .slice ab nb cb] 78)) w1 := by rw [hw]; exact (Kept.refl _ _).drewN _
  clear hw
  go_wp2
  go_ret
  exact ⟨rfl, (((Kept.refl _ _).alloc _).alloc _).trans hk⟩
theorem eqOpS_own {ta tb : TypeId} (base : Nat) (va vb : Value) (ps qs : List EOp) (w : World) (hn : ps.length ≤ 1125899906842624) (hs : datOpS ps = datOpS qs) (hsm : ∀ p ∈ ps, p.bs.length ≤ 1125899906842624)
    (ha : OwnR kOp base 78 ta w va ps) (hb : OwnR kOp base 78 tb w vb qs) :
    Calls Tryd.prog 31 #[va, vb] w fun e w' => e = .returned (.bool true) ∧ Same w w' := by
  have hlen : qs.length = ps.length := by rw [← datOpS_length, ← datOpS_length, hs]
  by_cases hz : ps.length = 0
  · obtain rfl : ps = [] := List.length_eq_zero_iff.1 hz
    obtain rfl : qs = [] := List.length_eq_zero_iff.1 hlen
    obtain ⟨aa, ca, rfl⟩ : ∃ aa ca, va = .slice aa 0 ca := by rcases ha.form with ⟨rfl, _⟩ | ⟨g, cap, rfl, _⟩ <;> exact ⟨_, _, rfl⟩
    obtain ⟨ab, cb, rfl⟩ : ∃ aa ca, vb = .slice aa 0 ca := by rcases hb.form with ⟨rfl, _⟩ | ⟨g, cap, rfl, _⟩ <;> exact ⟨_, _, rfl⟩
    clear ha hb hn hz hs
    go_enter Tryd.func31, Tryd.ntmps31
    go_wp2
    refine wp_loop_rounds 1 ?_
    rw [rounds_succ]
    go_wp2
    go_ret
    exact ⟨rfl, Kept.refl _ _⟩
  · obtain ⟨ga, ca, rfl⟩ : ∃ g cap, va = .slice (some ⟨g, 0, none⟩) ps.length cap := by
      rcases ha.form with ⟨_, h⟩ | ⟨g, cap, h, _⟩
      · simp [h] at hz
      · exact ⟨g, cap, h⟩
    obtain ⟨gb, cb, rfl⟩ : ∃ g cap, vb = .slice (some ⟨g, 0, none⟩) ps.length cap := by
      rcases hb.form with ⟨_, h⟩ | ⟨g, cap, h, _⟩
      · simp [h] at hlen; omega
      · exact ⟨g, cap, by rw [h, hlen]⟩
    have HA : Hid (OwnR kOp base 78 ta w (.slice (some ⟨ga, 0, none⟩) ps.length ca) ps) := ha
    have HB : Hid (OwnR kOp base 78 tb w (.slice (some ⟨gb, 0, none⟩) ps.length cb) qs) := hb
    have HQ : Hid (qs.length = ps.length) := hlen
    have HS : Hid (datOpS ps = datOpS qs) := hs
    have HM : Hid (∀ p ∈ ps, p.bs.length ≤ 1125899906842624) := hsm
    clear ha hb hs hlen hsm
    generalize hl : ps.length = len at hn hz HA HB ⊢
    have HL : Hid (ps.length = len) := hl
    clear hl
    go_enter Tryd.func31, Tryd.ntmps31
    go_wp2
    go_loopw [5] (fun i wr => ∃ (k : Nat), k ≤ len ∧ i = .int .i64 k ∧ Hid (Same w wr)) (fun i _ => len - (intOf i).toNat)
    case atStart => exact ⟨0, Nat.zero_le _, rfl, Kept.refl _ _⟩
    case round =>
      obtain ⟨k, hk, rfl, HK⟩ := hrel
      by_cases hlt : k < len
      · have hlp : k < ps.length := by rw [HL.out]; exact hlt
        have hlq : k < qs.length := by rw [HQ.out]; exact hlp
        have hoa := HA.out.same HK.out
        have hob := HB.out.same HK.out
        have hdd := datOpS_at HS.out k hlp hlq
        simp only [EOp.dat, Prod.mk.injEq] at hdd
        obtain ⟨d0, d1, d2⟩ := hdd
        have s3 := HM.out _ (List.getElem_mem hlp)
        have ha0 : wr.cell? ⟨ga, k * 3, none⟩ = some (.int .i64 ps[k].kind) := hoa.cell HL.out.symm k 0 hlp (by decide)
        have ha1 : wr.cell? ⟨ga, k * 3 + 1, none⟩ = some (.int .i64 ps[k].sec) := hoa.cell HL.out.symm k 1 hlp (by decide)
        have ha2 : wr.cell? ⟨ga, k * 3 + 2, none⟩ = some (ps[k].v) := hoa.cell HL.out.symm k 2 hlp (by decide)
        have hb0 : wr.cell? ⟨gb, k * 3, none⟩ = some (.int .i64 ps[k].kind) := by rw [d0]; exact hob.cell (by rw [HQ.out, HL.out]) k 0 hlq (by decide)
        have hb1 : wr.cell? ⟨gb, k * 3 + 1, none⟩ = some (.int .i64 ps[k].sec) := by rw [d1]; exact hob.cell (by rw [HQ.out, HL.out]) k 1 hlq (by decide)
        have hb2 : wr.cell? ⟨gb, k * 3 + 2, none⟩ = some (qs[k].v) := hob.cell (by rw [HQ.out, HL.out]) k 2 hlq (by decide)
        have HDA : Hid (Own base ta .u8 wr ps[k].v ps[k].bs) := hoa.data _ (List.getElem_mem hlp)
        have HDB : Hid (Own base tb .u8 wr qs[k].v ps[k].bs) := by have := hob.data _ (List.getElem_mem hlq); rw [d2]; exact this
        clear d0 d1 d2 hoa hob
        go_wp2_with fail
        go_region_with (go_at_call 61; refine (eqOp_own base ps[k].kind ps[k].sec ps[k].v qs[k].v ps[k].bs _ s3 (by exact HDA.out.same (Kept.refl _ _).drew) (by exact HDB.out.same (Kept.refl _ _).drew)).mono ?_; rintro e w1 ⟨rfl, hk1⟩)
        all_goals
          have HK1 : Hid (Same w w1) := HK.out.drew.trans hk1
          clear hk1 ha0 hb0 ha1 hb1 ha2 hb2 HDA HDB
          go_wp2
          go_roundw
          case rel => exact ⟨k + 1, by omega, by go_num, HK1⟩
          case measure => simp [intOf]; omega
      · go_wp2
        go_ret
        exact ⟨rfl, HK.out⟩
def mOp : MarkK kOp := ⟨fun k p => ⟨k, k + 1, p.v, marks (k + 1 + 1) p.bs.length⟩, fun p => 2 + p.bs.length, fun _ _ => rfl⟩
theorem markOpS_own {tb : TypeId} (base : Nat) (va : Value) (ps : List EOp) (k0 : Int) (w : World) (h0 : 0 ≤ k0) (h1 : endR mOp k0 ps ≤ 1125899906842624) (hn : ps.length ≤ 1125899906842624)
    (ha : OwnR kOp base 78 tb w va ps) :
    Calls Tryd.prog 32 #[va, .int .i64 k0] w fun e w' => e = .returned (.int .i64 (endR mOp k0 ps)) ∧ OwnR kOp base 78 tb w' va (markR mOp k0 ps) ∧ Kept (footR kOp va ps) w w' := by
  by_cases hz : ps.length = 0
  · obtain rfl : ps = [] := List.length_eq_zero_iff.1 hz
    obtain ⟨aa, ca, rfl⟩ : ∃ aa ca, va = .slice aa 0 ca := by rcases ha.form with ⟨rfl, _⟩ | ⟨g, cap, rfl, _⟩ <;> exact ⟨_, _, rfl⟩
    have HA : Hid (OwnR kOp base 78 tb w (.slice aa 0 ca) []) := ha
    clear ha hn hz h1
    go_enter Tryd.func32, Tryd.ntmps32
    go_wp2
    refine wp_loop_rounds 1 ?_
    rw [rounds_succ]
    go_wp2
    go_ret
    exact ⟨by simp [endR], by simpa [markR] using HA.out, Kept.refl _ _⟩
  · obtain ⟨g, cap, rfl, hb, hlt, _, _⟩ : ∃ g cap, va = .slice (some ⟨g, 0, none⟩) ps.length cap ∧ base ≤ g ∧ g < w.heap.size ∧ ps.length ≤ cap ∧ cap ≤ maxLen := by
      rcases ha.form with ⟨_, rfl⟩ | h
      · simp at hz
      · exact h
    have H1 : Hid (endR mOp k0 ps ≤ 1125899906842624) := h1
    have HA0 : Hid (OwnR kOp base 78 tb w (.slice (some ⟨g, 0, none⟩) ps.length cap) ps) := ha
    clear h1 ha
    generalize hl : ps.length = len at *
    have HL : Hid (ps.length = len) := hl
    clear hl
    go_enter Tryd.func32, Tryd.ntmps32
    go_wp2
    go_loopw [1, 5] (fun v i wr => ∃ (k : Nat) (c : Int), k ≤ len ∧ i = .int .i64 k ∧ v = .int .i64 c ∧ Hid (c = endR mOp k0 (ps.take k)) ∧ Hid (OwnR kOp base 78 tb wr (.slice (some ⟨g, 0, none⟩) len cap) (partR mOp k0 ps k)) ∧ Hid (Kept (footR kOp (.slice (some ⟨g, 0, none⟩) len cap) ps) w wr)) (fun _ i _ => len - (intOf i).toNat)
    case atStart => exact ⟨0, k0, Nat.zero_le _, rfl, rfl, rfl, by rw [partR_zero]; exact HA0.out, Kept.refl _ _⟩
    case round =>
      obtain ⟨k, c, hk, rfl, rfl, HC, HO, HK⟩ := hrel
      by_cases hlt : k < len
      · have hlp : k < ps.length := by rw [HL.out]; exact hlt
        have hc0' : k0 ≤ c := by rw [HC.out]; exact endR_le _ _ _
        have hst := endR_step mOp k0 ps k hlp
        have hc1' : c + 2 + ps[k].bs.length ≤ 1125899906842624 := by have h2 := endR_take_le mOp k0 ps (k + 1); have h3 := H1.out; have h4 := HC.out; simp only [mOp] at hst; simp only [mOp] at h2 h3 h4; omega
        have HST := (show Hid (endR mOp k0 (ps.take (k + 1)) = endR mOp k0 (ps.take k) + (mOp.sz ps[k] : Nat)) from hst)
        clear hst
        have HP0 : Hid (OwnR kOp base 78 tb wr (.slice (some ⟨g, 0, none⟩) len cap) (markR mOp k0 (ps.take k) ++ ps[k] :: ps.drop (k + 1))) := by
          have h := HO.out
          rw [partR_at _ _ _ _ hlp] at h
          exact h
        have HLN : ∀ e : EOp, Hid (len = (markR mOp k0 (ps.take k) ++ e :: ps.drop (k + 1)).length) := fun e => by have hl := HL.out; simp [Hid, markR_length]; omega
        have HPL : Hid ((markR mOp k0 (ps.take k)).length = k) := by have hl := HL.out; simp [Hid, markR_length]; omega
        have hc0 : wr.cell? ⟨g, k * 3, none⟩ = some (.int .i64 ps[k].kind) := HP0.out.cellMid (HLN _).out 0 (by decide) _ (by rw [HPL.out]; rfl)
        have hc1 : wr.cell? ⟨g, k * 3 + 1, none⟩ = some (.int .i64 ps[k].sec) := HP0.out.cellMid (HLN _).out 1 (by decide) _ (by rw [HPL.out]; rfl)
        have hc2 : wr.cell? ⟨g, k * 3 + 2, none⟩ = some (ps[k].v) := HP0.out.cellMid (HLN _).out 2 (by decide) _ (by rw [HPL.out]; rfl)
        have fr := HO.out.frozen (by rw [partR_length]; exact HL.out.symm)
        have HP1 : Hid (OwnR kOp base 78 tb (wr.setCell ⟨g, k * 3, none⟩ (.int .i64 (c))) (.slice (some ⟨g, 0, none⟩) len cap) (markR mOp k0 (ps.take k) ++ ⟨c, ps[k].sec, ps[k].v, ps[k].bs⟩ :: ps.drop (k + 1))) := HP0.out.set (p' := ⟨c, ps[k].sec, ps[k].v, ps[k].bs⟩) (HLN _).out 0 (.int .i64 (c)) (by decide) rfl rfl rfl (k * 3) (by first | (rw [HPL.out]; done) | (rw [HPL.out]; rfl))
        have HP2 : Hid (OwnR kOp base 78 tb ((wr.setCell ⟨g, k * 3, none⟩ (.int .i64 (c))).setCell ⟨g, k * 3 + 1, none⟩ (.int .i64 (c + 1))) (.slice (some ⟨g, 0, none⟩) len cap) (markR mOp k0 (ps.take k) ++ ⟨c, c + 1, ps[k].v, ps[k].bs⟩ :: ps.drop (k + 1))) := HP1.out.set (p' := ⟨c, c + 1, ps[k].v, ps[k].bs⟩) (HLN _).out 1 (.int .i64 (c + 1)) (by decide) rfl rfl rfl (k * 3 + 1) (by first | (rw [HPL.out]; done) | (rw [HPL.out]; rfl))
        go_wp2_with fail
        refine (markByteS_own base ps[k].v ps[k].bs (c + 1 + 1) _ (by omega) (by omega) (by omega) (HP2.out.data ⟨c, c + 1, ps[k].v, ps[k].bs⟩ (by simp))).mono ?_
        rintro e w1 ⟨rfl, ho, hk1⟩
        have HQ0 : Hid (OwnR kOp base 78 tb w1 (.slice (some ⟨g, 0, none⟩) len cap) (markR mOp k0 (ps.take k) ++ ⟨c, c + 1, ps[k].v, marks (c + 1 + 1) ps[k].bs.length⟩ :: ps.drop (k + 1))) := HP2.out.setData (p' := (⟨c, c + 1, ps[k].v, marks (c + 1 + 1) ps[k].bs.length⟩ : EOp)) hk1 rfl rfl ho
        have fr1 : ∀ j, w1.frozen? ⟨g, j, none⟩ = false := fun j => HQ0.out.frozen (HLN _).out j
        have HO3 : Hid (OwnR kOp base 78 tb w1 (.slice (some ⟨g, 0, none⟩) len cap) (partR mOp k0 ps (k + 1))) := by
          rw [partR_step _ _ _ _ hlp, ← HC.out]
          exact HQ0.out
        have HK3 : Hid (Kept (footR kOp (.slice (some ⟨g, 0, none⟩) len cap) ps) w w1) := (((HK.out.setCell (p := ⟨g, k * 3, none⟩) (.inr (.inl rfl)) _).setCell (p := ⟨g, k * 3 + 1, none⟩) (.inr (.inl rfl)) _).trans (hk1.mono fun b _ hb => .inr ⟨ps[k], List.getElem_mem _, hb⟩))
        clear ho hk1 HO HP0 HP1 HP2 hc0 hc1 hc2
        go_wp2
        go_roundw
        case rel =>
          exact ⟨k + 1, c + 1 + 1 + (ps[k].bs.length : Int), by omega, by go_num, rfl, by unfold Hid; rw [HST.out, ← HC.out]; simp only [mOp]; omega, HO3, HK3⟩
        case measure => simp [intOf]; omega
      · go_wp2
        go_ret
        obtain rfl : k = len := by omega
        have hl := HL.out
        have hc := HC.out
        have ho := HO.out
        rw [← hl, List.take_length] at hc
        rw [← hl, partR_all, hl] at ho
        exact ⟨ret_int hc, ho, HK.out⟩
theorem heldOpS_own {tb : TypeId} (base : Nat) (va : Value) (ps : List EOp) (k0 : Int) (w : World) (h0 : 0 ≤ k0) (h1 : endR mOp k0 ps ≤ 1125899906842624) (hn : ps.length ≤ 1125899906842624)
    (ha : OwnR kOp base 78 tb w va (markR mOp k0 ps)) :
    Calls Tryd.prog 33 #[va, .int .i64 k0] w fun e w' => e = .returned (.int .i64 (endR mOp k0 ps)) ∧ w' = w := by
  by_cases hz : ps.length = 0
  · obtain rfl : ps = [] := List.length_eq_zero_iff.1 hz
    obtain ⟨aa, ca, rfl⟩ : ∃ aa ca, va = .slice aa 0 ca := by rcases ha.form with ⟨rfl, _⟩ | ⟨g, cap, rfl, _⟩ <;> exact ⟨_, _, rfl⟩
    clear ha hn hz h1
    go_enter Tryd.func33, Tryd.ntmps33
    go_wp2
    refine wp_loop_rounds 1 ?_
    rw [rounds_succ]
    go_wp2
    go_ret
    exact ⟨by simp [endR], rfl⟩
  · obtain ⟨g, cap, rfl⟩ : ∃ g cap, va = .slice (some ⟨g, 0, none⟩) ps.length cap := by
      rcases ha.form with ⟨_, h⟩ | ⟨g, cap, h, _⟩
      · have := congrArg List.length h; simp [markR_length] at this; simp [this] at hz
      · exact ⟨g, cap, by rw [h, markR_length]⟩
    have H1 : Hid (endR mOp k0 ps ≤ 1125899906842624) := h1
    have HA : Hid (OwnR kOp base 78 tb w (.slice (some ⟨g, 0, none⟩) ps.length cap) (markR mOp k0 ps)) := ha
    clear h1 ha
    generalize hl : ps.length = len at hn hz HA ⊢
    have HL : Hid (ps.length = len) := hl
    clear hl
    go_enter Tryd.func33, Tryd.ntmps33
    go_wp2
    go_loop [1, 5] (fun v i => ∃ (k : Nat) (c : Int), k ≤ len ∧ i = .int .i64 k ∧ v = .int .i64 c ∧ Hid (c = endR mOp k0 (ps.take k))) (fun _ i => len - (intOf i).toNat)
    case atStart => exact ⟨0, k0, Nat.zero_le _, rfl, rfl, rfl⟩
    case round =>
      obtain ⟨k, c, hk, rfl, rfl, HC⟩ := hrel
      by_cases hlt : k < len
      · have hlp : k < ps.length := by rw [HL.out]; exact hlt
        have hlm : k < (markR mOp k0 ps).length := by rw [markR_length]; exact hlp
        have hc0 : w.cell? ⟨g, k * 3, none⟩ = some (.int .i64 (c)) := by have h := HA.out.cell (by rw [markR_length]; exact HL.out.symm) k 0 hlm (by decide); rw [markR_at _ _ _ _ hlp, ← HC.out] at h; exact h
        have hc1 : w.cell? ⟨g, k * 3 + 1, none⟩ = some (.int .i64 (c + 1)) := by have h := HA.out.cell (by rw [markR_length]; exact HL.out.symm) k 1 hlm (by decide); rw [markR_at _ _ _ _ hlp, ← HC.out] at h; exact h
        have hc2 : w.cell? ⟨g, k * 3 + 2, none⟩ = some (ps[k].v) := by have h := HA.out.cell (by rw [markR_length]; exact HL.out.symm) k 2 hlm (by decide); rw [markR_at _ _ _ _ hlp, ← HC.out] at h; exact h
        have hd := HA.out.data _ (List.getElem_mem hlm)
        rw [markR_at _ _ _ _ hlp, ← HC.out] at hd
        have HD : Hid (Own base tb .u8 w ps[k].v (marks (c + 1 + 1) ps[k].bs.length)) := hd
        have hc0' : k0 ≤ c := by rw [HC.out]; exact endR_le _ _ _
        have hst := endR_step mOp k0 ps k hlp
        have hc1' : c + 2 + ps[k].bs.length ≤ 1125899906842624 := by have h2 := endR_take_le mOp k0 ps (k + 1); have h3 := H1.out; have h4 := HC.out; simp only [mOp] at hst; simp only [mOp] at h2 h3 h4; omega
        have HST := (show Hid (endR mOp k0 (ps.take (k + 1)) = endR mOp k0 (ps.take k) + (mOp.sz ps[k] : Nat)) from hst)
        clear hd hst
        go_wp2_with fail
        refine (heldByteS_own base ps[k].v ps[k].bs.length (c + 1 + 1) _ (by omega) (by omega) (by omega) HD.out).mono ?_
        rintro e w1 ⟨rfl, rfl⟩
        go_wp2
        go_round
        case rel => exact ⟨k + 1, c + 1 + 1 + (ps[k].bs.length : Int), by omega, by go_num, rfl, by unfold Hid; rw [HST.out, ← HC.out]; simp only [mOp]; omega⟩
        case measure => simp [intOf]; omega
      · go_wp2
        go_ret
        obtain rfl : k = len := by omega
        have hl := HL.out
        have hc := HC.out
        rw [← hl, List.take_length] at hc
        exact ⟨ret_int hc, rfl⟩
end Go.Proofs.YtnkollbhicmdhaaDoor

namespace Go.Proofs.YtnkollbhicmdhaaDoor
set_option maxRecDepth 100000
set_option maxHeartbeats 8000000
open Go.RowKit
set_option linter.unusedVariables false
set_option linter.unusedSimpArgs false
def doD (dur : List Int) (ds : List (Int × List Int)) (op : Int × Int × List Int) : List Int × List (Int × List Int) :=
  if op.1 = 2 then (settleN (fun _ => true) dur ds ds.length, []) else if op.1 = 1 then writeD dur ds op.2.1 op.2.2 else (dur, ds)
theorem doD_valid {dur : List Int} {ds : List (Int × List Int)} {op : Int × Int × List Int} (h : Valid dur.length ds) : (doD dur ds op).1.length = dur.length ∧ Valid dur.length (doD dur ds op).2 := by
  unfold doD
  by_cases h1 : op.1 = 2
  · rw [if_pos h1]
    exact ⟨settleN_length _ _ _ h _ (Nat.le_refl _), ⟨h.1.1, h.1.2.1, h.1.2.2.1, by simp⟩, fun p hp => by simp at hp⟩
  rw [if_neg h1]
  by_cases h2 : op.1 = 1
  · rw [if_pos h2]; exact writeD_valid h
  · rw [if_neg h2]; exact ⟨rfl, h⟩
end Go.Proofs.YtnkollbhicmdhaaDoor

namespace Go.Proofs.YtnkollbhicmdhaaDoor
set_option maxRecDepth 100000
set_option maxHeartbeats 8000000
open Go.RowKit
set_option linter.unusedVariables false
set_option linter.unusedSimpArgs false
theorem Plat.kept {R : Nat → Prop} {w w' : World} {B : Nat} {dv pv : Value} {dur : List Int} {ds : List (Int × List Int)} (h : Plat w B dv pv dur ds) (hk : Kept R w w') (hB : ¬ R B) (hd : ∀ b, dv.ownBlock = some b → ¬ R b) (hp : ∀ b, pv.ownBlock = some b → ¬ R b) : Plat w' B dv pv dur ds :=
  ⟨h.box.kept hk hB, hk.owns h.dur hd, hk.owns h.pend hp, h.a1, h.a2, h.a3⟩
theorem Plat.same {w w' : World} {B : Nat} {dv pv : Value} {dur : List Int} {ds : List (Int × List Int)} (h : Plat w B dv pv dur ds) (hk : Same w w') : Plat w' B dv pv dur ds := h.kept hk id (fun _ _ => id) (fun _ _ => id)
theorem doOp_any (B : Nat) (dv pv : Value) (dur : List Int) (ds : List (Int × List Int)) (kind sec : Int) (v : Value) (bs : List Int) (w : World) (hp : Plat w B dv pv dur ds) (hval : Valid dur.length ds) (hv : Rd .u8 w v bs) (hsep : bs ≠ [] → ∀ b, looks v b → b ≠ B ∧ dv.ownBlock ≠ some b ∧ pv.ownBlock ≠ some b) :
    Calls Tryd.prog 51 #[.pointer (some ⟨B, 0, none⟩), .agg #[.int .i64 kind, .int .i64 sec, v]] w fun e w' => e = .returned (.tuple #[]) ∧ (∃ pv', Plat w' B dv pv' (doD dur ds (kind, sec, bs)).1 (doD dur ds (kind, sec, bs)).2 ∧ ∀ b, pv'.ownBlock = some b → pv.ownBlock = some b ∨ w.heap.size ≤ b) ∧ Kept (fun b => b = B ∨ dv.ownBlock = some b ∨ pv.ownBlock = some b) w w' := by
  obtain ⟨av, cv, rfl⟩ := hv.form
  have hka : Same w (w.alloc (.cells #[.int .i64 kind, .int .i64 sec, .slice av bs.length cv] 78)) := (Kept.refl _ _).alloc _
  have hb : Blk (w.alloc (.cells #[.int .i64 kind, .int .i64 sec, .slice av bs.length cv] 78)) w.heap.size 78 [.int .i64 kind, .int .i64 sec, .slice av bs.length cv] := Blk.newL w [.int .i64 kind, .int .i64 sec, .slice av bs.length cv] 78
  have kw := write_any B dv pv dur ds sec (.slice av bs.length cv) bs _ (hp.same hka) hval (hv.same hka) hsep
  have ks := sync_any B dv pv dur ds _ (hp.same hka) hval
  have HP := hid hp
  have HKA := hid hka
  obtain ⟨o0, o1, o2⟩ := hb.all3
  clear hp hv hsep hka hb
  by_cases k1 : kind = 1
  · subst k1
    have HT : Hid (doD dur ds (1, sec, bs) = writeD dur ds sec bs) := by unfold Hid doD; rw [if_neg (by simp), if_pos rfl]
    clear ks
    go_enter Tryd.func51, Tryd.ntmps51
    go_wp2_with fail
    refine kw.mono ?_
    rintro e w1 ⟨rfl, ⟨pv', hp', hn'⟩, hk'⟩
    have H1 := hid hp'
    have H2 := hid hn'
    have H3 := hid hk'
    clear hp' hn' hk' kw
    go_wp2
    first | go_end0 | skip
    refine ⟨rfl, ⟨pv', by rw [HT.out]; exact H1.out, fun b hb => ?_⟩, (HKA.out.mono (fun _ _ e => e.elim)).next H3.out (fun i hi e => e)⟩
    rcases H2.out b hb with h | h
    · exact .inl h
    · simp only [World.size_alloc] at h
      exact .inr (by omega)
  by_cases k2 : kind = 2
  · subst k2
    have HT : Hid (doD dur ds (2, sec, bs) = (settleN (fun _ => true) dur ds ds.length, [])) := if_pos rfl
    clear kw
    go_enter Tryd.func51, Tryd.ntmps51
    go_wp2_with fail
    refine ks.mono ?_
    rintro e w1 ⟨rfl, hp', hk'⟩
    have H1 := hid hp'
    have H3 := hid hk'
    clear hp' hk' ks
    go_wp2
    first | go_end0 | skip
    refine ⟨rfl, ⟨.slice none 0 0, by rw [HT.out]; exact H1.out, fun b hb => by simp [Value.ownBlock] at hb⟩, (HKA.out.mono (fun _ _ e => e.elim)).next H3.out (fun i hi e => by rcases e with e | e; exact .inl e; exact .inr (.inl e))⟩
  · have HT : Hid (doD dur ds (kind, sec, bs) = (dur, ds)) := by unfold Hid doD; rw [if_neg k2, if_neg k1]
    clear kw ks
    go_enter Tryd.func51, Tryd.ntmps51
    go_wp2
    first | go_end0 | skip
    exact ⟨rfl, ⟨pv, by rw [HT.out]; exact HP.out.same HKA.out, fun b hb => .inl hb⟩, HKA.out.mono (fun _ _ e => e.elim)⟩
def usedO (limit : Int) (n : Nat) : Nat := if 0 ≤ limit ∧ limit < (n : Int) then limit.toNat else n
theorem usedO_le (limit : Int) (n : Nat) : usedO limit n ≤ n := by
  unfold usedO
  split
  · omega
  · exact Nat.le_refl _
def runD (dur : List Int) (ds : List (Int × List Int)) (ops : List (Int × Int × List Int)) : List Int × List (Int × List Int) := ops.foldl (fun x o => doD x.1 x.2 o) (dur, ds)
theorem runD_step {dur : List Int} {ds : List (Int × List Int)} {ops : List (Int × Int × List Int)} {k : Nat} (h : k < ops.length) : runD dur ds (ops.take (k + 1)) = doD (runD dur ds (ops.take k)).1 (runD dur ds (ops.take k)).2 ops[k] := by
  unfold runD
  rw [List.take_succ_eq_append_getElem h, List.foldl_append]
  rfl
theorem runD_valid {dur : List Int} {ds : List (Int × List Int)} (h : Valid dur.length ds) (ops : List (Int × Int × List Int)) : ∀ k, k ≤ ops.length → (runD dur ds (ops.take k)).1.length = dur.length ∧ Valid dur.length (runD dur ds (ops.take k)).2 := by
  intro k
  induction k with
  | zero => intro _; exact ⟨rfl, h⟩
  | succ k ih =>
    intro hk
    obtain ⟨h1, h2⟩ := ih (by omega)
    rw [runD_step (by omega)]
    have := doD_valid (op := ops[k]) (show Valid (runD dur ds (ops.take k)).1.length (runD dur ds (ops.take k)).2 from by rw [h1]; exact h2)
    rw [h1] at this
    exact this
structure IsRun (limit : Int) (dur : List Int) (ds : List (Int × List Int)) (ops : List (Int × Int × List Int)) (r : List Int) (qs : List (Int × List Int)) : Prop where
  yes : Valid dur.length ds → (r, qs) = runD dur ds (ops.take (usedO limit ops.length))
  no : ¬ Valid dur.length ds → r = dur ∧ qs = ds
theorem IsRun.one {limit : Int} {dur : List Int} {ds : List (Int × List Int)} {ops : List (Int × Int × List Int)} {r r' : List Int} {qs qs' : List (Int × List Int)} (h : IsRun limit dur ds ops r qs) (h' : IsRun limit dur ds ops r' qs') : r = r' ∧ qs = qs' := by
  by_cases hv : Valid dur.length ds
  · have := (h.yes hv).trans (h'.yes hv).symm
    simp only [Prod.mk.injEq] at this
    exact this
  · obtain ⟨e1, e2⟩ := h.no hv
    obtain ⟨e3, e4⟩ := h'.no hv
    exact ⟨e1.trans e3.symm, e2.trans e4.symm⟩
def allO (limit : Int) (n : Nat) : Bool := decide (usedO limit n = n)
end Go.Proofs.YtnkollbhicmdhaaDoor

namespace Go.Proofs.YtnkollbhicmdhaaDoor
set_option maxRecDepth 100000
open Go.RowKit
set_option linter.unusedSimpArgs false
set_option linter.unusedVariables false
def secB (dur : List Int) (i : Nat) : List Int := (dur.drop (i * 512)).take 512
def lastN (sel : Nat → Bool) (s : Int) (ds : List (Int × List Int)) : Nat → Option (List Int)
  | 0 => none
  | k + 1 => if (ds.getD k (0, [])).1 = s ∧ sel k = true then some (ds.getD k (0, [])).2 else lastN sel s ds k
theorem putAt_same (dur bs : List Int) (lo : Nat) (h : lo ≤ dur.length) : ((putAt dur lo bs).drop lo).take bs.length = bs := by
  unfold putAt
  have h1 : (dur.take lo).length = lo := by rw [List.length_take]; omega
  rw [List.drop_append, h1, List.drop_of_length_le (by omega), Nat.sub_self, List.drop_zero, List.nil_append, List.take_append_of_le_length (Nat.le_refl _), List.take_length]
theorem putAt_get (dur bs : List Int) (lo : Nat) (h : lo + bs.length ≤ dur.length) (k : Nat) (hk : k < lo ∨ lo + bs.length ≤ k) : (putAt dur lo bs)[k]? = dur[k]? := by
  unfold putAt
  have h1 : (dur.take lo).length = lo := by rw [List.length_take]; omega
  rcases hk with hk | hk
  · rw [List.getElem?_append_left (by omega), List.getElem?_take, if_pos hk]
  · rw [List.getElem?_append_right (by omega), List.getElem?_append_right (by omega), List.getElem?_drop, h1]
    congr 1
    omega
theorem secB_other (dur bs : List Int) (i j : Nat) (hij : i ≠ j) (hb : bs.length = 512) (h : j * 512 + 512 ≤ dur.length) : secB (putAt dur (j * 512) bs) i = secB dur i := by
  unfold secB
  apply List.ext_getElem?
  intro k
  rw [List.getElem?_take, List.getElem?_take]
  split
  · rw [List.getElem?_drop, List.getElem?_drop, putAt_get _ _ _ (by omega) _ (by rw [hb]; omega)]
  · rfl
theorem secB_same (dur bs : List Int) (i : Nat) (hb : bs.length = 512) (h : i * 512 + 512 ≤ dur.length) : secB (putAt dur (i * 512) bs) i = bs := by
  have := putAt_same dur bs (i * 512) (by omega)
  rw [hb] at this
  exact this
theorem settle_sec (sel : Nat → Bool) (dur : List Int) (ds : List (Int × List Int)) (hv : Valid dur.length ds) (i : Nat) (hi : i < dur.length / 512) : ∀ n, n ≤ ds.length → secB (settleN sel dur ds n) i = (lastN sel (i : Int) ds n).getD (secB dur i)
  | 0, _ => rfl
  | n + 1, hn => by
    have ih := settle_sec sel dur ds hv i hi n (by omega)
    have hl := settleN_length sel dur ds hv n (by omega)
    have hm : ds.getD n (0, []) ∈ ds := by simp [List.getD, show n < ds.length from by omega]
    obtain ⟨h1, h2, h3⟩ := hv.2 _ hm
    have h4 := hv.1.1
    unfold settleN lastN
    by_cases hs : sel n = true
    · rw [if_pos hs]
      by_cases hsec : (ds.getD n (0, [])).1 = (i : Int)
      · rw [if_pos ⟨hsec, hs⟩, hsec, show ((i : Int)).toNat = i from by omega, secB_same _ _ _ h3 (by omega)]
        rfl
      · rw [if_neg (fun h => hsec h.1), ← ih]
        exact secB_other _ _ _ _ (by omega) h3 (by omega)
    · rw [if_neg hs, if_neg (fun h => hs h.2)]
      exact ih
theorem lastP_lastN (s : Int) (ds : List (Int × List Int)) : ∀ n, n ≤ ds.length → lastP s (ds.take n) = lastN (fun _ => true) s ds n
  | 0, _ => by simp [lastP, lastN]
  | n + 1, hn => by
    have ih := lastP_lastN s ds n (by omega)
    have hg : ds.getD n (0, []) = ds[n]'(by omega) := by simp [List.getD, show n < ds.length from by omega]
    rw [List.take_succ_eq_append_getElem (by omega)]
    unfold lastN
    rw [hg]
    by_cases h : (ds[n]'(by omega)).1 = s
    · rw [if_pos ⟨h, rfl⟩, ← h]
      exact lastP_snoc _ _ _
    · rw [if_neg (fun q => h q.1), ← ih]
      exact lastP_append_none _ _ _ (fun p hp => by rw [List.mem_singleton.1 hp]; exact h)
theorem seeD_lastN (i : Nat) (dur : List Int) (ds : List (Int × List Int)) : seeD (i : Int) dur ds = (lastN (fun _ => true) (i : Int) ds ds.length).getD (secB dur i) := by
  have h := lastP_lastN (i : Int) ds ds.length (Nat.le_refl _)
  rw [List.take_length] at h
  unfold seeD secB
  rw [h, show ((i : Int)).toNat = i from by omega]
end Go.Proofs.YtnkollbhicmdhaaDoor

namespace Go.Proofs.YtnkollbhicmdhaaDoor
open Go.RowKit
set_option linter.unusedVariables false
set_option linter.unusedSimpArgs false
theorem take_at (A B C : List Int) (a b : Nat) (ha : a = A.length) (hb : b = B.length) : ((A ++ (B ++ C)).drop a).take b = B := by
  subst ha hb
  rw [List.drop_left, List.take_left]
theorem getN_low {x : Int} {n : Nat} (hn : 1 ≤ n) (hn8 : n ≤ 8) (h0 : 0 ≤ x) (h1 : x < 256 ^ n) (h2 : x ≤ 9223372036854775807) : getN (lows x n) = x := by
  obtain ⟨m, rfl⟩ : ∃ m : Nat, x = (m : Int) := ⟨x.toNat, by omega⟩
  have e : num (lows (m : Int) n) = (m : Int) := by
    rw [num_lows, Nat.mod_eq_of_lt]
    have : ((256 ^ n : Nat) : Int) = (256 : Int) ^ n := by simp
    omega
  unfold getN
  rw [e, lows_length, if_neg (by omega)]
theorem takeB_eq (bs : List Int) (o n : Nat) (h : o + n ≤ bs.length) : takeB bs o n = (bs.drop o).take n := by
  apply List.ext_getElem?
  intro i
  unfold takeB
  rw [List.getElem?_map, List.getElem?_take]
  by_cases hi : i < n
  · rw [if_pos hi, List.getElem?_drop, List.getElem?_range hi]
    simp [show o + i < bs.length from by omega]
  · rw [if_neg hi, List.getElem?_eq_none (by rw [List.length_range]; omega)]
    rfl
theorem mB_dec {s e c l : Int} (h : mF s e c l = 0) : mS (mB s e c l) = s ∧ mE (mB s e c l) = e ∧ mC (mB s e c l) = c ∧ mL (mB s e c l) = l ∧ mGood (mB s e c l) = true := by
  obtain ⟨h1, h2, h3, h4, h5⟩ := mF_good h
  have p8 : (256 : Int) ^ 8 = 18446744073709551616 := by decide
  have p4 : (256 : Int) ^ 4 = 4294967296 := by decide
  have flat : mB s e c l = hp4 ++ (lows s 8 ++ (lows e 4 ++ (lows c 8 ++ (lows l 8 ++ (lows (crcOn 0 (mH s e c l)) 4 ++ List.replicate 476 0))))) := by
    obtain ⟨Z, hZ⟩ : ∃ Z, lows (crcOn 0 (mH s e c l)) 4 = Z := ⟨_, rfl⟩
    unfold mB
    rw [hZ]
    unfold mH
    simp only [List.append_assoc]
  have d1 : mS (mB s e c l) = s := by
    unfold mS
    rw [takeB_eq _ _ _ (by rw [mB_length]; decide), flat, take_at hp4 (lows s 8) _ 4 8 rfl (by rw [lows_length])]
    exact getN_low (by decide) (by decide) (by omega) (by omega) (by omega)
  have d2 : mE (mB s e c l) = e := by
    unfold mE
    rw [takeB_eq _ _ _ (by rw [mB_length]; decide), flat, ← List.append_assoc, take_at (hp4 ++ lows s 8) (lows e 4) _ 12 4 (by rw [List.length_append, lows_length]; rfl) (by rw [lows_length])]
    exact getN_low (by decide) (by decide) (by omega) (by omega) (by omega)
  have d3 : mC (mB s e c l) = c := by
    unfold mC
    rw [takeB_eq _ _ _ (by rw [mB_length]; decide), flat, ← List.append_assoc, ← List.append_assoc, take_at (hp4 ++ lows s 8 ++ lows e 4) (lows c 8) _ 16 8 (by rw [List.length_append, List.length_append, lows_length, lows_length]; rfl) (by rw [lows_length])]
    exact getN_low (by decide) (by decide) (by omega) (by omega) (by omega)
  have d4 : mL (mB s e c l) = l := by
    unfold mL
    rw [takeB_eq _ _ _ (by rw [mB_length]; decide), flat, ← List.append_assoc, ← List.append_assoc, ← List.append_assoc, take_at (hp4 ++ lows s 8 ++ lows e 4 ++ lows c 8) (lows l 8) _ 24 8 (by rw [List.length_append, List.length_append, List.length_append, lows_length, lows_length, lows_length]; rfl) (by rw [lows_length])]
    exact getN_low (by decide) (by decide) (by omega) (by omega) (by omega)
  refine ⟨d1, d2, d3, d4, ?_⟩
  unfold mGood
  rw [d1, d2, d3, d4, encM_yes h]
  simp [h]
theorem decF_new {s e c l : Int} (h : mF s e c l = 0) : DecF (mB s e c l) true s e c l := by
  obtain ⟨d1, d2, d3, d4, d5⟩ := mB_dec h
  refine ⟨?_, .inr ⟨rfl, (mF_good h).1.1⟩⟩
  rw [decV_yes d5, d1, d2, d3, d4]
theorem dec_bounds {b : List Int} {s e c l : Int} (h : DecF b true s e c l) : mF s e c l = 0 := by
  cases hg : mGood b with
  | false =>
    have h1 := h.val
    rw [decV_no hg] at h1
    simp [resV] at h1
  | true =>
    have h1 := h.val
    rw [decV_yes hg] at h1
    simp [resV] at h1
    obtain ⟨rfl, rfl, rfl, rfl⟩ := h1
    unfold mGood at hg
    simp only [Bool.and_eq_true, decide_eq_true_eq] at hg
    exact hg.1
theorem dec_nil {g : Bool} {s e c l : Int} (h : DecF [] g s e c l) : g = false := by
  have h1 := h.val
  rw [decV_no (mGood_len (by simp))] at h1
  simp [resV] at h1
  exact h1.1
theorem valid_nil {n : Nat} {ds : List (Int × List Int)} (h : Valid n ds) : Valid n [] := ⟨⟨h.1.1, h.1.2.1, h.1.2.2.1, Nat.zero_le _⟩, fun p hp => by simp at hp⟩
theorem isRead_dur {T : List Int} (hv : Valid T.length []) (hl : 1024 ≤ T.length) (i : Nat) (hi : i < 2) : IsRead (i : Int) T [] (secB T i) := by
  refine .inl ⟨hv, by omega, by omega, ?_⟩
  rw [seeD_lastN]
  rfl
theorem picked_of {T : List Int} (hv : Valid T.length []) (hl : 1024 ≤ T.length) {g0 g1 : Bool} {s0 e0 c0 l0 s1 e1 c1 l1 : Int} (h0 : DecF (secB T 0) g0 s0 e0 c0 l0) (h1 : DecF (secB T 1) g1 s1 e1 c1 l1) : Picked T [] (pickV g0 s0 e0 c0 l0 g1 s1 e1 c1 l1) :=
  ⟨_, _, _, _, _, _, _, _, _, _, _, _, isRead_dur hv hl 0 (by decide), isRead_dur hv hl 1 (by decide), h0, h1, rfl⟩
theorem picked_dur {T : List Int} (hv : Valid T.length []) (hl : 1024 ≤ T.length) {v : Value} (h : Picked T [] v) : ∃ g0 s0 e0 c0 l0 g1 s1 e1 c1 l1, DecF (secB T 0) g0 s0 e0 c0 l0 ∧ DecF (secB T 1) g1 s1 e1 c1 l1 ∧ v = pickV g0 s0 e0 c0 l0 g1 s1 e1 c1 l1 := by
  obtain ⟨b0, b1, g0, s0, e0, c0, l0, g1, s1, e1, c1, l1, r0, r1, d0, d1, rfl⟩ := h
  obtain rfl := r0.one (isRead_dur hv hl 0 (by decide))
  obtain rfl := r1.one (isRead_dur hv hl 1 (by decide))
  exact ⟨_, _, _, _, _, _, _, _, _, _, d0, d1, rfl⟩
theorem settle_len {dur : List Int} {ds : List (Int × List Int)} (hv : Valid dur.length ds) : (settleN (fun _ => true) dur ds ds.length).length = dur.length := settleN_length _ _ _ hv _ (Nat.le_refl _)
theorem picked_valid {dur : List Int} {ds : List (Int × List Int)} {sl s e c l : Int} (h : Picked dur ds (resV true sl s e c l)) : Valid dur.length ds ∧ (sl = 0 ∨ sl = 1) ∧ mF s e c l = 0 := by
  obtain ⟨b0, b1, g0, s0, e0, c0, l0, g1, s1, e1, c1, l1, r0, r1, d0, d1, hv⟩ := h
  have hb : ∀ {i : Int} {b : List Int} {g : Bool} {s e c l : Int}, IsRead i dur ds b → DecF b g s e c l → g = true → Valid dur.length ds := by
    intro i b g s e c l hr hd hg
    rcases hr with ⟨h1, _⟩ | ⟨_, rfl⟩
    · exact h1
    · have := dec_nil hd
      rw [hg] at this; cases this
  unfold pickV at hv
  split at hv
  · rename_i hc
    simp [resV] at hv
    obtain ⟨rfl, rfl, rfl, rfl, rfl, rfl⟩ := hv
    exact ⟨hb r1 d1 rfl, .inr rfl, dec_bounds d1⟩
  · simp [resV] at hv
    obtain ⟨rfl, rfl, rfl, rfl, rfl, rfl⟩ := hv
    exact ⟨hb r0 d0 rfl, .inl rfl, dec_bounds d0⟩
theorem picked_sync {dur : List Int} {ds : List (Int × List Int)} (hv : Valid dur.length ds) (hl : 1024 ≤ dur.length) {v : Value} (h : Picked dur ds v) : Picked (settleN (fun _ => true) dur ds ds.length) [] v := by
  obtain ⟨b0, b1, g0, s0, e0, c0, l0, g1, s1, e1, c1, l1, r0, r1, d0, d1, rfl⟩ := h
  have hll := settle_len hv
  have hs : ∀ i : Nat, i < 2 → ∀ b, IsRead (i : Int) dur ds b → b = secB (settleN (fun _ => true) dur ds ds.length) i := by
    intro i hi b hr
    rw [settle_sec (fun _ => true) dur ds hv i (by omega) _ (Nat.le_refl _), ← seeD_lastN]
    rcases hr with ⟨_, _, _, h⟩ | ⟨h, _⟩
    · exact h
    · exact absurd ⟨hv, by omega, by omega⟩ h
  rw [hs 0 (by decide) b0 r0] at d0
  rw [hs 1 (by decide) b1 r1] at d1
  exact picked_of (by rw [hll]; exact valid_nil hv) (by rw [hll]; exact hl) d0 d1
theorem picked_new {T : List Int} (hv : Valid T.length []) (hl : 1024 ≤ T.length) {sl s e c l c' : Int} (h : Picked T [] (resV true sl s e c l)) (hm : mF (s + 1) e c' l = 0) :
    (putAt T ((1 - sl).toNat * 512) (mB (s + 1) e c' l)).length = T.length ∧ Picked (putAt T ((1 - sl).toNat * 512) (mB (s + 1) e c' l)) [] (resV true (1 - sl) (s + 1) e c' l) := by
  obtain ⟨g0, s0, e0, c0, l0, g1, s1, e1, c1, l1, d0, d1, hp⟩ := picked_dur hv hl h
  have hlen : ∀ j : Nat, j < 2 → (putAt T (j * 512) (mB (s + 1) e c' l)).length = T.length := fun j hj => by
    unfold putAt
    rw [List.length_append, List.length_append, List.length_take, List.length_drop, mB_length]
    omega
  unfold pickV at hp
  split at hp
  · rename_i hc
    simp [resV] at hp
    obtain ⟨rfl, rfl, rfl, rfl, rfl, rfl⟩ := hp
    refine ⟨hlen 0 (by decide), ?_⟩
    have e0 : secB (putAt T ((1 - (1 : Int)).toNat * 512) (mB (s + 1) e c' l)) 0 = mB (s + 1) e c' l := secB_same T _ 0 (mB_length _ _ _ _) (by omega)
    have e1 : secB (putAt T ((1 - (1 : Int)).toNat * 512) (mB (s + 1) e c' l)) 1 = secB T 1 := secB_other T _ 1 0 (by decide) (mB_length _ _ _ _) (by omega)
    have hl0 : (putAt T ((1 - (1 : Int)).toNat * 512) (mB (s + 1) e c' l)).length = T.length := hlen 0 (by decide)
    have hP := picked_of (T := putAt T ((1 - (1 : Int)).toNat * 512) (mB (s + 1) e c' l)) (by rw [hl0]; exact hv) (by rw [hl0]; exact hl) (by rw [e0]; exact decF_new hm) (by rw [e1]; exact d1)
    unfold pickV at hP
    rw [if_neg (by rintro ⟨_, h | h⟩; cases h; omega)] at hP
    exact hP
  · simp [resV] at hp
    obtain ⟨rfl, rfl, rfl, rfl, rfl, rfl⟩ := hp
    refine ⟨hlen 1 (by decide), ?_⟩
    have e0 : secB (putAt T ((1 - (0 : Int)).toNat * 512) (mB (s + 1) e c' l)) 0 = secB T 0 := secB_other T _ 0 1 (by decide) (mB_length _ _ _ _) (by omega)
    have e1 : secB (putAt T ((1 - (0 : Int)).toNat * 512) (mB (s + 1) e c' l)) 1 = mB (s + 1) e c' l := secB_same T _ 1 (mB_length _ _ _ _) (by omega)
    have hl0 : (putAt T ((1 - (0 : Int)).toNat * 512) (mB (s + 1) e c' l)).length = T.length := hlen 1 (by decide)
    have hP := picked_of (T := putAt T ((1 - (0 : Int)).toNat * 512) (mB (s + 1) e c' l)) (by rw [hl0]; exact hv) (by rw [hl0]; exact hl) (by rw [e0]; exact d0) (by rw [e1]; exact decF_new hm)
    unfold pickV at hP
    rw [if_pos ⟨rfl, .inr (by omega)⟩] at hP
    exact hP
end Go.Proofs.YtnkollbhicmdhaaDoor

namespace Go.Proofs.YtnkollbhicmdhaaDoor
set_option maxRecDepth 100000
set_option maxHeartbeats 4000000
open Go.RowKit
set_option linter.unusedVariables false
structure Src (w : World) (B : Nat) (v : Value) (cs : List Int) (at_ : Nat) (size : Int) : Prop where
  blk : Blk w B 102 [v, .int .i64 at_, .int .i64 size]
  code : Rd .u8 w v cs
  bytes : IsB cs
  few : cs.length ≤ 1048576
  little : 0 ≤ size ∧ size ≤ 12
theorem Src.kept {R : Nat → Prop} {w w' : World} {B : Nat} {v : Value} {cs : List Int} {at_ : Nat} {size : Int} (h : Src w B v cs at_ size) (hk : Kept R w w') (hB : ¬ R B) (hv : Rd .u8 w' v cs) : Src w' B v cs at_ size :=
  ⟨h.blk.kept hk hB, hv, h.bytes, h.few, h.little⟩
theorem Src.same {w w' : World} {B : Nat} {v : Value} {cs : List Int} {at_ : Nat} {size : Int} (h : Src w B v cs at_ size) (hk : Same w w') : Src w' B v cs at_ size :=
  ⟨h.blk.same hk, h.code.same hk, h.bytes, h.few, h.little⟩
theorem source_any (v : Value) (cs : List Int) (w : World) (hb : IsB cs) (hn : cs.length ≤ 1048576) (hv : Rd .u8 w v cs) :
    Calls Tryd.prog 37 #[v] w fun e w' => ∃ B size, e = .returned (.pointer (some ⟨B, 0, none⟩)) ∧ w.heap.size ≤ B ∧ Src w' B v cs 0 size ∧ Same w w' := by
  obtain ⟨a, c, rfl⟩ := hv.form
  by_cases h : 12 < (cs.length : Int) / 16
  · go_enter Tryd.func37, Tryd.ntmps37
    go_wp2
    go_ret
    exact ⟨_, 12, rfl, Nat.le_refl _, ⟨Blk.new _ _ _, hv.same ((Kept.refl _ _).alloc _), hb, hn, by omega, by omega⟩, (Kept.refl _ _).alloc _⟩
  · go_enter Tryd.func37, Tryd.ntmps37
    go_wp2
    go_ret
    exact ⟨_, rfl, Nat.le_refl _, ⟨_, Blk.new _ _ _, hv.same ((Kept.refl _ _).alloc _), hb, hn, by omega, by omega⟩, (Kept.refl _ _).alloc _⟩
def Drawn (n r : Int) : Prop := (n < 1 → r = 0) ∧ (1 ≤ n → 0 ≤ r ∧ r < n)
theorem next_any (B : Nat) (v : Value) (cs : List Int) (k : Nat) (size n : Int) (w : World) (hs : Src w B v cs k size) (hR : ∀ w', Kept (fun b => b = B) w w' → Rd .u8 w' v cs) (hk : k ≤ 1073741824) (hn : IsI n) :
    Calls Tryd.prog 39 #[.pointer (some ⟨B, 0, none⟩), .int .i64 n] w fun e w' => ∃ r, e = .returned (.int .i64 r) ∧ Drawn n r ∧ Src w' B v cs (k + 1) size ∧ Kept (fun b => b = B) w w' := by
  obtain ⟨a, c, rfl⟩ := hs.code.form
  have c0 : w.cell? ⟨B, 0, none⟩ = some (.slice a cs.length c) := by rw [hs.blk.cell]; rfl
  have c1 : w.cell? ⟨B, 1, none⟩ = some (.int .i64 k) := by rw [hs.blk.cell]; rfl
  have f1 := hs.blk.frozen 1
  have hkk : Kept (fun b => b = B) w (w.setCell ⟨B, 1, none⟩ (.int .i64 ((k : Int) + 1))) := Kept.setCell (R := fun b => b = B) (Kept.refl _ _) (.inr rfl) _
  have hsrc : Src (w.setCell ⟨B, 1, none⟩ (.int .i64 ((k : Int) + 1))) B (.slice a cs.length c) cs (k + 1) size :=
    ⟨by have := hs.blk.stored 1 (.int .i64 ((k : Int) + 1)); exact this, hR _ hkk, hs.bytes, hs.few, hs.little⟩
  have HS := (show Hid (Src (w.setCell ⟨B, 1, none⟩ (.int .i64 ((k : Int) + 1))) B (.slice a cs.length c) cs (k + 1) size) from hsrc)
  have HK := (show Hid (Kept (fun b => b = B) w (w.setCell ⟨B, 1, none⟩ (.int .i64 ((k : Int) + 1)))) from hkk)
  have hfew := hs.few
  obtain ⟨hn1, hn2⟩ := hn
  clear hs hR hsrc hkk
  by_cases h1 : n < 1
  · go_enter Tryd.func39, Tryd.ntmps39
    go_wp2
    go_ret
    exact ⟨0, rfl, ⟨fun _ => rfl, fun h => by omega⟩, HS.out, HK.out⟩
  · by_cases h2 : cs.length = 0
    · have e0 : ((cs.length : Nat) : Int) = 0 := by omega
      rw [h2] at c0
      go_enter Tryd.func39, Tryd.ntmps39
      go_wp2
      go_ret
      refine ⟨_, rfl, ⟨fun h => by omega, fun h => ⟨Int.emod_nonneg _ (by omega), Int.emod_lt_of_pos _ (by omega)⟩⟩, ?_, HK.out⟩
      have := HS.out
      rw [h2] at this
      exact this
    · obtain ⟨b, off, rfl, hc⟩ : ∃ b off, a = some ⟨b, off, none⟩ ∧ ∀ i, i < cs.length → (w.setCell ⟨B, 1, none⟩ (.int .i64 ((k : Int) + 1))).cell? ⟨b, off + i, none⟩ = some (.int .u8 (cs.getD i 0)) := by
        rcases HS.out.code.2 with ⟨hnil, _⟩ | ⟨b, off, c', h, _, hc⟩
        · rw [hnil] at h2
          simp at h2
        · cases h
          exact ⟨b, off, rfl, hc⟩
      have q1 := hc (k % cs.length) (Nat.mod_lt _ (by omega))
      have q2 := hc ((k + 1) % cs.length) (Nat.mod_lt _ (by omega))
      have x1 := HS.out.bytes.at (k % cs.length) (Nat.mod_lt _ (by omega))
      have x2 := HS.out.bytes.at ((k + 1) % cs.length) (Nat.mod_lt _ (by omega))
      clear hc
      have m1 : (k : Int) % (cs.length : Int) = ((k % cs.length : Nat) : Int) := by simp
      have m2 : ((k : Int) + 1) % (cs.length : Int) = (((k + 1) % cs.length : Nat) : Int) := by simp
      have l1 := Nat.mod_lt k (y := cs.length) (by omega)
      have l2 := Nat.mod_lt (k + 1) (y := cs.length) (by omega)
      have d1 : (k : Int) / (cs.length : Int) = ((k / cs.length : Nat) : Int) := by simp
      have d2 : k / cs.length ≤ k := Nat.div_le_self _ _
      generalize cs.getD (k % cs.length) 0 = x at *
      generalize cs.getD ((k + 1) % cs.length) 0 = y at *
      generalize k % cs.length = i1 at *
      generalize (k + 1) % cs.length = i2 at *
      generalize k / cs.length = j1 at *
      generalize hl : cs.length = len at *
      have hl0 : (0 : Int) < (len : Int) := by omega
      have hl1 : ¬ (len : Int) = 0 := by omega
      have l1' : (i1 : Int) < (len : Int) := by omega
      have l2' : (i2 : Int) < (len : Int) := by omega
      by_cases h3 : 200 < n
      · go_enter Tryd.func39, Tryd.ntmps39
        go_wp2
        go_quiet (fail)
        go_wp2
        go_quiet (fail)
        go_wp2
        go_ret
        refine ⟨_, rfl, ⟨fun h => by omega, fun h => ⟨Int.emod_nonneg _ (by omega), Int.emod_lt_of_pos _ (by omega)⟩⟩, ?_, ?_⟩
        · exact HS.out.same ((Kept.refl _ _).drewN _)
        · exact HK.out.drewN _
      · go_enter Tryd.func39, Tryd.ntmps39
        go_wp2
        go_quiet (fail)
        go_wp2
        go_ret
        refine ⟨_, rfl, ⟨fun h => by omega, fun h => ⟨Int.emod_nonneg _ (by omega), Int.emod_lt_of_pos _ (by omega)⟩⟩, ?_, ?_⟩
        · exact HS.out.same ((Kept.refl _ _).drewN _)
        · exact HK.out.drewN _
theorem Src.lt {w : World} {B : Nat} {v : Value} {cs : List Int} {at_ : Nat} {size : Int} (h : Src w B v cs at_ size) : B < w.heap.size := h.blk.lt
structure SrcR (w0 w : World) (B : Nat) (v : Value) (cs : List Int) (k : Nat) (size : Int) : Prop where
  src : Src w B v cs k size
  kept : Kept (fun b => b = B) w0 w
  rd : ∀ w', Kept (fun b => b = B) w0 w' → Rd .u8 w' v cs
theorem source_r (v : Value) (cs : List Int) (w : World) (hb : IsB cs) (hn : cs.length ≤ 1048576) (hv : Rd .u8 w v cs) :
    Calls Tryd.prog 37 #[v] w fun e w' => ∃ B size, e = .returned (.pointer (some ⟨B, 0, none⟩)) ∧ w.heap.size ≤ B ∧ SrcR w' w' B v cs 0 size ∧ Same w w' := by
  refine (source_any v cs w hb hn hv).mono ?_
  rintro e w' ⟨B, size, rfl, hB, hs, hk⟩
  exact ⟨B, size, rfl, hB, ⟨hs, Kept.refl _ _, fun w2 h => hv.same (hk.next h (fun i hi e => by omega))⟩, hk⟩
end Go.Proofs.YtnkollbhicmdhaaDoor

namespace Go.Proofs.YtnkollbhicmdhaaDoor
open Go Go.RowKit
set_option linter.unusedVariables false
set_option linter.unusedSimpArgs false
theorem SrcR.lt {w0 w : World} {B : Nat} {v : Value} {cs : List Int} {k : Nat} {size : Int} (h : SrcR w0 w B v cs k size) : B < w.heap.size := h.src.lt
theorem SrcR.on {R : Nat → Prop} {w0 w w' : World} {B : Nat} {v : Value} {cs : List Int} {k : Nat} {size : Int} (h : SrcR w0 w B v cs k size) (hk : Kept R w w') (hB : ¬ R B) (hR : ∀ i, i < w0.heap.size → ¬ R i) : SrcR w0 w' B v cs k size := by
  have hk' : Kept (fun b => b = B) w0 w' := h.kept.next hk (fun i hi e => absurd e (hR i hi))
  exact ⟨h.src.kept hk hB (h.rd w' hk'), hk', h.rd⟩
theorem SrcR.same {w0 w w' : World} {B : Nat} {v : Value} {cs : List Int} {k : Nat} {size : Int} (h : SrcR w0 w B v cs k size) (hk : Same w w') : SrcR w0 w' B v cs k size := h.on hk id (fun _ _ => id)
theorem next_k {w0 w : World} {B : Nat} {v : Value} {cs : List Int} {k : Nat} {size : Int} (n : Int) (h : SrcR w0 w B v cs k size) (hk : k ≤ 1073741824) (hn : IsI n) :
    Calls Tryd.prog 39 #[.pointer (some ⟨B, 0, none⟩), .int .i64 n] w fun e w' => ∃ r, e = .returned (.int .i64 r) ∧ Drawn n r ∧ SrcR w0 w' B v cs (k + 1) size ∧ Kept (fun b => b = B) w w' := by
  refine (next_any B v cs k size n w h.src (fun w' hw => h.rd w' (h.kept.trans hw)) hk hn).mono ?_
  rintro e w' ⟨r, rfl, hd, hs, hk'⟩
  exact ⟨r, rfl, hd, ⟨hs, h.kept.trans hk', h.rd⟩, hk'⟩
theorem chance_k {w0 w : World} {B : Nat} {v : Value} {cs : List Int} {k : Nat} {size : Int} (n : Int) (h : SrcR w0 w B v cs k size) (hk : k ≤ 1073741824) (hn : IsI n) :
    Calls Tryd.prog 41 #[.pointer (some ⟨B, 0, none⟩), .int .i64 n] w fun e w' => ∃ b, e = .returned (.bool b) ∧ SrcR w0 w' B v cs (k + 1) size ∧ Kept (fun b => b = B) w w' := by
  have k0 := next_k n h hk hn
  clear h
  go_enter Tryd.func41, Tryd.ntmps41
  go_wp2_with fail
  refine k0.mono ?_
  rintro e w1 ⟨r, rfl, hd, hs, hk1⟩
  have HS := hid hs
  have HK := hid hk1
  clear k0 hs hk1
  go_wp2
  go_ret
  exact ⟨_, rfl, HS.out, HK.out⟩
theorem lsn_k {w0 w : World} {B : Nat} {v : Value} {cs : List Int} {k : Nat} {size : Int} (h : SrcR w0 w B v cs k size) (hk : k ≤ 1073741824) :
    Calls Tryd.prog 66 #[.pointer (some ⟨B, 0, none⟩)] w fun e w' => ∃ r, e = .returned (.int .i64 r) ∧ 512 ≤ r ∧ r < 60512 ∧ SrcR w0 w' B v cs (k + 1) size ∧ Kept (fun b => b = B) w w' := by
  have k0 := next_k 60000 h hk (by constructor <;> decide)
  clear h
  go_enter Tryd.func66, Tryd.ntmps66
  go_wp2_with fail
  refine k0.mono ?_
  rintro e w1 ⟨r, rfl, hd, hs, hk1⟩
  have HS := hid hs
  have HK := hid hk1
  obtain ⟨hr1, hr2⟩ := hd.2 (by decide)
  clear k0 hs hd hk1
  go_wp2
  go_ret
  exact ⟨_, rfl, by omega, by omega, HS.out, HK.out⟩
end Go.Proofs.YtnkollbhicmdhaaDoor

namespace Go.Proofs.YtnkollbhicmdhaaDoor
set_option maxRecDepth 100000
set_option maxHeartbeats 1000000
open Go.RowKit
theorem Tryd.infoByte : (Tryd.prog.info? 5).map (fun i => (i.zero, i.size, i.bytes)) = some (some (.int .u8 0), 1, 1) := by kernel_rfl
theorem specNewDisk_yes (s : Int) (w : World) (h1 : 1 ≤ s) (h2 : s ≤ 1024) :
    Calls Tryd.prog 38 #[.int .i64 s] w fun e w' => ∃ g, e = .returned (.agg #[.slice (some ⟨g, 0, none⟩) (s.toNat * 512) (s.toNat * 512), .slice none 0 0]) ∧ w.heap.size ≤ g ∧
      Own 0 5 .u8 w' (.slice (some ⟨g, 0, none⟩) (s.toNat * 512) (s.toNat * 512)) (List.replicate (s.toNat * 512) 0) ∧ Same w w' := by
  obtain ⟨n, rfl⟩ : ∃ n : Nat, s = n := ⟨s.toNat, by omega⟩
  obtain ⟨i0, hi, hz0, hz1, hz2⟩ := info_parts Tryd.infoByte
  have h1' : ¬ (n : Int) < 1 := by omega
  go_enter Tryd.func38, Tryd.ntmps38
  go_wp2_with (at_make; refine wpList_make_full _ rfl (.tmp 11) (.tmp 11) 22 rfl 0 5 i0 (.int .u8 0) 1 Tryd.underlying22 hi hz0 hz1 .i64 .i64 _ _ (n * 512) rfl rfl (by simp) (by simp) (by rw [hz2]; omega) (by unfold maxLen; omega) (Nat.zero_le _) ?_; intro w1 hown1 hgrow1; have HO : Hid (Own 0 5 .u8 w1 (.slice (some ⟨w.heap.size + 1, 0, none⟩) (n * 512) (n * 512)) (List.replicate (n * 512) 0)) := own_made (by simpa using hown1); have HK : Hid (Same w w1) := ((Kept.refl _ _).alloc _).grown hgrow1 (fun k e => by cases e); obtain ⟨q1, q2, q3, q4, q5⟩ := kept_two (Kept.of_grown (R := fun _ => False) hgrow1 (fun k e => by cases e)) id; clear hown1 hgrow1)
  refine bodyPost_ret (v := .agg #[.slice (some ⟨w.heap.size + 1, 0, none⟩) (n * 512) (n * 512), .slice none 0 0]) (by simp [results, Tryd.results38, go_sem, q1, q2]) rfl ⟨w.heap.size + 1, by simp, by omega, ?_, ?_⟩
  · exact HO.out.kept (R := fun b => b = w.heap.size) ((Kept.refl (fun b => b = w.heap.size) _).setTwo (.inr rfl) _ _) (fun b hb e => by simp [Value.ownBlock] at hb; omega)
  · exact HK.out.setTwo (.inl (Nat.le_refl _)) _ _
end Go.Proofs.YtnkollbhicmdhaaDoor
