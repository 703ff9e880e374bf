import Derived.Test.YtaejhfhlhofomaaG01
import Derived.Deep.RegionWith
import Derived.Deep.DeepMust
import Derived.Deep.DeepCutAuto
import Derived.Laws.AppendOwnNone
namespace Go.Proofs.Ytaejhfhlhofomaa
set_option maxRecDepth 100000
set_option maxHeartbeats 4000000
open Go.RowKit
set_option linter.unusedVariables false
set_option linter.unusedSimpArgs false
structure EOp where
  kind : Int
  sec : Int
  v : Value
  bs : List Int
def kOp : RowK EOp := ⟨3, fun p => [.int .i64 p.kind, .int .i64 p.sec, p.v], fun _ => rfl, EOp.v, EOp.bs⟩
def EOp.dat (p : EOp) : Int × Int × List Int := (p.kind, p.sec, p.bs)
def datOpS (ps : List EOp) : List (Int × Int × List Int) := ps.map EOp.dat
theorem datOpS_length (ps : List EOp) : (datOpS ps).length = ps.length := by simp [datOpS]
theorem datOpS_at {ps qs : List EOp} (h : datOpS ps = datOpS qs) (k : Nat) (h1 : k < ps.length) (h2 : k < qs.length) : ps[k].dat = qs[k].dat := by
  have := congrArg (fun l => l[k]?) h
  simpa [datOpS, h1, h2] using this
theorem Try.infoROp : (Try.prog.info? 63).map (fun i => (i.zero, i.size, i.bytes)) = some (some (.agg #[.int .i64 0, .int .i64 0, .slice none 0 0]), 3, 40) := by kernel_rfl
def sizeOpS : List EOp → Nat
  | [] => 0
  | p :: ps => p.bs.length + sizeOpS ps
theorem sizeOpS_append (ps qs : List EOp) : sizeOpS (ps ++ qs) = sizeOpS ps + sizeOpS qs := by
  induction ps with
  | nil => simp [sizeOpS]
  | cons p ps ih => simp only [List.cons_append, sizeOpS, ih]; omega
theorem sizeOpS_step (ps : List EOp) (j : Nat) (h : j < ps.length) : sizeOpS (ps.take (j + 1)) = sizeOpS (ps.take j) + ps[j].bs.length := by
  rw [List.take_succ_eq_append_getElem h, sizeOpS_append]
  simp [sizeOpS]
theorem sizeOpS_mem (ps : List EOp) (p : EOp) (h : p ∈ ps) : p.bs.length ≤ sizeOpS ps := by
  induction ps with
  | nil => cases h
  | cons q qs ih =>
    rcases List.mem_cons.1 h with rfl | h
    · simp [sizeOpS]
    · have := ih h; simp only [sizeOpS]; omega
theorem eqOp_own {ta tb : TypeId} (base : Nat) (kind : Int) (sec : Int) (va vb : Value) (bs : List Int) (w : World) (hn : bs.length ≤ 1125899906842624) (ha : Own base ta .u8 w va bs) (hb : Own base tb .u8 w vb bs) :
    Calls Try.prog 42 #[.agg #[.int .i64 kind, .int .i64 sec, va], .agg #[.int .i64 kind, .int .i64 sec, vb]] w fun e w' => e = .returned (.bool true) ∧ Same w w' := by
  obtain ⟨aa, na, ca, rfl⟩ := slice_of_own ha
  obtain ⟨ab, nb, cb, rfl⟩ := slice_of_own hb
  have HA : Hid (Own base ta .u8 w (.slice aa na ca) bs) := ha
  have HB : Hid (Own base tb .u8 w (.slice ab nb cb) bs) := hb
  have b0 := (Blk.newL w [.int .i64 kind, .int .i64 sec, .slice aa na ca] 63).same ((Kept.refl _ _).alloc (.cells #[.int .i64 kind, .int .i64 sec, .slice ab nb cb] 63))
  have b1 := Blk.newB w [.int .i64 kind, .int .i64 sec, .slice aa na ca] 63 [.int .i64 kind, .int .i64 sec, .slice ab nb cb] 63
  clear ha hb
  go_enter Try.func42, Try.ntmps42
  go_wp2_with fail
  refine (eqByteS_own base _ _ bs _ hn (HA.out.same (((Kept.refl _ _).alloc _).alloc _)) (HB.out.same (((Kept.refl _ _).alloc _).alloc _))).mono ?_
  rintro e w1 ⟨rfl, n1, hw⟩
  have hk : Same ((w.alloc (.cells #[.int .i64 kind, .int .i64 sec, .slice aa na ca] 63)).alloc (.cells #[.int .i64 kind, .int .i64 sec, .slice ab nb cb] 63)) w1 := by rw [hw]; exact (Kept.refl _ _).drewN _
  clear hw
  go_wp2
  go_ret
  exact ⟨rfl, (((Kept.refl _ _).alloc _).alloc _).trans hk⟩
theorem eqOpS_own {ta tb : TypeId} (base : Nat) (va vb : Value) (ps qs : List EOp) (w : World) (hn : ps.length ≤ 1125899906842624) (hs : datOpS ps = datOpS qs) (hsm : ∀ p ∈ ps, p.bs.length ≤ 1125899906842624)
    (ha : OwnR kOp base 63 ta w va ps) (hb : OwnR kOp base 63 tb w vb qs) :
    Calls Try.prog 13 #[va, vb] w fun e w' => e = .returned (.bool true) ∧ Same w w' := by
  have hlen : qs.length = ps.length := by rw [← datOpS_length, ← datOpS_length, hs]
  by_cases hz : ps.length = 0
  · obtain rfl : ps = [] := List.length_eq_zero_iff.1 hz
    obtain rfl : qs = [] := List.length_eq_zero_iff.1 hlen
    obtain ⟨aa, ca, rfl⟩ : ∃ aa ca, va = .slice aa 0 ca := by rcases ha.form with ⟨rfl, _⟩ | ⟨g, cap, rfl, _⟩ <;> exact ⟨_, _, rfl⟩
    obtain ⟨ab, cb, rfl⟩ : ∃ aa ca, vb = .slice aa 0 ca := by rcases hb.form with ⟨rfl, _⟩ | ⟨g, cap, rfl, _⟩ <;> exact ⟨_, _, rfl⟩
    clear ha hb hn hz hs
    go_enter Try.func13, Try.ntmps13
    go_wp2
    refine wp_loop_rounds 1 ?_
    rw [rounds_succ]
    go_wp2
    go_ret
    exact ⟨rfl, Kept.refl _ _⟩
  · obtain ⟨ga, ca, rfl⟩ : ∃ g cap, va = .slice (some ⟨g, 0, none⟩) ps.length cap := by
      rcases ha.form with ⟨_, h⟩ | ⟨g, cap, h, _⟩
      · simp [h] at hz
      · exact ⟨g, cap, h⟩
    obtain ⟨gb, cb, rfl⟩ : ∃ g cap, vb = .slice (some ⟨g, 0, none⟩) ps.length cap := by
      rcases hb.form with ⟨_, h⟩ | ⟨g, cap, h, _⟩
      · simp [h] at hlen; omega
      · exact ⟨g, cap, by rw [h, hlen]⟩
    have HA : Hid (OwnR kOp base 63 ta w (.slice (some ⟨ga, 0, none⟩) ps.length ca) ps) := ha
    have HB : Hid (OwnR kOp base 63 tb w (.slice (some ⟨gb, 0, none⟩) ps.length cb) qs) := hb
    have HQ : Hid (qs.length = ps.length) := hlen
    have HS : Hid (datOpS ps = datOpS qs) := hs
    have HM : Hid (∀ p ∈ ps, p.bs.length ≤ 1125899906842624) := hsm
    clear ha hb hs hlen hsm
    generalize hl : ps.length = len at hn hz HA HB ⊢
    have HL : Hid (ps.length = len) := hl
    clear hl
    go_enter Try.func13, Try.ntmps13
    go_wp2
    go_loopw [5] (fun i wr => ∃ (k : Nat), k ≤ len ∧ i = .int .i64 k ∧ Hid (Same w wr)) (fun i _ => len - (intOf i).toNat)
    case atStart => exact ⟨0, Nat.zero_le _, rfl, Kept.refl _ _⟩
    case round =>
      obtain ⟨k, hk, rfl, HK⟩ := hrel
      by_cases hlt : k < len
      · have hlp : k < ps.length := by rw [HL.out]; exact hlt
        have hlq : k < qs.length := by rw [HQ.out]; exact hlp
        have hoa := HA.out.same HK.out
        have hob := HB.out.same HK.out
        have hdd := datOpS_at HS.out k hlp hlq
        simp only [EOp.dat, Prod.mk.injEq] at hdd
        obtain ⟨d0, d1, d2⟩ := hdd
        have s3 := HM.out _ (List.getElem_mem hlp)
        have ha0 : wr.cell? ⟨ga, k * 3, none⟩ = some (.int .i64 ps[k].kind) := hoa.cell HL.out.symm k 0 hlp (by decide)
        have ha1 : wr.cell? ⟨ga, k * 3 + 1, none⟩ = some (.int .i64 ps[k].sec) := hoa.cell HL.out.symm k 1 hlp (by decide)
        have ha2 : wr.cell? ⟨ga, k * 3 + 2, none⟩ = some (ps[k].v) := hoa.cell HL.out.symm k 2 hlp (by decide)
        have hb0 : wr.cell? ⟨gb, k * 3, none⟩ = some (.int .i64 ps[k].kind) := by rw [d0]; exact hob.cell (by rw [HQ.out, HL.out]) k 0 hlq (by decide)
        have hb1 : wr.cell? ⟨gb, k * 3 + 1, none⟩ = some (.int .i64 ps[k].sec) := by rw [d1]; exact hob.cell (by rw [HQ.out, HL.out]) k 1 hlq (by decide)
        have hb2 : wr.cell? ⟨gb, k * 3 + 2, none⟩ = some (qs[k].v) := hob.cell (by rw [HQ.out, HL.out]) k 2 hlq (by decide)
        have HDA : Hid (Own base ta .u8 wr ps[k].v ps[k].bs) := hoa.data _ (List.getElem_mem hlp)
        have HDB : Hid (Own base tb .u8 wr qs[k].v ps[k].bs) := by have := hob.data _ (List.getElem_mem hlq); rw [d2]; exact this
        clear d0 d1 d2 hoa hob
        go_wp2_with fail
        go_region_with (go_at_call 42; refine (eqOp_own base ps[k].kind ps[k].sec ps[k].v qs[k].v ps[k].bs _ s3 (by exact HDA.out.same (Kept.refl _ _).drew) (by exact HDB.out.same (Kept.refl _ _).drew)).mono ?_; rintro e w1 ⟨rfl, hk1⟩)
        all_goals
          have HK1 : Hid (Same w w1) := HK.out.drew.trans hk1
          clear hk1 ha0 hb0 ha1 hb1 ha2 hb2 HDA HDB
          go_wp2
          go_roundw
          case rel => exact ⟨k + 1, by omega, by go_num, HK1⟩
          case measure => simp [intOf]; omega
      · go_wp2
        go_ret
        exact ⟨rfl, HK.out⟩
theorem szOp_any (kind : Int) (sec : Int) (a : Option Addr) (n c : Nat) (left : Int) (w : World) (h0 : 0 ≤ left) (h1 : left ≤ 1048576) (hn : n ≤ maxLen) :
    Calls Try.prog 30 #[.agg #[.int .i64 kind, .int .i64 sec, .slice a n c], .int .i64 left] w fun e w' => ∃ r : Int, e = .returned (.int .i64 r) ∧ ((r = -1 ∧ left < n) ∨ (r = left - n ∧ 0 ≤ r)) ∧ Same w w' := by
  go_enter Try.func30, Try.ntmps30
  go_wp2_with fail
  refine (szByteS_any a n c left _ h0 h1 hn).mono ?_
  rintro e w1 ⟨r, rfl, hr, rfl⟩
  rcases hr with ⟨rfl, hr⟩ | ⟨hr, hr0⟩
  · go_wp2
    go_ret
    exact ⟨_, rfl, .inl ⟨rfl, hr⟩, (Kept.refl _ _).alloc _⟩
  · have HR : Hid (r = left - n) := hr
    clear hr
    go_wp2
    go_ret
    exact ⟨_, rfl, .inr ⟨HR.out, hr0⟩, (Kept.refl _ _).alloc _⟩
theorem szOpS_any (v : Value) (ps : List EOp) (left : Int) (w : World) (h0 : 0 ≤ left) (h1 : left ≤ 1048576) (hp : RdR kOp w v ps) :
    Calls Try.prog 6 #[v, .int .i64 left] w fun e w' => ∃ r : Int, e = .returned (.int .i64 r) ∧ (r = -1 ∨ (r = left - ps.length - sizeOpS ps ∧ 0 ≤ r)) ∧ Same w w' := by
  have hn := hp.max
  unfold maxLen at hn
  rcases hp.row with ⟨rfl, a, c, rfl⟩ | ⟨b, off, c, rfl, hc⟩
  · clear hp hn
    go_enter Try.func6, Try.ntmps6
    go_wp2
    refine wp_loop_rounds 1 ?_
    rw [rounds_succ]
    go_wp2
    go_ret
    exact ⟨_, rfl, .inr ⟨by simp [sizeOpS], by omega⟩, Kept.refl _ _⟩
  · have HP : Hid (RdR kOp w (.slice (some ⟨b, off, none⟩) ps.length c) ps) := hp
    have HC : Hid (∀ j i, (h : j < ps.length) → i < 3 → w.cell? ⟨b, off + (j * 3 + i), none⟩ = (kOp.cells ps[j])[i]?) := hc
    clear hp hc
    generalize hl : ps.length = len at hn HP ⊢
    have HL : Hid (ps.length = len) := hl
    clear hl
    by_cases h : left < len
    · go_enter Try.func6, Try.ntmps6
      go_wp2
      go_ret
      exact ⟨_, rfl, .inl rfl, Kept.refl _ _⟩
    · go_enter Try.func6, Try.ntmps6
      go_wp2
      go_loopw [1, 5] (fun u i wr => ∃ (k : Nat) (r : Int), k ≤ len ∧ i = .int .i64 k ∧ u = .int .i64 r ∧ 0 ≤ r ∧ r ≤ left ∧ Hid (r = left - len - sizeOpS (ps.take k)) ∧ Hid (Same w wr)) (fun _ i _ => len - (intOf i).toNat)
      case atStart => exact ⟨0, left - len, Nat.zero_le _, rfl, rfl, by omega, by omega, by simp [sizeOpS, Hid], Kept.refl _ _⟩
      case round =>
        obtain ⟨k, r, hk, rfl, rfl, hr0, hr1, HR, HK⟩ := hrel
        by_cases hlt : k < len
        · have hlp : k < ps.length := by rw [HL.out]; exact hlt
          obtain ⟨a1, c1, e1⟩ := (show Rd .u8 w ps[k].v ps[k].bs from HP.out.data _ (List.getElem_mem hlp)).form
          have hm1 := (show Rd .u8 w ps[k].v ps[k].bs from HP.out.data _ (List.getElem_mem hlp)).1
          have q0 : wr.cell? ⟨b, off + k * 3, none⟩ = some (.int .i64 ps[k].kind) := HK.out.cellOf (p := ⟨b, off + k * 3, none⟩) (by have h := HC.out k 0 hlp (by decide); exact h) id
          have q1 : wr.cell? ⟨b, off + k * 3 + 1, none⟩ = some (.int .i64 ps[k].sec) := HK.out.cellOf (p := ⟨b, off + k * 3 + 1, none⟩) (by have h := HC.out k 1 hlp (by decide); rw [← Nat.add_assoc] at h; exact h) id
          have q2 : wr.cell? ⟨b, off + k * 3 + 2, none⟩ = some (ps[k].v) := HK.out.cellOf (p := ⟨b, off + k * 3 + 2, none⟩) (by have h := HC.out k 2 hlp (by decide); rw [← Nat.add_assoc] at h; exact h) id
          rw [e1] at q2
          clear e1
          go_wp2_with fail
          refine (szOp_any _ _ _ _ _ _ _ hr0 (by omega) hm1).mono ?_
          rintro e w1 ⟨r1, rfl, hr2, hk1⟩
          have HK1 : Hid (Same w w1) := HK.out.trans hk1
          clear q0 q1 q2 hk1
          rcases hr2 with ⟨rfl, hr2⟩ | ⟨hr2, hr3⟩
          · go_wp2
            go_ret
            exact ⟨_, rfl, .inl rfl, HK1.out⟩
          · have hr4 : r1 ≤ left := by omega
            have HR1 : Hid (r1 = r - ps[k].bs.length) := hr2
            clear hr2
            go_wp2
            go_roundw
            case rel => exact ⟨k + 1, r1, by omega, by go_num, rfl, hr3, hr4, by have h1 := HR1.out; have h2 := HR.out; have h3 := sizeOpS_step ps k hlp; unfold Hid; omega, HK1⟩
            case measure => simp [intOf]; omega
        · go_wp2
          go_ret
          obtain rfl : k = len := by omega
          have h1 := HR.out
          have h2 := HL.out
          rw [← h2, List.take_length] at h1
          exact ⟨r, rfl, .inr ⟨by omega, hr0⟩, HK.out⟩
def mOp : MarkK kOp := ⟨fun k p => ⟨k, k + 1, p.v, marks (k + 1 + 1) p.bs.length⟩, fun p => 2 + p.bs.length, fun _ _ => rfl⟩
theorem endOpS_size (k : Int) (ps : List EOp) : endR mOp k ps = k + 2 * ps.length + sizeOpS ps := by
  induction ps generalizing k with
  | nil => simp [endR, sizeOpS]
  | cons p ps ih =>
    have h : ((mOp.sz p : Nat) : Int) = 2 + (p.bs.length : Int) := by simp [mOp]
    simp only [endR, ih, sizeOpS, List.length_cons]
    omega
theorem datOpS_size {ps qs : List EOp} (h : datOpS ps = datOpS qs) : sizeOpS ps = sizeOpS qs := by
  induction ps generalizing qs with
  | nil => cases qs with
    | nil => rfl
    | cons q qs => simp [datOpS] at h
  | cons p ps ih => cases qs with
    | nil => simp [datOpS] at h
    | cons q qs =>
      simp only [datOpS, List.map_cons, List.cons.injEq, EOp.dat, Prod.mk.injEq] at h
      simp only [sizeOpS, ih h.2, h.1.2.2]
theorem markOpS_own {tb : TypeId} (base : Nat) (va : Value) (ps : List EOp) (k0 : Int) (w : World) (h0 : 0 ≤ k0) (h1 : endR mOp k0 ps ≤ 1125899906842624) (hn : ps.length ≤ 1125899906842624)
    (ha : OwnR kOp base 63 tb w va ps) :
    Calls Try.prog 15 #[va, .int .i64 k0] w fun e w' => e = .returned (.int .i64 (endR mOp k0 ps)) ∧ OwnR kOp base 63 tb w' va (markR mOp k0 ps) ∧ Kept (footR kOp va ps) w w' := by
  by_cases hz : ps.length = 0
  · obtain rfl : ps = [] := List.length_eq_zero_iff.1 hz
    obtain ⟨aa, ca, rfl⟩ : ∃ aa ca, va = .slice aa 0 ca := by rcases ha.form with ⟨rfl, _⟩ | ⟨g, cap, rfl, _⟩ <;> exact ⟨_, _, rfl⟩
    have HA : Hid (OwnR kOp base 63 tb w (.slice aa 0 ca) []) := ha
    clear ha hn hz h1
    go_enter Try.func15, Try.ntmps15
    go_wp2
    refine wp_loop_rounds 1 ?_
    rw [rounds_succ]
    go_wp2
    go_ret
    exact ⟨by simp [endR], by simpa [markR] using HA.out, Kept.refl _ _⟩
  · obtain ⟨g, cap, rfl, hb, hlt, _, _⟩ : ∃ g cap, va = .slice (some ⟨g, 0, none⟩) ps.length cap ∧ base ≤ g ∧ g < w.heap.size ∧ ps.length ≤ cap ∧ cap ≤ maxLen := by
      rcases ha.form with ⟨_, rfl⟩ | h
      · simp at hz
      · exact h
    have H1 : Hid (endR mOp k0 ps ≤ 1125899906842624) := h1
    have HA0 : Hid (OwnR kOp base 63 tb w (.slice (some ⟨g, 0, none⟩) ps.length cap) ps) := ha
    clear h1 ha
    generalize hl : ps.length = len at *
    have HL : Hid (ps.length = len) := hl
    clear hl
    go_enter Try.func15, Try.ntmps15
    go_wp2
    go_loopw [1, 5] (fun v i wr => ∃ (k : Nat) (c : Int), k ≤ len ∧ i = .int .i64 k ∧ v = .int .i64 c ∧ Hid (c = endR mOp k0 (ps.take k)) ∧ Hid (OwnR kOp base 63 tb wr (.slice (some ⟨g, 0, none⟩) len cap) (partR mOp k0 ps k)) ∧ Hid (Kept (footR kOp (.slice (some ⟨g, 0, none⟩) len cap) ps) w wr)) (fun _ i _ => len - (intOf i).toNat)
    case atStart => exact ⟨0, k0, Nat.zero_le _, rfl, rfl, rfl, by rw [partR_zero]; exact HA0.out, Kept.refl _ _⟩
    case round =>
      obtain ⟨k, c, hk, rfl, rfl, HC, HO, HK⟩ := hrel
      by_cases hlt : k < len
      · have hlp : k < ps.length := by rw [HL.out]; exact hlt
        have hc0' : k0 ≤ c := by rw [HC.out]; exact endR_le _ _ _
        have hst := endR_step mOp k0 ps k hlp
        have hc1' : c + 2 + ps[k].bs.length ≤ 1125899906842624 := by have h2 := endR_take_le mOp k0 ps (k + 1); have h3 := H1.out; have h4 := HC.out; simp only [mOp] at hst; simp only [mOp] at h2 h3 h4; omega
        have HST := (show Hid (endR mOp k0 (ps.take (k + 1)) = endR mOp k0 (ps.take k) + (mOp.sz ps[k] : Nat)) from hst)
        clear hst
        have HP0 : Hid (OwnR kOp base 63 tb wr (.slice (some ⟨g, 0, none⟩) len cap) (markR mOp k0 (ps.take k) ++ ps[k] :: ps.drop (k + 1))) := by
          have h := HO.out
          rw [partR_at _ _ _ _ hlp] at h
          exact h
        have HLN : ∀ e : EOp, Hid (len = (markR mOp k0 (ps.take k) ++ e :: ps.drop (k + 1)).length) := fun e => by have hl := HL.out; simp [Hid, markR_length]; omega
        have HPL : Hid ((markR mOp k0 (ps.take k)).length = k) := by have hl := HL.out; simp [Hid, markR_length]; omega
        have hc0 : wr.cell? ⟨g, k * 3, none⟩ = some (.int .i64 ps[k].kind) := HP0.out.cellMid (HLN _).out 0 (by decide) _ (by rw [HPL.out]; rfl)
        have hc1 : wr.cell? ⟨g, k * 3 + 1, none⟩ = some (.int .i64 ps[k].sec) := HP0.out.cellMid (HLN _).out 1 (by decide) _ (by rw [HPL.out]; rfl)
        have hc2 : wr.cell? ⟨g, k * 3 + 2, none⟩ = some (ps[k].v) := HP0.out.cellMid (HLN _).out 2 (by decide) _ (by rw [HPL.out]; rfl)
        have fr := HO.out.frozen (by rw [partR_length]; exact HL.out.symm)
        have HP1 : Hid (OwnR kOp base 63 tb (wr.setCell ⟨g, k * 3, none⟩ (.int .i64 (c))) (.slice (some ⟨g, 0, none⟩) len cap) (markR mOp k0 (ps.take k) ++ ⟨c, ps[k].sec, ps[k].v, ps[k].bs⟩ :: ps.drop (k + 1))) := HP0.out.set (p' := ⟨c, ps[k].sec, ps[k].v, ps[k].bs⟩) (HLN _).out 0 (.int .i64 (c)) (by decide) rfl rfl rfl (k * 3) (by first | (rw [HPL.out]; done) | (rw [HPL.out]; rfl))
        have HP2 : Hid (OwnR kOp base 63 tb ((wr.setCell ⟨g, k * 3, none⟩ (.int .i64 (c))).setCell ⟨g, k * 3 + 1, none⟩ (.int .i64 (c + 1))) (.slice (some ⟨g, 0, none⟩) len cap) (markR mOp k0 (ps.take k) ++ ⟨c, c + 1, ps[k].v, ps[k].bs⟩ :: ps.drop (k + 1))) := HP1.out.set (p' := ⟨c, c + 1, ps[k].v, ps[k].bs⟩) (HLN _).out 1 (.int .i64 (c + 1)) (by decide) rfl rfl rfl (k * 3 + 1) (by first | (rw [HPL.out]; done) | (rw [HPL.out]; rfl))
        go_wp2_with fail
        refine (markByteS_own base ps[k].v ps[k].bs (c + 1 + 1) _ (by omega) (by omega) (by omega) (HP2.out.data ⟨c, c + 1, ps[k].v, ps[k].bs⟩ (by simp))).mono ?_
        rintro e w1 ⟨rfl, ho, hk1⟩
        have HQ0 : Hid (OwnR kOp base 63 tb w1 (.slice (some ⟨g, 0, none⟩) len cap) (markR mOp k0 (ps.take k) ++ ⟨c, c + 1, ps[k].v, marks (c + 1 + 1) ps[k].bs.length⟩ :: ps.drop (k + 1))) := HP2.out.setData (p' := (⟨c, c + 1, ps[k].v, marks (c + 1 + 1) ps[k].bs.length⟩ : EOp)) hk1 rfl rfl ho
        have fr1 : ∀ j, w1.frozen? ⟨g, j, none⟩ = false := fun j => HQ0.out.frozen (HLN _).out j
        have HO3 : Hid (OwnR kOp base 63 tb w1 (.slice (some ⟨g, 0, none⟩) len cap) (partR mOp k0 ps (k + 1))) := by
          rw [partR_step _ _ _ _ hlp, ← HC.out]
          exact HQ0.out
        have HK3 : Hid (Kept (footR kOp (.slice (some ⟨g, 0, none⟩) len cap) ps) w w1) := (((HK.out.setCell (p := ⟨g, k * 3, none⟩) (.inr (.inl rfl)) _).setCell (p := ⟨g, k * 3 + 1, none⟩) (.inr (.inl rfl)) _).trans (hk1.mono fun b _ hb => .inr ⟨ps[k], List.getElem_mem _, hb⟩))
        clear ho hk1 HO HP0 HP1 HP2 hc0 hc1 hc2
        go_wp2
        go_roundw
        case rel =>
          exact ⟨k + 1, c + 1 + 1 + (ps[k].bs.length : Int), by omega, by go_num, rfl, by unfold Hid; rw [HST.out, ← HC.out]; simp only [mOp]; omega, HO3, HK3⟩
        case measure => simp [intOf]; omega
      · go_wp2
        go_ret
        obtain rfl : k = len := by omega
        have hl := HL.out
        have hc := HC.out
        have ho := HO.out
        rw [← hl, List.take_length] at hc
        rw [← hl, partR_all, hl] at ho
        exact ⟨ret_int hc, ho, HK.out⟩
theorem toOp_any (kind : Int) (sec : Int) (v : Value) (bs : List Int) (w : World) (hn : bs.length ≤ 1099511627776) (hv : Rd .u8 w v bs) :
    Calls Try.prog 35 #[.agg #[.int .i64 kind, .int .i64 sec, v]] w fun e w' => ∃ g, e = .returned (.agg #[.int .i64 kind, .int .i64 sec, .slice (some ⟨g, 0, none⟩) bs.length bs.length]) ∧ w.heap.size ≤ g ∧ Own 0 5 .u8 w' (.slice (some ⟨g, 0, none⟩) bs.length bs.length) bs ∧ Same w w' := by
  obtain ⟨a, c, rfl⟩ := hv.form
  have HV := (show Hid (Rd .u8 w _ bs) from hv)
  clear hv
  have b0 : Blk (((w.alloc (.cells #[.int .i64 kind, .int .i64 sec, .slice a bs.length c] 61)).alloc (.cells #[.int .i64 0, .int .i64 0, .slice none 0 0] 63)).alloc (.cells #[.int .i64 kind, .int .i64 sec, .slice none 0 0] 63)) w.heap.size 61 [.int .i64 kind, .int .i64 sec, .slice a bs.length c] := ((Blk.newL w [.int .i64 kind, .int .i64 sec, .slice a bs.length c] 61).same ((Kept.refl _ _).alloc _)).same ((Kept.refl _ _).alloc _)
  have b1 : Blk (((w.alloc (.cells #[.int .i64 kind, .int .i64 sec, .slice a bs.length c] 61)).alloc (.cells #[.int .i64 0, .int .i64 0, .slice none 0 0] 63)).alloc (.cells #[.int .i64 kind, .int .i64 sec, .slice none 0 0] 63)) (w.heap.size + 1) 63 [.int .i64 0, .int .i64 0, .slice none 0 0] := (Blk.newB w [.int .i64 kind, .int .i64 sec, .slice a bs.length c] 61 [.int .i64 0, .int .i64 0, .slice none 0 0] 63).same ((Kept.refl _ _).alloc _)
  have b2 : Blk (((w.alloc (.cells #[.int .i64 kind, .int .i64 sec, .slice a bs.length c] 61)).alloc (.cells #[.int .i64 0, .int .i64 0, .slice none 0 0] 63)).alloc (.cells #[.int .i64 kind, .int .i64 sec, .slice none 0 0] 63)) (w.heap.size + 1 + 1) 63 [.int .i64 kind, .int .i64 sec, .slice none 0 0] := by have h := Blk.newL ((w.alloc (.cells #[.int .i64 kind, .int .i64 sec, .slice a bs.length c] 61)).alloc (.cells #[.int .i64 0, .int .i64 0, .slice none 0 0] 63)) [.int .i64 kind, .int .i64 sec, .slice none 0 0] 63; rwa [World.size_alloc, World.size_alloc] at h
  go_enter Try.func35, Try.ntmps35
  go_wp2_with fail
  refine (toByteS_any _ bs _ hn (HV.out.same ((((Kept.refl _ _).alloc _).alloc _).alloc _))).mono ?_
  rintro e w1 ⟨g, rfl, hg, ho, hk⟩
  simp only [World.size_alloc] at hg
  have HO := (show Hid (Own 0 5 .u8 w1 _ bs) from ho)
  have HK : Hid (Same w w1) := ((((Kept.refl _ _).alloc _).alloc _).alloc _).trans hk
  have z0 : w1.cell? ⟨w.heap.size + 1, 0, none⟩ = some (.int .i64 0) := (b1.same hk).cell 0
  have z1 : w1.cell? ⟨w.heap.size + 1, 1, none⟩ = some (.int .i64 0) := (b1.same hk).cell 1
  have z2 : w1.cell? ⟨w.heap.size + 1, 2, none⟩ = some (.slice none 0 0) := (b1.same hk).cell 2
  have o0 : w1.cell? ⟨w.heap.size + 1 + 1, 0, none⟩ = some (.int .i64 kind) := (b2.same hk).cell 0
  have o1 : w1.cell? ⟨w.heap.size + 1 + 1, 1, none⟩ = some (.int .i64 sec) := (b2.same hk).cell 1
  have o2 : w1.cell? ⟨w.heap.size + 1 + 1, 2, none⟩ = some (.slice none 0 0) := (b2.same hk).cell 2
  have f1 := (b1.same hk).frozen
  have f2 := (b2.same hk).frozen
  have hz1 : w.heap.size + 1 + 1 < w1.heap.size := (b2.same hk).lt
  clear ho hk b0 b1 b2
  go_wp2
  refine bodyPost_ret (v := .agg #[.int .i64 kind, .int .i64 sec, .slice (some ⟨g, 0, none⟩) bs.length bs.length]) (by simp [results, Try.results35, go_sem, z0, z1, z2]) rfl ⟨g, rfl, by omega, ?_, ?_⟩
  · refine HO.out.kept (R := fun b => b = w.heap.size + 1 ∨ b = w.heap.size + 1 + 1) ?_ (fun b hb e => by simp [Value.ownBlock] at hb; omega)
    (iterate 4 refine Kept.setCell (R := fun b => b = w.heap.size + 1 ∨ b = w.heap.size + 1 + 1) ?_ (by first | exact .inr (.inl rfl) | exact .inr (.inr rfl)) _)
    exact Kept.refl _ _
  · (iterate 4 refine Kept.setCell ?_ (by first | exact .inl (Nat.le_succ _) | exact .inl (Nat.le_succ_of_le (Nat.le_succ _))) _)
    exact HK.out
def zOp : EOp := ⟨0, 0, .slice none 0 0, []⟩
theorem toOpS_any (v : Value) (ps : List EOp) (w : World) (hn : ps.length ≤ 1073741824) (hs : ∀ p ∈ ps, p.bs.length ≤ 1099511627776) (hv : RdR kOp w v ps) :
    Calls Try.prog 9 #[v] w fun e w' => ∃ g qs, e = .returned (.slice (some ⟨g, 0, none⟩) ps.length ps.length) ∧ datOpS qs = datOpS ps ∧ (∀ b, footR kOp (.slice (some ⟨g, 0, none⟩) ps.length ps.length) qs b → w.heap.size ≤ b) ∧
      OwnR kOp 0 63 5 w' (.slice (some ⟨g, 0, none⟩) ps.length ps.length) qs ∧ Same w w' := by
  obtain ⟨i0, hi, hz0, hz1, hz2⟩ := info_parts Try.infoROp
  rcases hv.row with ⟨rfl, a, c, rfl⟩ | ⟨b, off, c, rfl, hc⟩
  · clear hv hn hs
    go_enter Try.func9, Try.ntmps9
    go_wp2_with (at_make; refine wpList_make_full _ rfl (.tmp 6) (.tmp 6) 36 rfl 0 63 i0 (.agg #[.int .i64 0, .int .i64 0, .slice none 0 0]) 3 Try.underlying36 hi hz0 hz1 .i64 .i64 _ _ 0 rfl rfl (by simp) (by simp) (by simp) (by simp) (Nat.zero_le _) ?_; intro w1 hown1 hgrow1; have HO : Hid (OwnR kOp 0 63 5 w1 (.slice (some ⟨w.heap.size, 0, none⟩) 0 0) []) := ownR_made (K := kOp) (zp := zOp) (z := .agg #[.int .i64 0, .int .i64 0, .slice none 0 0]) (by decide) rfl rfl rfl (n := 0) (by first | exact hown1 | simpa [kOp] using hown1); have HK : Hid (Same w w1) := Kept.of_grown hgrow1 (fun k e => by cases e); clear hown1 hgrow1)
    refine wp_loop_rounds 1 ?_
    rw [rounds_succ]
    go_wp2
    go_ret
    refine ⟨w.heap.size, [], rfl, rfl, fun b hb => ?_, HO.out, HK.out⟩
    rcases hb with hb | ⟨p, hp, _⟩
    · simp [Value.ownBlock] at hb; omega
    · simp at hp
  · have HP : Hid (RdR kOp w (.slice (some ⟨b, off, none⟩) ps.length c) ps) := hv
    have HC : Hid (∀ j i, (h : j < ps.length) → i < 3 → w.cell? ⟨b, off + (j * 3 + i), none⟩ = (kOp.cells ps[j])[i]?) := hc
    have HS : Hid (∀ p ∈ ps, p.bs.length ≤ 1099511627776) := hs
    clear hc hv hs
    generalize hl : ps.length = len at hn HP ⊢
    have HL : Hid (ps.length = len) := hl
    clear hl
    go_enter Try.func9, Try.ntmps9
    go_wp2_with (at_make; refine wpList_make_full _ rfl (.tmp 6) (.tmp 6) 36 rfl 0 63 i0 (.agg #[.int .i64 0, .int .i64 0, .slice none 0 0]) 3 Try.underlying36 hi hz0 hz1 .i64 .i64 _ _ len rfl rfl (by simp) (by simp) (by rw [hz2]; omega) (by unfold maxLen; omega) (Nat.zero_le _) ?_; intro w1 hown1 hgrow1; have HO : Hid (OwnR kOp 0 63 5 w1 (.slice (some ⟨w.heap.size, 0, none⟩) len len) (List.replicate len zOp)) := ownR_made (K := kOp) (zp := zOp) (z := .agg #[.int .i64 0, .int .i64 0, .slice none 0 0]) (by decide) rfl rfl rfl (by first | exact hown1 | simpa [kOp] using hown1); have HK : Hid (Same w w1) := Kept.of_grown hgrow1 (fun k e => by cases e); clear hown1 hgrow1)
    go_loopw [4] (fun i wr => ∃ (k : Nat) (qs : List EOp), k ≤ len ∧ i = .int .i64 k ∧ qs.length = k ∧ Hid (datOpS qs = datOpS (ps.take k)) ∧ Hid (∀ b, (∃ p ∈ qs, (kOp.v p).ownBlock = some b) → w.heap.size ≤ b) ∧ Hid (OwnR kOp 0 63 5 wr (.slice (some ⟨w.heap.size, 0, none⟩) len len) (qs ++ List.replicate (len - k) zOp)) ∧ Hid (Same w wr)) (fun i _ => len - (intOf i).toNat)
    case atStart => exact ⟨0, [], Nat.zero_le _, rfl, rfl, rfl, fun b ⟨p, hp, _⟩ => by simp at hp, by simpa using HO, HK⟩
    case round =>
      obtain ⟨k, qs, hk, rfl, hql, HQ, HF, HOr, HKr⟩ := hrel
      have HQL : Hid (qs.length = k) := hql
      clear hql
      by_cases hlt : k < len
      · have hlp : k < ps.length := by rw [HL.out]; exact hlt
        have HREP : Hid (List.replicate (len - k) zOp = zOp :: List.replicate (len - (k + 1)) zOp) := by unfold Hid; rw [show len - k = len - (k + 1) + 1 from by omega, List.replicate_succ]
        have hd0 : Rd .u8 w ps[k].v ps[k].bs := HP.out.data _ (List.getElem_mem hlp)
        obtain ⟨a1, c1, e1⟩ := hd0.form
        have hd := hd0.same HKr.out
        have hm1 := HS.out _ (List.getElem_mem hlp)
        have q0 : wr.cell? ⟨b, off + k * 3, none⟩ = some (.int .i64 ps[k].kind) := HKr.out.cellOf (p := ⟨b, off + k * 3, none⟩) (by have h := HC.out k 0 hlp (by decide); exact h) id
        have q1 : wr.cell? ⟨b, off + k * 3 + 1, none⟩ = some (.int .i64 ps[k].sec) := HKr.out.cellOf (p := ⟨b, off + k * 3 + 1, none⟩) (by have h := HC.out k 1 hlp (by decide); rw [← Nat.add_assoc] at h; exact h) id
        have q2 : wr.cell? ⟨b, off + k * 3 + 2, none⟩ = some (ps[k].v) := HKr.out.cellOf (p := ⟨b, off + k * 3 + 2, none⟩) (by have h := HC.out k 2 hlp (by decide); rw [← Nat.add_assoc] at h; exact h) id
        rw [e1] at q2 hd
        have HD := (show Hid (Rd .u8 wr _ ps[k].bs) from hd)
        have HLN : Hid (len = (qs ++ zOp :: List.replicate (len - (k + 1)) zOp).length) := by unfold Hid; simp [HQL.out]; omega
        clear e1 hd hd0
        go_wp2_with fail
        refine (toOp_any _ _ _ ps[k].bs _ hm1 HD.out).mono ?_
        rintro e w2 ⟨g, rfl, hg, ho, hk2⟩
        have HO2 : Hid (OwnR kOp 0 63 5 w2 (.slice (some ⟨w.heap.size, 0, none⟩) len len) (qs ++ zOp :: List.replicate (len - (k + 1)) zOp)) := by have h := HOr.out.same hk2; rw [HREP.out] at h; exact h
        have r0 : w2.cell? ⟨w.heap.size, k * 3, none⟩ = some (.int .i64 0) := HO2.out.cellMid HLN.out 0 (by decide) _ (by rw [HQL.out]; rfl)
        have r1 : w2.cell? ⟨w.heap.size, k * 3 + 1, none⟩ = some (.int .i64 0) := HO2.out.cellMid HLN.out 1 (by decide) _ (by rw [HQL.out]; rfl)
        have r2 : w2.cell? ⟨w.heap.size, k * 3 + 2, none⟩ = some (.slice none 0 0) := HO2.out.cellMid HLN.out 2 (by decide) _ (by rw [HQL.out]; rfl)
        have rf : ∀ j, w2.frozen? ⟨w.heap.size, j, none⟩ = false := fun j => HO2.out.frozen HLN.out j
        have HK2 : Hid (Same w w2) := HKr.out.trans hk2
        have HO3 : Hid (Own 0 5 .u8 w2 (.slice (some ⟨g, 0, none⟩) ps[k].bs.length ps[k].bs.length) ps[k].bs) := ho
        have hg0 : w.heap.size ≤ g := Nat.le_trans HKr.out.size hg
        have HG : Hid (wr.heap.size ≤ g) := hg
        have HFIN : Hid (OwnR kOp 0 63 5 (w2.setCells w.heap.size (k * 3) (kOp.cells ⟨ps[k].kind, ps[k].sec, .slice (some ⟨g, 0, none⟩) ps[k].bs.length ps[k].bs.length, ps[k].bs⟩)) (.slice (some ⟨w.heap.size, 0, none⟩) len len) (qs ++ (⟨ps[k].kind, ps[k].sec, .slice (some ⟨g, 0, none⟩) ps[k].bs.length ps[k].bs.length, ps[k].bs⟩ : EOp) :: List.replicate (len - (k + 1)) zOp)) := HO2.out.setElem (p' := (⟨ps[k].kind, ps[k].sec, .slice (some ⟨g, 0, none⟩) ps[k].bs.length ps[k].bs.length, ps[k].bs⟩ : EOp)) HLN.out (k * 3) (by rw [HQL.out]; rfl) HO3.out (fun b hb hf => by
          have h1 : b = g := (Option.some.inj hb : g = b).symm
          have h2 : footR kOp (.slice (some ⟨w.heap.size, 0, none⟩) len len) (qs ++ List.replicate (len - k) zOp) b := by rw [HREP.out]; exact hf
          have h3 := (HOr.out.lt b h2).2
          have h4 := HG.out
          omega)
        clear ho hk2 hg q0 q1 q2
        go_wp2
        go_roundw
        case rel =>
          refine ⟨k + 1, qs ++ [⟨ps[k].kind, ps[k].sec, .slice (some ⟨g, 0, none⟩) ps[k].bs.length ps[k].bs.length, ps[k].bs⟩], by omega, by go_num, by simp [HQL.out], ?_, ?_, ?_, ?_⟩
          · have h1 := HQ.out
            unfold Hid
            rw [List.take_succ_eq_append_getElem hlp]
            simp only [datOpS, List.map_append] at h1 ⊢
            rw [h1]; rfl
          · rintro b ⟨p, hp, hb⟩
            rcases List.mem_append.1 hp with hp | hp
            · exact HF.out b ⟨p, hp, hb⟩
            · obtain rfl := List.mem_singleton.1 hp
              have h : g = b := Option.some.inj hb
              omega
          · rw [List.append_assoc]
            exact HFIN
          · (iterate 3 refine Kept.setCell ?_ (.inl (Nat.le_refl _)) _)
            exact HK2.out
        case measure => simp [intOf]; omega
      · go_wp2
        go_ret
        obtain rfl : k = len := by omega
        have h := HOr.out
        have h2 := HL.out
        have h3 := HQ.out
        rw [Nat.sub_self, List.replicate_zero, List.append_nil] at h
        rw [← h2, List.take_length] at h3
        refine ⟨w.heap.size, qs, rfl, h3, fun b hb => ?_, h, HKr.out⟩
        rcases hb with hb | hb
        · simp [Value.ownBlock] at hb; omega
        · exact HF.out b hb
end Go.Proofs.Ytaejhfhlhofomaa

namespace Go.Proofs.Ytaejhfhlhofomaa
set_option maxRecDepth 100000
set_option maxHeartbeats 2000000
open Go.ChangeShapes Go.WideShapes Go.ChangeAt Go.RowKit
set_option linter.unusedVariables false
set_option linter.unusedSimpArgs false
section
variable {H : Type} {enc : TypeId × Value → H} {w : World} {base : Nat} {spare : Nat → Bool} {held : Bool}
instance : Inhabited EOp := ⟨⟨0, 0, .slice none 0 0, []⟩⟩
theorem list3 {cs : List Value} (h : cs.length = 3) : ∃ c0 c1 c2, cs = [c0, c1, c2] := by
  match cs, h with
  | [c0, c1, c2], _ => exact ⟨c0, c1, c2, rfl⟩
theorem read_op (n : Nat) (cs : List Value) (x : DataW H × List MemPlace) (hl : cs.length = 3) (h : DataW.trod enc Try.prog w base spare held n 61 cs = some x) :
    ∃ p : EOp, cs = kOp.cells p ∧ Rd .u8 w (kOp.v p) (kOp.bs p) ∧ True := by
  obtain ⟨c0, c1, c2, rfl⟩ := list3 hl
  obtain ⟨xs, n, _, _, _, hxl, hg⟩ := DataW.trod_struct Try.underlying61 h
  have g0 : ∃ x, DataW.trod enc Try.prog w base spare held n 2 [c0] = some x := ⟨xs[0]'(by rw [hxl]; decide), by have h := hg 0 _ rfl; rw [List.getElem?_eq_getElem (by rw [hxl]; decide)] at h; exact h⟩
  have g1 : ∃ x, DataW.trod enc Try.prog w base spare held n 2 [c1] = some x := ⟨xs[1]'(by rw [hxl]; decide), by have h := hg 1 _ rfl; rw [List.getElem?_eq_getElem (by rw [hxl]; decide)] at h; exact h⟩
  have g2 : ∃ x, DataW.trod enc Try.prog w base spare held n 22 [c2] = some x := ⟨xs[2]'(by rw [hxl]; decide), by have h := hg 2 _ rfl; rw [List.getElem?_eq_getElem (by rw [hxl]; decide)] at h; exact h⟩
  obtain ⟨x0, g0⟩ := g0
  obtain ⟨x1, g1⟩ := g1
  obtain ⟨x2, g2⟩ := g2
  obtain ⟨z0, e0, _, b0⟩ := DataW.trod_int Try.underlying2 g0
  obtain ⟨z1, e1, _, b1⟩ := DataW.trod_int Try.underlying2 g1
  obtain ⟨bs, hbs, hB⟩ := read_intsB Try.underlying22 Try.underlying5 (by kernel_rfl) g2
  simp at e0 e1
  subst e0 e1
  exact ⟨⟨z0, z1, c2, bs⟩, rfl, hbs, trivial⟩
theorem open_ops {r : Reach} {b0 : Nat} {v : Value} {d : DataW H} {p : List MemPlace} (hv : Value.okWide Try.prog w r b0 26 v) (h : DataW.Trod enc Try.prog w base spare held 26 v d p) : ∃ os, RdR kOp w v os := by
  obtain ⟨a, n, c, rfl⟩ := okWide_slice Try.underlying26 hv
  obtain ⟨m, hm⟩ := h
  obtain ⟨os, ho, _⟩ := read_rows kOp (fun _ => True) (by decide) Try.underlying26 (by kernel_rfl) (fun n cs x hl h => read_op n cs x hl h) hm
  exact ⟨os, ho⟩
end
end Go.Proofs.Ytaejhfhlhofomaa

namespace Go.Proofs.Ytaejhfhlhofomaa
set_option maxHeartbeats 400000
open Go.RowKit
theorem l1Copy_any (v : Value) (bs : List Int) (w : World) (hn : bs.length ≤ 1099511627776) (hv : Rd .u8 w v bs) :
    Calls Try.prog 56 #[v] w fun e w' => ∃ a n c, e = .returned (.slice a n c) ∧ Own 0 5 .u8 w' (.slice a n c) bs ∧ (∀ b, (Value.slice a n c).ownBlock = some b → w.heap.size ≤ b) ∧ Same w w' := by
  obtain ⟨i0, hi, hz0, hz1, hz2⟩ := info_parts Try.infoByte'
  rcases hv.2 with ⟨rfl, a, c, rfl, hac⟩ | ⟨b, off, c, rfl, _, hc⟩
  · cases a with
    | none =>
      obtain rfl : c = 0 := hac rfl
      clear hv hn hac
      go_enter Try.func56, Try.ntmps56
      go_wp2_with (at_builtin; refine wpList_append_own_none rfl (.tmp 3) (.tmp 4) 22 rfl w.heap.size 5 i0 1 Try.underlying22 hi _ 0 [] rfl (World.ownsRow_made w #[] 0 (Nat.le_refl _) (by simp) (by simp)) rfl ?_)
      go_ret
      exact ⟨_, _, _, rfl, (World.ownsRow_made w #[] 0 (Nat.zero_le _) (by simp) (by simp)), fun b hb => by simp [Value.ownBlock] at hb; omega, (Kept.refl _ _).alloc _⟩
    | some ad =>
      clear hv hn hac
      go_enter Try.func56, Try.ntmps56
      go_wp2_with (at_builtin; refine wpList_append_own _ rfl (.tmp 3) (.tmp 4) 22 rfl w.heap.size 5 i0 (.int .u8 0) 1 1 Try.underlying22 hi hz0 hz1 hz2 rfl (by decide) (.slice (some ⟨w.heap.size, 0, none⟩) 0 0) 0 [] rfl (World.ownsRow_made w #[] 0 (Nat.le_refl _) (by simp) (by simp)) ad 0 c [] rfl rfl (fun j u h => by simp at h) (fun u h => by simp at h) (by simp) (by simp) (by simp) ?_; intro v' w1 hown1 hgrow1 _; have HF := (show Hid (Own w.heap.size 5 .u8 w1 v' []) from hown1); have HK : Hid (Same w w1) := ((Kept.refl _ _).alloc _).grown hgrow1 (fun k e => .inl (by simp [Value.ownBlock] at e; omega)); obtain ⟨aa, na, ca, rfl⟩ := slice_of_own HF.out; clear hown1 hgrow1)
      go_ret
      exact ⟨_, _, _, rfl, HF.out.mono (fun b _ => Nat.zero_le b), fun b hb => (HF.out.lt b hb).1, HK.out⟩
  · have HC : Hid (∀ i, i < bs.length → (w.alloc (.cells #[] 5)).cell? ⟨b, off + i, none⟩ = some (.int .u8 (bs.getD i 0))) := fun i hi => ((Kept.refl (fun _ => False) w).alloc _).cellOf (hc i hi) id
    clear hv hc
    go_enter Try.func56, Try.ntmps56
    go_wp2_with (at_builtin; refine wpList_append_own _ rfl (.tmp 3) (.tmp 4) 22 rfl w.heap.size 5 i0 (.int .u8 0) 1 1 Try.underlying22 hi hz0 hz1 hz2 rfl (by decide) (.slice (some ⟨w.heap.size, 0, none⟩) 0 0) 0 [] rfl (World.ownsRow_made w #[] 0 (Nat.le_refl _) (by simp) (by simp)) ⟨b, off, none⟩ bs.length c (vals .u8 bs) rfl (by simp [vals_length]) (news_of HC.out) vals_one (by unfold maxLen; omega) (by omega) (by simp) ?_; intro v' w1 hown1 hgrow1 _; have HF := (show Hid (Own w.heap.size 5 .u8 w1 v' bs) from (by simpa [Own, Hid] using hown1)); have HK : Hid (Same w w1) := ((Kept.refl _ _).alloc _).grown hgrow1 (fun k e => .inl (by simp [Value.ownBlock] at e; omega)); obtain ⟨aa, na, ca, rfl⟩ := slice_of_own HF.out; clear hown1 hgrow1)
    go_ret
    exact ⟨_, _, _, rfl, HF.out.mono (fun b _ => Nat.zero_le b), fun b hb => (HF.out.lt b hb).1, HK.out⟩
theorem clone_any (v : Value) (bs : List Int) (w : World) (hn : bs.length ≤ 1099511627776) (hv : Rd .u8 w v bs) :
    Calls Try.prog 54 #[v] w fun e w' => ∃ a n c, e = .returned (.slice a n c) ∧ Own 0 5 .u8 w' (.slice a n c) bs ∧ (∀ b, (Value.slice a n c).ownBlock = some b → w.heap.size ≤ b) ∧ Same w w' := by
  obtain ⟨i0, hi, hz0, hz1, hz2⟩ := info_parts Try.infoByte'
  have hnil := fun (wx : World) (a : Option Addr) (n c : Nat) => Lib.run_eql_slice_nil (P := Try.prog) wx 22 5 a n c 0 0 Try.underlying22
  rcases hv.2 with ⟨rfl, a, c, rfl, hac⟩ | ⟨b, off, c, rfl, _, hc⟩
  · cases a with
    | none =>
      obtain rfl : c = 0 := hac rfl
      clear hv hn hac
      go_enter Try.func54, Try.ntmps54
      go_wp2
      go_ret
      exact ⟨_, _, _, rfl, Own.nil _ _ _ _, fun b hb => by simp [Value.ownBlock] at hb, Kept.refl _ _⟩
    | some ad =>
      clear hv hn hac
      go_enter Try.func54, Try.ntmps54
      go_wp2_with (at_builtin; refine wpList_append_own _ rfl (.tmp 5) (.tmp 6) 22 rfl w.heap.size 5 i0 (.int .u8 0) 1 1 Try.underlying22 hi hz0 hz1 hz2 rfl (by decide) (.slice (some ⟨w.heap.size, 0, none⟩) 0 0) 0 [] rfl (World.ownsRow_made w #[] 0 (Nat.le_refl _) (by simp) (by simp)) ad 0 c [] rfl rfl (fun j u h => by simp at h) (fun u h => by simp at h) (by simp) (by simp) (by simp) ?_; intro v' w1 hown1 hgrow1 _; have HF := (show Hid (Own w.heap.size 5 .u8 w1 v' []) from hown1); have HK : Hid (Same w w1) := ((Kept.refl _ _).alloc _).grown hgrow1 (fun k e => .inl (by simp [Value.ownBlock] at e; omega)); obtain ⟨aa, na, ca, rfl⟩ := slice_of_own HF.out; clear hown1 hgrow1)
      go_ret
      exact ⟨_, _, _, rfl, HF.out.mono (fun b _ => Nat.zero_le b), fun b hb => (HF.out.lt b hb).1, HK.out⟩
  · have HC : Hid (∀ i, i < bs.length → (w.alloc (.cells #[] 5)).cell? ⟨b, off + i, none⟩ = some (.int .u8 (bs.getD i 0))) := fun i hi => ((Kept.refl (fun _ => False) w).alloc _).cellOf (hc i hi) id
    clear hv hc
    go_enter Try.func54, Try.ntmps54
    go_wp2_with (at_builtin; refine wpList_append_own _ rfl (.tmp 5) (.tmp 6) 22 rfl w.heap.size 5 i0 (.int .u8 0) 1 1 Try.underlying22 hi hz0 hz1 hz2 rfl (by decide) (.slice (some ⟨w.heap.size, 0, none⟩) 0 0) 0 [] rfl (World.ownsRow_made w #[] 0 (Nat.le_refl _) (by simp) (by simp)) ⟨b, off, none⟩ bs.length c (vals .u8 bs) rfl (by simp [vals_length]) (news_of HC.out) vals_one (by unfold maxLen; omega) (by omega) (by simp) ?_; intro v' w1 hown1 hgrow1 _; have HF := (show Hid (Own w.heap.size 5 .u8 w1 v' bs) from (by simpa [Own, Hid] using hown1)); have HK : Hid (Same w w1) := ((Kept.refl _ _).alloc _).grown hgrow1 (fun k e => .inl (by simp [Value.ownBlock] at e; omega)); obtain ⟨aa, na, ca, rfl⟩ := slice_of_own HF.out; clear hown1 hgrow1)
    go_ret
    exact ⟨_, _, _, rfl, HF.out.mono (fun b _ => Nat.zero_le b), fun b hb => (HF.out.lt b hb).1, HK.out⟩
end Go.Proofs.Ytaejhfhlhofomaa

namespace Go.Proofs.Ytaejhfhlhofomaa
set_option maxHeartbeats 400000
open Go.RowKit
theorem markSectorWriteS_own (base : Nat) (va : Value) (ps : List PW) (k0 : Int) (w : World) (h0 : 0 ≤ k0) (h1 : endP k0 ps ≤ 1125899906842624) (hn : ps.length ≤ 1125899906842624)
    (ha : OwnP base 54 5 w va ps) :
    Calls Try.prog 44 #[va, .int .i64 k0] w fun e w' => e = .returned (.int .i64 (endP k0 ps)) ∧ OwnP base 54 5 w' va (markP k0 ps) ∧ Kept (footP va ps) w w' := by
  by_cases hz : ps.length = 0
  · obtain rfl : ps = [] := List.length_eq_zero_iff.1 hz
    obtain ⟨aa, ca, rfl⟩ : ∃ aa ca, va = .slice aa 0 ca := by rcases ha.form with ⟨rfl, _⟩ | ⟨g, cap, rfl, _⟩ <;> exact ⟨_, _, rfl⟩
    have HA : Hid (OwnP base 54 5 w (.slice aa 0 ca) []) := ha
    clear ha hn hz
    go_enter Try.func44, Try.ntmps44
    go_wp2
    refine wp_loop_rounds 1 ?_
    rw [rounds_succ]
    go_wp2
    go_ret
    exact ⟨by simp [endP], by simpa [markP] using HA.out, Kept.refl _ _⟩
  · obtain ⟨g, cap, rfl, hb, hlt, _, _⟩ : ∃ g cap, va = .slice (some ⟨g, 0, none⟩) ps.length cap ∧ base ≤ g ∧ g < w.heap.size ∧ ps.length ≤ cap ∧ cap ≤ maxLen := by
      rcases ha.form with ⟨_, rfl⟩ | h
      · simp at hz
      · exact h
    generalize hl : ps.length = len at *
    have HL : Hid (ps.length = len) := hl
    have H1 : Hid (endP k0 ps ≤ 1125899906842624) := h1
    have HA : Hid (OwnP base 54 5 w (.slice (some ⟨g, 0, none⟩) len cap) ps) := ha
    clear hl h1 ha
    go_enter Try.func44, Try.ntmps44
    go_wp2
    go_loopw [1, 5] (fun v i wr => ∃ (k : Nat) (c : Int), k ≤ len ∧ i = .int .i64 k ∧ v = .int .i64 c ∧ Hid (c = endP k0 (ps.take k)) ∧ Hid (OwnP base 54 5 wr (.slice (some ⟨g, 0, none⟩) len cap) (partP k0 ps k)) ∧ Hid (Kept (footP (.slice (some ⟨g, 0, none⟩) len cap) ps) w wr)) (fun _ i _ => len - (intOf i).toNat)
    case atStart => exact ⟨0, k0, Nat.zero_le _, rfl, rfl, rfl, by rw [partP_zero]; exact HA.out, Kept.refl _ _⟩
    case round =>
      obtain ⟨k, c, hk, rfl, rfl, HC, HO, HK⟩ := hrel
      by_cases hlt : k < len
      · have hlp : k < ps.length := by rw [HL.out]; exact hlt
        have hf := HO.out.frozen (by rw [partP_length]; exact HL.out.symm) (k * 2)
        have hc := HO.out.sec (by rw [partP_length]; exact HL.out.symm) k (by rw [partP_length]; exact hlp)
        have hv : wr.cell? ⟨g, k * 2 + 1, none⟩ = some ps[k].v := by rw [HO.out.val (by rw [partP_length]; exact HL.out.symm) k (by rw [partP_length]; exact hlp), partP_vAt _ _ _ _ hlp]
        have hc0 : k0 ≤ c := by rw [HC.out]; exact endP_le _ _
        have hc1 : c + 1 + ps[k].bs.length ≤ 1125899906842624 := by rw [HC.out, ← endP_step k0 ps k hlp]; exact Int.le_trans (endP_take_le _ _ _) H1.out
        have HO2 : Hid (OwnP base 54 5 (wr.setCell ⟨g, k * 2, none⟩ (.int .i64 c)) (.slice (some ⟨g, 0, none⟩) len cap) (markP k0 (ps.take k) ++ ⟨c, ps[k].v, ps[k].bs⟩ :: ps.drop (k + 1))) := by
          have h := HO.out
          rw [partP_at _ _ _ hlp] at h
          have hl := HL.out
          exact h.setSec (by simp [markP_length]; omega) c _ (by simp [markP_length]; omega)
        go_wp2_with fail
        refine (markByteS_own base ps[k].v ps[k].bs (c + 1) _ (by omega) (by omega) (by omega) (HO2.out.data ⟨c, ps[k].v, ps[k].bs⟩ (by simp))).mono ?_
        rintro e w1 ⟨rfl, ho, hk1⟩
        have HO3 : Hid (OwnP base 54 5 w1 (.slice (some ⟨g, 0, none⟩) len cap) (partP k0 ps (k + 1))) := by
          rw [partP_step _ _ _ hlp, ← HC.out]
          exact HO2.out.setData hk1 ho
        have HK3 : Hid (Kept (footP (.slice (some ⟨g, 0, none⟩) len cap) ps) w w1) :=
          (HK.out.setCell (p := ⟨g, k * 2, none⟩) (.inr (.inl rfl)) _).trans (hk1.mono fun b _ hb => .inr ⟨ps[k], List.getElem_mem _, hb⟩)
        clear ho hk1 hv hc hf HO HO2
        go_wp2
        go_roundw
        case rel =>
          exact ⟨k + 1, c + 1 + ps[k].bs.length, by omega, by go_num, rfl, by rw [endP_step _ _ _ hlp, ← HC.out]; rfl, HO3, HK3⟩
        case measure => simp [intOf]; omega
      · go_wp2
        go_ret
        obtain rfl : k = len := by omega
        have hl := HL.out
        have hc := HC.out
        have ho := HO.out
        rw [← hl, List.take_length] at hc
        rw [← hl, partP_all, hl] at ho
        exact ⟨ret_int hc, ho, HK.out⟩
theorem heldSectorWriteS_own (base : Nat) (va : Value) (ps : List PW) (k0 : Int) (w : World) (h0 : 0 ≤ k0) (h1 : endP k0 ps ≤ 1125899906842624) (hn : ps.length ≤ 1125899906842624)
    (ha : OwnP base 54 5 w va (markP k0 ps)) :
    Calls Try.prog 65 #[va, .int .i64 k0] w fun e w' => e = .returned (.int .i64 (endP k0 ps)) ∧ w' = w := by
  by_cases hz : ps.length = 0
  · obtain rfl : ps = [] := List.length_eq_zero_iff.1 hz
    obtain ⟨aa, ca, rfl⟩ : ∃ aa ca, va = .slice aa 0 ca := by rcases ha.form with ⟨rfl, _⟩ | ⟨g, cap, rfl, _⟩ <;> exact ⟨_, _, rfl⟩
    clear ha hn hz
    go_enter Try.func65, Try.ntmps65
    go_wp2
    refine wp_loop_rounds 1 ?_
    rw [rounds_succ]
    go_wp2
    go_ret
    exact ⟨by simp [endP], rfl⟩
  · obtain ⟨g, cap, rfl⟩ : ∃ g cap, va = .slice (some ⟨g, 0, none⟩) ps.length cap := by
      rcases ha.form with ⟨_, h⟩ | ⟨g, cap, h, _⟩
      · have := congrArg List.length h; simp [markP_length] at this; simp [this] at hz
      · exact ⟨g, cap, by rw [h, markP_length]⟩
    have H1 : Hid (endP k0 ps ≤ 1125899906842624) := h1
    have HA : Hid (OwnP base 54 5 w (.slice (some ⟨g, 0, none⟩) ps.length cap) (markP k0 ps)) := ha
    clear h1 ha
    generalize hl : ps.length = len at hn hz HA ⊢
    have HL : Hid (ps.length = len) := hl
    clear hl
    go_enter Try.func65, Try.ntmps65
    go_wp2
    go_loop [1, 5] (fun v i => ∃ (k : Nat) (c : Int), k ≤ len ∧ i = .int .i64 k ∧ v = .int .i64 c ∧ Hid (c = endP k0 (ps.take k))) (fun _ i => len - (intOf i).toNat)
    case atStart => exact ⟨0, k0, Nat.zero_le _, rfl, rfl, rfl⟩
    case round =>
      obtain ⟨k, c, hk, rfl, rfl, HC⟩ := hrel
      by_cases hlt : k < len
      · have hlp : k < ps.length := by rw [HL.out]; exact hlt
        have hlm : k < (markP k0 ps).length := by rw [markP_length]; exact hlp
        have hc : w.cell? ⟨g, k * 2, none⟩ = some (.int .i64 c) := by rw [HA.out.sec (by rw [markP_length]; exact HL.out.symm) k hlm, markP_at _ _ _ hlp, ← HC.out]
        have hv : w.cell? ⟨g, k * 2 + 1, none⟩ = some ps[k].v := by rw [HA.out.val (by rw [markP_length]; exact HL.out.symm) k hlm, markP_at _ _ _ hlp]
        have hd := HA.out.data _ (List.getElem_mem hlm)
        rw [markP_at _ _ _ hlp, ← HC.out] at hd
        have HD : Hid (Own base 5 .u8 w ps[k].v (marks (c + 1) ps[k].bs.length)) := hd
        have hc0 : k0 ≤ c := by rw [HC.out]; exact endP_le _ _
        have hc1 : c + 1 + ps[k].bs.length ≤ 1125899906842624 := by rw [HC.out, ← endP_step k0 ps k hlp]; exact Int.le_trans (endP_take_le _ _ _) H1.out
        clear hd
        go_wp2_with fail
        refine (heldByteS_own base ps[k].v ps[k].bs.length (c + 1) _ (by omega) (by omega) (by omega) HD.out).mono ?_
        rintro e w1 ⟨rfl, rfl⟩
        go_wp2
        go_round
        case rel => exact ⟨k + 1, c + 1 + ps[k].bs.length, by omega, by go_num, rfl, by rw [endP_step _ _ _ hlp, ← HC.out]; rfl⟩
        case measure => simp [intOf]; omega
      · go_wp2
        go_ret
        obtain rfl : k = len := by omega
        have hl := HL.out
        have hc := HC.out
        rw [← hl, List.take_length] at hc
        exact ⟨ret_int hc, rfl⟩
theorem eqSectorWrite_own (base : Nat) (sec : Int) (va vb : Value) (bs : List Int) (w : World) (hn : bs.length ≤ 1125899906842624)
    (ha : Own base 5 .u8 w va bs) (hb : Own base 5 .u8 w vb bs) :
    Calls Try.prog 63 #[.agg #[.int .i64 sec, va], .agg #[.int .i64 sec, vb]] w fun e w' => e = .returned (.bool true) ∧ Same w w' := by
  obtain ⟨aa, na, ca, rfl⟩ : ∃ aa na ca, va = .slice aa na ca := by rcases ha.form with ⟨rfl, _⟩ | ⟨g, cap, rfl, _⟩ <;> exact ⟨_, _, _, rfl⟩
  obtain ⟨ab, nb, cb, rfl⟩ : ∃ aa na ca, vb = .slice aa na ca := by rcases hb.form with ⟨rfl, _⟩ | ⟨g, cap, rfl, _⟩ <;> exact ⟨_, _, _, rfl⟩
  have HA : Hid (Own base 5 .u8 w (.slice aa na ca) bs) := ha
  have HB : Hid (Own base 5 .u8 w (.slice ab nb cb) bs) := hb
  clear ha hb
  go_enter Try.func63, Try.ntmps63
  go_wp2_with fail
  refine (eqByteS_own base _ _ bs _ hn (HA.out.same (((Kept.refl _ _).alloc _).alloc _)) (HB.out.same (((Kept.refl _ _).alloc _).alloc _))).mono ?_
  rintro e w1 ⟨rfl, n1, rfl⟩
  go_wp2
  go_ret
  exact ⟨rfl, (((Kept.refl _ _).alloc _).alloc _).drewN _⟩
theorem eqSectorWriteS_own (base : Nat) (va vb : Value) (ps qs : List PW) (w : World) (hn : ps.length ≤ 1125899906842624) (hs : dataP ps = dataP qs) (hsm : ∀ p ∈ ps, p.bs.length ≤ 1125899906842624)
    (ha : OwnP base 54 5 w va ps) (hb : OwnP base 54 5 w vb qs) :
    Calls Try.prog 41 #[va, vb] w fun e w' => e = .returned (.bool true) ∧ Same w w' := by
  have hlen : qs.length = ps.length := by rw [← dataP_length, ← dataP_length, hs]
  by_cases hz : ps.length = 0
  · obtain rfl : ps = [] := List.length_eq_zero_iff.1 hz
    obtain rfl : qs = [] := List.length_eq_zero_iff.1 hlen
    obtain ⟨aa, ca, rfl⟩ : ∃ aa ca, va = .slice aa 0 ca := by rcases ha.form with ⟨rfl, _⟩ | ⟨g, cap, rfl, _⟩ <;> exact ⟨_, _, rfl⟩
    obtain ⟨ab, cb, rfl⟩ : ∃ aa ca, vb = .slice aa 0 ca := by rcases hb.form with ⟨rfl, _⟩ | ⟨g, cap, rfl, _⟩ <;> exact ⟨_, _, rfl⟩
    clear ha hb hn hz hs
    go_enter Try.func41, Try.ntmps41
    go_wp2
    refine wp_loop_rounds 1 ?_
    rw [rounds_succ]
    go_wp2
    go_ret
    exact ⟨rfl, Kept.refl _ _⟩
  · obtain ⟨ga, ca, rfl⟩ : ∃ g cap, va = .slice (some ⟨g, 0, none⟩) ps.length cap := by
      rcases ha.form with ⟨_, h⟩ | ⟨g, cap, h, _⟩
      · simp [h] at hz
      · exact ⟨g, cap, h⟩
    obtain ⟨gb, cb, rfl⟩ : ∃ g cap, vb = .slice (some ⟨g, 0, none⟩) ps.length cap := by
      rcases hb.form with ⟨_, h⟩ | ⟨g, cap, h, _⟩
      · simp [h] at hlen; omega
      · exact ⟨g, cap, by rw [h, hlen]⟩
    have HA : Hid (OwnP base 54 5 w (.slice (some ⟨ga, 0, none⟩) ps.length ca) ps) := ha
    have HB : Hid (OwnP base 54 5 w (.slice (some ⟨gb, 0, none⟩) ps.length cb) qs) := hb
    have HQ : Hid (qs.length = ps.length) := hlen
    have HS : Hid (dataP ps = dataP qs) := hs
    have HM : Hid (∀ p ∈ ps, p.bs.length ≤ 1125899906842624) := hsm
    clear ha hb hs hlen hsm
    generalize hl : ps.length = len at hn hz HA HB ⊢
    have HL : Hid (ps.length = len) := hl
    clear hl
    go_enter Try.func41, Try.ntmps41
    go_wp2
    go_loopw [5] (fun i wr => ∃ (k : Nat), k ≤ len ∧ i = .int .i64 k ∧ Hid (Same w wr)) (fun i _ => len - (intOf i).toNat)
    case atStart => exact ⟨0, Nat.zero_le _, rfl, Kept.refl _ _⟩
    case round =>
      obtain ⟨k, hk, rfl, HK⟩ := hrel
      by_cases hlt : k < len
      · have hlp : k < ps.length := by rw [HL.out]; exact hlt
        have hlq : k < qs.length := by rw [HQ.out]; exact hlp
        have hoa := HA.out.same HK.out
        have hob := HB.out.same HK.out
        obtain ⟨s1, s2⟩ := dataP_at HS.out k hlp hlq
        have s3 := HM.out _ (List.getElem_mem hlp)
        have ha1 : wr.cell? ⟨ga, k * 2, none⟩ = some (.int .i64 ps[k].sec) := hoa.sec HL.out.symm k hlp
        have ha2 : wr.cell? ⟨ga, k * 2 + 1, none⟩ = some ps[k].v := hoa.val HL.out.symm k hlp
        have hb1 : wr.cell? ⟨gb, k * 2, none⟩ = some (.int .i64 ps[k].sec) := by rw [hob.sec (by rw [HQ.out, HL.out]) k hlq, s1]
        have hb2 : wr.cell? ⟨gb, k * 2 + 1, none⟩ = some qs[k].v := hob.val (by rw [HQ.out, HL.out]) k hlq
        have HDA : Hid (Own base 5 .u8 wr ps[k].v ps[k].bs) := hoa.data _ (List.getElem_mem hlp)
        have HDB : Hid (Own base 5 .u8 wr qs[k].v ps[k].bs) := by have := hob.data _ (List.getElem_mem hlq); rw [← s2] at this; exact this
        clear s1 s2 hoa hob
        go_wp2_with fail
        go_region_with (go_at_call 63; refine (eqSectorWrite_own base ps[k].sec ps[k].v qs[k].v ps[k].bs _ s3 (by exact HDA.out.same (Kept.refl _ _).drew) (by exact HDB.out.same (Kept.refl _ _).drew)).mono ?_; rintro e w1 ⟨rfl, hk1⟩)
        all_goals
          have HK1 : Hid (Same w w1) := HK.out.drew.trans hk1
          clear hk1 ha1 ha2 hb1 hb2 HDA HDB
          go_wp2
          go_roundw
          case rel => exact ⟨k + 1, by omega, by go_num, HK1⟩
          case measure => simp [intOf]; omega
      · go_wp2
        go_ret
        exact ⟨rfl, HK.out⟩
end Go.Proofs.Ytaejhfhlhofomaa

namespace Go.Proofs.Ytaejhfhlhofomaa
set_option maxHeartbeats 400000
open Go.RowKit
theorem slice_of_ownP {base : Nat} {tw tb : TypeId} {w : World} {v : Value} {ps : List PW} (h : OwnP base tw tb w v ps) : ∃ aa na ca, v = .slice aa na ca := by
  rcases h.form with ⟨rfl, _⟩ | ⟨g, cap, rfl, _⟩ <;> exact ⟨_, _, _, rfl⟩
theorem eqDisk_own (base : Nat) (dv pv dv' pv' : Value) (dur : List Int) (ps qs : List PW) (w : World) (hd : dur.length ≤ 1125899906842624) (hn : ps.length ≤ 1125899906842624)
    (hs : dataP ps = dataP qs) (hsm : ∀ p ∈ ps, p.bs.length ≤ 1125899906842624)
    (ha : OwnD base 54 5 w dv pv dur ps) (hb : OwnD base 54 5 w dv' pv' dur qs) :
    Calls Try.prog 12 #[.agg #[dv, pv], .agg #[dv', pv']] w fun e w' => e = .returned (.bool true) ∧ Same w w' := by
  obtain ⟨a1, n1, c1, rfl⟩ := slice_of_own ha.dur
  obtain ⟨a2, n2, c2, rfl⟩ := slice_of_ownP ha.pend
  obtain ⟨a3, n3, c3, rfl⟩ := slice_of_own hb.dur
  obtain ⟨a4, n4, c4, rfl⟩ := slice_of_ownP hb.pend
  have HA := (show Hid (OwnD base 54 5 w _ _ dur ps) from ha)
  have HB := (show Hid (OwnD base 54 5 w _ _ dur qs) from hb)
  have HS : Hid (dataP ps = dataP qs) := hs
  have HM : Hid (∀ p ∈ ps, p.bs.length ≤ 1125899906842624) := hsm
  clear ha hb hs hsm
  go_enter Try.func12, Try.ntmps12
  go_wp2_with fail
  refine (eqByteS_own base _ _ dur _ hd (HA.out.dur.same (((Kept.refl _ _).alloc _).alloc _)) (HB.out.dur.same (((Kept.refl _ _).alloc _).alloc _))).mono ?_
  rintro e w1 ⟨rfl, m1, rfl⟩
  go_wp2_with fail
  refine (eqSectorWriteS_own base _ _ ps qs _ hn HS.out HM.out (HA.out.pend.same ((((Kept.refl _ _).alloc _).alloc _).drewN _)) (HB.out.pend.same ((((Kept.refl _ _).alloc _).alloc _).drewN _))).mono ?_
  rintro e w2 ⟨rfl, hk2⟩
  go_wp2
  go_ret
  exact ⟨rfl, ((((Kept.refl _ _).alloc _).alloc _).drewN _).trans hk2⟩
theorem markDisk_own (base : Nat) (dv pv : Value) (dur : List Int) (ps : List PW) (k0 : Int) (w : World) (h0 : 0 ≤ k0) (h1 : endP (k0 + dur.length) ps ≤ 1125899906842624) (hn : ps.length ≤ 1125899906842624)
    (ha : OwnD base 54 5 w dv pv dur ps) :
    Calls Try.prog 14 #[.agg #[dv, pv], .int .i64 k0] w fun e w' => e = .returned (.int .i64 (endP (k0 + dur.length) ps)) ∧
      OwnD base 54 5 w' dv pv (marks k0 dur.length) (markP (k0 + dur.length) ps) ∧ Kept (footD dv pv ps) w w' := by
  have hle := endP_le (k0 + dur.length) ps
  obtain ⟨a1, n1, c1, rfl⟩ := slice_of_own ha.dur
  obtain ⟨a2, n2, c2, rfl⟩ := slice_of_ownP ha.pend
  have HA := (show Hid (OwnD base 54 5 w _ _ dur ps) from ha)
  have H1 : Hid (endP (k0 + dur.length) ps ≤ 1125899906842624) := h1
  have hb1 : k0 + dur.length ≤ 1125899906842624 := by omega
  have hlt := HA.out.lt
  have HLT : Hid (∀ b, footD (.slice a1 n1 c1) (.slice a2 n2 c2) ps b → base ≤ b ∧ b < w.heap.size) := hlt
  clear ha h1 hle hlt
  go_enter Try.func14, Try.ntmps14
  go_wp2_with fail
  refine (markByteS_own base _ dur k0 _ (by omega) (by omega) (by omega) (HA.out.dur.same ((Kept.refl _ _).alloc _))).mono ?_
  rintro e w1 ⟨rfl, ho1, hk1⟩
  have hc : w1.cell? ⟨w.heap.size, 1, none⟩ = some (.slice a2 n2 c2) := by
    rw [hk1.cell (by simp) (fun e => by have := (HLT.out w.heap.size (.inl e)).2; omega)]; simp
  have HO1 : Hid (OwnP base 54 5 w1 (.slice a2 n2 c2) ps) :=
    (HA.out.pend.same ((Kept.refl _ _).alloc _)).kept hk1 (fun b hb e => HA.out.apart b hb e)
  have HK1 : Hid (Kept (fun b => (Value.slice a1 n1 c1).ownBlock = some b) w w1) := ((Kept.refl _ _).alloc _).trans hk1
  have HD1 : Hid (Own base 5 .u8 w1 (.slice a1 n1 c1) (marks k0 dur.length)) := ho1
  clear ho1 hk1
  go_wp2_with fail
  refine (markSectorWriteS_own base _ ps (k0 + dur.length) _ (by omega) H1.out hn HO1.out).mono ?_
  rintro e w2 ⟨rfl, ho2, hk2⟩
  have HF : Hid (OwnD base 54 5 w2 (.slice a1 n1 c1) (.slice a2 n2 c2) (marks k0 dur.length) (markP (k0 + dur.length) ps) ∧ Kept (footD (.slice a1 n1 c1) (.slice a2 n2 c2) ps) w w2) :=
    ⟨⟨HD1.out.kept hk2 (fun b hb e => HA.out.apart b e hb), ho2, fun b hb => HA.out.apart b ((footP_v (markP_v _ _) b).1 hb)⟩,
      (HK1.out.mono (fun b _ e => .inl e)).trans (hk2.mono (fun b _ e => .inr e))⟩
  clear ho2 hk2 hc HO1 HK1 HD1
  go_wp2
  go_ret
  exact ⟨rfl, HF.out⟩
theorem heldDisk_own (base : Nat) (dv pv : Value) (dur : List Int) (ps : List PW) (k0 : Int) (w : World) (h0 : 0 ≤ k0) (h1 : endP (k0 + dur.length) ps ≤ 1125899906842624) (hn : ps.length ≤ 1125899906842624)
    (ha : OwnD base 54 5 w dv pv (marks k0 dur.length) (markP (k0 + dur.length) ps)) :
    Calls Try.prog 45 #[.agg #[dv, pv], .int .i64 k0] w fun e w' => e = .returned (.int .i64 (endP (k0 + dur.length) ps)) ∧ Same w w' := by
  have hle := endP_le (k0 + dur.length) ps
  obtain ⟨a1, n1, c1, rfl⟩ := slice_of_own ha.dur
  obtain ⟨a2, n2, c2, rfl⟩ := slice_of_ownP ha.pend
  have HA := (show Hid (OwnD base 54 5 w _ _ (marks k0 dur.length) (markP (k0 + dur.length) ps)) from ha)
  have H1 : Hid (endP (k0 + dur.length) ps ≤ 1125899906842624) := h1
  have hb1 : k0 + dur.length ≤ 1125899906842624 := by omega
  clear ha h1
  go_enter Try.func45, Try.ntmps45
  go_wp2_with fail
  refine (heldByteS_own base _ dur.length k0 _ (by omega) (by omega) (by omega) (HA.out.dur.same ((Kept.refl _ _).alloc _))).mono ?_
  rintro e w1 ⟨rfl, rfl⟩
  go_wp2_with fail
  refine (heldSectorWriteS_own base _ ps (k0 + dur.length) _ (by omega) H1.out hn (HA.out.pend.same ((Kept.refl _ _).alloc _))).mono ?_
  rintro e w2 ⟨rfl, rfl⟩
  go_wp2
  go_ret
  exact ⟨rfl, (Kept.refl _ _).alloc _⟩
end Go.Proofs.Ytaejhfhlhofomaa
