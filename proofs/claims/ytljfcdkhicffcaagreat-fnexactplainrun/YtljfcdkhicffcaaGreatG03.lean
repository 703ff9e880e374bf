import Derived.Test.YtljfcdkhicffcaaGreatG02
namespace Go.Proofs.YtljfcdkhicffcaaGreat
set_option maxRecDepth 100000
set_option maxHeartbeats 16000000
set_option linter.unusedVariables false
set_option linter.unusedSimpArgs false
open Go.RowKit Go Go.ChangeShapes Go.WideShapes Go.ChangeAt
structure EHeapRecord where
 id : Int
 v : Value
 bs : List Int
def kHeapRecord : RowK EHeapRecord := ⟨2, fun p => [V p.id, p.v], fun _ => rfl, EHeapRecord.v, EHeapRecord.bs⟩
def EHeapRecord.dat (p : EHeapRecord) : Int × List Int := (p.id, p.bs)
def jZ9 (ps : List EHeapRecord) : List (Int × List Int) := ps.map EHeapRecord.dat
theorem TQ (ps : List EHeapRecord) : (jZ9 ps).length = ps.length := by simp [jZ9]
theorem VQ {ps qs : List EHeapRecord} (h : jZ9 ps = jZ9 qs) (k : Nat) (h1 : k < ps.length) (h2 : k < qs.length) : ps[k].dat = qs[k].dat := by
 have := congrArg (fun l => l[k]?) h
 simpa [jZ9, h1, h2] using this
theorem Tryz.infoRHeapRecord : (Tryz.prog.info? 79).map (fun i => (i.zero, i.size, i.bytes)) = some (some (.agg #[V 0, V0]), 2, 32) := by kernel_rfl
def TW : List EHeapRecord → Nat
 | [] => 0
 | p :: ps => p.bs.length + TW ps
theorem Xy (ps qs : List EHeapRecord) : TW (ps ++ qs) = TW ps + TW qs := by
 induction ps with
 | nil => simp [TW]
 | cons p ps ih => simp only [List.cons_append, TW, ih]; omega
theorem X0 (ps : List EHeapRecord) (j : Nat) (h : j < ps.length) : TW (ps.take (j + 1)) = TW (ps.take j) + ps[j].bs.length := by
 rw [List.take_succ_eq_append_getElem h, Xy];simp [TW]
theorem UW (ps : List EHeapRecord) (p : EHeapRecord) (h : p ∈ ps) : p.bs.length ≤ TW ps := by
 induction ps with
 | nil => cases h
 | cons q qs ih =>
  rcases List.mem_cons.1 h with rfl | h
  ·simp [TW]
  ·have := ih h; simp only [TW]; omega
theorem Zn {ta tb : TypeId} (base : Nat) (id : Int) (va vb : Value) (bs : List Int) (w : World) (hn : bs.length ≤ 1125899906842624) (ha : Own base ta .u8 w va bs) (hb : Own base tb .u8 w vb bs) :
  Calls Tryz.prog 38 #[.agg #[V id, va], .agg #[V id, vb]] w fun e w' => e = .returned (.bool true) ∧ Same w w' := by
 obtain ⟨aa, na, ca, rfl⟩ := UD ha;obtain ⟨ab, nb, cb, rfl⟩ := UD hb;have HA : Hid (Own base ta .u8 w (.slice aa na ca) bs) := ha;have HB : Hid (Own base tb .u8 w (.slice ab nb cb) bs) := hb;have b0 := (Blk.newL w [V id, .slice aa na ca] 79).same (kZ0.alloc (.cells #[V id, .slice ab nb cb] 79));have b1 := Blk.newB w [V id, .slice aa na ca] 79 [V id, .slice ab nb cb] 79;clear ha hb
 go_enter Tryz.func38, Tryz.ntmps38
 go_wp2_with fail
 refine (WV base _ _ bs _ hn (HA.out.same ((kZ0.alloc _).alloc _)) (HB.out.same ((kZ0.alloc _).alloc _))).mono ?_;rintro e w1 ⟨rfl, n1, hw⟩
 have hk : Same ((w.alloc (.cells #[V id, .slice aa na ca] 79)).alloc (.cells #[V id, .slice ab nb cb] 79)) w1 := by rw [hw]; exact kZ0.drewN _
 clear hw;go_wp2;go_ret;exact ⟨rfl, ((kZ0.alloc _).alloc _).trans hk⟩
theorem VR {ta tb : TypeId} (base : Nat) (va vb : Value) (ps qs : List EHeapRecord) (w : World) (hn : ps.length ≤ 1125899906842624) (hs : jZ9 ps = jZ9 qs) (gR : ∀ p ∈ ps, p.bs.length ≤ 1125899906842624)
  (ha : OwnR kHeapRecord base 79 ta w va ps) (hb : OwnR kHeapRecord base 79 tb w vb qs) :
  Calls Tryz.prog 14 #[va, vb] w fun e w' => e = .returned (.bool true) ∧ Same w w' := by
 have az : qs.length = ps.length := by rw [← TQ, ← TQ, hs]
 by_cases hz : ps.length = 0
 ·obtain rfl : ps = [] := List.length_eq_zero_iff.1 hz
  obtain rfl : qs = [] := List.length_eq_zero_iff.1 az
  obtain ⟨aa, ca, rfl⟩ : ∃ aa ca, va = .slice aa 0 ca := by rcases ha.form with ⟨rfl, _⟩ | ⟨g, cap, rfl, _⟩ <;> exact ⟨_, _, rfl⟩
  obtain ⟨ab, cb, rfl⟩ : ∃ aa ca, vb = .slice aa 0 ca := by rcases hb.form with ⟨rfl, _⟩ | ⟨g, cap, rfl, _⟩ <;> exact ⟨_, _, rfl⟩
  clear ha hb hn hz hs
  go_enter Tryz.func14, Tryz.ntmps14
  go_wp2;refine wp_loop_rounds 1 ?_;rw [rounds_succ];go_wp2;go_ret;exact ⟨rfl, kZ0⟩
 ·obtain ⟨ga, ca, rfl⟩ : ∃ g cap, va = Q4 g ps.length cap := by
   rcases ha.form with ⟨_, h⟩ | ⟨g, cap, h, _⟩
   ·simp [h] at hz
   ·exact ⟨g, cap, h⟩
  obtain ⟨gb, cb, rfl⟩ : ∃ g cap, vb = Q4 g ps.length cap := by
   rcases hb.form with ⟨_, h⟩ | ⟨g, cap, h, _⟩
   ·simp [h] at az; omega
   ·exact ⟨g, cap, by rw [h, az]⟩
  have HA : Hid (OwnR kHeapRecord base 79 ta w (Q4 ga ps.length ca) ps) := ha;have HB : Hid (OwnR kHeapRecord base 79 tb w (Q4 gb ps.length cb) qs) := hb;have HQ : Hid (qs.length = ps.length) := az;have HS : Hid (jZ9 ps = jZ9 qs) := hs;have HM : Hid (∀ p ∈ ps, p.bs.length ≤ 1125899906842624) := gR;clear ha hb hs az gR;generalize hl : ps.length = len at hn hz HA HB ⊢;have HL : Hid (ps.length = len) := hl;clear hl
  go_enter Tryz.func14, Tryz.ntmps14
  go_wp2
  go_loopw [5] (fun i wr => ∃ (k : Nat), k ≤ len ∧ i = V k ∧ Hid (Same w wr)) (fun i _ => len - (intOf i).toNat)
  case atStart => exact ⟨0, Nat.zero_le _, rfl, kZ0⟩
  case round =>
   obtain ⟨k, hk, rfl, HK⟩ := hrel
   by_cases aG : k < len
   ·have aF : k < ps.length := by rw [HL.out]; exact aG
    have cV : k < qs.length := by rw [HQ.out]; exact aF
    have ef := HA.out.same HK.out;have d8 := HB.out.same HK.out;have ek := VQ HS.out k aF cV;simp only [EHeapRecord.dat, Prod.mk.injEq] at ek;obtain ⟨d0, d1⟩ := ek;have s3 := HM.out _ (List.getElem_mem aF);have l7 : wr.cell? ⟨ga, k * 2, none⟩ = some (V ps[k].id) := ef.cell HL.out.symm k 0 aF (by decide);have l4 : wr.cell? ⟨ga, k * 2 + 1, none⟩ = some (ps[k].v) := ef.cell HL.out.symm k 1 aF (by decide)
    have bR : wr.cell? ⟨gb, k * 2, none⟩ = some (V ps[k].id) := by rw [d0]; exact d8.cell (by rw [HQ.out, HL.out]) k 0 cV (by decide)
    have cW : wr.cell? ⟨gb, k * 2 + 1, none⟩ = some (qs[k].v) := d8.cell (by rw [HQ.out, HL.out]) k 1 cV (by decide);have mM : Hid (Own base ta .u8 wr ps[k].v ps[k].bs) := ef.data _ (List.getElem_mem aF)
    have nm : Hid (Own base tb .u8 wr qs[k].v ps[k].bs) := by have := d8.data _ (List.getElem_mem cV); rw [d1]; exact this
    clear d0 d1 ef d8
    go_wp2_with fail
    go_region_with (go_at_call 38; refine (Zn base ps[k].id ps[k].v qs[k].v ps[k].bs _ s3 (by exact mM.out.same kZ0.drew) (by exact nm.out.same kZ0.drew)).mono ?_; rintro e w1 ⟨rfl, af⟩)
    all_goals
     have ao : Hid (Same w w1) := HK.out.drew.trans af;clear af l7 bR l4 cW mM nm;go_wp2;go_roundw
     case rel => exact ⟨k + 1, by omega, by go_num, ao⟩
     case measure => simp [intOf]; omega
   ·go_wp2
    go_ret;exact ⟨rfl, HK.out⟩
theorem Zo (id : Int) (a : Option Addr) (n c : Nat) (left : Int) (w : World) (h0 : 0 ≤ left) (h1 : left ≤ 1048576) (hn : n ≤ maxLen) :
  Calls Tryz.prog 22 #[.agg #[V id, .slice a n c], V left] w fun e w' => ∃ r : Int, e = .returned (V r) ∧ ((r = -1 ∧ left < n) ∨ (r = left - n ∧ 0 ≤ r)) ∧ Same w w' := by
 go_enter Tryz.func22, Tryz.ntmps22
 go_wp2_with fail
 refine (XW a n c left _ h0 h1 hn).mono ?_;rintro e w1 ⟨r, rfl, hr, rfl⟩
 rcases hr with ⟨rfl, hr⟩ | ⟨hr, mA⟩
 ·go_wp2
  go_ret;exact ⟨_, rfl, .inl ⟨rfl, hr⟩, kZ0.alloc _⟩
 ·have HR : Hid (r = left - n) := hr
  clear hr;go_wp2;go_ret;exact ⟨_, rfl, .inr ⟨HR.out, mA⟩, kZ0.alloc _⟩
theorem WW (v : Value) (ps : List EHeapRecord) (left : Int) (w : World) (h0 : 0 ≤ left) (h1 : left ≤ 1048576) (hp : RdR kHeapRecord w v ps) :
  Calls Tryz.prog 4 #[v, V left] w fun e w' => ∃ r : Int, e = .returned (V r) ∧ (r = -1 ∨ (r = left - ps.length - TW ps ∧ 0 ≤ r)) ∧ Same w w' := by
 have hn := hp.max;unfold maxLen at hn
 rcases hp.row with ⟨rfl, a, c, rfl⟩ | ⟨b, off, c, rfl, hc⟩
 ·clear hp hn
  go_enter Tryz.func4, Tryz.ntmps4
  go_wp2;refine wp_loop_rounds 1 ?_;rw [rounds_succ];go_wp2;go_ret;exact ⟨_, rfl, .inr ⟨by simp [TW], by omega⟩, kZ0⟩
 ·have HP : Hid (RdR kHeapRecord w (.slice (some ⟨b, off, none⟩) ps.length c) ps) := hp
  have HC : Hid (∀ j i, (h : j < ps.length) → i < 2 → w.cell? ⟨b, off + (j * 2 + i), none⟩ = (kHeapRecord.cells ps[j])[i]?) := hc;clear hp hc;generalize hl : ps.length = len at hn HP ⊢;have HL : Hid (ps.length = len) := hl;clear hl
  by_cases h : left < len
  ·go_enter Tryz.func4, Tryz.ntmps4
   go_wp2;go_ret;exact ⟨_, rfl, .inl rfl, kZ0⟩
  ·go_enter Tryz.func4, Tryz.ntmps4
   go_wp2
   go_loopw [1, 5] (fun u i wr => ∃ (k : Nat) (r : Int), k ≤ len ∧ i = V k ∧ u = V r ∧ 0 ≤ r ∧ r ≤ left ∧ Hid (r = left - len - TW (ps.take k)) ∧ Hid (Same w wr)) (fun _ i _ => len - (intOf i).toNat)
   case atStart => exact ⟨0, left - len, Nat.zero_le _, rfl, rfl, by omega, by omega, by simp [TW, Hid], kZ0⟩
   case round =>
    obtain ⟨k, r, hk, rfl, rfl, mA, lG, HR, HK⟩ := hrel
    by_cases aG : k < len
    ·have aF : k < ps.length := by rw [HL.out]; exact aG
     obtain ⟨a1, c1, e1⟩ := (show Rd .u8 w ps[k].v ps[k].bs from HP.out.data _ (List.getElem_mem aF)).form;have d9 := (show Rd .u8 w ps[k].v ps[k].bs from HP.out.data _ (List.getElem_mem aF)).1;have q0 : wr.cell? ⟨b, off + k * 2, none⟩ = some (V ps[k].id) := HK.out.cellOf (p := ⟨b, off + k * 2, none⟩) (by have h := HC.out k 0 aF (by decide); exact h) id;have q1 : wr.cell? ⟨b, off + k * 2 + 1, none⟩ = some (ps[k].v) := HK.out.cellOf (p := ⟨b, off + k * 2 + 1, none⟩) (by have h := HC.out k 1 aF (by decide); rw [← Nat.add_assoc] at h; exact h) id;rw [e1] at q1;clear e1
     go_wp2_with fail
     refine (Zo _ _ _ _ _ _ mA (by omega) d9).mono ?_;rintro e w1 ⟨r1, rfl, dZ, af⟩;have ao : Hid (Same w w1) := HK.out.trans af;clear q0 q1 af
     rcases dZ with ⟨rfl, dZ⟩ | ⟨dZ, BD⟩
     ·go_wp2
      go_ret;exact ⟨_, rfl, .inl rfl, ao.out⟩
     ·have Dh : r1 ≤ left := by omega
      have rG : Hid (r1 = r - ps[k].bs.length) := dZ;clear dZ;go_wp2;go_roundw
      case rel => exact ⟨k + 1, r1, by omega, by go_num, rfl, BD, Dh, by have h1 := rG.out; have h2 := HR.out; have h3 := X0 ps k aF; unfold Hid; omega, ao⟩
      case measure => simp [intOf]; omega
    ·go_wp2
     go_ret
     obtain rfl : k = len := by omega
     have h1 := HR.out;have h2 := HL.out;rw [← h2, List.take_length] at h1;exact ⟨r, rfl, .inr ⟨by omega, mA⟩, HK.out⟩
def mHeapRecord : MarkK kHeapRecord := ⟨fun k p => ⟨k, p.v, marks (k + 1) p.bs.length⟩, fun p => 1 + p.bs.length, fun _ _ => rfl⟩
theorem Vz (k : Int) (ps : List EHeapRecord) : Ug mHeapRecord k ps = k + 1 * ps.length + TW ps := by
 induction ps generalizing k with
 | nil => simp [Ug, TW]
 | cons p ps ih =>
  have h : ((mHeapRecord.sz p : Nat) : Int) = 1 + (p.bs.length : Int) := by simp [mHeapRecord]
  simp only [Ug, ih, TW, List.length_cons];omega
theorem VA {ps qs : List EHeapRecord} (h : jZ9 ps = jZ9 qs) : TW ps = TW qs := by
 induction ps generalizing qs with
 | nil => cases qs with
  | nil => rfl
  | cons q qs => simp [jZ9] at h
 | cons p ps ih => cases qs with
  | nil => simp [jZ9] at h
  | cons q qs =>
   simp only [jZ9, List.map_cons, List.cons.injEq, EHeapRecord.dat, Prod.mk.injEq] at h;simp only [TW, ih h.2, h.1.2]
theorem VB {tb : TypeId} (base : Nat) (va : Value) (ps : List EHeapRecord) (k0 : Int) (w : World) (h0 : 0 ≤ k0) (h1 : Ug mHeapRecord k0 ps ≤ 1125899906842624) (hn : ps.length ≤ 1125899906842624)
  (ha : OwnR kHeapRecord base 79 tb w va ps) :
  Calls Tryz.prog 17 #[va, V k0] w fun e w' => e = .returned (V (Ug mHeapRecord k0 ps)) ∧ OwnR kHeapRecord base 79 tb w' va (Uk mHeapRecord k0 ps) ∧ Kept (Uc kHeapRecord va ps) w w' := by
 by_cases hz : ps.length = 0
 ·obtain rfl : ps = [] := List.length_eq_zero_iff.1 hz
  obtain ⟨aa, ca, rfl⟩ : ∃ aa ca, va = .slice aa 0 ca := by rcases ha.form with ⟨rfl, _⟩ | ⟨g, cap, rfl, _⟩ <;> exact ⟨_, _, rfl⟩
  have HA : Hid (OwnR kHeapRecord base 79 tb w (.slice aa 0 ca) []) := ha;clear ha hn hz h1
  go_enter Tryz.func17, Tryz.ntmps17
  go_wp2;refine wp_loop_rounds 1 ?_;rw [rounds_succ];go_wp2;go_ret;exact ⟨by simp [Ug], by simpa [Uk] using HA.out, kZ0⟩
 ·obtain ⟨g, cap, rfl, hb, aG, _, _⟩ : ∃ g cap, va = Q4 g ps.length cap ∧ base ≤ g ∧ g < w.heap.size ∧ ps.length ≤ cap ∧ cap ≤ maxLen := by
   rcases ha.form with ⟨_, rfl⟩ | h
   ·simp at hz
   ·exact h
  have H1 : Hid (Ug mHeapRecord k0 ps ≤ 1125899906842624) := h1;have iJ : Hid (OwnR kHeapRecord base 79 tb w (Q4 g ps.length cap) ps) := ha;clear h1 ha;generalize hl : ps.length = len at *;have HL : Hid (ps.length = len) := hl;clear hl
  go_enter Tryz.func17, Tryz.ntmps17
  go_wp2
  go_loopw [1, 5] (fun v i wr => ∃ (k : Nat) (c : Int), k ≤ len ∧ i = V k ∧ v = V c ∧ Hid (c = Ug mHeapRecord k0 (ps.take k)) ∧ Hid (OwnR kHeapRecord base 79 tb wr (Q4 g len cap) (Wj mHeapRecord k0 ps k)) ∧ Hid (Kept (Uc kHeapRecord (Q4 g len cap) ps) w wr)) (fun _ i _ => len - (intOf i).toNat)
  case atStart => exact ⟨0, k0, Nat.zero_le _, rfl, rfl, rfl, by rw [YD]; exact iJ.out, kZ0⟩
  case round =>
   obtain ⟨k, c, hk, rfl, rfl, HC, HO, HK⟩ := hrel
   by_cases aG : k < len
   ·have aF : k < ps.length := by rw [HL.out]; exact aG
    have oV : k0 ≤ c := by rw [HC.out]; exact Vu _ _ _
    have dm := Wx mHeapRecord k0 ps k aF
    have li : c + 1 + ps[k].bs.length ≤ 1125899906842624 := by have h2 := Vv mHeapRecord k0 ps (k + 1); have h3 := H1.out; have h4 := HC.out; simp only [mHeapRecord] at dm; simp only [mHeapRecord] at h2 h3 h4; omega
    have eo := (show Hid (Ug mHeapRecord k0 (ps.take (k + 1)) = Ug mHeapRecord k0 (ps.take k) + (mHeapRecord.sz ps[k] : Nat)) from dm);clear dm
    have cK : Hid (OwnR kHeapRecord base 79 tb wr (Q4 g len cap) (Uk mHeapRecord k0 (ps.take k) ++ ps[k] :: ps.drop (k + 1))) := by
     have h := HO.out;rw [jaf _ _ _ _ aF] at h;exact h
    have bH : ∀ e : EHeapRecord, Hid (len = (Uk mHeapRecord k0 (ps.take k) ++ e :: ps.drop (k + 1)).length) := fun e => by have hl := HL.out; simp [Hid, Ua]; omega
    have iT : Hid ((Uk mHeapRecord k0 (ps.take k)).length = k) := by have hl := HL.out; simp [Hid, Ua]; omega
    have gn : wr.cell? ⟨g, k * 2, none⟩ = some (V ps[k].id) := cK.out.cellMid (bH _).out 0 (by decide) _ (by rw [iT.out]; rfl);have fy : wr.cell? ⟨g, k * 2 + 1, none⟩ = some (ps[k].v) := cK.out.cellMid (bH _).out 1 (by decide) _ (by rw [iT.out]; rfl);have fr := HO.out.frozen (by rw [Xw]; exact HL.out.symm);have lW : Hid (OwnR kHeapRecord base 79 tb (wr.setCell ⟨g, k * 2, none⟩ (V (c))) (Q4 g len cap) (Uk mHeapRecord k0 (ps.take k) ++ ⟨c, ps[k].v, ps[k].bs⟩ :: ps.drop (k + 1))) := cK.out.set (p' := ⟨c, ps[k].v, ps[k].bs⟩) (bH _).out 0 (V (c)) (by decide) rfl rfl rfl (k * 2) (by first | (rw [iT.out]; done) | (rw [iT.out]; rfl))
    go_wp2_with fail
    refine (V5 base ps[k].v ps[k].bs (c + 1) _ (by omega) (by omega) (by omega) (lW.out.data ⟨c, ps[k].v, ps[k].bs⟩ (by simp))).mono ?_;rintro e w1 ⟨rfl, ho, af⟩;have Es : Hid (OwnR kHeapRecord base 79 tb w1 (Q4 g len cap) (Uk mHeapRecord k0 (ps.take k) ++ ⟨c, ps[k].v, marks (c + 1) ps[k].bs.length⟩ :: ps.drop (k + 1))) := lW.out.setData (p' := (⟨c, ps[k].v, marks (c + 1) ps[k].bs.length⟩ : EHeapRecord)) af rfl rfl ho;have Pj : ∀ j, w1.frozen? ⟨g, j, none⟩ = false := fun j => Es.out.frozen (bH _).out j
    have dV : Hid (OwnR kHeapRecord base 79 tb w1 (Q4 g len cap) (Wj mHeapRecord k0 ps (k + 1))) := by
     rw [YE _ _ _ _ aF, ← HC.out];exact Es.out
    have ax : Hid (Kept (Uc kHeapRecord (Q4 g len cap) ps) w w1) := ((HK.out.setCell (p := ⟨g, k * 2, none⟩) (.inr (.inl rfl)) _).trans (af.mono fun b _ hb => .inr ⟨ps[k], List.getElem_mem _, hb⟩));clear ho af HO cK lW gn fy;go_wp2;go_roundw
    case rel =>
     exact ⟨k + 1, c + 1 + (ps[k].bs.length : Int), by omega, by go_num, rfl, by unfold Hid; rw [eo.out, ← HC.out]; simp only [mHeapRecord]; omega, dV, ax⟩
    case measure => simp [intOf]; omega
   ·go_wp2
    go_ret
    obtain rfl : k = len := by omega
    have hl := HL.out;have hc := HC.out;have ho := HO.out;rw [← hl, List.take_length] at hc;rw [← hl, Zl, hl] at ho;exact ⟨Yh hc, ho, HK.out⟩
theorem Yq {tb : TypeId} (base : Nat) (va : Value) (ps : List EHeapRecord) (k0 : Int) (w : World) (h0 : 0 ≤ k0) (h1 : Ug mHeapRecord k0 ps ≤ 1125899906842624) (hn : ps.length ≤ 1125899906842624)
  (ha : OwnR kHeapRecord base 79 tb w va (Uk mHeapRecord k0 ps)) :
  Calls Tryz.prog 44 #[va, V k0] w fun e w' => e = .returned (V (Ug mHeapRecord k0 ps)) ∧ w' = w := by
 by_cases hz : ps.length = 0
 ·obtain rfl : ps = [] := List.length_eq_zero_iff.1 hz
  obtain ⟨aa, ca, rfl⟩ : ∃ aa ca, va = .slice aa 0 ca := by rcases ha.form with ⟨rfl, _⟩ | ⟨g, cap, rfl, _⟩ <;> exact ⟨_, _, rfl⟩
  clear ha hn hz h1
  go_enter Tryz.func44, Tryz.ntmps44
  go_wp2;refine wp_loop_rounds 1 ?_;rw [rounds_succ];go_wp2;go_ret;exact ⟨by simp [Ug], rfl⟩
 ·obtain ⟨g, cap, rfl⟩ : ∃ g cap, va = Q4 g ps.length cap := by
   rcases ha.form with ⟨_, h⟩ | ⟨g, cap, h, _⟩
   ·have := congrArg List.length h; simp [Ua] at this; simp [this] at hz
   ·exact ⟨g, cap, by rw [h, Ua]⟩
  have H1 : Hid (Ug mHeapRecord k0 ps ≤ 1125899906842624) := h1;have HA : Hid (OwnR kHeapRecord base 79 tb w (Q4 g ps.length cap) (Uk mHeapRecord k0 ps)) := ha;clear h1 ha;generalize hl : ps.length = len at hn hz HA ⊢;have HL : Hid (ps.length = len) := hl;clear hl
  go_enter Tryz.func44, Tryz.ntmps44
  go_wp2
  go_loop [1, 5] (fun v i => ∃ (k : Nat) (c : Int), k ≤ len ∧ i = V k ∧ v = V c ∧ Hid (c = Ug mHeapRecord k0 (ps.take k))) (fun _ i => len - (intOf i).toNat)
  case atStart => exact ⟨0, k0, Nat.zero_le _, rfl, rfl, rfl⟩
  case round =>
   obtain ⟨k, c, hk, rfl, rfl, HC⟩ := hrel
   by_cases aG : k < len
   ·have aF : k < ps.length := by rw [HL.out]; exact aG
    have lN : k < (Uk mHeapRecord k0 ps).length := by rw [Ua]; exact aF
    have gn : w.cell? ⟨g, k * 2, none⟩ = some (V (c)) := by have h := HA.out.cell (by rw [Ua]; exact HL.out.symm) k 0 lN (by decide); rw [U4 _ _ _ _ aF, ← HC.out] at h; exact h
    have fy : w.cell? ⟨g, k * 2 + 1, none⟩ = some (ps[k].v) := by have h := HA.out.cell (by rw [Ua]; exact HL.out.symm) k 1 lN (by decide); rw [U4 _ _ _ _ aF, ← HC.out] at h; exact h
    have hd := HA.out.data _ (List.getElem_mem lN);rw [U4 _ _ _ _ aF, ← HC.out] at hd;have HD : Hid (Own base tb .u8 w ps[k].v (marks (c + 1) ps[k].bs.length)) := hd
    have oV : k0 ≤ c := by rw [HC.out]; exact Vu _ _ _
    have dm := Wx mHeapRecord k0 ps k aF
    have li : c + 1 + ps[k].bs.length ≤ 1125899906842624 := by have h2 := Vv mHeapRecord k0 ps (k + 1); have h3 := H1.out; have h4 := HC.out; simp only [mHeapRecord] at dm; simp only [mHeapRecord] at h2 h3 h4; omega
    have eo := (show Hid (Ug mHeapRecord k0 (ps.take (k + 1)) = Ug mHeapRecord k0 (ps.take k) + (mHeapRecord.sz ps[k] : Nat)) from dm);clear hd dm
    go_wp2_with fail
    refine (Yt base ps[k].v ps[k].bs.length (c + 1) _ (by omega) (by omega) (by omega) HD.out).mono ?_;rintro e w1 ⟨rfl, rfl⟩;go_wp2;go_round
    case rel => exact ⟨k + 1, c + 1 + (ps[k].bs.length : Int), by omega, by go_num, rfl, by unfold Hid; rw [eo.out, ← HC.out]; simp only [mHeapRecord]; omega⟩
    case measure => simp [intOf]; omega
   ·go_wp2
    go_ret
    obtain rfl : k = len := by omega
    have hl := HL.out;have hc := HC.out;rw [← hl, List.take_length] at hc;exact ⟨Yh hc, rfl⟩
theorem Zp (id : Int) (v : Value) (bs : List Int) (w : World) (hn : bs.length ≤ 1099511627776) (hv : Rd .u8 w v bs) :
  Calls Tryz.prog 29 #[.agg #[V id, v]] w fun e w' => ∃ g, e = .returned (.agg #[V id, Q4 g bs.length bs.length]) ∧ w.heap.size ≤ g ∧ Own 0 5 .u8 w' (Q4 g bs.length bs.length) bs ∧ Same w w' := by
 obtain ⟨a, c, rfl⟩ := hv.form;have HV := (show Hid (Rd .u8 w _ bs) from hv);clear hv;have b0 : Blk (((w.alloc (.cells #[V id, .slice a bs.length c] 54)).alloc (.cells #[V 0, V0] 79)).alloc (.cells #[V id, V0] 79)) w.heap.size 54 [V id, .slice a bs.length c] := ((Blk.newL w [V id, .slice a bs.length c] 54).same (kZ0.alloc _)).same (kZ0.alloc _);have b1 : Blk (((w.alloc (.cells #[V id, .slice a bs.length c] 54)).alloc (.cells #[V 0, V0] 79)).alloc (.cells #[V id, V0] 79)) (w.heap.size + 1) 79 [V 0, V0] := (Blk.newB w [V id, .slice a bs.length c] 54 [V 0, V0] 79).same (kZ0.alloc _)
 have b2 : Blk (((w.alloc (.cells #[V id, .slice a bs.length c] 54)).alloc (.cells #[V 0, V0] 79)).alloc (.cells #[V id, V0] 79)) (w.heap.size + 1 + 1) 79 [V id, V0] := by have h := Blk.newL ((w.alloc (.cells #[V id, .slice a bs.length c] 54)).alloc (.cells #[V 0, V0] 79)) [V id, V0] 79; rwa [World.size_alloc, World.size_alloc] at h
 go_enter Tryz.func29, Tryz.ntmps29
 go_wp2_with fail
 refine (XV _ bs _ hn (HV.out.same (((kZ0.alloc _).alloc _).alloc _))).mono ?_;rintro e w1 ⟨g, rfl, hg, ho, hk⟩;simp only [World.size_alloc] at hg;have HO := (show Hid (Own 0 5 .u8 w1 _ bs) from ho);have HK : Hid (Same w w1) := (((kZ0.alloc _).alloc _).alloc _).trans hk;have z0 : w1.cell? ⟨w.heap.size + 1, 0, none⟩ = some (V 0) := (b1.same hk).cell 0;have z1 : w1.cell? ⟨w.heap.size + 1, 1, none⟩ = some (V0) := (b1.same hk).cell 1;have o0 : w1.cell? ⟨w.heap.size + 1 + 1, 0, none⟩ = some (V id) := (b2.same hk).cell 0;have o1 : w1.cell? ⟨w.heap.size + 1 + 1, 1, none⟩ = some (V0) := (b2.same hk).cell 1;have f1 := (b1.same hk).frozen;have f2 := (b2.same hk).frozen;have aT : w.heap.size + 1 + 1 < w1.heap.size := (b2.same hk).lt;clear ho hk b0 b1 b2;go_wp2;refine bodyPost_ret (v := .agg #[V id, Q4 g bs.length bs.length]) (by simp [results, Tryz.results29, go_sem, z0, z1]) rfl ⟨g, rfl, by omega, ?_, ?_⟩
 ·refine HO.out.kept (R := fun b => b = w.heap.size + 1 ∨ b = w.heap.size + 1 + 1) ?_ (fun b hb e => by simp [Value.ownBlock] at hb; omega)
  (iterate 3 refine Kept.setCell (R := fun b => b = w.heap.size + 1 ∨ b = w.heap.size + 1 + 1) ?_ (by first | exact .inr (.inl rfl) | exact .inr (.inr rfl)) _)
  exact kZ0
 ·(iterate 3 refine Kept.setCell ?_ (by first | exact .inl (Nat.le_succ _) | exact .inl (Nat.le_succ_of_le (Nat.le_succ _))) _)
  exact HK.out
def UB : EHeapRecord := ⟨0, V0, []⟩
theorem WX (v : Value) (ps : List EHeapRecord) (w : World) (hn : ps.length ≤ 1073741824) (hs : ∀ p ∈ ps, p.bs.length ≤ 1099511627776) (hv : RdR kHeapRecord w v ps) :
  Calls Tryz.prog 9 #[v] w fun e w' => ∃ g qs, e = .returned (Q4 g ps.length ps.length) ∧ jZ9 qs = jZ9 ps ∧ (∀ b, Uc kHeapRecord (Q4 g ps.length ps.length) qs b → w.heap.size ≤ b) ∧
   OwnR kHeapRecord 0 79 5 w' (Q4 g ps.length ps.length) qs ∧ Same w w' := by
 obtain ⟨i0, hi, br, aT, bv⟩ := info_parts Tryz.infoRHeapRecord
 rcases hv.row with ⟨rfl, a, c, rfl⟩ | ⟨b, off, c, rfl, hc⟩
 ·clear hv hn hs
  go_enter Tryz.func9, Tryz.ntmps9
  go_wp2_with (at_make; refine wpList_make_full _ rfl (.tmp 6) (.tmp 6) 30 rfl 0 79 i0 (.agg #[V 0, V0]) 2 Tryz.underlying30 hi br aT .i64 .i64 _ _ 0 rfl rfl (by simp) (by simp) (by simp) (by simp) (Nat.zero_le _) ?_; intro w1 aK aC; have HO : Hid (OwnR kHeapRecord 0 79 5 w1 (.slice (some ⟨w.heap.size, 0, none⟩) 0 0) []) := Wy (K := kHeapRecord) (zp := UB) (z := .agg #[V 0, V0]) (by decide) rfl rfl rfl (n := 0) (by first | exact aK | simpa [kHeapRecord] using aK); have HK : Hid (Same w w1) := Kept.of_grown aC (fun k e => by cases e); clear aK aC)
  refine wp_loop_rounds 1 ?_;rw [rounds_succ];go_wp2;go_ret;refine ⟨w.heap.size, [], rfl, rfl, fun b hb => ?_, HO.out, HK.out⟩
  rcases hb with hb | ⟨p, hp, _⟩
  ·simp [Value.ownBlock] at hb; omega
  ·simp at hp
 ·have HP : Hid (RdR kHeapRecord w (.slice (some ⟨b, off, none⟩) ps.length c) ps) := hv
  have HC : Hid (∀ j i, (h : j < ps.length) → i < 2 → w.cell? ⟨b, off + (j * 2 + i), none⟩ = (kHeapRecord.cells ps[j])[i]?) := hc;have HS : Hid (∀ p ∈ ps, p.bs.length ≤ 1099511627776) := hs;clear hc hv hs;generalize hl : ps.length = len at hn HP ⊢;have HL : Hid (ps.length = len) := hl;clear hl
  go_enter Tryz.func9, Tryz.ntmps9
  go_wp2_with (at_make; refine wpList_make_full _ rfl (.tmp 6) (.tmp 6) 30 rfl 0 79 i0 (.agg #[V 0, V0]) 2 Tryz.underlying30 hi br aT .i64 .i64 _ _ len rfl rfl (by simp) (by simp) (by rw [bv]; omega) (by unfold maxLen; omega) (Nat.zero_le _) ?_; intro w1 aK aC; have HO : Hid (OwnR kHeapRecord 0 79 5 w1 (.slice (some ⟨w.heap.size, 0, none⟩) len len) (List.replicate len UB)) := Wy (K := kHeapRecord) (zp := UB) (z := .agg #[V 0, V0]) (by decide) rfl rfl rfl (by first | exact aK | simpa [kHeapRecord] using aK); have HK : Hid (Same w w1) := Kept.of_grown aC (fun k e => by cases e); clear aK aC)
  go_loopw [4] (fun i wr => ∃ (k : Nat) (qs : List EHeapRecord), k ≤ len ∧ i = V k ∧ qs.length = k ∧ Hid (jZ9 qs = jZ9 (ps.take k)) ∧ Hid (∀ b, (∃ p ∈ qs, (kHeapRecord.v p).ownBlock = some b) → w.heap.size ≤ b) ∧ Hid (OwnR kHeapRecord 0 79 5 wr (.slice (some ⟨w.heap.size, 0, none⟩) len len) (qs ++ List.replicate (len - k) UB)) ∧ Hid (Same w wr)) (fun i _ => len - (intOf i).toNat)
  case atStart => exact ⟨0, [], Nat.zero_le _, rfl, rfl, rfl, fun b ⟨p, hp, _⟩ => by simp at hp, by simpa using HO, HK⟩
  case round =>
   obtain ⟨k, qs, hk, rfl, nj, HQ, HF, HOr, cu⟩ := hrel;have bV : Hid (qs.length = k) := nj;clear nj
   by_cases aG : k < len
   ·have aF : k < ps.length := by rw [HL.out]; exact aG
    have lu : Hid (List.replicate (len - k) UB = UB :: List.replicate (len - (k + 1)) UB) := by unfold Hid; rw [show len - k = len - (k + 1) + 1 from by omega, List.replicate_succ]
    have yj : Rd .u8 w ps[k].v ps[k].bs := HP.out.data _ (List.getElem_mem aF);obtain ⟨a1, c1, e1⟩ := yj.form;have hd := yj.same cu.out;have d9 := HS.out _ (List.getElem_mem aF);have q0 : wr.cell? ⟨b, off + k * 2, none⟩ = some (V ps[k].id) := cu.out.cellOf (p := ⟨b, off + k * 2, none⟩) (by have h := HC.out k 0 aF (by decide); exact h) id;have q1 : wr.cell? ⟨b, off + k * 2 + 1, none⟩ = some (ps[k].v) := cu.out.cellOf (p := ⟨b, off + k * 2 + 1, none⟩) (by have h := HC.out k 1 aF (by decide); rw [← Nat.add_assoc] at h; exact h) id;rw [e1] at q1 hd;have HD := (show Hid (Rd .u8 wr _ ps[k].bs) from hd)
    have bH : Hid (len = (qs ++ UB :: List.replicate (len - (k + 1)) UB).length) := by unfold Hid; simp [bV.out]; omega
    clear e1 hd yj
    go_wp2_with fail
    refine (Zp _ _ ps[k].bs _ d9 HD.out).mono ?_;rintro e w2 ⟨g, rfl, hg, ho, ae⟩
    have cY : Hid (OwnR kHeapRecord 0 79 5 w2 (.slice (some ⟨w.heap.size, 0, none⟩) len len) (qs ++ UB :: List.replicate (len - (k + 1)) UB)) := by have h := HOr.out.same ae; rw [lu.out] at h; exact h
    have r0 : w2.cell? ⟨w.heap.size, k * 2, none⟩ = some (V 0) := cY.out.cellMid bH.out 0 (by decide) _ (by rw [bV.out]; rfl);have r1 : w2.cell? ⟨w.heap.size, k * 2 + 1, none⟩ = some (V0) := cY.out.cellMid bH.out 1 (by decide) _ (by rw [bV.out]; rfl);have rf : ∀ j, w2.frozen? ⟨w.heap.size, j, none⟩ = false := fun j => cY.out.frozen bH.out j;have ap : Hid (Same w w2) := cu.out.trans ae;have dV : Hid (Own 0 5 .u8 w2 (Q4 g ps[k].bs.length ps[k].bs.length) ps[k].bs) := ho;have Px : w.heap.size ≤ g := Nat.le_trans cu.out.size hg;have HG : Hid (wr.heap.size ≤ g) := hg
    have eA : Hid (OwnR kHeapRecord 0 79 5 (w2.setCells w.heap.size (k * 2) (kHeapRecord.cells ⟨ps[k].id, Q4 g ps[k].bs.length ps[k].bs.length, ps[k].bs⟩)) (.slice (some ⟨w.heap.size, 0, none⟩) len len) (qs ++ (⟨ps[k].id, Q4 g ps[k].bs.length ps[k].bs.length, ps[k].bs⟩ : EHeapRecord) :: List.replicate (len - (k + 1)) UB)) := cY.out.setElem (p' := (⟨ps[k].id, Q4 g ps[k].bs.length ps[k].bs.length, ps[k].bs⟩ : EHeapRecord)) bH.out (k * 2) (by rw [bV.out]; rfl) dV.out (fun b hb hf => by
     have h1 : b = g := (Option.some.inj hb : g = b).symm
     have h2 : Uc kHeapRecord (.slice (some ⟨w.heap.size, 0, none⟩) len len) (qs ++ List.replicate (len - k) UB) b := by rw [lu.out]; exact hf
     have h3 := (HOr.out.lt b h2).2;have h4 := HG.out
     omega)
    clear ho ae hg q0 q1;go_wp2;go_roundw
    case rel =>
     refine ⟨k + 1, qs ++ [⟨ps[k].id, Q4 g ps[k].bs.length ps[k].bs.length, ps[k].bs⟩], by omega, by go_num, by simp [bV.out], ?_, ?_, ?_, ?_⟩
     ·have h1 := HQ.out
      unfold Hid;rw [List.take_succ_eq_append_getElem aF];simp only [jZ9, List.map_append] at h1 ⊢;rw [h1]; rfl
     ·rintro b ⟨p, hp, hb⟩
      rcases List.mem_append.1 hp with hp | hp
      ·exact HF.out b ⟨p, hp, hb⟩
      ·obtain rfl := List.mem_singleton.1 hp
       have h : g = b := Option.some.inj hb;omega
     ·rw [List.append_assoc]
      exact eA
     ·(iterate 2 refine Kept.setCell ?_ (.inl (Nat.le_refl _)) _)
      exact ap.out
    case measure => simp [intOf]; omega
   ·go_wp2
    go_ret
    obtain rfl : k = len := by omega
    have h := HOr.out;have h2 := HL.out;have h3 := HQ.out;rw [Nat.sub_self, List.replicate_zero, List.append_nil] at h;rw [← h2, List.take_length] at h3;refine ⟨w.heap.size, qs, rfl, h3, fun b hb => ?_, h, cu.out⟩
    rcases hb with hb | hb
    ·simp [Value.ownBlock] at hb; omega
    ·exact HF.out b hb
structure EAn where
 cd : Int
 tx : Int
 rid : Int
 dv : Value
 db : List Int
 rv : Value
 rs : List EHeapRecord
 us : Int
abbrev jg9 := Int × Int × Int × List Int × List (Int × List Int) × Int
def EAn.dat (x : EAn) : jg9 := (x.cd, x.tx, x.rid, x.db, jZ9 x.rs, x.us)
def kAn : RowK EAn := ⟨6, fun x => [V x.cd, V x.tx, V x.rid, x.dv, x.rv, V x.us], fun _ => rfl, EAn.dv, EAn.db⟩
def zAn : EAn := ⟨0, 0, 0, V0, [], V0, [], 0⟩
def Uv (xs : List EAn) : List jg9 := xs.map EAn.dat
theorem Uz (xs : List EAn) : (Uv xs).length = xs.length := by simp [Uv]
theorem jfN {ps qs : List EAn} (h : Uv ps = Uv qs) (k : Nat) (h1 : k < ps.length) (h2 : k < qs.length) : ps[k].dat = qs[k].dat := by
 have e : (Uv ps)[k]'(by rw [Uz]; exact h1) = (Uv qs)[k]'(by rw [Uz]; exact h2) := by simp only [h]
 simpa [Uv] using e
def EAn.szs (x : EAn) : Int := (x.db.length : Int) + (x.rs.length : Int) + (TW x.rs : Int)
theorem EAn.szs_le (x : EAn) : 0 ≤ x.szs := by unfold EAn.szs; omega
theorem EAn.szs_dat {x y : EAn} (h : y.dat = x.dat) : y.szs = x.szs := by
 simp only [EAn.dat, Prod.mk.injEq] at h;obtain ⟨_, _, _, h4, h5, _⟩ := h;unfold EAn.szs;rw [h4, VA h5, ← TQ y.rs, h5, TQ]
def UU : List EAn → Int
 | [] => 0
 | p :: ps => p.szs + UU ps
theorem jaW (ps qs : List EAn) : UU (ps ++ qs) = UU ps + UU qs := by
 induction ps with
 | nil => simp [UU]
 | cons p ps ih => simp only [List.cons_append, UU, ih]; omega
theorem jco (ps : List EAn) (j : Nat) (h : j < ps.length) : UU (ps.take (j + 1)) = UU (ps.take j) + ps[j].szs := by
 rw [List.take_succ_eq_append_getElem h, jaW];simp [UU]
theorem Yx (ps : List EAn) : 0 ≤ UU ps := by
 induction ps with
 | nil => exact Int.le_refl _
 | cons p ps ih => have := p.szs_le; simp only [UU]; omega
theorem YG (ps : List EAn) (p : EAn) (h : p ∈ ps) : p.szs ≤ UU ps := by
 induction ps with
 | nil => simp at h
 | cons q ps ih =>
  have h1 := Yx ps;have h2 := q.szs_le
  rcases List.mem_cons.1 h with rfl | h
  ·simp only [UU]; omega
  ·have := ih h; simp only [UU]; omega
theorem jai : ∀ {ps qs : List EAn}, Uv qs = Uv ps → UU qs = UU ps
 | [], [], _ => rfl
 | [], _ :: _, h => by simp [Uv] at h
 | _ :: _, [], h => by simp [Uv] at h
 | p :: ps, q :: qs, h => by
  simp only [Uv, List.map_cons, List.cons.injEq] at h;simp only [UU];rw [EAn.szs_dat h.1, jai h.2]
structure RdAn (w : World) (v : Value) (xs : List EAn) : Prop where
 row : RdR kAn w v xs
 recs : ∀ x ∈ xs, RdR kHeapRecord w x.rv x.rs
structure OwnAn (w : World) (v : Value) (xs : List EAn) : Prop where
 row : OwnR kAn 0 73 5 w v xs
 recs : ∀ x ∈ xs, OwnR kHeapRecord 0 79 5 w x.rv x.rs
theorem RdAn.same {w w' : World} {v : Value} {xs : List EAn} (h : RdAn w v xs) (hk : Same w w') : RdAn w' v xs := ⟨h.row.same hk, fun x hx => (h.recs x hx).same hk⟩
theorem OwnAn.same {w w' : World} {v : Value} {xs : List EAn} (h : OwnAn w v xs) (hk : Same w w') : OwnAn w' v xs := ⟨h.row.same hk, fun x hx => (h.recs x hx).same hk⟩
def Xh (v : Value) (xs : List EAn) (b : Nat) : Prop := v.ownBlock = some b ∨ ∃ x ∈ xs, x.dv.ownBlock = some b ∨ Uc kHeapRecord x.rv x.rs b
theorem OwnAn.kept {R : Nat → Prop} {w w' : World} {v : Value} {xs : List EAn} (h : OwnAn w v xs) (hk : Kept R w w') (hr : ∀ b, Xh v xs b → ¬ R b) : OwnAn w' v xs :=
 ⟨h.row.kept hk (fun b hb => hr b (by rcases hb with hb | ⟨x, hx, hb⟩; (exact .inl hb); exact .inr ⟨x, hx, .inl hb⟩)), fun x hx => (h.recs x hx).kept hk (fun b hb => hr b (.inr ⟨x, hx, .inr hb⟩))⟩
theorem OwnAn.rd {w : World} {v : Value} {xs : List EAn} (h : OwnAn w v xs) : RdAn w v xs := ⟨h.row.rd, fun x hx => (h.recs x hx).rd⟩
theorem RdAn.form {w : World} {v : Value} {xs : List EAn} (h : RdAn w v xs) : ∃ a c, v = .slice a xs.length c := h.row.form
theorem OwnR.slice {E : Type} {K : RowK E} {base : Nat} {tw tb : TypeId} {w : World} {v : Value} {ps : List E} (h : OwnR K base tw tb w v ps) : ∃ a c, v = .slice a ps.length c := by
 rcases h.form with ⟨rfl, rfl⟩ | ⟨g, cap, rfl, _⟩ <;> exact ⟨_, _, rfl⟩
theorem jbI (x : EAn) (left : Int) (w : World) (h0 : 0 ≤ left) (h1 : left ≤ 1048576) (hd : Rd .u8 w x.dv x.db) (hr : RdR kHeapRecord w x.rv x.rs) :
  Calls Tryz.prog 24 #[.agg #[V x.cd, V x.tx, V x.rid, x.dv, x.rv, V x.us], V left] w fun e w' => ∃ r : Int, e = .returned (V r) ∧ (r = -1 ∨ (r = left - x.szs ∧ 0 ≤ r)) ∧ Same w w' := by
 obtain ⟨cd, tx, rid, dv, db, rv, rs, us⟩ := x;dsimp only at hd hr ⊢;obtain ⟨a1, c1, rfl⟩ := hd.form;obtain ⟨a2, c2, rfl⟩ := hr.form;have hm := hd.1;have HR := hid hr;have ay := hid (Uj w [V cd, V tx, V rid, .slice a1 db.length c1, .slice a2 rs.length c2, V us] 61);have b0 := Blk.newL w [V cd, V tx, V rid, .slice a1 db.length c1, .slice a2 rs.length c2, V us] 61;have fm := hid b0;clear hd hr b0
 go_enter Tryz.func24, Tryz.ntmps24
 go_wp2_with fail
 refine (XW _ _ _ left _ (by omega) (by omega) hm).mono ?_;rintro e w1 ⟨r1, rfl, hr, rfl⟩
 replace hr : r1 = -1 ∨ (r1 = left - db.length ∧ 0 ≤ r1) := by omega
 rcases hr with rfl | ⟨hr, lG⟩
 ·go_wp2
  go_ret;exact ⟨_, rfl, .inl rfl, ay.out⟩
 have Bn : r1 ≤ 1048576 := by omega
 have rG := (show Hid (r1 = left - db.length) from hr);clear hr;have k2 := WW _ rs r1 _ lG Bn (HR.out.same ay.out)
 go_wp2_with fail
 refine k2.mono ?_;rintro e w2 ⟨r2, rfl, hr, ae⟩;have ap := hid (ay.out.trans ae);clear ae k2
 rcases hr with rfl | ⟨hr, dZ⟩
 ·go_wp2
  go_ret;exact ⟨_, rfl, .inl rfl, ap.out⟩
 have vJ := (show Hid (r2 = r1 - rs.length - TW rs) from hr);clear hr;go_wp2;go_ret;exact ⟨_, rfl, .inr ⟨by have e1 := rG.out; have e2 := vJ.out; simp only [EAn.szs]; omega, dZ⟩, ap.out⟩
theorem jbJ (x y : EAn) (w : World) (hn : x.szs ≤ 1073741824) (hd : x.dat = y.dat) (ha : Own 0 5 .u8 w x.dv x.db) (hb : Own 0 5 .u8 w y.dv y.db) (fu : OwnR kHeapRecord 0 79 5 w x.rv x.rs) (gG : OwnR kHeapRecord 0 79 5 w y.rv y.rs) :
  Calls Tryz.prog 40 #[.agg #[V x.cd, V x.tx, V x.rid, x.dv, x.rv, V x.us], .agg #[V y.cd, V y.tx, V y.rid, y.dv, y.rv, V y.us]] w fun e w' => e = .returned (.bool true) ∧ Same w w' := by
 obtain ⟨cd, tx, rid, dv, db, rv, rs, us⟩ := x;obtain ⟨TM, TA, O9, Tb, Nx, TG, Cn, SN⟩ := y;simp only [EAn.dat, Prod.mk.injEq] at hd;obtain ⟨rfl, rfl, rfl, rfl, ig, rfl⟩ := hd;simp only [EAn.szs] at hn;dsimp only at ha hb fu gG ⊢;obtain ⟨a1, c1, rfl⟩ := ha.rd.form;obtain ⟨a2, c2, rfl⟩ := hb.rd.form;obtain ⟨a3, c3, rfl⟩ := fu.slice;obtain ⟨a4, c4, rfl⟩ := gG.slice;have HA := hid ha;have HB := hid hb;have R2 := hid fu;have tm := hid gG;have qM := hid ig;have ay := (show Hid (Same w ((w.alloc (.cells #[V cd, V tx, V rid, .slice a1 db.length c1, .slice a3 rs.length c3, V us] 73)).alloc (.cells #[V cd, V tx, V rid, .slice a2 db.length c2, .slice a4 Cn.length c4, V us] 73))) from (kZ0.alloc _).alloc _);have gh := hid (Blk.newA w [V cd, V tx, V rid, .slice a1 db.length c1, .slice a3 rs.length c3, V us] 73 [V cd, V tx, V rid, .slice a2 db.length c2, .slice a4 Cn.length c4, V us] 73);have ie := hid (Blk.newB w [V cd, V tx, V rid, .slice a1 db.length c1, .slice a3 rs.length c3, V us] 73 [V cd, V tx, V rid, .slice a2 db.length c2, .slice a4 Cn.length c4, V us] 73);clear ha hb fu gG ig
 go_enter Tryz.func40, Tryz.ntmps40
 go_wp2_with fail
 refine (WV 0 _ _ db _ (by omega) (HA.out.same ay.out) (HB.out.same ay.out)).mono ?_;rintro e w1 ⟨rfl, nn, nV⟩
 have hk : Same ((w.alloc (.cells #[V cd, V tx, V rid, .slice a1 db.length c1, .slice a3 rs.length c3, V us] 73)).alloc (.cells #[V cd, V tx, V rid, .slice a2 db.length c2, .slice a4 Cn.length c4, V us] 73)) w1 := by rw [nV]; exact kZ0.drewN _
 clear nV;have ao := hid (ay.out.trans hk);have gk := hid (gh.out.same hk);have Gx := hid (ie.out.same hk);clear hk;have p4 := gk.out.cell 4;have q4 := Gx.out.cell 4;dsimp only [List.getElem?_cons_zero, List.getElem?_cons_succ] at p4 q4
 go_wp2_with fail
 refine (VR 0 _ _ rs Cn _ (by omega) qM.out (fun p hp => by have h1 := UW rs p hp; omega) (R2.out.same ao.out) (tm.out.same ao.out)).mono ?_;rintro e w2 ⟨rfl, hk⟩;have ap := hid (ao.out.trans hk);have p5 := (gk.out.same hk).cell 5;have q5 := (Gx.out.same hk).cell 5;dsimp only [List.getElem?_cons_zero, List.getElem?_cons_succ] at p5 q5;clear hk;go_wp2;go_ret;exact ⟨rfl, ap.out⟩
theorem jha {cs : List Value} (h : cs.length = 6) : ∃ c0 c1 c2 c3 c4 c5, cs = [c0, c1, c2, c3, c4, c5] := by
 match cs, h with
 | [c0, c1, c2, c3, c4, c5], _ => exact ⟨c0, c1, c2, c3, c4, c5, rfl⟩
theorem jhs {cs : List Value} (h : cs.length = 2) : ∃ c0 c1, cs = [c0, c1] := by
 match cs, h with
 | [c0, c1], _ => exact ⟨c0, c1, rfl⟩
section
variable {H : Type} {enc : TypeId × Value → H} {w : World} {base : Nat} {spare : Nat → Bool} {held : Bool}
theorem jcp (n : Nat) (cs : List Value) (x : DataW H × List MemPlace) (hl : cs.length = 2) (h : DataW.trod enc Tryz.prog w base spare held n 54 cs = some x) :
  ∃ p : EHeapRecord, cs = kHeapRecord.cells p ∧ Rd .u8 w (kHeapRecord.v p) (kHeapRecord.bs p) ∧ IsB p.bs := by
 obtain ⟨c0, c1, rfl⟩ := jhs hl;obtain ⟨xs, n, _, _, _, dF, hg⟩ := DataW.trod_struct Tryz.underlying54 h;have g0 : ∃ x, DataW.trod enc Tryz.prog w base spare held n 2 [c0] = some x := ⟨xs[0]'(by rw [dF]; decide), by have h := hg 0 _ rfl; rw [List.getElem?_eq_getElem (by rw [dF]; decide)] at h; exact h⟩;obtain ⟨x0, g0⟩ := g0;obtain ⟨z0, e0, _, B0⟩ := DataW.trod_int Tryz.underlying2 g0;simp at e0;subst e0;have g1 : ∃ x, DataW.trod enc Tryz.prog w base spare held n 52 [c1] = some x := ⟨xs[1]'(by rw [dF]; decide), by have h := hg 1 _ rfl; rw [List.getElem?_eq_getElem (by rw [dF]; decide)] at h; exact h⟩;obtain ⟨x1, g1⟩ := g1;obtain ⟨b1, r1, B1⟩ := Xv Tryz.underlying52 Tryz.underlying5 (by kernel_rfl) g1;exact ⟨⟨z0, c1, b1⟩, rfl, r1, fun x hx => by have := B1 x hx; exact ⟨this.1, this.2⟩⟩
theorem jeV (n : Nat) (cs : List Value) (x : DataW H × List MemPlace) (hl : cs.length = 6) (h : DataW.trod enc Tryz.prog w base spare held n 58 cs = some x) :
  ∃ p : StStep, cs = kSp.cells p ∧ Rd .u8 w (kSp.v p) (kSp.bs p) ∧ (StStep.rd w p ∧ IsB p.data.bs) := by
 obtain ⟨c0, c1, c2, c3, c4, c5, rfl⟩ := jha hl;obtain ⟨xs, n, _, _, _, dF, hg⟩ := DataW.trod_struct Tryz.underlying58 h;have g0 : ∃ x, DataW.trod enc Tryz.prog w base spare held n 2 [c0] = some x := ⟨xs[0]'(by rw [dF]; decide), by have h := hg 0 _ rfl; rw [List.getElem?_eq_getElem (by rw [dF]; decide)] at h; exact h⟩;obtain ⟨x0, g0⟩ := g0;obtain ⟨z0, e0, _, B0⟩ := DataW.trod_int Tryz.underlying2 g0;simp at e0;subst e0;have g1 : ∃ x, DataW.trod enc Tryz.prog w base spare held n 2 [c1] = some x := ⟨xs[1]'(by rw [dF]; decide), by have h := hg 1 _ rfl; rw [List.getElem?_eq_getElem (by rw [dF]; decide)] at h; exact h⟩;obtain ⟨x1, g1⟩ := g1;obtain ⟨z1, e1, _, B1⟩ := DataW.trod_int Tryz.underlying2 g1;simp at e1;subst e1;have g2 : ∃ x, DataW.trod enc Tryz.prog w base spare held n 2 [c2] = some x := ⟨xs[2]'(by rw [dF]; decide), by have h := hg 2 _ rfl; rw [List.getElem?_eq_getElem (by rw [dF]; decide)] at h; exact h⟩;obtain ⟨x2, g2⟩ := g2;obtain ⟨z2, e2, _, B2⟩ := DataW.trod_int Tryz.underlying2 g2;simp at e2;subst e2;have g3 : ∃ x, DataW.trod enc Tryz.prog w base spare held n 2 [c3] = some x := ⟨xs[3]'(by rw [dF]; decide), by have h := hg 3 _ rfl; rw [List.getElem?_eq_getElem (by rw [dF]; decide)] at h; exact h⟩;obtain ⟨x3, g3⟩ := g3;obtain ⟨z3, e3, _, B3⟩ := DataW.trod_int Tryz.underlying2 g3;simp at e3;subst e3;have g4 : ∃ x, DataW.trod enc Tryz.prog w base spare held n 52 [c4] = some x := ⟨xs[4]'(by rw [dF]; decide), by have h := hg 4 _ rfl; rw [List.getElem?_eq_getElem (by rw [dF]; decide)] at h; exact h⟩;obtain ⟨x4, g4⟩ := g4;obtain ⟨b4, r4, B4⟩ := Xv Tryz.underlying52 Tryz.underlying5 (by kernel_rfl) g4;obtain ⟨a4, k4, rfl⟩ := r4.form;have g5 : ∃ x, DataW.trod enc Tryz.prog w base spare held n 56 [c5] = some x := ⟨xs[5]'(by rw [dF]; decide), by have h := hg 5 _ rfl; rw [List.getElem?_eq_getElem (by rw [dF]; decide)] at h; exact h⟩;obtain ⟨x5, g5⟩ := g5;obtain ⟨b5, r5, B5⟩ := Xv Tryz.underlying56 Tryz.underlying2 (by kernel_rfl) g5;obtain ⟨a5, k5, rfl, f5⟩ := r5.flat;exact ⟨⟨z0, z1, z2, z3, ⟨0, a4, k4, b4⟩, ⟨0, a5, b5.length, k5, b5⟩⟩, rfl, ⟨by simp [kSp], .inl ⟨rfl, none, 0, rfl, fun _ => rfl⟩⟩, ⟨r4, f5⟩, fun x hx => by have := B4 x hx; exact ⟨this.1, this.2⟩⟩
theorem jcq (n : Nat) (cs : List Value) (x : DataW H × List MemPlace) (hl : cs.length = 6) (h : DataW.trod enc Tryz.prog w base spare held n 61 cs = some x) :
  ∃ p : EAn, cs = kAn.cells p ∧ Rd .u8 w (kAn.v p) (kAn.bs p) ∧ (RdR kHeapRecord w p.rv p.rs ∧ (IsB p.db ∧ ∀ r ∈ p.rs, IsB r.bs)) := by
 obtain ⟨c0, c1, c2, c3, c4, c5, rfl⟩ := jha hl;obtain ⟨xs, n, _, _, _, dF, hg⟩ := DataW.trod_struct Tryz.underlying61 h;have g0 : ∃ x, DataW.trod enc Tryz.prog w base spare held n 2 [c0] = some x := ⟨xs[0]'(by rw [dF]; decide), by have h := hg 0 _ rfl; rw [List.getElem?_eq_getElem (by rw [dF]; decide)] at h; exact h⟩;obtain ⟨x0, g0⟩ := g0;obtain ⟨z0, e0, _, B0⟩ := DataW.trod_int Tryz.underlying2 g0;simp at e0;subst e0;have g1 : ∃ x, DataW.trod enc Tryz.prog w base spare held n 2 [c1] = some x := ⟨xs[1]'(by rw [dF]; decide), by have h := hg 1 _ rfl; rw [List.getElem?_eq_getElem (by rw [dF]; decide)] at h; exact h⟩;obtain ⟨x1, g1⟩ := g1;obtain ⟨z1, e1, _, B1⟩ := DataW.trod_int Tryz.underlying2 g1;simp at e1;subst e1;have g2 : ∃ x, DataW.trod enc Tryz.prog w base spare held n 2 [c2] = some x := ⟨xs[2]'(by rw [dF]; decide), by have h := hg 2 _ rfl; rw [List.getElem?_eq_getElem (by rw [dF]; decide)] at h; exact h⟩;obtain ⟨x2, g2⟩ := g2;obtain ⟨z2, e2, _, B2⟩ := DataW.trod_int Tryz.underlying2 g2;simp at e2;subst e2;have g3 : ∃ x, DataW.trod enc Tryz.prog w base spare held n 52 [c3] = some x := ⟨xs[3]'(by rw [dF]; decide), by have h := hg 3 _ rfl; rw [List.getElem?_eq_getElem (by rw [dF]; decide)] at h; exact h⟩;obtain ⟨x3, g3⟩ := g3;obtain ⟨b3, r3, B3⟩ := Xv Tryz.underlying52 Tryz.underlying5 (by kernel_rfl) g3;have g4 : ∃ x, DataW.trod enc Tryz.prog w base spare held n 24 [c4] = some x := ⟨xs[4]'(by rw [dF]; decide), by have h := hg 4 _ rfl; rw [List.getElem?_eq_getElem (by rw [dF]; decide)] at h; exact h⟩;obtain ⟨x4, g4⟩ := g4;have iE : Inhabited EHeapRecord := ⟨⟨0, V0, []⟩⟩;obtain ⟨rs, r4, B4⟩ := Yi kHeapRecord (fun p => IsB p.bs) (by decide) Tryz.underlying24 (by kernel_rfl) (fun n cs x hl h => jcp n cs x hl h) g4;have g5 : ∃ x, DataW.trod enc Tryz.prog w base spare held n 2 [c5] = some x := ⟨xs[5]'(by rw [dF]; decide), by have h := hg 5 _ rfl; rw [List.getElem?_eq_getElem (by rw [dF]; decide)] at h; exact h⟩;obtain ⟨x5, g5⟩ := g5;obtain ⟨z5, e5, _, B5⟩ := DataW.trod_int Tryz.underlying2 g5;simp at e5;subst e5;exact ⟨⟨z0, z1, z2, c3, b3, c4, rs, z5⟩, rfl, r3, r4, ⟨fun x hx => by have := B3 x hx; exact ⟨this.1, this.2⟩, B4⟩⟩
theorem jbK {r : Reach} {b0 : Nat} {v : Value} {d : DataW H} {p : List MemPlace} (hv : Value.okWide Tryz.prog w r b0 24 v) (h : DataW.Trod enc Tryz.prog w base spare held 24 v d p) :
  ∃ ps : List EHeapRecord, RdR kHeapRecord w v ps ∧ ∀ p ∈ ps, IsB p.bs := by
 obtain ⟨fuel, hf⟩ := h;obtain ⟨a, n, c, rfl⟩ := okWide_slice Tryz.underlying24 hv;have iE : Inhabited EHeapRecord := ⟨⟨0, V0, []⟩⟩;exact Yi kHeapRecord (fun p => IsB p.bs) (by decide) Tryz.underlying24 (by kernel_rfl) (fun n cs x hl h => jcp n cs x hl h) hf
theorem jdE {r : Reach} {b0 : Nat} {v : Value} {d : DataW H} {p : List MemPlace} (hv : Value.okWide Tryz.prog w r b0 25 v) (h : DataW.Trod enc Tryz.prog w base spare held 25 v d p) :
  ∃ ps : List StStep, RdSp w v ps ∧ ∀ p ∈ ps, IsB p.data.bs := by
 obtain ⟨fuel, hf⟩ := h;obtain ⟨a, n, c, rfl⟩ := okWide_slice Tryz.underlying25 hv;have iE : Inhabited StStep := ⟨zSp⟩;obtain ⟨ps, h1, h2⟩ := Yi kSp (fun p => StStep.rd w p ∧ IsB p.data.bs) (by decide) Tryz.underlying25 (by kernel_rfl) (fun n cs x hl h => jeV n cs x hl h) hf;exact ⟨ps, ⟨h1, fun p hp => (h2 p hp).1⟩, fun p hp => (h2 p hp).2⟩
theorem jbL {r : Reach} {b0 : Nat} {v : Value} {d : DataW H} {p : List MemPlace} (hv : Value.okWide Tryz.prog w r b0 26 v) (h : DataW.Trod enc Tryz.prog w base spare held 26 v d p) :
  ∃ ps : List EAn, RdAn w v ps ∧ ∀ a ∈ ps, IsB a.db ∧ ∀ r ∈ a.rs, IsB r.bs := by
 obtain ⟨fuel, hf⟩ := h;obtain ⟨a, n, c, rfl⟩ := okWide_slice Tryz.underlying26 hv;have iE : Inhabited EAn := ⟨zAn⟩;obtain ⟨ps, h1, h2⟩ := Yi kAn (fun p => RdR kHeapRecord w p.rv p.rs ∧ (IsB p.db ∧ ∀ r ∈ p.rs, IsB r.bs)) (by decide) Tryz.underlying26 (by kernel_rfl) (fun n cs x hl h => jcq n cs x hl h) hf;exact ⟨ps, ⟨h1, fun p hp => (h2 p hp).1⟩, fun p hp => (h2 p hp).2⟩
end
def inB (v a b : Int) : Bool := decide (a ≤ v) && decide (v ≤ b)
set_option maxRecDepth 100000 in
theorem TV (v a b : Int) (w : World) : Calls Tryz.prog 81 #[V v, V a, V b] w fun e w' => e = .returned (.bool (inB v a b)) ∧ Same w w' := by
 unfold inB
 by_cases h : a ≤ v
 ·by_cases h2 : v ≤ b
  ·go_enter Tryz.func81, Tryz.ntmps81
   go_wp2;go_ret;exact ⟨by simp [h, h2], kZ0⟩
  ·go_enter Tryz.func81, Tryz.ntmps81
   go_wp2;go_ret;exact ⟨by simp [h]; try omega, kZ0⟩
 ·go_enter Tryz.func81, Tryz.ntmps81
  go_wp2;go_ret;exact ⟨by rw [show decide (a ≤ v) = false from by simp; omega]; rfl, kZ0⟩
end Go.Proofs.YtljfcdkhicffcaaGreat
