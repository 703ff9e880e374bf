import Derived.Test.YtbbllmlokddolaaG10
import Derived.Test.YtbbllmlokddolaaG00
import Derived.Deep.CutBlock
import Derived.Deep.DeepCutAuto
namespace Go.Proofs.Ytbbllmlokddolaa
set_option maxRecDepth 100000
set_option maxHeartbeats 16000000
open Go.RowKit
set_option linter.unusedVariables false
set_option linter.unusedSimpArgs false
structure XR (w9 wr : World) (P X : Nat) (cd fr : Int) (xa : Option Addr) (xn xc : Nat) (xh : Int) (xs : List EFrame) (z fa : Int) : Prop where
  kept : Kept (fun b => b = X) w9 wr
  box : Blk wr X 33 [.int .i64 cd, .int .i64 fr, .slice xa xn xc, .int .i64 xh]
  ok : cd = 0 → (1 < z → 0 ≤ fa) ∧ (∃ g', xa = some ⟨g', 0, none⟩) ∧ OwnR kFrame 0 36 5 wr (.slice xa xn xc) xs ∧ (∀ b, footR kFrame (.slice xa xn xc) xs b → b ≠ P ∧ b ≠ X) ∧ poolF xs xh = 0 ∧ xs.length = xn
  no : cd ≠ 0 → xn = 0
theorem XR.same {w9 wr wx : World} {P X : Nat} {cd fr : Int} {xa : Option Addr} {xn xc : Nat} {xh : Int} {xs : List EFrame} {z fa : Int} (h : XR w9 wr P X cd fr xa xn xc xh xs z fa) (hk : Same wr wx) : XR w9 wx P X cd fr xa xn xc xh xs z fa :=
  ⟨h.kept.trans (hk.mono (fun _ _ e => e.elim)), h.box.same hk, fun e => ⟨(h.ok e).1, (h.ok e).2.1, (h.ok e).2.2.1.same hk, (h.ok e).2.2.2⟩, h.no⟩
theorem XR.put {w9 w11 w12 : World} {P X : Nat} {b0 b1 b2 b3 : Value} {cd fr hd : Int} {a : Option Addr} {n c : Nat} {qs : List EFrame} {z fa : Int} (hk9 : Kept (fun b => b = X) w9 w11) (hb : Blk w11 X 33 [b0, b1, b2, b3]) (hP : P < X) (hk : Same w11 w12)
    (hf : ∀ b, footR kFrame (.slice a n c) qs b → w11.heap.size ≤ b) (ho : OwnR kFrame 0 36 5 w12 (.slice a n c) qs) (hl : qs.length = n) (ha : 0 < n → ∃ g, a = some ⟨g, 0, none⟩) (hok : cd = 0 → (1 < z → 0 ≤ fa) ∧ poolF qs hd = 0) (hno : cd ≠ 0 → n = 0) :
    XR w9 ((((w12.setCell ⟨X, 0, none⟩ (.int .i64 cd)).setCell ⟨X, 1, none⟩ (.int .i64 fr)).setCell ⟨X, 2, none⟩ (.slice a n c)).setCell ⟨X, 3, none⟩ (.int .i64 hd)) P X cd fr a n c hd qs z fa := by
  have hkX : Kept (fun b => b = X) w12 ((((w12.setCell ⟨X, 0, none⟩ (.int .i64 cd)).setCell ⟨X, 1, none⟩ (.int .i64 fr)).setCell ⟨X, 2, none⟩ (.slice a n c)).setCell ⟨X, 3, none⟩ (.int .i64 hd)) := ((((Kept.refl (fun b => b = X) w12).setCell (p := ⟨X, 0, none⟩) (.inr rfl) _).setCell (p := ⟨X, 1, none⟩) (.inr rfl) _).setCell (p := ⟨X, 2, none⟩) (.inr rfl) _).setCell (p := ⟨X, 3, none⟩) (.inr rfl) _
  have hXl := hb.lt
  have hff : ∀ b, footR kFrame (.slice a n c) qs b → b ≠ P ∧ b ≠ X := fun b hb2 => by have := hf b hb2; omega
  refine ⟨(hk9.trans (hk.mono (fun _ _ e => e.elim))).trans hkX, ((((hb.same hk).stored 0 _).stored 1 _).stored 2 _).stored 3 _, fun e => ?_, hno⟩
  obtain ⟨h1, h2⟩ := hok e
  have h3 := poolF_len h2
  exact ⟨h1, ha (by omega), ho.kept hkX (fun b hb2 e => (hff b hb2).2 e), hff, h2, hl⟩
theorem call_at {ps qs : List EFrame} {hand page cd fr hd : Int} {X : FD → FD → Prop} (h : CallR ps hand page X cd fr hd (datFrameS qs)) : (cd ≠ 0 ∧ qs.length = 0) ∨ (cd = 0 ∧ ∃ j : Nat, ∃ hj : j < ps.length, ∃ hq : j < qs.length, findP ps hand page = (j : Int) ∧ poolF qs hd = 0 ∧ X ps[j].dat qs[j].dat) := by
  rcases h with ⟨h1, h2⟩ | ⟨h1, j, hj, d', h2, h3, h4, h5, h6⟩
  · exact .inl ⟨h1, by rw [← datFrameS_length, h2]; rfl⟩
  · have hql : qs.length = ps.length := by rw [← datFrameS_length qs, h4, List.length_set, datFrameS_length]
    have hq : j < qs.length := by omega
    have e := datF_at qs j hq
    rw [h4, List.getElem?_set_self (by rw [datFrameS_length]; exact hj)] at e
    injection e with e
    refine .inr ⟨h1, j, hj, hq, h2, (goodP_iff qs hd).2 h5, ?_⟩
    rw [← e]; exact h6
def freeN (ps : List EFrame) (k : Nat) : Bool := (ps.take k).any (fun p => p.pins == 0)
theorem freeN_step {ps : List EFrame} {k : Nat} (hk : k < ps.length) : freeN ps (k + 1) = (freeN ps k || (ps[k].pins == 0)) := by
  unfold freeN
  rw [List.take_succ_eq_append_getElem hk, List.any_append]
  simp
theorem freeN_all (ps : List EFrame) : freeN ps ps.length = ps.any (fun p => p.pins == 0) := by unfold freeN; rw [List.take_length]
theorem vic_at {ps xs : List EFrame} {pg : Int} (hdl : (datFrameS xs).length = ps.length) (hall : ∀ (i : Nat) (hi : i < ps.length), ∃ d', (datFrameS xs)[i]? = some d' ∧ d'.1 = ps[i].page ∧ d'.2.2.1 = ps[i].pins ∧ d'.2.2.2.1 = ps[i].dirty) (hno : ∀ p ∈ ps, p.page ≠ pg) :
    (∀ p ∈ xs, p.page ≠ pg) ∧ ∀ (i : Nat) (hi : i < ps.length) (hx : i < xs.length), xs[i].pins = ps[i].pins ∧ xs[i].dirty = ps[i].dirty := by
  rw [datFrameS_length] at hdl
  refine ⟨fun p hp => ?_, fun i hi hx => ?_⟩
  · obtain ⟨i, hi, rfl⟩ := List.mem_iff_getElem.1 hp
    obtain ⟨d', h1, h2, _⟩ := hall i (by omega)
    rw [datF_at xs i hi] at h1
    injection h1 with h1
    have e : xs[i].page = ps[i].page := by rw [← h2, ← h1]; rfl
    rw [e]
    exact hno _ (List.getElem_mem _)
  · obtain ⟨d', h1, _, h3, h4⟩ := hall i hi
    rw [datF_at xs i hx] at h1
    injection h1 with h1
    exact ⟨by rw [← h3, ← h1]; rfl, by rw [← h4, ← h1]; rfl⟩
theorem fnPool_law (v0 : Value) (cs : List Int) (v1 : Value) (ms : List Int) (w : World) (hv0 : Rd .u8 w v0 cs) (hB0 : IsB cs) (hv1 : Rd .u8 w v1 ms) (hB1 : IsB ms) :
    Calls Try.prog 3 #[v0, v1] w fun e w' => e = .returned (.bool true) ∧ Same w w' := by
  obtain ⟨i0, hi0, hz0, hz1, hz2⟩ := info_parts Try.infoByte'
  obtain ⟨av, cv, rfl⟩ := hv0.form
  obtain ⟨bv, dv1, rfl⟩ := hv1.form
  have hm0 := hv0.1
  have hm1 := hv1.1
  unfold maxLen at hm0 hm1
  by_cases h0 : (1048576 : Int) < (cs.length : Int)
  · go_enter Try.func3, Try.ntmps3
    go_wp2
    go_ret
    exact ⟨rfl, Kept.refl _ _⟩
  by_cases h1 : (1048576 : Int) < (ms.length : Int)
  · go_enter Try.func3, Try.ntmps3
    go_wp2
    go_ret
    exact ⟨rfl, Kept.refl _ _⟩
  have kD := fun wx (hx : Same w wx) => drawLoad_of (drawPool_of bend_any) (.slice av cs.length cv) cs wx hB0 (by omega) (hv0.same hx)
  have kA := fun (j : Nat) (hj : j ≤ 1000) (n : Int) (hn : 1 < n) (hn2 : n ≤ 200) wx (hx : Same w wx) => lwAtS_any (.slice bv ms.length dv1) ms j n wx hB1 (by omega) (by omega) hn hn2 (hv1.same hx)
  clear hv0 hv1 hB0 hB1 hm0 hm1
  generalize cs.length = cn at kD h0
  generalize ms.length = mn at kA h1
  go_enter Try.func3, Try.ntmps3
  go_wp2_with fail
  refine (kA 0 (by omega) 5 (by decide) (by decide) w (Kept.refl _ _)).mono ?_
  rintro e w1 ⟨rfl, hk1⟩
  obtain ⟨hr1, hr2⟩ := atS_in ms 0 5 (by decide)
  obtain ⟨r, hr⟩ : ∃ r, atS ms 0 5 = r := ⟨_, rfl⟩
  rw [hr] at hr1 hr2 ⊢
  have HK1 := hid hk1
  clear hr hk1
  have q1 : IntKind.i64.wrap (1 + r) = 1 + r := by rw [IntKind.wrap_i64]; omega
  go_wp2_with fail
  refine (implPoolNew_any (1 + r) w1).mono ?_
  rintro e w2 ⟨a, n, c, hd, qs, rfl, hdat, hfoot, hown, hk2⟩
  obtain ⟨hn0, hng⟩ := new_good (frames := 1 + r) (by omega) (by omega)
  rw [← hdat] at hn0 hng
  dsimp only at hn0 hng
  subst hn0
  have hgood := (goodP_iff qs 0).2 hng
  have hgl := poolF_len hgood
  rcases hown.form with ⟨_, h2⟩ | ⟨g, cap, h2, _⟩
  · rw [h2] at hgl; simp at hgl
  injection h2 with h2 h3 h4
  subst h2 h4
  have HP2 := hid (Blk.new w2 #[.slice (some ⟨g, 0, none⟩) n c, .int .i64 0] 25)
  have hk3 : Same w2 (w2.alloc (.cells #[.slice (some ⟨g, 0, none⟩) n c, .int .i64 0] 25)) := (Kept.refl _ _).alloc _
  have HO3 := hid (hown.same hk3)
  have HK3 := hid ((HK1.out.trans hk2).trans hk3)
  have HF3 := (show Hid (∀ b, footR kFrame (.slice (some ⟨g, 0, none⟩) n c) qs b → b ≠ w2.heap.size) from fun b hb e => by have := (hown.lt b hb).2; omega)
  have hwP : w.heap.size ≤ w2.heap.size := (HK1.out.trans hk2).size
  have HG := hid hgood
  have HLN := (show Hid (qs.length = n) from h3.symm)
  obtain ⟨P, hP⟩ : ∃ P, w2.heap.size = P := ⟨_, rfl⟩
  rw [hP] at HP2 HF3 hwP
  have hPl : P < (w2.alloc (.cells #[.slice (some ⟨g, 0, none⟩) n c, .int .i64 0] 25)).heap.size := HP2.out.lt
  have HPP := hid hP
  clear hown hfoot hdat hk2 hk3 hng hgood hgl h3 hP HK1 q1
  go_upto_region 4 with fail
  try rw [HPP.out]
  generalize w2.alloc (.cells #[.slice (some ⟨g, 0, none⟩) n c, .int .i64 0] 25) = w3 at *
  clear HPP
  go_wp2_with fail
  refine (kD w3 HK3.out).mono ?_
  rintro e w4 ⟨pa, pn, pc, ph, fr, pg, gb, bs, rfl, hbl, hbb, hbr, hgb, hk4⟩
  have hk5 : Same w4 (w4.alloc (.cells #[.slice pa pn pc, .int .i64 ph] 25)) := (Kept.refl _ _).alloc _
  have HP5 := hid ((HP2.out.same hk4).same hk5)
  have HO5 := hid ((HO3.out.same hk4).same hk5)
  have HK5 := hid ((HK3.out.trans hk4).trans hk5)
  have HBR := hid (hbr.same hk5)
  have hgP : gb ≠ P := by omega
  obtain ⟨bl, hbn⟩ : ∃ n, bs.length = n := ⟨_, rfl⟩
  rw [hbn] at hbl HBR
  rw [hbn]
  have HBN := hid hbn
  clear hbr hk4 hk5 HP2 HO3 HK3 hbn hgb hPl kD
  go_upto_if 39 with fail
  generalize w4.alloc (.cells #[.slice pa pn pc, .int .i64 ph] 25) = w5 at *
  go_cut [9] (fun bv wx => ∃ (gb cb : Nat) (bs : List Int), bv = .slice (some ⟨gb, 0, none⟩) 4096 cb ∧ Hid (PoI w wx P g n c 0 qs gb cb bs))
  case first =>
    have hcell : ∀ (wx : World) (gb m : Nat) (bs : List Int), bs.length = m → 0 < m → Rd .u8 wx (.slice (some ⟨gb, 0, none⟩) m m) bs → gb < wx.heap.size := fun wx gb m bs hl h0 hr => by
      rcases hr.2 with ⟨h, _⟩ | ⟨b', off, c', e1, _, hx⟩
      · rw [h] at hl; simp at hl; omega
      · injection e1 with e1 _ _
        injection e1 with e1
        have h2 := World.block_lt_of_cell? wx _ (hx 0 (by omega))
        have e3 : gb = b' := congrArg Addr.block e1
        simp only at h2
        omega
    by_cases hb : bl = 4096
    · subst hb
      have hbi : ((4096 : Nat) : Int) = 4096 := rfl
      have HI := (show Hid (PoI w w5 P g n c 0 qs gb 4096 bs) from ⟨HP5.out, HO5.out, HF3.out, HBR.out, ⟨hgP, hcell _ _ _ _ HBN.out (by decide) HBR.out⟩, HBN.out, HG.out, HLN.out, HK5.out, hwP⟩)
      clear hcell hbi
      go_wp2_with fail
      go_meet
      case rel => exact ⟨_, _, _, rfl, HI⟩
    · have hb5 : ¬ (bl : Int) = 4096 := by omega
      clear hcell
      go_wp2_with (at_make; refine wpList_make_full _ rfl (.const (.int .i64 4096)) (.const (.int .i64 4096)) 22 rfl 0 5 i0 (.int .u8 0) 1 Try.underlying22 hi0 hz0 hz1 .i64 .i64 _ _ 4096 rfl rfl (by rfl) (by rfl) (by rw [hz2]; omega) (by unfold maxLen; omega) (Nat.zero_le _) ?_; intro w6 hown1 hgrow1; have HE := (show Hid (PoI w w6 P g n c 0 qs w5.heap.size 4096 (List.replicate 4096 0)) from by have hk6 : Same w5 w6 := Kept.of_grown hgrow1 (fun k e => by cases e); have ho : Own 0 5 .u8 w6 (.slice (some ⟨w5.heap.size, 0, none⟩) 4096 4096) (List.replicate 4096 0) := own_made (by simpa using hown1); have h7 := HP5.out.lt; exact ⟨HP5.out.same hk6, HO5.out.same hk6, HF3.out, ho.rd, ⟨by omega, (ho.lt _ rfl).2⟩, List.length_replicate, HG.out, HLN.out, HK5.out.trans hk6, hwP⟩); clear hown1 hgrow1)
      go_meet
      case rel => exact ⟨_, _, _, rfl, HE⟩
  case rest =>
  obtain ⟨w6, rfl⟩ : ∃ x, x = wc := ⟨wc, rfl⟩
  obtain ⟨gb, cb, bs, rfl, HI6⟩ := hcut
  clear HP5 HO5 HK5 HBR HBN HF3 HG HLN hbl hbb hgP
  have hjn := HI6.out.num
  clear hjn
  go_wp2_with fail
  go_loopw [10] (fun i wr => ∃ (j g n c : Nat) (hd : Int) (ps : List EFrame), j ≤ 30 ∧ i = .int .i64 (j : Int) ∧ Hid (PoI w wr P g n c hd ps gb cb bs)) (fun i _ => 30 - (intOf i).toNat)
  case atStart => exact ⟨0, g, n, c, 0, qs, by omega, rfl, HI6⟩
  case round =>
    as_aux_lemma =>
    obtain ⟨w7, rfl⟩ : ∃ x, x = wr := ⟨wr, rfl⟩
    obtain ⟨j, g, n, c, hd, ps, hj, rfl, HI7⟩ := hrel
    clear HI6
    obtain ⟨p0, p1⟩ := HI7.out.box.all2
    by_cases hlt : j < 30
    case neg =>
      have hge : ¬ (j : Int) < 30 := by omega
      have kF := implPoolFault_any (.slice (some ⟨g, 0, none⟩) n c) hd ps w7 HI7.out.own.rd
      rw [HI7.out.good] at kF
      go_wp2_with fail
      refine kF.mono ?_
      rintro e w8 ⟨rfl, hk8⟩
      have HK8 := hid (HI7.out.kept.trans hk8)
      clear hk8 kF
      go_wp2
      go_ret
      exact ⟨rfl, HK8.out⟩
    have hlti : (j : Int) < 30 := by omega
    obtain ⟨K1, hK1⟩ : ∃ K, 3 * j + 1 = K := ⟨_, rfl⟩
    obtain ⟨K2, hK2⟩ : ∃ K, 3 * j + 2 = K := ⟨_, rfl⟩
    have q1 : IntKind.i64.wrap (3 * (j : Int)) = 3 * (j : Int) := by rw [IntKind.wrap_i64]; omega
    have q2 : IntKind.i64.wrap (3 * (j : Int) + 1) = (K1 : Int) := by rw [IntKind.wrap_i64]; omega
    have q3 : IntKind.i64.wrap (3 * (j : Int) + 2) = (K2 : Int) := by rw [IntKind.wrap_i64]; omega
    have hKb : K1 ≤ 1000 ∧ K2 ≤ 1000 := by omega
    clear hK1 hK2
    go_wp2_with fail
    refine (kA K1 hKb.1 7 (by decide) (by decide) w7 HI7.out.kept).mono ?_
    rintro e w8 ⟨rfl, hk8⟩
    obtain ⟨hpg1, hpg2⟩ := atS_in ms K1 7 (by decide)
    obtain ⟨pg, hpg⟩ : ∃ r, atS ms K1 7 = r := ⟨_, rfl⟩
    rw [hpg] at hpg1 hpg2 ⊢
    have HI8 := hid (HI7.out.same hk8)
    clear hk8 hpg HI7 p0 p1
    obtain ⟨p0, p1⟩ := HI8.out.box.all2
    have kF := implPoolFault_any (.slice (some ⟨g, 0, none⟩) n c) hd ps w8 HI8.out.own.rd
    rw [HI8.out.good] at kF
    have hn1 := HI8.out.num
    have hn0 : ((n : Int) == 0) = false := by simp; omega
    go_wp2_with fail
    refine kF.mono ?_
    rintro e w8' ⟨rfl, hk8⟩
    have HI8' := hid (HI8.out.same hk8)
    clear hk8 HI8 kF p0 p1
    obtain ⟨p0, p1⟩ := HI8'.out.box.all2
    go_wp2_with fail
    refine (implPoolFind_any (.slice (some ⟨g, 0, none⟩) n c) hd pg ps w8' HI8'.out.own.rd).mono ?_
    rintro e w9 ⟨rfl, hk9⟩
    have HI9 := hid (HI8'.out.same hk9)
    obtain ⟨fa, hfa⟩ : ∃ x, findP ps hd pg = x := ⟨_, rfl⟩
    rw [hfa]
    have HFA := hid hfa
    clear hk9 hfa HI8' p0 p1 hn0
    have hk10 : Same w9 (w9.alloc (.cells #[.int .i64 0, .int .i64 0, .slice none 0 0, .int .i64 0] 33)) := (Kept.refl _ _).alloc _
    have HB10 := hid (Blk.new w9 #[.int .i64 0, .int .i64 0, .slice none 0 0, .int .i64 0] 33)
    obtain ⟨X, hX⟩ : ∃ X, w9.heap.size = X := ⟨_, rfl⟩
    rw [hX] at HB10
    have hPX : P < X := by rw [← hX]; exact HI9.out.box.lt
    have HX10 := (show Hid (Kept (fun b => b = X) w9 (w9.alloc (.cells #[.int .i64 0, .int .i64 0, .slice none 0 0, .int .i64 0] 33))) from hk10.mono (fun _ _ e => e.elim))
    have HXX := hid hX
    clear hX hk10
    go_upto_region 15 with fail
    try rw [HXX.out]
    generalize w9.alloc (.cells #[.int .i64 0, .int .i64 0, .slice none 0 0, .int .i64 0] 33) = w10 at HB10 HX10 ⊢
    have HI10 := hid (HI9.out.lift (by rw [HXX.out]; exact Nat.le_refl _) HX10.out)
    go_wp2_with fail
    refine (kA K2 hKb.2 6 (by decide) (by decide) w10 HI10.out.kept).mono ?_
    rintro e w12 ⟨rfl, hk12⟩
    obtain ⟨hz1', hz2'⟩ := atS_in ms K2 6 (by decide)
    obtain ⟨z, hz⟩ : ∃ r, atS ms K2 6 = r := ⟨_, rfl⟩
    rw [hz] at hz1' hz2' ⊢
    have HZ := hid hz
    have HI12 := hid (HI10.out.same hk12)
    have HB12 := hid (HB10.out.same hk12)
    have HX12 := hid (HX10.out.trans (hk12.mono (fun _ _ e => e.elim)))
    clear hz hk12 HI10 HB10 HX10
    go_upto_block 2 with fail
    go_cut [67] (fun _ wx => ∃ (cd fr : Int) (xa : Option Addr) (xn xc : Nat) (xh : Int) (xs : List EFrame), Hid (XR w9 wx P X cd fr xa xn xc xh xs z fa))
    case first =>
      obtain ⟨p0, p1⟩ := HI12.out.box.all2
      by_cases z0 : z = 0
      · subst z0
        as_aux_lemma =>
        go_wp2_with fail
        refine (implPoolVictim_any (.slice (some ⟨g, 0, none⟩) n c) hd ps w12 HI12.out.own.rd).mono ?_
        rintro e w13 h13
        obtain ⟨xa, xn, xc, xs, rfl, hds, hxl, hxa, hxf, hxo, hk13⟩ := ansR_of h13
        have hvr := vic_call HI12.out.good
        rw [← hds] at hvr
        obtain ⟨cd, hcd⟩ : ∃ x, (victimP ps hd).1 = x := ⟨_, rfl⟩
        obtain ⟨fr, hfr⟩ : ∃ x, (victimP ps hd).2.1 = x := ⟨_, rfl⟩
        obtain ⟨xh, hxh⟩ : ∃ x, (victimP ps hd).2.2.1 = x := ⟨_, rfl⟩
        rw [hcd, hfr, hxh] at hvr
        rw [hcd, hfr, hxh]
        have HXR := hid (XR.put (w9 := w9) (P := P) (cd := cd) (fr := fr) (hd := xh) (z := 0) (fa := fa) HX12.out HB12.out hPX hk13 hxf hxo hxl hxa (fun e => by rcases hvr with ⟨h1, _⟩ | ⟨_, _, _, _, _, h2, _⟩; omega; exact ⟨fun h => by omega, (goodP_iff xs xh).2 h2⟩) (fun e => by rcases hvr with ⟨_, h1, _⟩ | ⟨h1, _⟩; rw [← hxl, ← datFrameS_length, h1]; rfl; exact absurd h1 e))
        have HVR := hid hvr
        obtain ⟨b0, b1, b2, b3⟩ := (HB12.out.same hk13).all4
        have fb := (HB12.out.same hk13).frozen
        have HXL := hid hxl
        clear hds hxl hxa hxf hxo hk13 hvr hcd hfr hxh h13
        go_upto_region 19 with fail
        generalize (((w13.setCell ⟨X, 0, none⟩ (.int .i64 cd)).setCell ⟨X, 1, none⟩ (.int .i64 fr)).setCell ⟨X, 2, none⟩ (.slice xa xn xc)).setCell ⟨X, 3, none⟩ (.int .i64 xh) = w14 at HXR ⊢
        clear b0 b1 b2 b3 fb p0 p1
        have HI14 := hid (HI9.out.lift (by rw [HXX.out]; exact Nat.le_refl _) HXR.out.kept)
        obtain ⟨b0, b1, b2, b3⟩ := HXR.out.box.all4
        obtain ⟨p0, p1⟩ := HI14.out.box.all2
        have HPL := (show Hid (ps.length = n) from HI14.out.len)
        go_wp2_with fail
        go_loopw [14, 15] (fun f i wr => ∃ k : Nat, w14 = wr ∧ k ≤ n ∧ i = .int .i64 (k : Int) ∧ f = .bool (freeN ps k)) (fun _ i _ => n - (intOf i).toNat)
        case atStart => exact ⟨0, rfl, Nat.zero_le _, rfl, rfl⟩
        case round =>
          obtain ⟨k, rfl, hk, rfl, rfl⟩ := hrel
          by_cases hkn : k < n
          · have hki : (k : Int) < (n : Int) := by omega
            have hkp : k < ps.length := by rw [HPL.out]; exact hkn
            have c2 : w14.cell? ⟨g, k * 6 + 2, none⟩ = some (.int .i64 ps[k].pins) := by have h := HI14.out.own.cell HI14.out.len.symm k 2 hkp (by decide); exact h
            have HST := hid (freeN_step hkp)
            cases hfk : freeN ps k with
            | true =>
              rw [hfk] at HST
              go_wp2_with fail
              go_roundw
              case rel => exact ⟨k + 1, (by first | rfl | trivial), by omega, by go_num, by rw [HST.out]; rfl⟩
              case measure => simp [intOf]; omega
            | false =>
              rw [hfk] at HST
              go_wp2_with fail
              go_roundw
              case rel => exact ⟨k + 1, (by first | rfl | trivial), by omega, by go_num, by rw [HST.out]; rfl⟩
              case measure => simp [intOf]; omega
          have hkn' : ¬ (k : Int) < (n : Int) := by omega
          have hke : k = n := by omega
          have HFR := (show Hid (freeN ps k = ps.any (fun p => p.pins == 0)) from by unfold Hid; rw [hke, ← HPL.out]; exact freeN_all ps)
          clear hke
          rcases HVR.out with ⟨hc2, hds, hpin⟩ | ⟨hc0, j1, hj1, hfr, hp0, hgd, hdl, hall⟩
          · subst hc2
            have hfF : freeN ps k = false := by
              rw [HFR.out, List.any_eq_false]
              intro p hp
              simpa using hpin p hp
            rw [hfF]
            clear hpin hds
            go_wp2_with fail
            go_meet
            case rel => exact ⟨2, fr, xa, xn, xc, xh, xs, HXR⟩
          · subst hc0 hfr
            have hfF : freeN ps k = true := by
              rw [HFR.out]
              exact List.any_eq_true.2 ⟨_, List.getElem_mem hj1, by simpa using hp0⟩
            rw [hfF]
            have hj1n : j1 < n := by rw [← HPL.out]; exact hj1
            have hj1i : (j1 : Int) < (n : Int) := by omega
            have c2 : w14.cell? ⟨g, j1 * 6 + 2, none⟩ = some (.int .i64 0) := by have h := HI14.out.own.cell HI14.out.len.symm j1 2 hj1 (by decide); rw [← hp0]; exact h
            obtain ⟨dt, hdt⟩ : ∃ b, ps[j1].dirty = b := ⟨_, rfl⟩
            have c3 : w14.cell? ⟨g, j1 * 6 + 3, none⟩ = some (.bool dt) := by have h := HI14.out.own.cell HI14.out.len.symm j1 3 hj1 (by decide); rw [← hdt]; exact h
            have HDT := hid hdt
            clear hdt
            have HALL := hid hall
            have HDL := hid hdl
            have HJ1 := hid hj1
            have HP0 := hid hp0
            clear hall hgd hdl hp0
            by_cases hfa : fa < 0
            · cases dt with
              | true =>
                go_wp2_with fail
                go_meet
                case rel => exact ⟨0, (j1 : Int), xa, xn, xc, xh, xs, HXR⟩
              | false =>
                obtain ⟨_, ⟨g1, rfl⟩, hxo, _, hxg, hxl⟩ := HXR.out.ok rfl
                have hnoP : ∀ p ∈ ps, p.page ≠ pg := by
                  rcases find_cases HI14.out.good hpg1 (show pg < 16 by omega) with ⟨_, _, h⟩ | ⟨i, _, h, _⟩
                  · exact h
                  · have := HFA.out; omega
                obtain ⟨hnoX, hsm⟩ := vic_at HDL.out HALL.out hnoP
                have hjx : j1 < xs.length := by have h := HDL.out; rw [datFrameS_length] at h; have := HJ1.out; omega
                obtain ⟨hs1, hs2⟩ := hsm j1 HJ1.out hjx
                obtain ⟨hld, hlg, hlf⟩ := load_call hxg hpg1 (show pg < 16 by omega) hnoX hjx (hs1.trans HP0.out) (hs2.trans HDT.out) bs HI14.out.blen
                have kL := implPoolLoad_any (.slice (some ⟨g1, 0, none⟩) xn xc) xh (j1 : Int) pg (.slice (some ⟨gb, 0, none⟩) 4096 cb) bs xs w14 hxo.rd (by rw [HI14.out.blen]; decide) HI14.out.byt
                have HLF := hid hlf
                have HLG := hid hlg
                have HLD := hid hld
                clear hxo hxg hxl hnoP hnoX hsm hs1 hs2 hld hlg hlf hjx
                go_wp2_with fail
                refine kL.mono ?_
                rintro e w15 h15
                obtain ⟨ya, yn, yc, ys, rfl, hds, hyl, hya, hyf, hyo, hk15⟩ := ansR_of h15
                rw [HLD.out] at hds ⊢
                dsimp only at hds ⊢
                have hyg : poolF ys xh = 0 := (goodP_iff ys xh).2 (by rw [hds]; exact HLG.out)
                have HYF := (show Hid (findP ys xh pg = (j1 : Int)) from HLF.out ys hds)
                have HXY := hid (XR.put (w9 := w9) (P := P) (cd := 0) (fr := (j1 : Int)) (hd := xh) (z := 0) (fa := fa) HXR.out.kept HXR.out.box hPX hk15 hyf hyo hyl hya (fun _ => ⟨fun h => by omega, hyg⟩) (fun e => absurd rfl e))
                obtain ⟨b0, b1, b2, b3⟩ := (HXR.out.box.same hk15).all4
                have fb := (HXR.out.box.same hk15).frozen
                clear hds hyl hya hyf hyo hk15 hyg h15 kL
                go_upto_region 28 with fail
                generalize (((w15.setCell ⟨X, 0, none⟩ (.int .i64 0)).setCell ⟨X, 1, none⟩ (.int .i64 (j1 : Int))).setCell ⟨X, 2, none⟩ (.slice ya yn yc)).setCell ⟨X, 3, none⟩ (.int .i64 xh) = w16 at HXY ⊢
                clear b0 b1 b2 b3 fb
                refine wp_region_V (fun wx : World => wx.cell? ⟨X, 0, none⟩ = some (.int .i64 0) ∧ wx.cell? ⟨X, 1, none⟩ = some (.int .i64 (j1 : Int)) ∧ wx.cell? ⟨X, 2, none⟩ = some (.slice ya yn yc) ∧ wx.cell? ⟨X, 3, none⟩ = some (.int .i64 xh)) 99 12 rfl (by kernel_rfl) ?_
                have HV := hid (HXY.out.same (Kept.refl _ _).drew)
                generalize w16.drew = u1 at HV ⊢
                have hS : (fun wx : World => wx.cell? ⟨X, 0, none⟩ = some (.int .i64 0) ∧ wx.cell? ⟨X, 1, none⟩ = some (.int .i64 (j1 : Int)) ∧ wx.cell? ⟨X, 2, none⟩ = some (.slice ya yn yc) ∧ wx.cell? ⟨X, 3, none⟩ = some (.int .i64 xh)) u1 := ⟨HV.out.box.cell 0, HV.out.box.cell 1, HV.out.box.cell 2, HV.out.box.cell 3⟩
                refine tk 0 147 hS ?_
                refine tk 1 148 hS ?_
                refine tk 2 149 hS ?_
                refine tk 3 150 hS ?_
                refine tk 4 151 hS ?_
                refine tk 5 152 hS ?_
                refine tk 6 153 hS ?_
                refine tk 8 155 hS ?_
                refine tk 9 156 hS ?_
                refine wpAnyV_one (i := 7) (by kernel_rfl) rfl (fun K hK => ?_)
                go_simp
                refine (implPoolFind_any (.slice ya yn yc) xh pg ys u1 (HV.out.ok rfl).2.2.1.rd).mono ?_
                rintro e u2 ⟨rfl, hk'⟩
                rw [HYF.out]
                have HV2 := hid (HV.out.same hk')
                have hS : (fun wx : World => wx.cell? ⟨X, 0, none⟩ = some (.int .i64 0) ∧ wx.cell? ⟨X, 1, none⟩ = some (.int .i64 (j1 : Int)) ∧ wx.cell? ⟨X, 2, none⟩ = some (.slice ya yn yc) ∧ wx.cell? ⟨X, 3, none⟩ = some (.int .i64 xh)) u2 := ⟨HV2.out.box.cell 0, HV2.out.box.cell 1, HV2.out.box.cell 2, HV2.out.box.cell 3⟩
                clear hk' HV
                go_wp2_with fail
                refine hK.out _ _ (fun _ => hS) ?_
                clear hK K
                try simp only [Act.put, sA, s0, sS]
                refine tkV 10 157 (.bool false) hS ?_
                refine tk 11 158 hS ?_
                refine wpAnyV_done (by kernel_rfl) ?_
                clear hS
                go_wp2_with fail
                go_meet
                case rel => exact ⟨0, (j1 : Int), ya, yn, yc, xh, ys, HV2⟩
            · have hfn : ¬ fa < 0 := hfa
              go_wp2_with fail
              go_meet
              case rel => exact ⟨0, (j1 : Int), xa, xn, xc, xh, xs, HXR⟩
      have e0 : (z == 0) = false := by simp [z0]
      by_cases z1 : z = 1
      · subst z1
        as_aux_lemma =>
        go_wp2_with fail
        refine (implPoolVictim_any (.slice (some ⟨g, 0, none⟩) n c) hd ps w12 HI12.out.own.rd).mono ?_
        rintro e w13 h13
        obtain ⟨xa, xn, xc, xs, rfl, hds, hxl, hxa, hxf, hxo, hk13⟩ := ansR_of h13
        have hvr := vic_call HI12.out.good
        rw [← hds] at hvr
        obtain ⟨cd, hcd⟩ : ∃ x, (victimP ps hd).1 = x := ⟨_, rfl⟩
        obtain ⟨fr, hfr⟩ : ∃ x, (victimP ps hd).2.1 = x := ⟨_, rfl⟩
        obtain ⟨xh, hxh⟩ : ∃ x, (victimP ps hd).2.2.1 = x := ⟨_, rfl⟩
        rw [hcd, hfr, hxh] at hvr
        rw [hcd, hfr, hxh]
        have HXR := hid (XR.put (w9 := w9) (P := P) (cd := cd) (fr := fr) (hd := xh) (z := 1) (fa := fa) HX12.out HB12.out hPX hk13 hxf hxo hxl hxa (fun e => by rcases hvr with ⟨h1, _⟩ | ⟨_, _, _, _, _, h2, _⟩; omega; exact ⟨fun h => by omega, (goodP_iff xs xh).2 h2⟩) (fun e => by rcases hvr with ⟨_, h1, _⟩ | ⟨h1, _⟩; rw [← hxl, ← datFrameS_length, h1]; rfl; exact absurd h1 e))
        have HVR := hid hvr
        obtain ⟨b0, b1, b2, b3⟩ := (HB12.out.same hk13).all4
        have fb := (HB12.out.same hk13).frozen
        have HXL := hid hxl
        clear hds hxl hxa hxf hxo hk13 hvr hcd hfr hxh h13
        go_upto_region 19 with fail
        generalize (((w13.setCell ⟨X, 0, none⟩ (.int .i64 cd)).setCell ⟨X, 1, none⟩ (.int .i64 fr)).setCell ⟨X, 2, none⟩ (.slice xa xn xc)).setCell ⟨X, 3, none⟩ (.int .i64 xh) = w14 at HXR ⊢
        clear b0 b1 b2 b3 fb p0 p1
        have HI14 := hid (HI9.out.lift (by rw [HXX.out]; exact Nat.le_refl _) HXR.out.kept)
        obtain ⟨b0, b1, b2, b3⟩ := HXR.out.box.all4
        obtain ⟨p0, p1⟩ := HI14.out.box.all2
        have HPL := (show Hid (ps.length = n) from HI14.out.len)
        go_wp2_with fail
        go_loopw [14, 15] (fun f i wr => ∃ k : Nat, w14 = wr ∧ k ≤ n ∧ i = .int .i64 (k : Int) ∧ f = .bool (freeN ps k)) (fun _ i _ => n - (intOf i).toNat)
        case atStart => exact ⟨0, rfl, Nat.zero_le _, rfl, rfl⟩
        case round =>
          obtain ⟨k, rfl, hk, rfl, rfl⟩ := hrel
          by_cases hkn : k < n
          · have hki : (k : Int) < (n : Int) := by omega
            have hkp : k < ps.length := by rw [HPL.out]; exact hkn
            have c2 : w14.cell? ⟨g, k * 6 + 2, none⟩ = some (.int .i64 ps[k].pins) := by have h := HI14.out.own.cell HI14.out.len.symm k 2 hkp (by decide); exact h
            have HST := hid (freeN_step hkp)
            cases hfk : freeN ps k with
            | true =>
              rw [hfk] at HST
              go_wp2_with fail
              go_roundw
              case rel => exact ⟨k + 1, (by first | rfl | trivial), by omega, by go_num, by rw [HST.out]; rfl⟩
              case measure => simp [intOf]; omega
            | false =>
              rw [hfk] at HST
              go_wp2_with fail
              go_roundw
              case rel => exact ⟨k + 1, (by first | rfl | trivial), by omega, by go_num, by rw [HST.out]; rfl⟩
              case measure => simp [intOf]; omega
          have hkn' : ¬ (k : Int) < (n : Int) := by omega
          have hke : k = n := by omega
          have HFR := (show Hid (freeN ps k = ps.any (fun p => p.pins == 0)) from by unfold Hid; rw [hke, ← HPL.out]; exact freeN_all ps)
          clear hke
          rcases HVR.out with ⟨hc2, hds, hpin⟩ | ⟨hc0, j1, hj1, hfr, hp0, hgd, hdl, hall⟩
          · subst hc2
            have hfF : freeN ps k = false := by
              rw [HFR.out, List.any_eq_false]
              intro p hp
              simpa using hpin p hp
            rw [hfF]
            clear hpin hds
            go_wp2_with fail
            go_meet
            case rel => exact ⟨2, fr, xa, xn, xc, xh, xs, HXR⟩
          · subst hc0 hfr
            have hfF : freeN ps k = true := by
              rw [HFR.out]
              exact List.any_eq_true.2 ⟨_, List.getElem_mem hj1, by simpa using hp0⟩
            rw [hfF]
            have hj1n : j1 < n := by rw [← HPL.out]; exact hj1
            have hj1i : (j1 : Int) < (n : Int) := by omega
            have c2 : w14.cell? ⟨g, j1 * 6 + 2, none⟩ = some (.int .i64 0) := by have h := HI14.out.own.cell HI14.out.len.symm j1 2 hj1 (by decide); rw [← hp0]; exact h
            obtain ⟨dt, hdt⟩ : ∃ b, ps[j1].dirty = b := ⟨_, rfl⟩
            have c3 : w14.cell? ⟨g, j1 * 6 + 3, none⟩ = some (.bool dt) := by have h := HI14.out.own.cell HI14.out.len.symm j1 3 hj1 (by decide); rw [← hdt]; exact h
            have HDT := hid hdt
            clear hdt
            have HALL := hid hall
            have HDL := hid hdl
            have HJ1 := hid hj1
            have HP0 := hid hp0
            clear hall hgd hdl hp0
            by_cases hfa : fa < 0
            · cases dt with
              | true =>
                go_wp2_with fail
                go_meet
                case rel => exact ⟨0, (j1 : Int), xa, xn, xc, xh, xs, HXR⟩
              | false =>
                obtain ⟨_, ⟨g1, rfl⟩, hxo, _, hxg, hxl⟩ := HXR.out.ok rfl
                have hnoP : ∀ p ∈ ps, p.page ≠ pg := by
                  rcases find_cases HI14.out.good hpg1 (show pg < 16 by omega) with ⟨_, _, h⟩ | ⟨i, _, h, _⟩
                  · exact h
                  · have := HFA.out; omega
                obtain ⟨hnoX, hsm⟩ := vic_at HDL.out HALL.out hnoP
                have hjx : j1 < xs.length := by have h := HDL.out; rw [datFrameS_length] at h; have := HJ1.out; omega
                obtain ⟨hs1, hs2⟩ := hsm j1 HJ1.out hjx
                obtain ⟨hld, hlg, hlf⟩ := load_call hxg hpg1 (show pg < 16 by omega) hnoX hjx (hs1.trans HP0.out) (hs2.trans HDT.out) bs HI14.out.blen
                have kL := implPoolLoad_any (.slice (some ⟨g1, 0, none⟩) xn xc) xh (j1 : Int) pg (.slice (some ⟨gb, 0, none⟩) 4096 cb) bs xs w14 hxo.rd (by rw [HI14.out.blen]; decide) HI14.out.byt
                have HLF := hid hlf
                have HLG := hid hlg
                have HLD := hid hld
                clear hxo hxg hxl hnoP hnoX hsm hs1 hs2 hld hlg hlf hjx
                go_wp2_with fail
                refine kL.mono ?_
                rintro e w15 h15
                obtain ⟨ya, yn, yc, ys, rfl, hds, hyl, hya, hyf, hyo, hk15⟩ := ansR_of h15
                rw [HLD.out] at hds ⊢
                dsimp only at hds ⊢
                have hyg : poolF ys xh = 0 := (goodP_iff ys xh).2 (by rw [hds]; exact HLG.out)
                have HYF := (show Hid (findP ys xh pg = (j1 : Int)) from HLF.out ys hds)
                have HXY := hid (XR.put (w9 := w9) (P := P) (cd := 0) (fr := (j1 : Int)) (hd := xh) (z := 1) (fa := fa) HXR.out.kept HXR.out.box hPX hk15 hyf hyo hyl hya (fun _ => ⟨fun h => by omega, hyg⟩) (fun e => absurd rfl e))
                obtain ⟨b0, b1, b2, b3⟩ := (HXR.out.box.same hk15).all4
                have fb := (HXR.out.box.same hk15).frozen
                clear hds hyl hya hyf hyo hk15 hyg h15 kL
                go_upto_region 28 with fail
                generalize (((w15.setCell ⟨X, 0, none⟩ (.int .i64 0)).setCell ⟨X, 1, none⟩ (.int .i64 (j1 : Int))).setCell ⟨X, 2, none⟩ (.slice ya yn yc)).setCell ⟨X, 3, none⟩ (.int .i64 xh) = w16 at HXY ⊢
                clear b0 b1 b2 b3 fb
                refine wp_region_V (fun wx : World => wx.cell? ⟨X, 0, none⟩ = some (.int .i64 0) ∧ wx.cell? ⟨X, 1, none⟩ = some (.int .i64 (j1 : Int)) ∧ wx.cell? ⟨X, 2, none⟩ = some (.slice ya yn yc) ∧ wx.cell? ⟨X, 3, none⟩ = some (.int .i64 xh)) 99 12 rfl (by kernel_rfl) ?_
                have HV := hid (HXY.out.same (Kept.refl _ _).drew)
                generalize w16.drew = u1 at HV ⊢
                have hS : (fun wx : World => wx.cell? ⟨X, 0, none⟩ = some (.int .i64 0) ∧ wx.cell? ⟨X, 1, none⟩ = some (.int .i64 (j1 : Int)) ∧ wx.cell? ⟨X, 2, none⟩ = some (.slice ya yn yc) ∧ wx.cell? ⟨X, 3, none⟩ = some (.int .i64 xh)) u1 := ⟨HV.out.box.cell 0, HV.out.box.cell 1, HV.out.box.cell 2, HV.out.box.cell 3⟩
                refine tk 0 147 hS ?_
                refine tk 1 148 hS ?_
                refine tk 2 149 hS ?_
                refine tk 3 150 hS ?_
                refine tk 4 151 hS ?_
                refine tk 5 152 hS ?_
                refine tk 6 153 hS ?_
                refine tk 8 155 hS ?_
                refine tk 9 156 hS ?_
                refine wpAnyV_one (i := 7) (by kernel_rfl) rfl (fun K hK => ?_)
                go_simp
                refine (implPoolFind_any (.slice ya yn yc) xh pg ys u1 (HV.out.ok rfl).2.2.1.rd).mono ?_
                rintro e u2 ⟨rfl, hk'⟩
                rw [HYF.out]
                have HV2 := hid (HV.out.same hk')
                have hS : (fun wx : World => wx.cell? ⟨X, 0, none⟩ = some (.int .i64 0) ∧ wx.cell? ⟨X, 1, none⟩ = some (.int .i64 (j1 : Int)) ∧ wx.cell? ⟨X, 2, none⟩ = some (.slice ya yn yc) ∧ wx.cell? ⟨X, 3, none⟩ = some (.int .i64 xh)) u2 := ⟨HV2.out.box.cell 0, HV2.out.box.cell 1, HV2.out.box.cell 2, HV2.out.box.cell 3⟩
                clear hk' HV
                go_wp2_with fail
                refine hK.out _ _ (fun _ => hS) ?_
                clear hK K
                try simp only [Act.put, sA, s0, sS]
                refine tkV 10 157 (.bool false) hS ?_
                refine tk 11 158 hS ?_
                refine wpAnyV_done (by kernel_rfl) ?_
                clear hS
                go_wp2_with fail
                go_meet
                case rel => exact ⟨0, (j1 : Int), ya, yn, yc, xh, ys, HV2⟩
            · have hfn : ¬ fa < 0 := hfa
              go_wp2_with fail
              go_meet
              case rel => exact ⟨0, (j1 : Int), xa, xn, xc, xh, xs, HXR⟩
      have e1 : (z == 1) = false := by simp [z1]
      by_cases z2 : z = 2
      · subst z2
        as_aux_lemma =>
        go_wp2_with fail
        refine (implPoolPin_any (.slice (some ⟨g, 0, none⟩) n c) hd pg ps w12 HI12.out.own.rd).mono ?_
        rintro e w13 h13
        obtain ⟨xa, xn, xc, xs, rfl, hds, hxl, hxa, hxf, hxo, hk13⟩ := ansR_of h13
        have hcr := call_at (ps := ps) (qs := xs) (hand := hd) (page := pg) (cd := (pinP ps hd pg).1) (fr := (pinP ps hd pg).2.1) (hd := (pinP ps hd pg).2.2.1) (X := fun _ _ => True) (by rw [hds]; exact pins_call HI12.out.good hpg1 (by omega) 1 (.inl rfl))
        obtain ⟨cd, hcd⟩ : ∃ x, (pinP ps hd pg).1 = x := ⟨_, rfl⟩
        obtain ⟨fr, hfr⟩ : ∃ x, (pinP ps hd pg).2.1 = x := ⟨_, rfl⟩
        obtain ⟨xh, hxh⟩ : ∃ x, (pinP ps hd pg).2.2.1 = x := ⟨_, rfl⟩
        rw [hcd, hxh] at hcr
        rw [hcd, hfr, hxh]
        have HXR := hid (XR.put (w9 := w9) (P := P) (cd := cd) (fr := fr) (hd := xh) (z := 2) (fa := fa) HX12.out HB12.out hPX hk13 hxf hxo hxl hxa (fun e => by rcases hcr with ⟨h1, _⟩ | ⟨_, j1, _, _, h1, h2, _⟩; exact absurd e h1; exact ⟨fun _ => by rw [← HFA.out, h1]; omega, h2⟩) (fun e => by rcases hcr with ⟨_, h1⟩ | ⟨h1, _⟩; omega; exact absurd h1 e))
        have HCR := hid hcr
        obtain ⟨b0, b1, b2, b3⟩ := (HB12.out.same hk13).all4
        have fb := (HB12.out.same hk13).frozen
        have HXL := hid hxl
        clear hds hxl hxa hxf hxo hk13 hcr hcd hfr hxh h13
        go_wp2_with fail
        go_meet
        case rel => exact ⟨cd, fr, xa, xn, xc, xh, xs, HXR⟩
      have e2 : (z == 2) = false := by simp [z2]
      by_cases z3 : z = 3
      · subst z3
        as_aux_lemma =>
        go_wp2_with fail
        refine (implPoolUnpin_any (.slice (some ⟨g, 0, none⟩) n c) hd pg ps w12 HI12.out.own.rd).mono ?_
        rintro e w13 h13
        obtain ⟨xa, xn, xc, xs, rfl, hds, hxl, hxa, hxf, hxo, hk13⟩ := ansR_of h13
        have hcr := call_at (ps := ps) (qs := xs) (hand := hd) (page := pg) (cd := (unpinP ps hd pg).1) (fr := (unpinP ps hd pg).2.1) (hd := (unpinP ps hd pg).2.2.1) (X := fun _ _ => True) (by rw [hds]; exact pins_call HI12.out.good hpg1 (by omega) (-1) (.inr rfl))
        obtain ⟨cd, hcd⟩ : ∃ x, (unpinP ps hd pg).1 = x := ⟨_, rfl⟩
        obtain ⟨fr, hfr⟩ : ∃ x, (unpinP ps hd pg).2.1 = x := ⟨_, rfl⟩
        obtain ⟨xh, hxh⟩ : ∃ x, (unpinP ps hd pg).2.2.1 = x := ⟨_, rfl⟩
        rw [hcd, hxh] at hcr
        rw [hcd, hfr, hxh]
        have HXR := hid (XR.put (w9 := w9) (P := P) (cd := cd) (fr := fr) (hd := xh) (z := 3) (fa := fa) HX12.out HB12.out hPX hk13 hxf hxo hxl hxa (fun e => by rcases hcr with ⟨h1, _⟩ | ⟨_, j1, _, _, h1, h2, _⟩; exact absurd e h1; exact ⟨fun _ => by rw [← HFA.out, h1]; omega, h2⟩) (fun e => by rcases hcr with ⟨_, h1⟩ | ⟨h1, _⟩; omega; exact absurd h1 e))
        have HCR := hid hcr
        obtain ⟨b0, b1, b2, b3⟩ := (HB12.out.same hk13).all4
        have fb := (HB12.out.same hk13).frozen
        have HXL := hid hxl
        clear hds hxl hxa hxf hxo hk13 hcr hcd hfr hxh h13
        go_wp2_with fail
        go_meet
        case rel => exact ⟨cd, fr, xa, xn, xc, xh, xs, HXR⟩
      have e3 : (z == 3) = false := by simp [z3]
      by_cases z4 : z = 4
      · subst z4
        as_aux_lemma =>
        have q6 : IntKind.i64.wrap (600 + (j : Int)) = 600 + (j : Int) := by rw [IntKind.wrap_i64]; omega
        go_wp2_with fail
        refine (implPoolPut_any (.slice (some ⟨g, 0, none⟩) n c) hd pg (.slice (some ⟨gb, 0, none⟩) 4096 cb) bs (600 + (j : Int)) ps w12 HI12.out.own.rd (by rw [HI12.out.blen]; decide) HI12.out.byt).mono ?_
        rintro e w13 h13
        obtain ⟨xa, xn, xc, xs, rfl, hds, hxl, hxa, hxf, hxo, hk13⟩ := ansR_of h13
        have hcr := call_at (ps := ps) (qs := xs) (hand := hd) (page := pg) (cd := (putP ps hd pg bs (600 + (j : Int))).1) (fr := (putP ps hd pg bs (600 + (j : Int))).2.1) (hd := (putP ps hd pg bs (600 + (j : Int))).2.2.1) (X := fun d d' => d'.2.2.2.1 = true ∧ d'.2.2.2.2.1 = (if d.2.2.2.1 = true then d.2.2.2.2.1 else 600 + (j : Int)) ∧ d'.2.1 = bs ∧ d'.2.2.2.2.2 = true) (by rw [hds]; exact put_call HI12.out.good hpg1 (by omega) bs (600 + (j : Int)))
        obtain ⟨cd, hcd⟩ : ∃ x, (putP ps hd pg bs (600 + (j : Int))).1 = x := ⟨_, rfl⟩
        obtain ⟨fr, hfr⟩ : ∃ x, (putP ps hd pg bs (600 + (j : Int))).2.1 = x := ⟨_, rfl⟩
        obtain ⟨xh, hxh⟩ : ∃ x, (putP ps hd pg bs (600 + (j : Int))).2.2.1 = x := ⟨_, rfl⟩
        rw [hcd, hxh] at hcr
        rw [hcd, hfr, hxh]
        have HXR := hid (XR.put (w9 := w9) (P := P) (cd := cd) (fr := fr) (hd := xh) (z := 4) (fa := fa) HX12.out HB12.out hPX hk13 hxf hxo hxl hxa (fun e => by rcases hcr with ⟨h1, _⟩ | ⟨_, j1, _, _, h1, h2, _⟩; exact absurd e h1; exact ⟨fun _ => by rw [← HFA.out, h1]; omega, h2⟩) (fun e => by rcases hcr with ⟨_, h1⟩ | ⟨h1, _⟩; omega; exact absurd h1 e))
        have HCR := hid hcr
        obtain ⟨b0, b1, b2, b3⟩ := (HB12.out.same hk13).all4
        have fb := (HB12.out.same hk13).frozen
        have HXL := hid hxl
        clear hds hxl hxa hxf hxo hk13 hcr hcd hfr hxh h13
        go_upto_region 36 with fail
        generalize (((w13.setCell ⟨X, 0, none⟩ (.int .i64 cd)).setCell ⟨X, 1, none⟩ (.int .i64 fr)).setCell ⟨X, 2, none⟩ (.slice xa xn xc)).setCell ⟨X, 3, none⟩ (.int .i64 xh) = w14 at HXR ⊢
        clear b0 b1 b2 b3 fb p0 p1
        have HI14 := hid (HI9.out.lift (by rw [HXX.out]; exact Nat.le_refl _) HXR.out.kept)
        obtain ⟨b0, b1, b2, b3⟩ := HXR.out.box.all4
        obtain ⟨p0, p1⟩ := HI14.out.box.all2
        by_cases hc0 : cd = 0
        · subst hc0
          obtain ⟨j1, hj1, hq1, hf1, hg1, hX1⟩ : ∃ j1 : Nat, ∃ hj : j1 < ps.length, ∃ hq : j1 < xs.length, findP ps hd pg = (j1 : Int) ∧ poolF xs xh = 0 ∧ ((fun (d d' : FD) => d'.2.2.2.1 = true ∧ d'.2.2.2.2.1 = (if d.2.2.2.1 = true then d.2.2.2.2.1 else 600 + (j : Int)) ∧ d'.2.1 = bs ∧ d'.2.2.2.2.2 = true)) ps[j1].dat xs[j1].dat := by
            rcases HCR.out with ⟨h, _⟩ | ⟨_, h⟩
            · exact absurd rfl h
            · exact h
          obtain rfl : fa = (j1 : Int) := HFA.out.symm.trans hf1
          obtain ⟨_, ⟨g1, rfl⟩, hxo, _, _, hxl⟩ := HXR.out.ok rfl
          have hj1n : j1 < n := by rw [← HI14.out.len]; exact hj1
          have lP : P < w14.heap.size := HI14.out.box.lt
          have lG : g1 < w14.heap.size := (hxo.lt g1 (.inl rfl)).2
          have HXN := hid hxl
          have hj1i : (j1 : Int) < (n : Int) := by omega
          have hj1x : (j1 : Int) < (xn : Int) := by omega
          have x3 : w14.cell? ⟨g1, j1 * 6 + 3, none⟩ = some (.bool xs[j1].dirty) := by have h := hxo.cell hxl.symm j1 3 hq1 (by decide); exact h
          have x4 : w14.cell? ⟨g1, j1 * 6 + 4, none⟩ = some (.int .i64 xs[j1].rl) := by have h := hxo.cell hxl.symm j1 4 hq1 (by decide); exact h
          have e3 : xs[j1].dirty = true := hX1.1
          have e4 : xs[j1].rl = (if ps[j1].dirty = true then ps[j1].rl else 600 + (j : Int)) := hX1.2.1
          have e1 : xs[j1].bs = bs := hX1.2.2.1
          have e5 : xs[j1].rf = true := hX1.2.2.2
          have x0 : w14.cell? ⟨g1, j1 * 6, none⟩ = some (.int .i64 xs[j1].page) := by have h := hxo.cell hxl.symm j1 0 hq1 (by decide); exact h
          have x1 : w14.cell? ⟨g1, j1 * 6 + 1, none⟩ = some xs[j1].v := by have h := hxo.cell hxl.symm j1 1 hq1 (by decide); exact h
          have x2 : w14.cell? ⟨g1, j1 * 6 + 2, none⟩ = some (.int .i64 xs[j1].pins) := by have h := hxo.cell hxl.symm j1 2 hq1 (by decide); exact h
          have x5 : w14.cell? ⟨g1, j1 * 6 + 5, none⟩ = some (.bool xs[j1].rf) := by have h := hxo.cell hxl.symm j1 5 hq1 (by decide); exact h
          have y3 : w14.cell? ⟨g, j1 * 6 + 3, none⟩ = some (.bool ps[j1].dirty) := by have h := HI14.out.own.cell HI14.out.len.symm j1 3 hj1 (by decide); exact h
          have y4 : w14.cell? ⟨g, j1 * 6 + 4, none⟩ = some (.int .i64 ps[j1].rl) := by have h := HI14.out.own.cell HI14.out.len.symm j1 4 hj1 (by decide); exact h
          have HVD := (show Hid (Rd .u8 w14 xs[j1].v bs) from by have h := (hxo.data xs[j1] (List.getElem_mem hq1)).rd; have e : kFrame.bs xs[j1] = bs := e1; rw [e] at h; exact h)
          have hgl : g < w14.heap.size := (HI14.out.own.lt g (.inl rfl)).2
          obtain ⟨va, vc, hvv⟩ := HVD.out.form
          rw [hvv] at x1 HVD
          rw [e3] at x3
          rw [e5] at x5
          obtain ⟨xp, hxp⟩ : ∃ x, xs[j1].page = x := ⟨_, rfl⟩
          obtain ⟨xi, hxi⟩ : ∃ x, xs[j1].pins = x := ⟨_, rfl⟩
          rw [hxp] at x0
          rw [hxi] at x2
          obtain ⟨xr, hxr⟩ : ∃ x, xs[j1].rl = x := ⟨_, rfl⟩
          rw [hxr] at x4 e4
          obtain ⟨bl, hbl⟩ : ∃ n, bs.length = n := ⟨_, rfl⟩
          rw [hbl] at x1 HVD
          clear hX1 e3 e1 e5 hxo hf1 hg1 HCR hvv hxp hxi hxr hbl hxl
          have HAL := (show Hid (∀ o, Same w14 (w14.alloc o)) from fun o => (Kept.refl _ _).alloc o)
          have HXA := (show Hid (∀ o, XR w9 (w14.alloc o) P X 0 fr (some ⟨g1, 0, none⟩) xn xc xh xs 4 (j1 : Int)) from fun o => HXR.out.same ((Kept.refl _ _).alloc o))
          have kS := fun o => sameB_any (.slice va bl vc) (.slice (some ⟨gb, 0, none⟩) 4096 cb) bs (w14.alloc o) (HVD.out.same (HAL.out o)) (HI14.out.byt.same (HAL.out o))
          cases hpd : ps[j1].dirty with
          | true =>
            rw [hpd] at y3 e4
            rw [if_pos rfl] at e4
            obtain ⟨pr, hpr⟩ : ∃ x, ps[j1].rl = x := ⟨_, rfl⟩
            rw [hpr] at y4 e4
            subst e4
            clear hpr hpd
            go_wp2_with fail
            refine (kS _).mono ?_
            rintro e w15 ⟨rfl, hk15⟩
            have HXZ := hid ((HXA.out _).same hk15)
            obtain ⟨f0, f1, f2, f3, f4, f5⟩ := ((Blk.new w14 #[_, _, _, _, _, _] _).same hk15).all6
            clear hk15 kS HXA
            go_wp2_with fail
            go_meet
            case rel => exact ⟨0, fr, _, xn, xc, xh, xs, HXZ⟩
          | false =>
            rw [hpd] at y3 e4
            rw [if_neg (by decide)] at e4
            subst e4
            clear hpd y4
            go_wp2_with fail
            refine (kS _).mono ?_
            rintro e w15 ⟨rfl, hk15⟩
            have HXZ := hid ((HXA.out _).same hk15)
            obtain ⟨f0, f1, f2, f3, f4, f5⟩ := ((Blk.new w14 #[_, _, _, _, _, _] _).same hk15).all6
            clear hk15 kS HXA
            go_wp2_with fail
            go_meet
            case rel => exact ⟨0, fr, _, xn, xc, xh, xs, HXZ⟩
        · have ec : (cd == 0) = false := by simp [hc0]
          go_wp2_with fail
          go_meet
          case rel => exact ⟨cd, fr, xa, xn, xc, xh, xs, HXR⟩
      have e4 : (z == 4) = false := by simp [z4]
      by_cases z5 : z = 5
      · subst z5
        as_aux_lemma =>
        go_wp2_with fail
        refine (implPoolClean_any (.slice (some ⟨g, 0, none⟩) n c) hd pg ps w12 HI12.out.own.rd).mono ?_
        rintro e w13 h13
        obtain ⟨xa, xn, xc, xs, rfl, hds, hxl, hxa, hxf, hxo, hk13⟩ := ansR_of h13
        have hcr := call_at (ps := ps) (qs := xs) (hand := hd) (page := pg) (cd := (cleanP ps hd pg).1) (fr := (cleanP ps hd pg).2.1) (hd := (cleanP ps hd pg).2.2.1) (X := fun _ d' => d'.2.2.2.1 = false ∧ d'.2.2.2.2.1 = 0) (by rw [hds]; exact clean_call HI12.out.good hpg1 (by omega))
        obtain ⟨cd, hcd⟩ : ∃ x, (cleanP ps hd pg).1 = x := ⟨_, rfl⟩
        obtain ⟨fr, hfr⟩ : ∃ x, (cleanP ps hd pg).2.1 = x := ⟨_, rfl⟩
        obtain ⟨xh, hxh⟩ : ∃ x, (cleanP ps hd pg).2.2.1 = x := ⟨_, rfl⟩
        rw [hcd, hxh] at hcr
        rw [hcd, hfr, hxh]
        have HXR := hid (XR.put (w9 := w9) (P := P) (cd := cd) (fr := fr) (hd := xh) (z := 5) (fa := fa) HX12.out HB12.out hPX hk13 hxf hxo hxl hxa (fun e => by rcases hcr with ⟨h1, _⟩ | ⟨_, j1, _, _, h1, h2, _⟩; exact absurd e h1; exact ⟨fun _ => by rw [← HFA.out, h1]; omega, h2⟩) (fun e => by rcases hcr with ⟨_, h1⟩ | ⟨h1, _⟩; omega; exact absurd h1 e))
        have HCR := hid hcr
        obtain ⟨b0, b1, b2, b3⟩ := (HB12.out.same hk13).all4
        have fb := (HB12.out.same hk13).frozen
        have HXL := hid hxl
        clear hds hxl hxa hxf hxo hk13 hcr hcd hfr hxh h13
        go_upto_region 45 with fail
        generalize (((w13.setCell ⟨X, 0, none⟩ (.int .i64 cd)).setCell ⟨X, 1, none⟩ (.int .i64 fr)).setCell ⟨X, 2, none⟩ (.slice xa xn xc)).setCell ⟨X, 3, none⟩ (.int .i64 xh) = w14 at HXR ⊢
        clear b0 b1 b2 b3 fb p0 p1
        have HI14 := hid (HI9.out.lift (by rw [HXX.out]; exact Nat.le_refl _) HXR.out.kept)
        obtain ⟨b0, b1, b2, b3⟩ := HXR.out.box.all4
        obtain ⟨p0, p1⟩ := HI14.out.box.all2
        by_cases hc0 : cd = 0
        · subst hc0
          obtain ⟨j1, hj1, hq1, hf1, hg1, hX1⟩ : ∃ j1 : Nat, ∃ hj : j1 < ps.length, ∃ hq : j1 < xs.length, findP ps hd pg = (j1 : Int) ∧ poolF xs xh = 0 ∧ ((fun (_ d' : FD) => d'.2.2.2.1 = false ∧ d'.2.2.2.2.1 = 0)) ps[j1].dat xs[j1].dat := by
            rcases HCR.out with ⟨h, _⟩ | ⟨_, h⟩
            · exact absurd rfl h
            · exact h
          obtain rfl : fa = (j1 : Int) := HFA.out.symm.trans hf1
          obtain ⟨_, ⟨g1, rfl⟩, hxo, _, _, hxl⟩ := HXR.out.ok rfl
          have hj1n : j1 < n := by rw [← HI14.out.len]; exact hj1
          have lP : P < w14.heap.size := HI14.out.box.lt
          have lG : g1 < w14.heap.size := (hxo.lt g1 (.inl rfl)).2
          have HXN := hid hxl
          have hj1i : (j1 : Int) < (n : Int) := by omega
          have hj1x : (j1 : Int) < (xn : Int) := by omega
          have x3 : w14.cell? ⟨g1, j1 * 6 + 3, none⟩ = some (.bool xs[j1].dirty) := by have h := hxo.cell hxl.symm j1 3 hq1 (by decide); exact h
          have x4 : w14.cell? ⟨g1, j1 * 6 + 4, none⟩ = some (.int .i64 xs[j1].rl) := by have h := hxo.cell hxl.symm j1 4 hq1 (by decide); exact h
          have e3 : xs[j1].dirty = false := hX1.1
          have e4 : xs[j1].rl = 0 := hX1.2
          rw [e3] at x3
          rw [e4] at x4
          clear hX1 e3 e4 hxo hf1 hg1 HCR hxl
          go_wp2_with fail
          go_meet
          case rel => exact ⟨0, fr, _, xn, xc, xh, xs, HXR⟩
        · have ec : (cd == 0) = false := by simp [hc0]
          go_wp2_with fail
          go_meet
          case rel => exact ⟨cd, fr, xa, xn, xc, xh, xs, HXR⟩
      have e5 : (z == 5) = false := by simp [z5]
      exfalso
      omega
    case rest =>
    as_aux_lemma =>
    obtain ⟨w20, rfl⟩ : ∃ x, x = wc := ⟨wc, rfl⟩
    obtain ⟨cd, fr, xa, xn, xc, xh, xs, HXR⟩ := hcut
    have HI20 := hid (HI9.out.lift (by rw [HXX.out]; exact Nat.le_refl _) HXR.out.kept)
    clear HI12 HB12 HX12
    have kZ := kA K2 hKb.2 6 (by decide) (by decide) w20 HI20.out.kept
    rw [HZ.out] at kZ
    by_cases hfa : fa < 0
    · by_cases hz1z : 1 < z
      · go_wp2_with fail
        refine kZ.mono ?_
        rintro e w21 ⟨rfl, hk21⟩
        have HX21 := hid (HXR.out.same hk21)
        have HI21 := hid (HI20.out.same hk21)
        clear kZ HXR HI20 hk21
        obtain ⟨b0, b1, b2, b3⟩ := HX21.out.box.all4
        obtain ⟨p0, p1⟩ := HI21.out.box.all2
        have fp := HI21.out.box.frozen
        by_cases hc0 : cd = 0
        · exact absurd ((HX21.out.ok hc0).1 hz1z) (by omega)
        · have ec : (cd == 0) = false := by simp [hc0]
          have hx0 := HX21.out.no hc0
          subst hx0
          have en : ((0 : Int) == (n : Int)) = false := by simp; omega
          by_cases hc2 : cd = 2
          · subst hc2
            go_wp2_with fail
            go_roundw
            case rel => exact ⟨j + 1, g, n, c, hd, ps, by omega, by go_num, HI21⟩
            case measure => simp [intOf]; omega
          · have ec2 : (cd == 2) = false := by simp [hc2]
            go_wp2_with fail
            go_roundw
            case rel => exact ⟨j + 1, g, n, c, hd, ps, by omega, by go_num, HI21⟩
            case measure => simp [intOf]; omega
      · have hz1n : ¬ 1 < z := hz1z
        go_wp2_with fail
        refine kZ.mono ?_
        rintro e w21 ⟨rfl, hk21⟩
        have HX21 := hid (HXR.out.same hk21)
        have HI21 := hid (HI20.out.same hk21)
        clear kZ HXR HI20 hk21
        obtain ⟨b0, b1, b2, b3⟩ := HX21.out.box.all4
        obtain ⟨p0, p1⟩ := HI21.out.box.all2
        have fp := HI21.out.box.frozen
        by_cases hc0 : cd = 0
        · subst hc0
          obtain ⟨_, ⟨g1, rfl⟩, hxo, hxf, hxg, hxl⟩ := HX21.out.ok rfl
          have HE := hid (HI21.out.next hxo (fun b hb => (hxf b hb).1) hxg hxl)
          clear hxo hxf hxg hxl HX21 HI21
          go_wp2_with fail
          go_roundw
          case rel => exact ⟨j + 1, g1, xn, xc, xh, xs, by omega, by go_num, HE⟩
          case measure => simp [intOf]; omega
        · have ec : (cd == 0) = false := by simp [hc0]
          have hx0 := HX21.out.no hc0
          subst hx0
          have en : ((0 : Int) == (n : Int)) = false := by simp; omega
          by_cases hc2 : cd = 2
          · subst hc2
            go_wp2_with fail
            go_roundw
            case rel => exact ⟨j + 1, g, n, c, hd, ps, by omega, by go_num, HI21⟩
            case measure => simp [intOf]; omega
          · have ec2 : (cd == 2) = false := by simp [hc2]
            go_wp2_with fail
            go_roundw
            case rel => exact ⟨j + 1, g, n, c, hd, ps, by omega, by go_num, HI21⟩
            case measure => simp [intOf]; omega
    · have hfn : ¬ fa < 0 := hfa
      have HX21 := HXR
      have HI21 := HI20
      clear kZ HXR HI20
      obtain ⟨b0, b1, b2, b3⟩ := HX21.out.box.all4
      obtain ⟨p0, p1⟩ := HI21.out.box.all2
      have fp := HI21.out.box.frozen
      by_cases hc0 : cd = 0
      · subst hc0
        obtain ⟨_, ⟨g1, rfl⟩, hxo, hxf, hxg, hxl⟩ := HX21.out.ok rfl
        have HE := hid (HI21.out.next hxo (fun b hb => (hxf b hb).1) hxg hxl)
        clear hxo hxf hxg hxl HX21 HI21
        go_wp2_with fail
        go_roundw
        case rel => exact ⟨j + 1, g1, xn, xc, xh, xs, by omega, by go_num, HE⟩
        case measure => simp [intOf]; omega
      · have ec : (cd == 0) = false := by simp [hc0]
        have hx0 := HX21.out.no hc0
        subst hx0
        have en : ((0 : Int) == (n : Int)) = false := by simp; omega
        by_cases hc2 : cd = 2
        · subst hc2
          go_wp2_with fail
          go_roundw
          case rel => exact ⟨j + 1, g, n, c, hd, ps, by omega, by go_num, HI21⟩
          case measure => simp [intOf]; omega
        · have ec2 : (cd == 2) = false := by simp [hc2]
          go_wp2_with fail
          go_roundw
          case rel => exact ⟨j + 1, g, n, c, hd, ps, by omega, by go_num, HI21⟩
          case measure => simp [intOf]; omega
end Go.Proofs.Ytbbllmlokddolaa

namespace Go.Proofs.Ytbbllmlokddolaa.fnPool
open Go.ChangeShapes Go.WideShapes Go.ChangeAt Go.RowKit
set_option linter.unusedVariables false
theorem own : ownKnob Try.prog.godebug = none := by kernel_rfl
theorem laidOut : laidOutB Try.prog = true := by kernel_rfl
set_option maxRecDepth 100000 in
theorem lifted (os : Os) (started : os.Started) (H : Type) (enc : TypeId × Value → H) :
    ReturnsInHanded {} Try.checked os 3 .any (Rows.fnPoolSpec.pre6 enc Try.prog Try.f3 Rows.fnPoolRow.domain false) (Rows.fnPoolSpec.post enc Try.prog Try.f3 false true false false) := by
  refine returnsInHanded_of_change (C := Try.checked) own started (by kernel_rfl) Try.func3
    (ChangeSpec.witness6 (enc := enc) (C := Try.checked) false ⟨#[], #[.slice none 0 0, .slice none 0 0], []⟩ 8 (by kernel_rfl) (by kernel_rfl) (by kernel_rfl) (by kernel_rfl)) ?_
  intro W base args ds gs before hval0 hW hcnd _
  have hval : ∀ (j : Nat) t v, Try.f3.params[j]? = some t → args[j]? = some v → Value.okWide Try.prog W .any base t v := hval0
  have hW' := hW
  obtain ⟨p, q, hA0, hV, rfl, hfz, hnd⟩ := hW
  have hA : DataW.TrodAll enc Try.prog W 0 (fun _ => true) true Try.f3.params.toList args.toList ds p := hA0
  rw [Try.params3] at hA hval
  obtain ⟨v0, vs0, d0, ds0, p0, q0, hargs, rfl, rfl, h0, r0⟩ := trodAll_cons hA
  obtain ⟨v1, vs1, d1, ds1, p1, q1, rfl, rfl, rfl, h1, r1⟩ := trodAll_cons r0
  obtain ⟨rfl, rfl, rfl⟩ := trodAll_nil r1
  obtain rfl : args = #[v0, v1] := by cases args; simp_all
  obtain ⟨rfl, rfl⟩ := trodVars_none hV
  have k0 := h0
  have lt0 : ∀ x ∈ p0, x.block < W.heap.size := by obtain ⟨m, hm⟩ := k0; exact DataW.trod_lt m _ _ _ hm
  obtain ⟨x0, rd0, bd0⟩ := open_bytesB (hval 0 22 v0 rfl rfl) h0
  have k1 := h1
  have lt1 : ∀ x ∈ p1, x.block < W.heap.size := by obtain ⟨m, hm⟩ := k1; exact DataW.trod_lt m _ _ _ hm
  obtain ⟨x1, rd1, bd1⟩ := open_bytesB (hval 1 22 v1 rfl rfl) h1
  clear hA0 hval0
  refine (fnPool_law v0 x0 v1 x1 W rd0 bd0 rd1 bd1).mono fun e W' ⟨he, hk⟩ => ?_
  have bel : Below W.heap.size W W' := hk.below (Nat.le_refl _) (fun _ _ => id)
  subst he
  exact ⟨_, rfl, _, _, _, [], _, [], hW', trodAll_mk1 (shut_bool Try.underlying4 _), (trodAll_cons_mk (Below.trod laidOut (by kernel_rfl) (of_decide_eq_true (by kernel_rfl)) k0 bel lt0) (trodAll_cons_mk (Below.trod laidOut (by kernel_rfl) (of_decide_eq_true (by kernel_rfl)) k1 bel lt1) trodAll_mk0)), rfl, bel.frame _, fun h => by cases h⟩
theorem over : Rows.fnPoolRow.holds Try.pinned (OpenSpec.ofChange Rows.fnPoolSpec) :=
  OpenClaim.holds_of_wide 3 Try.f3 rfl rfl rfl rfl rfl rfl rfl ⟨rfl, rfl, rfl, rfl, rfl⟩ rfl rfl rfl rfl rfl (by kernel_rfl) Try.func3 (by kernel_rfl)
    (of_decide_eq_true (by kernel_rfl)) (by unfold Func.isWrapper; first | (rw [if_pos (by decide +kernel)]; kernel_rfl) | (rw [if_neg (by decide +kernel)]; exact ⟨rfl, rfl⟩))
    (fun os started H enc _ => lifted os started H enc)
end Go.Proofs.Ytbbllmlokddolaa.fnPool
namespace Go.Proofs.Ytbbllmlokddolaa
theorem fnPool_proved : Rows.FnPoolSaid := fnPool.over
#print axioms fnPool_proved
end Go.Proofs.Ytbbllmlokddolaa
