import Derived.Test.YtcldagphkpkdpaaHsB
import Derived.Test.YtcldagphkpkdpaaG34
namespace Go.Proofs.Ytcldagphkpkdpaa
set_option maxRecDepth 100000
set_option maxHeartbeats 8000000
set_option linter.unusedVariables false
set_option linter.unusedSimpArgs false
open Go Go.RowKit Go.ChangeShapes Go.WideShapes Go.ChangeAt
structure DpI (w0 : World) (B : Nat) (v : Value) (cs : List Int) (k : Nat) (size : Int) (Z g c : Nat) (bs : List Int) (fa : Option Addr) (fn fc : Nat) (qs : List StLogFrame) (en : Int) (wr : World) : Prop where
 src : SrcR w0 wr B v cs k size
 box : Blk wr Z 36 [.slice fa fn fc, .int .i64 en]
 own : OwnFr wr (.slice fa fn fc) qs
 page : Own 0 5 .u8 wr (.slice (some ⟨g, 0, none⟩) 4096 c) bs
 len : bs.length = 4096
 isB : IsB bs
 each : ∀ p ∈ qs, RcB p.record
 foot : ∀ b, footFr (.slice fa fn fc) qs b → ¬ b = B ∧ ¬ b = Z ∧ ¬ b = g ∧ w0.heap.size ≤ b
 z : ¬ Z = B ∧ ¬ Z = g ∧ w0.heap.size ≤ Z
 gb : ¬ g = B ∧ w0.heap.size ≤ g
section
variable {w0 wr wx : World} {B : Nat} {v : Value} {cs : List Int} {k k' : Nat} {size : Int} {Z g c : Nat} {bs : List Int} {fa : Option Addr} {fn fc : Nat} {qs : List StLogFrame} {en : Int}
theorem ownG {g n c b : Nat} (hb : (Value.slice (some ⟨g, 0, none⟩) n c).ownBlock = some b) : b = g := by
 have e1 : g = b := (by simpa [Value.ownBlock] using hb)
 exact e1.symm
theorem DpI.same (h : DpI w0 B v cs k size Z g c bs fa fn fc qs en wr) (hk : Same wr wx) : DpI w0 B v cs k size Z g c bs fa fn fc qs en wx :=
 ⟨h.src.same hk, h.box.same hk, h.own.same hk, h.page.same hk, h.len, h.isB, h.each, h.foot, h.z, h.gb⟩
theorem DpI.draw (h : DpI w0 B v cs k size Z g c bs fa fn fc qs en wr) (hs : SrcR w0 wx B v cs k' size) (hk : Kept (fun b => b = B) wr wx) : DpI w0 B v cs k' size Z g c bs fa fn fc qs en wx :=
 ⟨hs, h.box.kept hk h.z.1, h.own.kept hk (fun b hb => (h.foot b hb).1), h.page.kept hk (fun b hb e => h.gb.1 (by rw [← ownG hb]; exact e)), h.len, h.isB, h.each, h.foot, h.z, h.gb⟩
theorem DpI.other {g' c' : Nat} {ys : List Int} (h : DpI w0 B v cs k size Z g c bs fa fn fc qs en wr) (hs : SrcR w0 wx B v cs k' size) (hk : Kept (fun b => b = B) wr wx) (ho : Own 0 5 .u8 wx (.slice (some ⟨g', 0, none⟩) 4096 c') ys) (hl : ys.length = 4096) (hB : IsB ys) (hg : wr.heap.size ≤ g') (hgB : ¬ g' = B) : DpI w0 B v cs k' size Z g' c' ys fa fn fc qs en wx := by
 have h' := h.draw hs hk
 have h1 := h.box.lt
 have h2 := h.src.kept.size
 refine ⟨hs, h'.box, h'.own, ho, hl, hB, h.each, fun b hb => ⟨(h.foot b hb).1, (h.foot b hb).2.1, fun e => ?_, (h.foot b hb).2.2.2⟩, ⟨h.z.1, by omega, h.z.2.2⟩, hgB, by omega⟩
 have := h.own.lt b hb
 omega
theorem DpI.cap (h : DpI w0 B v cs k size Z g c bs fa fn fc qs en wr) : fn ≤ fc := by
 have h1 := h.own.own.row
 rcases h1.2 with ⟨h2, _⟩ | ⟨_, cap, _, hv, _, _, h3, _⟩
 ·injection h2 with _ e2 e3
  omega
 ·injection hv with _ e2 e3
  omega
end
def DpE (w0 : World) (B Z : Nat) (x y : Value) (wx : World) : Prop :=
 ∃ (number : Int) (raw : List Int) (a : Option Addr) (n c : Nat) (ps : List StLogFrame) (en : Int), x = .int .i64 number ∧ IsB raw ∧ raw.length ≤ 4096 ∧ Rd .u8 wx y raw ∧ Blk wx Z 36 [.slice a n c, .int .i64 en] ∧ RdFr wx (.slice a n c) ps ∧ (∀ p ∈ ps, RcW p.record) ∧ (ps.length ≤ 110 ∧ n ≤ c) ∧ Kept (fun b => b = B) w0 wx
theorem DpI.fin {w0 wr : World} {B : Nat} {v : Value} {cs : List Int} {k : Nat} {size : Int} {Z g c : Nat} {bs : List Int} {fa : Option Addr} {fn fc : Nat} {qs : List StLogFrame} {en : Int} (h : DpI w0 B v cs k size Z g c bs fa fn fc qs en wr) (hq : qs.length ≤ 110) (number : Int) : DpE w0 B Z (.int .i64 number) (.slice (some ⟨g, 0, none⟩) 4096 c) wr :=
 ⟨number, bs, fa, fn, fc, qs, en, rfl, h.isB, by rw [h.len]; exact Nat.le_refl _, h.page.rd, h.box, h.own.rd, fun p hp => (h.each p hp).w, ⟨hq, h.cap⟩, h.src.kept⟩
def DrR (w w' : World) (e : Ending) : Prop :=
 ∃ (pv : Value) (fa : Option Addr) (fn fc : Nat) (raw : List Int) (number frm : Int) (ps : List StLogFrame), e = .returned (.tuple #[pv, .int .i64 number, .slice fa fn fc, .int .i64 frm]) ∧ IsB raw ∧ raw.length ≤ 4096 ∧ Rd .u8 w' pv raw ∧ RdFr w' (.slice fa fn fc) ps ∧ (∀ p ∈ ps, RcW p.record) ∧ (ps.length ≤ 110 ∧ fn ≤ fc) ∧ Same w w'
theorem drp_k (v : Value) (cs : List Int) (w : World) (hb : IsB cs) (hn : cs.length ≤ 1048576) (hv : Rd .u8 w v cs) :
  Calls Try.prog 4 #[v] w fun e w' => DrR w w' e := by
 have kS := source_r v cs w hb hn hv
 clear hb hn hv
 go_enter Try.func4, Try.ntmps4
 go_wp2_with fail
 refine kS.mono ?_
 rintro e w1 ⟨B, size, rfl, hB, hs, hk⟩
 have HS := hid hs
 have HK := (show Hid (w.heap.size ≤ B ∧ Same w w1) from ⟨hB, hk⟩)
 clear hB hs hk kS
 go_wp2_with fail
 refine (hist_k HS.out (by omega)).mono ?_
 rintro e w2 ⟨fa, fn, fc, qs, en, ck, k2, rfl, ho, hq1, hq2, he, hf, hs2, hk2, hkk⟩
 have HO := hid ho
 have HE := hid he
 have HF := hid hf
 have HS2 := hid hs2
 have hsz := hkk.size
 have hBl := HS.out.lt
 clear ho he hf hs2 hkk HS
 go_upto_region 3 with fail
 obtain ⟨Z, hZ⟩ : ∃ Z, w2.heap.size = Z := ⟨_, rfl⟩
 have hb3 := Blk.newL w2 [.slice fa fn fc, .int .i64 en] 36
 have hk3 : Same w2 (w2.alloc (.cells #[.slice fa fn fc, .int .i64 en] 36)) := (Kept.refl _ _).alloc _
 rw [hZ] at hb3 ⊢
 generalize w2.alloc (.cells #[.slice fa fn fc, .int .i64 en] 36) = w3 at hb3 hk3 ⊢
 have HB3 := hid hb3
 have HS3 := hid (HS2.out.same hk3)
 have HO3 := hid (HO.out.same hk3)
 have HFZ := (show Hid (∀ b, footFr (.slice fa fn fc) qs b → ¬ b = B ∧ ¬ b = Z ∧ w1.heap.size ≤ b) from fun b hb => ⟨(HF.out b hb).2, by have := HO.out.lt b hb; omega, (HF.out b hb).1⟩)
 have hZB : ¬ Z = B := by omega
 have hZ1 : w1.heap.size ≤ Z := by omega
 clear hb3 hk3 HS2 HO HF hZ hsz
 go_wp2_with fail
 refine (next_k 3 HS3.out (by omega) (by constructor <;> decide)).mono ?_
 rintro e w4 ⟨p, rfl, hd, hs', hk'⟩
 obtain ⟨hp1, hp2⟩ := hd.2 (by decide)
 have HS4 := hid hs'
 have HB4 := hid (HB3.out.kept hk' hZB)
 have HO4 := hid (HO3.out.kept hk' (fun b hb => (HFZ.out b hb).1))
 clear hd hs' hk' HS3 HB3 HO3
 go_wp2_with fail
 refine (specNew_any p w4).mono ?_
 rintro e w5 ⟨a, c, rfl, hf5, ho5, hk5⟩
 have hgd := good_new p hp1 (by omega)
 obtain ⟨g, rfl⟩ := own_some ho5 (by rw [hgd.len]; decide)
 have hgl := hgd.len
 have HI5 := (show Hid (DpI w1 B v cs (k2 + 1) size Z g c (pageNew p) fa fn fc qs en w5) from by
  have h1 := hf5 g rfl
  have h2 := HB4.out.lt
  have h3 := HS4.out.lt
  have h4 := HS4.out.kept.size
  exact ⟨HS4.out.same hk5, HB4.out.same hk5, HO4.out.same hk5, by rw [hgl] at ho5; exact ho5, hgl, hgd.2, HE.out, fun b hb => ⟨(HFZ.out b hb).1, (HFZ.out b hb).2.1, by have := HO4.out.lt b hb; omega, (HFZ.out b hb).2.2⟩, ⟨hZB, by omega, hZ1⟩, by omega, by omega⟩)
 rw [hgl]
 clear hf5 ho5 hk5 HS4 HB4 HO4 hgd hgl HFZ HE
 generalize pageNew p = bs at HI5
 go_wp2_with fail
 refine (chance_k 2 HI5.out.src (by omega) (by constructor <;> decide)).mono ?_
 rintro e w6 ⟨b1, rfl, hs', hk'⟩
 have HI6 := hid (HI5.out.draw hs' hk')
 clear HI5 hs' hk'
 go_upto_if 24 with fail
 go_cut [10] (fun x wx => Hid (∃ (g c : Nat) (bs : List Int) (k' : Nat), x = .slice (some ⟨g, 0, none⟩) 4096 c ∧ k' ≤ k2 + 410 ∧ DpI w1 B v cs k' size Z g c bs fa fn fc qs en wx))
 case first =>
  cases b1
  ·go_wp2_with fail
   go_meet
   case rel => exact ⟨g, c, bs, _, rfl, by omega, HI6.out⟩
  ·go_wp2_with fail
   refine (pg_k p hp1 (by omega) HI6.out.src (by omega)).mono ?_
   rintro e w7 ⟨g', c', ys, k7, rfl, hl, hbb, ho, hgB, hk7, hs7, hgw, hkk⟩
   have HI7 := hid (HI6.out.other hs7 hkk (ho.mono (fun _ _ => Nat.zero_le _)) hl hbb hgw hgB)
   clear ho hs7 hkk hbb hl HI6
   go_wp2_with fail
   go_meet
   case rel => exact ⟨g', c', ys, _, rfl, by omega, HI7.out⟩
 case rest =>
 as_aux_lemma =>
 clear HI6
 obtain ⟨g, c, bs, k7, rfl, hk7, hI⟩ := hcut.out
 have HI7 := hid hI
 clear hcut hI
 go_wp2_with fail
 refine (chance_k 2 HI7.out.src (by omega) (by constructor <;> decide)).mono ?_
 rintro e w8 ⟨b2, rfl, hs', hk'⟩
 have HI8 := hid (HI7.out.draw hs' hk')
 clear HI7 hs' hk'
 obtain ⟨gF, rfl, hfn⟩ := HI8.out.own.some hq1
 have HFN := hid hfn
 have hfn1 : 1 ≤ fn := by omega
 have hfn2 : fn ≤ 110 := by omega
 clear hfn
 go_upto_if 29 with fail
 go_cut [11] (fun x wx => Hid (∃ (z : Int) (k' : Nat), x = .int .i64 z ∧ k' ≤ k2 + 420 ∧ DpI w1 B v cs k' size Z g c bs (some ⟨gF, 0, none⟩) fn fc qs en wx))
 case first =>
  cases b2
  ·go_wp2_with fail
   go_meet
   case rel => exact ⟨0, _, rfl, by omega, HI8.out⟩
  ·go_wp2_with fail
   refine wp_region_V (fun wx : World => wx.cell? ⟨Z, 0, none⟩ = some (.slice (some ⟨gF, 0, none⟩) fn fc)) 99 11 rfl (by kernel_rfl) ?_
   generalize hwd : World.drew w8 = w9
   have hk9 : Same w8 w9 := by rw [← hwd]; exact (Kept.refl _ _).drew
   clear hwd
   have HI9 := hid (HI8.out.same hk9)
   have hS : (fun wx : World => wx.cell? ⟨Z, 0, none⟩ = some (.slice (some ⟨gF, 0, none⟩) fn fc)) w9 := HI9.out.box.cell 0
   clear HI8 hk9
   refine tk 0 30 hS ?_
   refine tk 1 31 hS ?_
   refine tk 2 32 hS ?_
   refine tk 3 33 hS ?_
   refine tk 4 34 hS ?_
   refine tk 5 35 hS ?_
   refine wpAnyV_one (i := 6) (by kernel_rfl) rfl (fun K hK => ?_)
   go_simp
   refine (next_k (fn : Int) HI9.out.src (by omega) (by constructor <;> omega)).mono ?_
   rintro e wa ⟨d, rfl, hd, hs', hk'⟩
   obtain ⟨hd1, hd2⟩ := hd.2 (by omega)
   obtain ⟨d, rfl⟩ : ∃ m : Nat, d = (m : Int) := ⟨d.toNat, by omega⟩
   have HIa := hid (HI9.out.draw hs' hk')
   have hdq : d < qs.length := by have := HFN.out; omega
   obtain ⟨Ld, hLd⟩ : ∃ z, qs[d].lsn = z := ⟨_, rfl⟩
   have cL : wa.cell? ⟨gF, d * 16, none⟩ = some (.int .i64 Ld) := by
    rcases HIa.out.own.own.rd.row with ⟨h0, _⟩ | ⟨b, off, c', he, hc⟩
    ·rw [h0] at hdq
     simp at hdq
    ·injection he with e1 _ _
     injection e1 with e1
     injection e1 with e1 e2 _
     have h := hc d 0 hdq (by show 0 < 16; omega)
     rw [← e1, ← e2, Nat.zero_add, Nat.add_zero] at h
     rw [← hLd]
     exact h
   have hS : (fun wx : World => wx.cell? ⟨Z, 0, none⟩ = some (.slice (some ⟨gF, 0, none⟩) fn fc)) wa := HIa.out.box.cell 0
   clear HI9 hd hs' hk' hLd hd1
   go_wp2_with fail
   refine hK.out _ _ (fun _ => hS) ?_
   clear hK K
   try simp only [Act.put, sA, s0, sS]
   refine wpAnyV_one (i := 7) (by kernel_rfl) rfl (fun K hK => ?_)
   go_simp
   refine hK.out _ _ (fun _ => hS) ?_
   clear hK K
   try simp only [Act.put, sA, s0, sS]
   refine wpAnyV_one (i := 8) (by kernel_rfl) rfl (fun K hK => ?_)
   go_simp
   refine hK.out _ _ (fun _ => hS) ?_
   clear hK K
   try simp only [Act.put, sA, s0, sS]
   refine wpAnyV_one (i := 9) (by kernel_rfl) rfl (fun K hK => ?_)
   go_simp
   refine hK.out _ _ (fun _ => hS) ?_
   clear hK K
   try simp only [Act.put, sA, s0, sS]
   refine wpAnyV_one (i := 10) (by kernel_rfl) rfl (fun K hK => ?_)
   go_simp
   refine hK.out _ _ (fun _ => hS) ?_
   clear hK K
   try simp only [Act.put, sA, s0, sS]
   refine wpAnyV_done (by kernel_rfl) ?_
   try simp only [Act.put, sA, s0, sS]
   clear hS cL
   go_wp2_with fail
   go_meet
   case rel => exact ⟨Ld, _, rfl, by omega, HIa.out⟩
 case rest =>
 as_aux_lemma =>
 clear HI8
 obtain ⟨frm, k9, rfl, hk9, hI⟩ := hcut.out
 have HI9 := hid hI
 clear hcut hI
 go_wp2_with fail
 refine (next_k 15 HI9.out.src (by omega) (by constructor <;> decide)).mono ?_
 rintro e wa ⟨z, rfl, hd, hs', hk'⟩
 have HIa := hid (HI9.out.draw hs' hk')
 clear HI9 hd hs' hk'
 go_upto_block 0 with fail
 go_cut [9, 10] (fun x y wx => Hid (DpE w1 B Z x y wx))
 case first =>
  by_cases z0 : z = 0
  ·subst z0
   as_aux_lemma =>
   have kB := bend_g g c bs HIa.out.src (by omega) HIa.out.gb.1 HIa.out.gb.2 HIa.out.len HIa.out.isB HIa.out.page
   go_wp2_with fail
   refine kB.mono ?_
   rintro e wb ⟨off, n, cc, ds, k10, rfl, hl, hn, hbb, hR, hk10, hs10, hkk⟩
   have HE := (show Hid (DpE w1 B Z (.int .i64 p) (.slice (some ⟨g, off, none⟩) n cc) wb) from ⟨p, ds, some ⟨gF, 0, none⟩, fn, fc, qs, en, rfl, hbb, by omega, hR.rd, HIa.out.box.kept hkk (fun e => e.elim HIa.out.z.1 HIa.out.z.2.1), (HIa.out.own.kept hkk (fun b hb e => e.elim (HIa.out.foot b hb).1 (HIa.out.foot b hb).2.2.1)).rd, fun q hq => (HIa.out.each q hq).w, ⟨hq2, HIa.out.cap⟩, hs10.kept⟩)
   clear kB hR hs10 hkk hbb HIa
   go_wp2_with fail
   go_meet
   case rel => exact HE
  have e0 : (z == 0) = false := by simp [z0]
  clear z0
  by_cases z1 : z = 1
  ·subst z1
   as_aux_lemma =>
   obtain ⟨m, hm⟩ : ∃ m, IntKind.i64.wrap (p + 1) = m := ⟨_, rfl⟩
   have HE := hid (HIa.out.fin hq2 m)
   clear HIa
   go_wp2_with fail
   go_meet
   case rel => exact HE
  have e1 : (z == 1) = false := by simp [z1]
  clear z1
  by_cases z2 : z = 2
  ·subst z2
   as_aux_lemma =>
   have kB := bscan_k HIa.out.src (by omega) HIa.out.src.kept.size (some ⟨gF, 0, none⟩) fn fc qs en HIa.out.own hq1 hq2 HIa.out.each (fun b hb => ⟨(HIa.out.foot b hb).1, (HIa.out.foot b hb).2.2.2⟩)
   have c0 : wa.cell? ⟨Z, 0, none⟩ = some (.slice (some ⟨gF, 0, none⟩) fn fc) := HIa.out.box.cell 0
   have c1 : wa.cell? ⟨Z, 1, none⟩ = some (.int .i64 en) := HIa.out.box.cell 1
   go_wp2_with fail
   refine kB.mono ?_
   rintro e wb ⟨a, n, cc, ps, e9, k10, rfl, hrd, hft, hpw, hpl, hk10, hs10, hkk⟩
   have hzF : ¬ (Z = B ∨ footFr (.slice (some ⟨gF, 0, none⟩) fn fc) qs Z) := fun e => e.elim HIa.out.z.1 (fun e => (HIa.out.foot Z e).2.1 rfl)
   have hbx := HIa.out.box.kept hkk hzF
   have x0 : wb.cell? ⟨Z, 0, none⟩ = some (.slice (some ⟨gF, 0, none⟩) fn fc) := hbx.cell 0
   have x1 : wb.cell? ⟨Z, 1, none⟩ = some (.int .i64 en) := hbx.cell 1
   have ff := hbx.frozen
   have hkz : Kept (fun b => b = Z) wb ((wb.setCell ⟨Z, 0, none⟩ (.slice a n cc)).setCell ⟨Z, 1, none⟩ (.int .i64 e9)) := by
    iterate 2 refine Kept.setCell ?_ (.inr (by rfl)) _
    exact Kept.refl _ _
   have hzl := HIa.out.box.lt
   have HE := (show Hid (DpE w1 B Z (.int .i64 p) (.slice (some ⟨g, 0, none⟩) 4096 c) ((wb.setCell ⟨Z, 0, none⟩ (.slice a n cc)).setCell ⟨Z, 1, none⟩ (.int .i64 e9))) from ⟨p, bs, a, n, cc, ps, e9, rfl, HIa.out.isB, by rw [HIa.out.len]; exact Nat.le_refl _, ((HIa.out.page.kept hkk (fun b hb e => by rw [ownG hb] at e; exact e.elim HIa.out.gb.1 (fun e => (HIa.out.foot g e).2.2.1 rfl))).kept hkz (fun b hb e => by rw [ownG hb] at e; exact HIa.out.z.2.1 e.symm)).rd, (hbx.stored 0 _).stored 1 _, hrd.kept hkz (fun b hb e => by
    have e' : b = Z := e
    subst e'
    rcases hft b hb with e | e
    ·exact (HIa.out.foot b e).2.1 rfl
    ·omega), hpw, hpl, hs10.kept.next hkz (fun i hi e => by have e' : i = Z := e; omega)⟩)
   clear kB hrd hft hpw hs10 hkk hbx hkz HIa c0 c1
   go_wp2_with fail
   generalize World.setCell _ ⟨Z, 1, none⟩ _ = wz at HE ⊢
   go_meet
   case rel => exact HE
  have e2 : (z == 2) = false := by simp [z2]
  clear z2
  have HE := hid (HIa.out.fin hq2 p)
  clear HIa
  go_wp2_with fail
  go_meet
  case rel => exact HE
 case rest =>
 as_aux_lemma =>
 clear HIa
 obtain ⟨number, raw, a, n, c9, ps, e9, rfl, hB, hl, hR, hbx, hrd, hpw, hpl, hkk⟩ := hcut.out
 have HB := hid hB
 have HR := hid hR
 have HBX := hid hbx
 have HRD := hid hrd
 have HPW := hid hpw
 have HKK := hid hkk
 clear hcut hB hR hbx hrd hpw hkk
 go_wp2_with fail
 refine wp_region_V (fun wx : World => wx.cell? ⟨Z, 0, none⟩ = some (.slice a n c9)) 99 9 rfl (by kernel_rfl) ?_
 generalize hwd : World.drew wc = wd
 have hkd : Same wc wd := by rw [← hwd]; exact (Kept.refl _ _).drew
 clear hwd
 have hS : (fun wx : World => wx.cell? ⟨Z, 0, none⟩ = some (.slice a n c9)) wd := (HBX.out.same hkd).cell 0
 have HKD := hid hkd
 clear hkd
 refine tk 0 56 hS ?_
 refine tk 1 57 hS ?_
 refine tk 2 58 hS ?_
 refine tk 3 59 hS ?_
 refine tk 4 60 hS ?_
 refine tk 5 2 hS ?_
 refine tk 6 3 hS ?_
 refine tk 7 4 hS ?_
 refine tk 8 5 hS ?_
 refine wpAnyV_done (by kernel_rfl) ?_
 try simp only [Act.put, sA, s0, sS]
 clear hS
 go_wp2_with fail
 refine bodyPost_ret (v := .tuple #[u10, .int .i64 number, .slice a n c9, .int .i64 frm]) (by simp [results, Try.results4, go_sem]) rfl ?_
 exact ⟨u10, a, n, c9, raw, number, frm, ps, rfl, HB.out, hl, HR.out.same HKD.out, HRD.out.same HKD.out, HPW.out, hpl, (HK.out.2.next HKK.out (fun i hi e => by have e' : i = B := e; have := HK.out.1; omega)).trans HKD.out⟩
section
variable {H : Type} {enc : TypeId × Value → H} {w : World} {base : Nat} {spare : Nat → Bool} {held : Bool}
def StLogFrame.isB (p : StLogFrame) : Prop := IsB p.record.before.data.bs ∧ IsB p.record.after.data.bs ∧ IsB p.record.image.bs
end
structure FrOK (qs : List StLogFrame) : Prop where
 len : qs.length ≤ 1048576
 each : ∀ p ∈ qs, p.szs ≤ 1048576
 sum : sizeFr qs ≤ 1048576
 isB : ∀ p ∈ qs, p.isB
theorem isB_fr {x y : StLogFrame} (h : y.dat = x.dat) (hx : x.isB) : y.isB := by
 simp only [StLogFrame.dat, StLogRecord.dat, StPageRecord.dat, Prod.mk.injEq] at h
 obtain ⟨_, _, _, _, _, _, _, ⟨_, h1⟩, ⟨_, h2⟩, _, _, _, _, h3⟩ := h
 unfold StLogFrame.isB at *
 rw [h1, h2, h3]
 exact hx
theorem FrOK.of {qs ps : List StLogFrame} (h : datFr qs = datFr ps) (hz : szsFr qs = szsFr ps) (hB : ∀ p ∈ ps, p.isB) (hl : ps.length ≤ 1048576) (hs : sizeFr ps ≤ 1048576) : FrOK qs := by
 have hlen : qs.length = ps.length := by rw [← datFr_length, ← datFr_length, h]
 have hsum := sizeFr_szs hz
 refine ⟨by omega, fun p hp => by have := sizeFr_mem qs p hp; omega, by omega, fun p hp => ?_⟩
 obtain ⟨k, hk, rfl⟩ := List.mem_iff_getElem.1 hp
 exact isB_fr (datFr_at h k hk (by omega)) (hB _ (List.getElem_mem (by omega)))
structure StPageResult where
 code : Int
 page : BS
def StPageResult.val (x : StPageResult) : Value := .agg #[.int .i64 x.code, x.page.v]
def StPageResult.rows (x : StPageResult) : List Row := x.page.rows
def StPageResult.dat (x : StPageResult) : Int × List Int := (x.code, x.page.bs)
def StPageResult.size (x : StPageResult) : Int := (x.page.bs.length : Int)
def StPageResult.marked (x : StPageResult) (k : Int) : StPageResult := ⟨x.code, x.page.marked (k)⟩
def StPageResult.rd (w : World) (x : StPageResult) : Prop := Rd .u8 w x.page.v x.page.bs
theorem StPageResult.rd.kept {R : Nat → Prop} {w w' : World} {x : StPageResult} (h : StPageResult.rd w x) (hk : Kept R w w') (hr : ∀ b, FootL x.rows b → ¬ R b) : StPageResult.rd w' x :=
 Rd.kept (h) hk (fun b hb => hr b (((footL_ints _ _ _ _ _).2 hb)))
theorem StPageResult.rd.same {w w' : World} {x : StPageResult} (h : StPageResult.rd w x) (hk : Same w w') : StPageResult.rd w' x := h.kept hk (fun _ _ => id)
theorem StPageResult.own_rd {w : World} {x : StPageResult} (h : OwnL w x.rows) : StPageResult.rd w x :=
 (OwnL.of_one h).rd
def StPageResult.szs (x : StPageResult) : Int := (x.page.bs.length : Int)
theorem StPageResult.szs_le (x : StPageResult) : 0 ≤ x.szs := by
 unfold StPageResult.szs
 omega
def StPageRecord.isB (x : StPageRecord) : Prop := IsB x.data.bs
def SameP (w0 w : World) : Prop := Same w0 w
theorem SameP.same {w0 w w' : World} (h : SameP w0 w) (hk : Same w w') : SameP w0 w' := Kept.trans h hk
abbrev FrD := Int × Int × RcY
def fLsn (d : FrD) : Int := d.1
def fKind (d : FrD) : Int := d.2.2.1
def fPage (d : FrD) : Int := d.2.2.2.2.2.1
def fSlot (d : FrD) : Int := d.2.2.2.2.2.2.1
def fAft (d : FrD) : Bool × List Int := d.2.2.2.2.2.2.2.2.1
def skipF (raw : List Int) (number frm : Int) (d : FrD) : Prop := (¬ fKind d = 1 ∧ ¬ fKind d = 2) ∨ ¬ fPage d = number ∨ fLsn d < frm ∨ fLsn d ≤ pageLSN raw
def skipFDec (raw : List Int) (number frm : Int) (d : FrD) : Decidable (skipF raw number frm d) := inferInstanceAs (Decidable (_ ∨ _))
def redoOne (raw : List Int) (d : FrD) : Int × List Int := pageSet raw (fSlot d) (fAft d).1 (fAft d).2 (fLsn d)
def redoL (number frm : Int) : List Int → List FrD → Int × List Int
 | raw, [] => (0, raw)
 | raw, d :: ds => @ite _ (skipF raw number frm d) (skipFDec raw number frm d) (redoL number frm raw ds) (if (redoOne raw d).1 = 0 then redoL number frm (redoOne raw d).2 ds else (2, []))
def redoD (raw : List Int) (number : Int) (ds : List FrD) (frm : Int) : Int × List Int := if pageFault raw number = 0 then redoL number frm raw ds else (1, [])
theorem fault0 {raw : List Int} {number : Int} : pageFault raw number = 0 ↔ ownOK raw = true ∧ numAt raw 12 4 = number := by
 unfold ownOK pageFault faultP
 by_cases hl : raw.length = 4096
 ·simp only [hl, ne_eq, not_true_eq_false, if_false, beq_self_eq_true, Bool.true_and, beq_iff_eq]
  by_cases hn : numAt raw 12 4 = number
  ·rw [hn]; simp
  ·simp [hn]
 ·simp [hl]
theorem redoOne_ok {raw : List Int} (hB : IsB raw) (hok : ownOK raw = true) {d : FrD} (hd : IsB (fAft d).2) (h0 : (redoOne raw d).1 = 0) : ownOK (redoOne raw d).2 = true ∧ IsB (redoOne raw d).2 ∧ numAt (redoOne raw d).2 12 4 = numAt raw 12 4 := by
 unfold redoOne pageSet at h0 ⊢
 by_cases h1 : setBad raw (fSlot d) (fAft d).1 (fAft d).2 (fLsn d) = true
 ·rw [if_pos h1] at h0; simp at h0
 rw [if_neg h1] at h0 ⊢
 by_cases h2 : setFull raw (fSlot d).toNat (fAft d).2
 ·rw [if_pos h2] at h0; simp at h0
 rw [if_neg h2] at h0 ⊢
 simp [setBad] at h1
 obtain ⟨_, g1, g2, g3, g4, g5, g6⟩ := h1
 have hk : (fSlot d).toNat < 32 := by omega
 have hsl := slOK_of hB hok
 have hz := usedN_zero (slotsOf raw) (fSlot d).toNat 32
 rw [if_pos hk] at hz
 obtain ⟨b, sl, r, e, h3, h4, h5, _⟩ := setB_ok hB hok (fSlot d).toNat hk (fAft d).1 (fAft d).2 hd (fLsn d) (by simp [isLSN]; omega) (by omega) (by unfold cBot; unfold setFull at h2; omega)
 refine ⟨h4, h5, ?_⟩
 show numAt (setB raw (fSlot d).toNat (fAft d).1 (fAft d).2 (fLsn d)) 12 4 = _
 rw [e, h3.dec.2.1]
theorem redoL_step {number frm : Int} {raw : List Int} {ps : List StLogFrame} {k : Nat} (hk : k < ps.length) : redoL number frm raw (datFr (ps.drop k)) = @ite _ (skipF raw number frm ps[k].dat) (skipFDec raw number frm ps[k].dat) (redoL number frm raw (datFr (ps.drop (k + 1)))) (if (redoOne raw ps[k].dat).1 = 0 then redoL number frm (redoOne raw ps[k].dat).2 (datFr (ps.drop (k + 1))) else (2, [])) := by
 rw [List.drop_eq_getElem_cons hk]
 rfl
theorem redoOne_lsn {raw : List Int} (h : GoodB raw) {d : FrD} (hd : IsB (fAft d).2) (h0 : (redoOne raw d).1 = 0) : pageLSN (redoOne raw d).2 = fLsn d := by
 unfold redoOne at h0 ⊢
 rcases set_cases h (fSlot d) (fAft d).1 (fAft d).2 hd (fLsn d) with ⟨e, _⟩ | ⟨_, _, e⟩ | ⟨_, _, e, hm⟩
 ·rw [e] at h0; simp at h0
 ·rw [e] at h0; simp at h0
 ·rw [e]
  exact hm.lsn
theorem skipF_up {raw raw' : List Int} {number frm : Int} {d : FrD} (h : skipF raw number frm d) (hl : pageLSN raw ≤ pageLSN raw') : skipF raw' number frm d := by
 unfold skipF at h ⊢
 omega
theorem redoL_skip {number frm : Int} {raw : List Int} : ∀ {ds : List FrD}, (∀ d ∈ ds, skipF raw number frm d) → redoL number frm raw ds = (0, raw)
 | [], _ => rfl
 | d :: ds, h => by
  rw [redoL, if_pos (h d (List.mem_cons_self ..))]
  exact redoL_skip (fun x hx => h x (List.mem_cons_of_mem _ hx))
theorem redoL_inv {number frm : Int} : ∀ {ds : List FrD} {raw : List Int}, GoodB raw → (∀ d ∈ ds, IsB (fAft d).2) → (redoL number frm raw ds).1 = 0 →
  GoodB (redoL number frm raw ds).2 ∧ numAt (redoL number frm raw ds).2 12 4 = numAt raw 12 4 ∧ pageLSN raw ≤ pageLSN (redoL number frm raw ds).2 ∧ ∀ d ∈ ds, skipF (redoL number frm raw ds).2 number frm d
 | [], raw, hg, _, _ => ⟨hg, rfl, Int.le_refl _, fun d hd => by simp at hd⟩
 | d :: ds, raw, hg, hB, h0 => by
  have hB' : ∀ x ∈ ds, IsB (fAft x).2 := fun x hx => hB x (List.mem_cons_of_mem _ hx)
  by_cases hs : skipF raw number frm d
  ·have e : redoL number frm raw (d :: ds) = redoL number frm raw ds := by rw [redoL, if_pos hs]
   rw [e] at h0 ⊢
   obtain ⟨h1, h2, h3, h4⟩ := redoL_inv hg hB' h0
   exact ⟨h1, h2, h3, fun x hx => by
    rcases List.mem_cons.1 hx with rfl | hx
    ·exact skipF_up hs h3
    ·exact h4 x hx⟩
  ·by_cases hc : (redoOne raw d).1 = 0
   ·have e : redoL number frm raw (d :: ds) = redoL number frm (redoOne raw d).2 ds := by rw [redoL, if_neg hs, if_pos hc]
    rw [e] at h0 ⊢
    have hd := hB d (List.mem_cons_self ..)
    obtain ⟨g1, g2, g3⟩ := redoOne_ok hg.2 hg.1 hd hc
    have hl := redoOne_lsn hg hd hc
    obtain ⟨h1, h2, h3, h4⟩ := redoL_inv (show GoodB (redoOne raw d).2 from ⟨g1, g2⟩) hB' h0
    refine ⟨h1, h2.trans g3, ?_, fun x hx => ?_⟩
    ·unfold skipF at hs
     omega
    ·rcases List.mem_cons.1 hx with rfl | hx
     ·unfold skipF
      omega
     ·exact h4 x hx
   ·have e : redoL number frm raw (d :: ds) = (2, []) := by rw [redoL, if_neg hs, if_neg hc]
    rw [e] at h0
    simp at h0
theorem redoL_append {number frm : Int} : ∀ (xs ys : List FrD) (raw : List Int), redoL number frm raw (xs ++ ys) = if (redoL number frm raw xs).1 = 0 then redoL number frm (redoL number frm raw xs).2 ys else (2, [])
 | [], ys, raw => by simp [redoL]
 | d :: xs, ys, raw => by
  rw [List.cons_append, redoL, redoL]
  by_cases hs : skipF raw number frm d
  ·rw [if_pos hs, if_pos hs]
   exact redoL_append xs ys raw
  ·rw [if_neg hs, if_neg hs]
   by_cases hc : (redoOne raw d).1 = 0
   ·rw [if_pos hc, if_pos hc]
    exact redoL_append xs ys _
   ·rw [if_neg hc, if_neg hc]
    simp
theorem redoD_bad {raw : List Int} {number frm : Int} {ds : List FrD} (h : (redoD raw number ds frm).1 ≠ 0) : (redoD raw number ds frm).2 = [] := by
 have key : ∀ (ds : List FrD) (raw : List Int), (redoL number frm raw ds).1 ≠ 0 → (redoL number frm raw ds).2 = [] := by
  intro ds
  induction ds with
  | nil => intro raw h; exact absurd rfl h
  | cons d ds ih =>
   intro raw h
   rw [redoL] at h ⊢
   by_cases hs : skipF raw number frm d
   ·rw [if_pos hs] at h ⊢
    exact ih raw h
   ·rw [if_neg hs] at h ⊢
    by_cases hc : (redoOne raw d).1 = 0
    ·rw [if_pos hc] at h ⊢
     exact ih _ h
    ·rw [if_neg hc]
 unfold redoD at h ⊢
 split
 ·rename_i h0
  rw [if_pos h0] at h
  exact key ds raw h
 ·rfl
theorem redo_all {raw : List Int} {number frm : Int} {ds : List FrD} (hR : IsB raw) (hB : ∀ d ∈ ds, IsB (fAft d).2) (h0 : (redoD raw number ds frm).1 = 0) (k : Nat) :
  redoD (redoD raw number ds frm).2 number ds frm = redoD raw number ds frm ∧ (redoD raw number (ds.take k) frm).1 = 0 ∧ redoD (redoD raw number (ds.take k) frm).2 number ds frm = redoD raw number ds frm ∧
   pageFault (redoD raw number ds frm).2 number = 0 ∧ pageLSN raw ≤ pageLSN (redoD raw number ds frm).2 ∧ IsB (redoD raw number ds frm).2 ∧ IsB (redoD raw number (ds.take k) frm).2 ∧ (redoD raw number ds frm).2.length = 4096 ∧ (redoD raw number (ds.take k) frm).2.length = 4096 := by
 have hpf : pageFault raw number = 0 := by
  by_cases h : pageFault raw number = 0
  ·exact h
  ·unfold redoD at h0; rw [if_neg h] at h0; simp at h0
 have hg : GoodB raw := ⟨(fault0.1 hpf).1, hR⟩
 have hn := (fault0.1 hpf).2
 have e : ∀ xs, redoD raw number xs frm = redoL number frm raw xs := fun xs => by unfold redoD; rw [if_pos hpf]
 rw [e] at h0
 rw [e, e]
 obtain ⟨h1, h2, h3, h4⟩ := redoL_inv hg hB h0
 have hx : redoL number frm raw ds = (0, (redoL number frm raw ds).2) := Prod.ext h0 rfl
 have hf1 : pageFault (redoL number frm raw ds).2 number = 0 := fault0.2 ⟨h1.1, h2.trans hn⟩
 have hspl := redoL_append (number := number) (frm := frm) (ds.take k) (ds.drop k) raw
 rw [List.take_append_drop] at hspl
 have hk0 : (redoL number frm raw (ds.take k)).1 = 0 := by
  by_cases h : (redoL number frm raw (ds.take k)).1 = 0
  ·exact h
  ·rw [if_neg h] at hspl; rw [hspl] at h0; simp at h0
 rw [if_pos hk0] at hspl
 obtain ⟨k1, k2, k3, k4⟩ := redoL_inv hg (fun d hd => hB d (List.mem_of_mem_take hd)) hk0
 have hf2 : pageFault (redoL number frm raw (ds.take k)).2 number = 0 := fault0.2 ⟨k1.1, k2.trans hn⟩
 refine ⟨?_, hk0, ?_, hf1, h3, h1.2, k1.2, h1.len, k1.len⟩
 ·have e2 : redoD (redoL number frm raw ds).2 number ds frm = redoL number frm (redoL number frm raw ds).2 ds := by unfold redoD; rw [if_pos hf1]
  rw [e2, redoL_skip h4]
  exact hx.symm
 ·have e2 : redoD (redoL number frm raw (ds.take k)).2 number ds frm = redoL number frm (redoL number frm raw (ds.take k)).2 ds := by unfold redoD; rw [if_pos hf2]
  rw [e2]
  have hs2 := redoL_append (number := number) (frm := frm) (ds.take k) (ds.drop k) (redoL number frm raw (ds.take k)).2
  rw [List.take_append_drop, redoL_skip k4] at hs2
  rw [hs2, if_pos rfl]
  exact hspl.symm
theorem num3_own {raw : List Int} (hB : IsB raw) (hok : ownOK raw = true) : (0 ≤ numAt raw 4 8 ∧ numAt raw 4 8 ≤ 9223372036854775807) ∧ (0 ≤ numAt raw 12 4 ∧ numAt raw 12 4 ≤ 9223372036854775807) ∧ (∀ x ∈ slotsOf raw, 0 ≤ x ∧ x ≤ 9223372036854775807) := by
 have hl := ownOK_len hok
 have h1 := isLSN_spec (own_enc hok).2
 have h2 := numAt_in raw hB 12 4 (by decide) (by decide) (by omega)
 exact ⟨h1, by omega, fun x hx => by have := slotsOf_small raw hB hl x hx; omega⟩
def ChR (w w' : World) (P : Nat) (x : Int) (ys : List Int) (e : Ending) : Prop := e = .returned (.int .i64 x) ∧ Kept (fun b => b = P) w w' ∧ ((x = 0 ∧ PgAt w' P ys ∧ ownOK ys = true ∧ IsB ys) ∨ (¬ x = 0 ∧ ys = []))
theorem ChR.no {w w' : World} (P : Nat) (x : Int) (hx : ¬ x = 0) (h : Same w w') : ChR w w' P x [] (.returned (.int .i64 x)) := ⟨rfl, h.mono (fun _ _ e => e.elim), .inr ⟨hx, rfl⟩⟩
theorem change_any (P : Nat) (E : List Int) (s : Int) (u : Bool) (ta : Option Addr) (tc : Nat) (d : List Int) (lsn : Int) (w w0 : World) (hB : IsB E) (hok : ownOK E = true) (hp : PgAt w P E) (hdn : d.length ≤ 1099511627776) (hd0 : Rd .u8 w0 (.slice ta d.length tc) d) (hP0 : w0.heap.size ≤ P) (hd : Rd .u8 w (.slice ta d.length tc) d) (hdB : IsB d) :
  Calls Try.prog 21 #[.pointer (some ⟨P, 0, none⟩), .int .i64 s, .agg #[.bool u, .slice ta d.length tc], .int .i64 lsn] w fun e w' => ChR w w' P (pageSet E s u d lsn).1 (pageSet E s u d lsn).2 e := by
 obtain ⟨n, hn0⟩ : ∃ n, d.length = n := ⟨_, rfl⟩
 have HN := hid hn0
 rw [hn0] at hd hd0 hdn ⊢
 obtain ⟨r, hr, hsp0⟩ := hp
 have hPl := hsp0.blk.lt
 have k0 := (Kept.refl (fun _ => False) w).alloc (.cells #[.bool u, .slice ta n tc] 44)
 have br := Blk.new w #[.bool u, .slice ta n tc] 44
 have HB1 := (show Hid (∀ wx, Same (w.alloc (.cells #[.bool u, .slice ta n tc] 44)) wx → Same w wx ∧ (wx.cell? ⟨w.heap.size, 0, none⟩ = some (.bool u) ∧ wx.cell? ⟨w.heap.size, 1, none⟩ = some (.slice ta n tc))) from fun wx h => ⟨k0.trans h, ⟨(br.same h).cell 0, (br.same h).cell 1⟩⟩)
 have HC0 := HB1.out _ (Kept.refl _ _)
 have HSP0 := (show Hid (SP w P (E.take 4) (numAt E 4 8) (numAt E 12 4) (numAt E 16 2) (slotsOf E) r) from hsp0)
 have HD0 := hid hd
 have HDO := hid hd0
 have hl := ownOK_len hok
 have HR := hid hr
 have HRL := hid hsp0.l3
 obtain ⟨_, r0, r1⟩ := HC0
 clear k0 br hn0 hsp0 hr hd hd0
 have kS := fun wx => isSlot_any s wx
 have kL := fun wx => isLSN_any lsn wx
 have kF := fun wx => fits_slot_any u ta n tc wx hdn
 cases hs0 : (decide (0 ≤ s) && decide (s < 32)) with
 | false =>
  rw [hs0] at kS
  rw [show pageSet E s u d lsn = (1, []) from by unfold pageSet setBad; rw [if_pos (by simp at hs0; simp; omega)]]
  clear hB hl hok
  go_enter Try.func21, Try.ntmps21
  go_wp2_with (first
     | (go_at_call 40; refine (kS _).mono ?_; rintro e w2 ⟨rfl, hk2⟩; obtain ⟨hs2, ⟨r0, r1⟩⟩ := HB1.out w2 hk2))
  go_ret
  exact ChR.no P 1 (by omega) hs2
 | true =>
 rw [hs0] at kS
 cases hl0 : isLSN lsn with
 | false =>
  rw [hl0] at kL
  rw [show pageSet E s u d lsn = (1, []) from by unfold pageSet setBad; rw [if_pos (by simp [isLSN] at hl0; simp; omega)]]
  clear hB hl hok
  go_enter Try.func21, Try.ntmps21
  go_wp2_with (first
     | (go_at_call 40; refine (kS _).mono ?_; rintro e w2 ⟨rfl, hk2⟩; obtain ⟨hs2, ⟨r0, r1⟩⟩ := HB1.out w2 hk2)
     | (go_at_call 41; refine (kL _).mono ?_; rintro e w3 ⟨rfl, hk3x⟩; have hk3 := hk2.trans hk3x; obtain ⟨hs3, ⟨r0, r1⟩⟩ := HB1.out w3 hk3))
  go_ret
  exact ChR.no P 1 (by omega) hs3
 | true =>
 rw [hl0] at kL
 cases hf0 : (decide (n ≤ 1000) && (u || decide (n = 0))) with
 | false =>
  rw [hf0] at kF
  rw [show pageSet E s u d lsn = (1, []) from by unfold pageSet setBad; rw [HN.out, if_pos (by cases u <;> simp at hf0 <;> simp <;> omega)]]
  clear hB hl hok
  go_enter Try.func21, Try.ntmps21
  go_wp2_with (first
     | (go_at_call 40; refine (kS _).mono ?_; rintro e w2 ⟨rfl, hk2⟩; obtain ⟨hs2, ⟨r0, r1⟩⟩ := HB1.out w2 hk2)
     | (go_at_call 41; refine (kL _).mono ?_; rintro e w3 ⟨rfl, hk3x⟩; have hk3 := hk2.trans hk3x; obtain ⟨hs3, ⟨r0, r1⟩⟩ := HB1.out w3 hk3)
     | (go_at_call 42; refine (kF _).mono ?_; rintro e w4 ⟨rfl, hk4x⟩; have hk4 := hk3.trans hk4x; obtain ⟨hs4, ⟨r0, r1⟩⟩ := HB1.out w4 hk4))
  go_ret
  exact ChR.no P 1 (by omega) hs4
 | true =>
 rw [hf0] at kF
 obtain ⟨k, rfl⟩ : ∃ k : Nat, s = k := ⟨s.toNat, by simp at hs0; omega⟩
 have hk32 : k < 32 := by simp at hs0; omega
 have hn1 : n ≤ 1000 := by simp at hf0; omega
 have hsl := slOK_of hB hok
 have hsm := slotsOf_small E hB hl
 have hbad : setBad E k u d lsn = false := by unfold setBad; rw [hok, HN.out]; simp [isLSN] at hl0; cases u <;> simp at hf0 ⊢ <;> omega
 have HPS := (show Hid (pageSet E k u d lsn = if 3948 < usedN (slotsOf E) 32 - (slotsOf E).getD (2 * k + 1) 0 + (n : Int) then (2, []) else (0, setB E k u d lsn)) from by
  show pageSet E k u d lsn = _
  unfold pageSet
  rw [hbad, if_neg (by simp), Int.toNat_natCast]
  by_cases hf : setFull E k d
  ·rw [if_pos hf, if_pos (by unfold setFull at hf; rw [HN.out] at hf; exact hf)]
  ·rw [if_neg hf, if_neg (by unfold setFull at hf; rw [HN.out] at hf; exact hf)])
 have HS := (show Hid (∀ wx, SP wx P (E.take 4) (numAt E 4 8) (numAt E 12 4) (numAt E 16 2) (slotsOf E) r → wx.cell? ⟨P, 7 + k * 2 + 1, none⟩ = some (.int .i64 ((slotsOf E).getD (2 * k + 1) 0))) from fun wx h => by rw [Nat.mul_comm, Nat.add_assoc]; exact h.slAt (2 * k + 1) (by omega))
 have kT := fun wx (h : SP wx P (E.take 4) (numAt E 4 8) (numAt E 12 4) (numAt E 16 2) (slotsOf E) r) => total_any P _ _ _ _ _ _ wx h hsm
 have hu := hsl.room 32 (Nat.le_refl _)
 have hx := hsm.at (2 * k + 1)
 have HU0 := (show Hid (usedN (sl0 (slotsOf E) k) 32 = usedN (slotsOf E) 32 - (slotsOf E).getD (2 * k + 1) 0) from by show usedN (sl0 (slotsOf E) k) 32 = _; rw [usedN_zero, if_pos hk32])
 have hu0 := (hsl.zero k).room 32 (Nat.le_refl _)
 rw [HU0.out] at hu0
 obtain ⟨U, hU⟩ : ∃ U, usedN (slotsOf E) 32 = U := ⟨_, rfl⟩
 obtain ⟨X, hX⟩ : ∃ X, (slotsOf E).getD (2 * k + 1) 0 = X := ⟨_, rfl⟩
 rw [hU, hX] at HU0 hu0 HPS
 rw [hU] at hu kT
 rw [hX] at hx HS
 have q1 : IntKind.i64.wrap (U - X) = U - X := by rw [IntKind.wrap_i64]; omega
 have q2 : IntKind.i64.wrap (U - X + n) = U - X + n := by rw [IntKind.wrap_i64]; omega
 have hk32i : (k : Int) < 32 := by omega
 go_enter Try.func21, Try.ntmps21
 go_wp2_with (first
  | (go_at_call 40; refine (kS _).mono ?_; rintro e w2 ⟨rfl, hk2⟩; obtain ⟨hs2, ⟨r0, r1⟩⟩ := HB1.out w2 hk2)
  | (go_at_call 41; refine (kL _).mono ?_; rintro e w3 ⟨rfl, hk3x⟩; have hk3 := hk2.trans hk3x; obtain ⟨hs3, ⟨r0, r1⟩⟩ := HB1.out w3 hk3)
  | (go_at_call 42; refine (kF _).mono ?_; rintro e w4 ⟨rfl, hk4x⟩; have hk4 := hk3.trans hk4x; obtain ⟨hs4, ⟨r0, r1⟩⟩ := HB1.out w4 hk4))
 have HSP4 := hid (HSP0.out.same hs4)
 have HK4 := hid hk4
 have X4 := HS.out w4 HSP4.out
 let Y1 : World → Prop := fun wx : World => wx.cell? ⟨P, 7 + k * 2 + 1, none⟩ = some (.int .i64 X) ∧ wx.cell? ⟨w.heap.size, 1, none⟩ = some (.slice ta n tc)
 have hS : Y1 w4.drew := ⟨X4, r1⟩
 refine wp_region_V Y1 99 15 rfl (by kernel_rfl) ?_
 refine tk 0 22 hS ?_
 refine tk 2 24 hS ?_
 refine tk 3 25 hS ?_
 refine tk 4 26 hS ?_
 refine tk 5 27 hS ?_
 refine tkV 6 28 (.pointer (some ⟨P, 7 + k * 2, none⟩)) hS ?_
 refine tk 7 29 hS ?_
 refine tk 8 30 hS ?_
 refine tk 10 32 hS ?_
 refine tk 11 33 hS ?_
 refine tk 12 34 hS ?_
 refine wpAnyV_one (i := 1) (by kernel_rfl) rfl (fun K hK => ?_)
 go_simp
 refine (kT _ (HSP4.out.same (Kept.refl _ _).drew)).mono ?_
 rintro e w5 ⟨rfl, hk5x⟩
 have hk5 := HK4.out.trans ((Kept.refl _ _).drew.trans hk5x)
 have HSP5 := hid (HSP4.out.same ((Kept.refl _ _).drew.trans hk5x))
 have X5 := HS.out w5 HSP5.out
 clear r0 r1
 obtain ⟨hs5, ⟨r0, r1⟩⟩ := HB1.out w5 hk5
 have hS : Y1 w5 := ⟨X5, r1⟩
 refine hK.out _ _ (fun _ => hS) ?_
 clear hK K
 try simp only [Act.put, sA, s0, sS]
 refine tkV 9 31 (.int .i64 (U - X)) hS ?_
 refine tkV 13 35 (.int .i64 (U - X + n)) hS ?_
 by_cases hfull : 3948 < U - X + (n : Int)
 ·refine tkV 14 36 (.bool true) hS ?_
  refine wpAnyV_done (by kernel_rfl) ?_
  go_wp2
  go_ret
  rw [HPS.out, if_pos hfull]
  exact ChR.no P 2 (by omega) hs5
 ·have HF := (show Hid (¬ 3948 < U - X + (n : Int)) from hfull)
  refine tkV 14 36 (.bool false) hS ?_
  refine wpAnyV_done (by kernel_rfl) ?_
  have hroom : 148 ≤ cBot (sl0 (slotsOf E) k) 32 - (d.length : Int) := by unfold cBot; rw [HU0.out, HN.out]; omega
  have hpt := ownOK_parts hok
  have HD5 := hid (HD0.out.same hs5)
  have kSet := setSP_any P (E.take 4) (numAt E 4 8) (numAt E 12 4) (numAt E 16 2) (slotsOf E) r k u ta tc d w5 HSP5.out hsl hk32 ⟨hpt.1, hpt.2.1⟩ (by rw [HN.out]; exact hn1) hroom (by rw [HN.out]; exact HD5.out) (fun w' hk => by rw [HN.out]; exact Rd.keptOld HDO.out HD5.out hP0 hk)
  rw [HN.out] at kSet
  have HOK := hid (setB_ok hB hok k hk32 u d hdB lsn hl0 (by rw [HN.out]; exact hn1) hroom)
  have HS5 := hid hs5
  clear hroom hpt kS kL kF kT hB hsl hsm hu hx hu0 hok hk5 hk5x hk4 hk4x hk3 hk3x hk2 hs2 hs3 hs4
  go_wp2_with fail
  refine kSet.mono ?_
  rintro e w6 ⟨rfl, hset, hk6⟩
  obtain ⟨b', sl', r', e1, e2, e3, e4, e5⟩ := HOK.out
  obtain ⟨r2, er2, hsp6⟩ := e5 _ _ _ _ HR.out HRL.out hset
  have HSP6 := hid hsp6
  have HK6 := (show Hid (Kept (fun b => b = P) w w6) from (HS5.out.mono (fun _ _ e => e.elim)).trans hk6)
  have l0 := HSP6.out.num3.1
  have lf := HSP6.out.blk.frozen 4
  have HE := hid (PgAt.of e2 er2 (HSP6.out.setLsn lsn))
  have HE1 := hid e1
  have HE2 := hid (And.intro e3 e4)
  clear hset hk6 kSet r0 r1 hsp6 e1 e2 e3 e4 e5 er2
  have HK7 := (show Hid (Kept (fun b => b = P) w (w6.setCell ⟨P, 4, none⟩ (.int .i64 lsn))) from HK6.out.setCell (p := ⟨P, 4, none⟩) (.inr rfl) _)
  go_wp2
  go_ret
  rw [HPS.out, if_neg (by have := HF.out; omega)]
  exact ⟨rfl, HK7.out, .inl ⟨rfl, by rw [HE1.out]; exact HE.out, HE2.out⟩⟩
theorem SetAns.st {ty : TypeId} {w w' : World} {e : Ending} {D : Int × List Int} (h : SetAns ty w w' e D.1 D.2) :
  ∃ y : StPageResult, e = .returned y.val ∧ y.dat = D ∧ (∀ b, FootL y.rows b → w.heap.size ≤ b) ∧ OwnL w' y.rows ∧ Same w w' := by
 obtain ⟨a, c, rfl, hf, ho, hk⟩ := h
 exact ⟨⟨D.1, ⟨ty, a, c, D.2⟩⟩, rfl, rfl, fun b hb => hf b ((footL_ints _ _ _ _ _).1 hb), OwnL.one ho, hk⟩
end Go.Proofs.Ytcldagphkpkdpaa
