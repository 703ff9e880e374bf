import Derived.Test.YtcldagphkpkdpaaHsV
namespace Go.Proofs.Ytcldagphkpkdpaa
set_option maxRecDepth 100000
set_option maxHeartbeats 8000000
set_option linter.unusedVariables false
set_option linter.unusedSimpArgs false
open Go Go.RowKit
def ckR (tx dy : FR) : StLogRecord := ⟨7, 0, 0, 0, 0, ⟨false, ⟨0, none, 0, []⟩⟩, ⟨false, ⟨0, none, 0, []⟩⟩, 0, 7, tx, dy, ⟨0, none, 0, []⟩⟩
theorem ck_foot {tx dy : FR} {b : Nat} (h : FootL (ckR tx dy).rows b) : tx.v.ownBlock = some b ∨ dy.v.ownBlock = some b := by
 have nB : ∀ b, ¬ FootL [ints 0 .u8 (.slice none ([] : List Int).length 0) []] b := fun b h => by have h := (footL_ints _ _ _ _ _).1 h; simp [Value.ownBlock] at h
 rcases (FootL_append _ _ _).1 h with h | h
 ·exact absurd h (nB b)
 rcases (FootL_append _ _ _).1 h with h | h
 ·exact absurd h (nB b)
 rcases (FootL_append _ _ _).1 h with h | h
 ·exact .inl ((FootL_one _ _).1 h)
 rcases (FootL_append _ _ _).1 h with h | h
 ·exact .inr ((FootL_one _ _).1 h)
 ·exact absurd h (nB b)
theorem ck_own {w : World} {tx dy : FR} (h1 : OwnL w (tx.rows 4)) (h2 : OwnL w (dy.rows 2)) (hd : ∀ b, tx.v.ownBlock = some b → ¬ dy.v.ownBlock = some b) : OwnL w (ckR tx dy).rows := by
 have nB : ∀ b, ¬ FootL [ints 0 .u8 (.slice none ([] : List Int).length 0) []] b := fun b h => by have h := (footL_ints _ _ _ _ _).1 h; simp [Value.ownBlock] at h
 have n0 : OwnL w [ints 0 .u8 (.slice none ([] : List Int).length 0) []] := OwnL.one (Own.nil 0 0 .u8 w)
 refine n0.append (n0.append (h1.append (h2.append n0 (fun b _ e => nB b e)) (fun b hb e => ?_)) (fun b hb _ => nB b hb)) (fun b hb _ => nB b hb)
 rcases (FootL_append _ _ _).1 e with e | e
 ·exact hd b ((FootL_one _ _).1 hb) ((FootL_one _ _).1 e)
 ·exact nB b e
structure CkI (P : World → Prop) (Z N : Nat) (ta : Option Addr) (tn tc : Nat) (tb : List Int) (da : Option Addr) (dn dc : Nat) (db : List Int) (wx : World) : Prop where
 box : Blk wx Z 48 (rcCells (ckR ⟨106, ta, tn, tc, tb⟩ ⟨108, da, dn, dc, db⟩))
 tx : OwnL wx (FR.rows 4 ⟨106, ta, tn, tc, tb⟩)
 dy : OwnL wx (FR.rows 2 ⟨108, da, dn, dc, db⟩)
 ft : ∀ b, (Value.slice ta tn tc).ownBlock = some b → N ≤ b ∧ ¬ b = Z
 fd : ∀ b, (Value.slice da dn dc).ownBlock = some b → N ≤ b ∧ ¬ b = Z ∧ ¬ (Value.slice ta tn tc).ownBlock = some b
 nz : N ≤ Z
 p : P wx
section
variable {P P' : World → Prop} {Z N : Nat} {ta : Option Addr} {tn tc : Nat} {tb : List Int} {da : Option Addr} {dn dc : Nat} {db : List Int} {w wx w9 : World}
theorem foot_one (m : Nat) (x : FR) (b : Nat) (h : FootL (x.rows m) b) : x.v.ownBlock = some b := (FootL_one _ _).1 h
theorem CkI.kept {R : Nat → Prop} (h : CkI P Z N ta tn tc tb da dn dc db w) (hk : Kept R w wx) (hR : ∀ b, N ≤ b → ¬ R b) (hp : P' wx) : CkI P' Z N ta tn tc tb da dn dc db wx :=
 ⟨h.box.kept hk (hR Z h.nz), h.tx.kept hk (fun b hb => hR b (h.ft b (foot_one _ _ b hb)).1), h.dy.kept hk (fun b hb => hR b (h.fd b (foot_one _ _ b hb)).1), h.ft, h.fd, h.nz, hp⟩
theorem CkI.same (h : CkI P Z N ta tn tc tb da dn dc db w) (hk : Same w wx) (hp : P' wx) : CkI P' Z N ta tn tc tb da dn dc db wx := h.kept hk (fun _ _ => id) hp
theorem CkI.appT {g c : Nat} {x y z u : Int} (h : CkI P Z N ta tn tc tb da dn dc db w) (hN : N ≤ w.heap.size) (ho : w9.ownsRow 0 106 4 (.slice (some ⟨g, 0, none⟩) (tn + 1) c) (tn + 1) (vals .i64 tb ++ [.int .i64 x, .int .i64 y, .int .i64 z, .int .i64 u])) (hg : w.grownBy w9 (Value.slice ta tn tc).ownBlock) (hat : (Value.slice ta tn tc).ownBlock = some g ∨ g = w.heap.size) (hp : P (w9.setCell ⟨Z, 11, none⟩ (.slice (some ⟨g, 0, none⟩) (tn + 1) c))) :
  CkI P Z N (some ⟨g, 0, none⟩) (tn + 1) c (tb ++ [x, y, z, u]) da dn dc db (w9.setCell ⟨Z, 11, none⟩ (.slice (some ⟨g, 0, none⟩) (tn + 1) c)) := by
 have hk : Kept (fun b => (Value.slice ta tn tc).ownBlock = some b) w w9 := Kept.of_grown hg (fun k e => e)
 have hk5 : Kept (fun b => b = Z) w9 (w9.setCell ⟨Z, 11, none⟩ (.slice (some ⟨g, 0, none⟩) (tn + 1) c)) := Kept.setCell (R := fun b => b = Z) (Kept.refl _ _) (.inr (by rfl)) _
 have hZl := h.box.lt
 have hgf : N ≤ g ∧ ¬ g = Z ∧ ∀ b, (Value.slice da dn dc).ownBlock = some b → ¬ b = g := by
  rcases hat with e | e
  ·exact ⟨(h.ft g e).1, (h.ft g e).2, fun b hb e' => (h.fd b hb).2.2 (by rw [e', e])⟩
  ·refine ⟨by omega, by omega, fun b hb e' => ?_⟩
   have := h.dy.lt b ⟨_, List.mem_singleton.2 rfl, hb⟩
   omega
 have own1 : ∀ b, (Value.slice (some ⟨g, 0, none⟩) (tn + 1) c).ownBlock = some b → b = g := fun b hb => by have e1 : g = b := (by simpa [Value.ownBlock] using hb); exact e1.symm
 refine ⟨(h.box.kept hk (fun e => (h.ft Z e).2 rfl)).stored 11 _, (row_app4 ho).kept hk5 (fun b hb e => ?_), (h.dy.kept hk (fun b hb => (h.fd b (foot_one _ _ b hb)).2.2)).kept hk5 (fun b hb e => (h.fd b (foot_one _ _ b hb)).2.1 e), fun b hb => ?_, fun b hb => ⟨(h.fd b hb).1, (h.fd b hb).2.1, fun e => hgf.2.2 b hb (own1 b e)⟩, h.nz, hp⟩
 ·have e1 := own1 b (foot_one _ _ b hb)
  have e2 : b = Z := e
  exact hgf.2.1 (by omega)
 ·rw [own1 b hb]
  exact ⟨hgf.1, hgf.2.1⟩
theorem CkI.appD {g c : Nat} {x y : Int} (h : CkI P Z N ta tn tc tb da dn dc db w) (hN : N ≤ w.heap.size) (ho : w9.ownsRow 0 108 2 (.slice (some ⟨g, 0, none⟩) (dn + 1) c) (dn + 1) (vals .i64 db ++ [.int .i64 x, .int .i64 y])) (hg : w.grownBy w9 (Value.slice da dn dc).ownBlock) (hat : (Value.slice da dn dc).ownBlock = some g ∨ g = w.heap.size) (hp : P (w9.setCell ⟨Z, 12, none⟩ (.slice (some ⟨g, 0, none⟩) (dn + 1) c))) :
  CkI P Z N ta tn tc tb (some ⟨g, 0, none⟩) (dn + 1) c (db ++ [x, y]) (w9.setCell ⟨Z, 12, none⟩ (.slice (some ⟨g, 0, none⟩) (dn + 1) c)) := by
 have hk : Kept (fun b => (Value.slice da dn dc).ownBlock = some b) w w9 := Kept.of_grown hg (fun k e => e)
 have hk5 : Kept (fun b => b = Z) w9 (w9.setCell ⟨Z, 12, none⟩ (.slice (some ⟨g, 0, none⟩) (dn + 1) c)) := Kept.setCell (R := fun b => b = Z) (Kept.refl _ _) (.inr (by rfl)) _
 have hZl := h.box.lt
 have hgf : N ≤ g ∧ ¬ g = Z ∧ ¬ (Value.slice ta tn tc).ownBlock = some g := by
  rcases hat with e | e
  ·exact h.fd g e
  ·refine ⟨by omega, by omega, fun hb => ?_⟩
   have := h.tx.lt g ⟨_, List.mem_singleton.2 rfl, hb⟩
   omega
 have own1 : ∀ b, (Value.slice (some ⟨g, 0, none⟩) (dn + 1) c).ownBlock = some b → b = g := fun b hb => by have e1 : g = b := (by simpa [Value.ownBlock] using hb); exact e1.symm
 refine ⟨(h.box.kept hk (fun e => (h.fd Z e).2.1 rfl)).stored 12 _, (h.tx.kept hk (fun b hb e => (h.fd b e).2.2 (foot_one _ _ b hb))).kept hk5 (fun b hb e => (h.ft b (foot_one _ _ b hb)).2 e), (row_app2 ho).kept hk5 (fun b hb e => ?_), h.ft, fun b hb => ?_, h.nz, hp⟩
 ·have e1 := own1 b (foot_one _ _ b hb)
  have e2 : b = Z := e
  exact hgf.2.1 (by omega)
 ·rw [own1 b hb]
  exact hgf
end
section
variable {w0 w wr wx : World} {lo B H : Nat} {v : Value} {cs : List Int} {k k' : Nat} {size : Int} {x : StLog} {fa : Option Addr} {fn fc : Nat} {qs : List StLogFrame} {g1 g2 g3 : Nat} {l1 l2 l3 : List Int}
theorem HsS.far {R : Nat → Prop} (h : HsS w0 w lo B H v cs k size x fa fn fc qs g1 g2 g3 l1 l2 l3 wr) (hk : Kept R wr wx) (hg : ∀ g, R g → lo ≤ g ∧ ¬ g = B ∧ ¬ g = H ∧ ¬ g = g1 ∧ ¬ g = g2 ∧ ¬ g = g3 ∧ ¬ footFr (.slice fa fn fc) qs g ∧ ¬ FootL x.rows g) : HsS w0 w lo B H v cs k size x fa fn fc qs g1 g2 g3 l1 l2 l3 wx := by
 refine ⟨⟨h.hs.box.kept hk (fun e => (hg _ e).2.2.1 rfl), h.hs.tail.kept hk (fun b hb e => (hg b e).2.2.2.2.2.2.2 hb), h.hs.tB, h.hs.tz, h.hs.own.kept hk (fun b hb e => (hg b e).2.2.2.2.2.2.1 hb), h.hs.each, ⟨h.hs.c1.1.kept hk (fun e => (hg _ e).2.2.2.1 rfl), h.hs.c1.2⟩, ⟨h.hs.c2.1.kept hk (fun e => (hg _ e).2.2.2.2.1 rfl), h.hs.c2.2⟩, ⟨h.hs.c3.1.kept hk (fun e => (hg _ e).2.2.2.2.2.1 rfl), h.hs.c3.2⟩, h.hs.f, h.hs.t, h.hs.d⟩, h.src.on hk (fun e => (hg B e).2.1 rfl) (fun i hi e => by have := (hg i e).1; have := h.base; omega), h.kept.trans (hk.mono (fun i _ e => .inl (hg i e).1)), h.base⟩
end
theorem HsI.frs {lo B H : Nat} {x : StLog} {gF off fn fc : Nat} {qs : List StLogFrame} {g1 g2 g3 : Nat} {l1 l2 l3 : List Int} {w : World} (h : HsI lo B H x (some ⟨gF, off, none⟩) fn fc qs g1 g2 g3 l1 l2 l3 w) (hq : 1 ≤ qs.length) : FrH w gF off qs := by
 obtain ⟨_, _, he, _, hFR⟩ := h.fr hq
 injection he with he
 injection he with he1 he2 _
 subst he1 he2
 exact hFR
def CkE (w0 w : World) (lo B H : Nat) (v : Value) (cs : List Int) (k : Nat) (size : Int) (n : Nat) (g1 g2 g3 : Nat) (e : Ending) (wr : World) : Prop := ∃ z : Int, e = .returned (.int .i64 z) ∧ HsE w0 w lo B H v cs k size n g1 g2 g3 wr
theorem ck_k {Ok : (Int × Int × Int × Int × List Int) → RcY → Prop} (hA : AppC Ok) (hF : FluC) {w0 w : World} {lo B H : Nat} {v : Value} {cs : List Int} {k : Nat} {size : Int} {x : StLog} {fa : Option Addr} {fn fc : Nat} {qs : List StLogFrame} {g1 g2 g3 : Nat} {l1 l2 l3 : List Int} (h : HsS w0 w lo B H v cs k size x fa fn fc qs g1 g2 g3 l1 l2 l3 w) (hq : 1 ≤ qs.length) (hn : qs.length ≤ 10000) (hk : k ≤ 1073000000) (ck : Int) :
  Calls Try.prog 32 #[.pointer (some ⟨B, 0, none⟩), .pointer (some ⟨H, 0, none⟩), .int .i64 ck] w fun e w' => CkE w0 w lo B H v cs (k + 20) size (qs.length + 2) g1 g2 g3 e w' := by
 obtain ⟨gF, off, rfl, hfn, hFR⟩ := h.hs.fr hq
 clear hFR
 have HFN := hid hfn
 clear hfn
 have hfn1 : fn ≤ 10000 := by have := HFN.out; omega
 have hfn0 : 1 ≤ fn := by have := HFN.out; omega
 have HS := hid h
 obtain ⟨N, hN⟩ : ∃ N, w.heap.size = N := ⟨_, rfl⟩
 have HNF := (show Hid (∀ b, N ≤ b → lo ≤ b ∧ ¬ b = B ∧ ¬ b = H ∧ ¬ b = g1 ∧ ¬ b = g2 ∧ ¬ b = g3 ∧ ¬ footFr (.slice (some ⟨gF, off, none⟩) fn fc) qs b ∧ ¬ FootL x.rows b) from fun b hb => h.fresh b (by omega))
 have hBN : B < N := by have := h.base; omega
 have b0 := Blk.new w #[.int .i64 7, .int .i64 0, .int .i64 0, .int .i64 0, .int .i64 0, .bool false, .slice none 0 0, .bool false, .slice none 0 0, .int .i64 0, .int .i64 7, .slice none 0 0, .slice none 0 0, .slice none 0 0] 48
 have hk0 : Same w (w.alloc (.cells #[.int .i64 7, .int .i64 0, .int .i64 0, .int .i64 0, .int .i64 0, .bool false, .slice none 0 0, .bool false, .slice none 0 0, .int .i64 0, .int .i64 7, .slice none 0 0, .slice none 0 0, .slice none 0 0] 48)) := (Kept.refl _ _).alloc _
 have hz0 : (w.alloc (.cells #[.int .i64 7, .int .i64 0, .int .i64 0, .int .i64 0, .int .i64 0, .bool false, .slice none 0 0, .bool false, .slice none 0 0, .int .i64 0, .int .i64 7, .slice none 0 0, .slice none 0 0, .slice none 0 0] 48)).heap.size = N + 1 := by simp [← hN]
 rw [hN] at b0
 clear h
 go_enter Try.func32, Try.ntmps32
 go_upto_region 2 with fail
 try rw [hN]
 clear hN
 generalize w.alloc (.cells #[.int .i64 7, .int .i64 0, .int .i64 0, .int .i64 0, .int .i64 0, .bool false, .slice none 0 0, .bool false, .slice none 0 0, .int .i64 0, .int .i64 7, .slice none 0 0, .slice none 0 0, .slice none 0 0] 48) = w1 at b0 hk0 hz0 ⊢
 have HC := (show Hid (CkI (HsS w0 w lo B H v cs k size x (some ⟨gF, off, none⟩) fn fc qs g1 g2 g3 l1 l2 l3) N N none 0 0 [] none 0 0 [] w1) from ⟨b0, own_nilQ 4 _ _, own_nilQ 2 _ _, fun b hb => by simp [Value.ownBlock] at hb, fun b hb => by simp [Value.ownBlock] at hb, Nat.le_refl _, HS.out.same hk0⟩)
 have hNw1 : N ≤ w1.heap.size := by omega
 clear b0 hk0 hz0 HS
 go_wp2_with fail
 go_loopw [8] (fun t wr => ∃ (j : Nat) (ta : Option Addr) (tn tc : Nat) (tb : List Int), 1 ≤ j ∧ j ≤ 6 ∧ t = .int .i64 (j : Int) ∧ tn ≤ j ∧ Hid (CkI (HsS w0 w lo B H v cs k size x (some ⟨gF, off, none⟩) fn fc qs g1 g2 g3 l1 l2 l3) N N ta tn tc tb none 0 0 [] wr) ∧ Hid (N ≤ wr.heap.size)) (fun t _ => 6 - (intOf t).toNat)
 case atStart => exact ⟨1, none, 0, 0, [], by omega, by omega, rfl, by omega, HC, hid hNw1⟩
 case round =>
 obtain ⟨j, ta, tn, tc, tb, hj1, hj6, rfl, htn, HC1, HNW⟩ := hrel
 clear HC hNw1
 by_cases hlt : j < 6
 case pos =>
  as_aux_lemma =>
  have hji : (j : Int) < 6 := by omega
  have q6 := HC1.out.p.hs.box.cell 6
  have q8 := HC1.out.p.hs.box.cell 8
  dsimp only [List.getElem?_cons_succ, List.getElem?_cons_zero] at q6 q8
  have a1 := six_at HC1.out.p.hs.c1 hlt
  have a2 := six_at HC1.out.p.hs.c2 hlt
  have a3 := six_at HC1.out.p.hs.c3 hlt
  obtain ⟨z1, e1⟩ : ∃ z, l1.getD j 0 = z := ⟨_, rfl⟩
  obtain ⟨z2, e2⟩ : ∃ z, l2.getD j 0 = z := ⟨_, rfl⟩
  obtain ⟨z3, e3⟩ : ∃ z, l3.getD j 0 = z := ⟨_, rfl⟩
  rw [e1] at a1
  rw [e2] at a2
  rw [e3] at a3
  clear e1 e2 e3
  go_upto_region 5 with fail
  go_cut [34] (fun z wx => Hid (IsBl z) ∧ wr = wx)
  case first =>
   as_aux_lemma =>
   by_cases h0 : 0 < z1
   ·have h0' : decide (0 < z1) = true := by simp [h0]
    go_wp2_with fail
    go_meet
    case rel => exact ⟨⟨_, rfl⟩, rfl⟩
   ·have h0' : decide (0 < z1) = false := by simp [h0]
    go_wp2_with fail
    go_meet
    case rel => exact ⟨⟨_, rfl⟩, rfl⟩
  case rest =>
  as_aux_lemma =>
  obtain ⟨⟨cA, rfl⟩, rfl⟩ := hcut
  cases cA
  case false =>
   clear q6 q8 a1 a2 a3
   go_wp2_with fail
   go_roundw
   case rel => exact ⟨j + 1, ta, tn, tc, tb, by omega, by omega, by go_num, by omega, HC1, HNW⟩
   case measure => simp [intOf]; omega
  go_wp2_with fail
  have SB := True.intro
  refine wp_region_V (fun wx : World => wx.cell? ⟨N, 11, none⟩ = some (.slice ta tn tc) ∧ wx.cell? ⟨H, 6, none⟩ = some (.slice (some ⟨g1, 0, none⟩) 6 6) ∧ wx.cell? ⟨g1, j, none⟩ = some (.int .i64 z1) ∧ wx.cell? ⟨H, 7, none⟩ = some (.slice (some ⟨g2, 0, none⟩) 6 6) ∧ wx.cell? ⟨g2, j, none⟩ = some (.int .i64 z2)) 22 23 rfl (by kernel_rfl) ?_
  generalize hwd : World.drew wr = w7
  have hk7 : Same wr w7 := by rw [← hwd]; exact (Kept.refl _ _).drew
  clear hwd
  have HC7 := hid (HC1.out.same hk7 (HC1.out.p.same hk7))
  have HN7 := (show Hid (N ≤ w7.heap.size) from Nat.le_trans HNW.out hk7.size)
  have hS : (fun wx : World => wx.cell? ⟨N, 11, none⟩ = some (.slice ta tn tc) ∧ wx.cell? ⟨H, 6, none⟩ = some (.slice (some ⟨g1, 0, none⟩) 6 6) ∧ wx.cell? ⟨g1, j, none⟩ = some (.int .i64 z1) ∧ wx.cell? ⟨H, 7, none⟩ = some (.slice (some ⟨g2, 0, none⟩) 6 6) ∧ wx.cell? ⟨g2, j, none⟩ = some (.int .i64 z2)) w7 := ⟨HC7.out.box.cell 11, HC7.out.p.hs.box.cell 6, hk7.cellOf a1 id, HC7.out.p.hs.box.cell 7, hk7.cellOf a2 id⟩
  clear HC1 HNW hk7 q6 q8 a1 a2 a3 SB
  refine tk 0 42 hS ?_
  refine tk 1 43 hS ?_
  refine tk 2 44 hS ?_
  refine tk 3 45 hS ?_
  refine tk 4 46 hS ?_
  refine tk 5 47 hS ?_
  refine tk 6 48 hS ?_
  refine tk 7 49 hS ?_
  refine tk 8 50 hS ?_
  refine tk 9 51 hS ?_
  refine tk 10 52 hS ?_
  refine tk 11 53 hS ?_
  refine tk 12 54 hS ?_
  refine tk 13 55 hS ?_
  refine tk 14 56 hS ?_
  refine tk 15 57 hS ?_
  refine tk 16 58 hS ?_
  refine tk 17 59 hS ?_
  refine tk 18 60 hS ?_
  refine wpAnyV_one (i := 19) (by kernel_rfl) rfl (fun K hK => ?_)
  go_simp
  have HB8 := hid (Blk.newL w7 [.int .i64 (j : Int), .int .i64 z3, .int .i64 z1, .int .i64 z2] 106)
  have hk8 : Same w7 (w7.alloc (.cells #[.int .i64 (j : Int), .int .i64 z3, .int .i64 z1, .int .i64 z2] 106)) := (Kept.refl _ _).alloc _
  obtain ⟨Y, hY⟩ : ∃ Y, w7.heap.size = Y := ⟨_, rfl⟩
  rw [hY] at HB8
  try rw [hY]
  generalize w7.alloc (.cells #[.int .i64 (j : Int), .int .i64 z3, .int .i64 z1, .int .i64 z2] 106) = w8 at HB8 hk8 ⊢
  have HC8 := hid (HC7.out.same hk8 (HC7.out.p.same hk8))
  have HN8 := (show Hid (N ≤ w8.heap.size) from Nat.le_trans HN7.out hk8.size)
  have hS : (fun wx : World => wx.cell? ⟨N, 11, none⟩ = some (.slice ta tn tc) ∧ wx.cell? ⟨H, 6, none⟩ = some (.slice (some ⟨g1, 0, none⟩) 6 6) ∧ wx.cell? ⟨g1, j, none⟩ = some (.int .i64 z1) ∧ wx.cell? ⟨H, 7, none⟩ = some (.slice (some ⟨g2, 0, none⟩) 6 6) ∧ wx.cell? ⟨g2, j, none⟩ = some (.int .i64 z2)) w8 := ⟨HC8.out.box.cell 11, HC8.out.p.hs.box.cell 6, hk8.cellOf hS.2.2.1 id, HC8.out.p.hs.box.cell 7, hk8.cellOf hS.2.2.2.2 id⟩
  clear HC7 HN7 hk8 hY
  refine hK.out _ _ (fun _ => hS) ?_
  clear hK K
  try simp only [Act.put, sA, s0, sS]
  refine wpAnyV_one (i := 20) (by kernel_rfl) rfl (fun K hK => ?_)
  refine step_appT (tb := tb) rfl (.tmp 43) (.tmp 61) (by rfl) (by rfl) (by rfl) HB8.out HC8.out.tx (by omega) ?_
  intro g c w9 ho hg hat
  have hkA : Kept (fun b => N ≤ b) w8 w9 := Kept.of_grown hg (fun k e => (HC8.out.ft k e).1)
  have hkB : Kept (fun b => N ≤ b) w8 (w9.setCell ⟨N, 11, none⟩ (.slice (some ⟨g, 0, none⟩) (tn + 1) c)) := hkA.setCell (.inr (Nat.le_refl _)) _
  have HP9 := (show Hid (HsS w0 w lo B H v cs k size x (some ⟨gF, off, none⟩) fn fc qs g1 g2 g3 l1 l2 l3 w9) from HC8.out.p.far hkA HNF.out)
  have HCA := hid (HC8.out.appT HN8.out ho hg hat (HC8.out.p.far hkB HNF.out))
  have HNA := (show Hid (N ≤ (w9.setCell ⟨N, 11, none⟩ (.slice (some ⟨g, 0, none⟩) (tn + 1) c)).heap.size) from Nat.le_trans HN8.out hkB.size)
  have hb9 := HC8.out.box.kept (Kept.of_grown (R := fun b => (Value.slice ta tn tc).ownBlock = some b) hg (fun k e => e)) (fun e => (HC8.out.ft N e).2 rfl)
  have c11 : w9.cell? ⟨N, 11, none⟩ = some (.slice ta tn tc) := hb9.cell 11
  have fx := hb9.frozen 11
  have hS : (fun wx : World => wx.cell? ⟨N, 11, none⟩ = some (.slice ta tn tc) ∧ wx.cell? ⟨H, 6, none⟩ = some (.slice (some ⟨g1, 0, none⟩) 6 6) ∧ wx.cell? ⟨g1, j, none⟩ = some (.int .i64 z1) ∧ wx.cell? ⟨H, 7, none⟩ = some (.slice (some ⟨g2, 0, none⟩) 6 6) ∧ wx.cell? ⟨g2, j, none⟩ = some (.int .i64 z2)) w9 := ⟨c11, HP9.out.hs.box.cell 6, hkA.cellOf hS.2.2.1 (fun e => (HNF.out g1 e).2.2.2.1 rfl), HP9.out.hs.box.cell 7, hkA.cellOf hS.2.2.2.2 (fun e => (HNF.out g2 e).2.2.2.2.1 rfl)⟩
  clear hkA hkB HP9 hb9 ho hg hat HC8 HB8 HN8
  refine hK.out _ _ (fun _ => hS) ?_
  clear hK K
  try simp only [Act.put, sA, s0, sS]
  refine wpAnyV_one (i := 21) (by kernel_rfl) rfl (fun K hK => ?_)
  go_simp
  refine hK.out _ _ (fun _ => hS) ?_
  clear hK K
  try simp only [Act.put, sA, s0, sS]
  refine wpAnyV_one (i := 22) (by kernel_rfl) rfl (fun K hK => ?_)
  go_simp
  refine hK.out _ _ (fun h => absurd rfl h) ?_
  clear hK K
  refine wpAnyV_done (by kernel_rfl) ?_
  try simp only [Act.put, sA, s0, sS]
  clear hS c11 fx
  generalize World.setCell w9 ⟨N, 11, none⟩ (.slice (some ⟨g, 0, none⟩) (tn + 1) c) = wA at HCA HNA ⊢
  go_wp2_with fail
  go_roundw
  case rel => exact ⟨j + 1, some ⟨g, 0, none⟩, tn + 1, c, _, by omega, by omega, by go_num, by omega, HCA, HNA⟩
  case measure => simp [intOf]; omega
 have hji : ¬ (j : Int) < 6 := by omega
 obtain ⟨j6, hj6'⟩ : ∃ z, j = z := ⟨_, rfl⟩
 rw [hj6'] at hji htn hj6 ⊢
 clear hlt hj1 hj6'
 go_wp2_with fail
 go_loopw [10] (fun p wx => ∃ j : Nat, j ≤ 3 ∧ p = .int .i64 (j : Int) ∧ Hid (∃ (k' : Nat) (da : Option Addr) (dn dc : Nat) (db : List Int), k' ≤ k + 2 * j ∧ dn ≤ j ∧ CkI (HsS w0 w lo B H v cs k' size x (some ⟨gF, off, none⟩) fn fc qs g1 g2 g3 l1 l2 l3) N N ta tn tc tb da dn dc db wx ∧ N ≤ wx.heap.size)) (fun p _ => 3 - (intOf p).toNat)
 case atStart => exact ⟨0, by omega, rfl, ⟨k, none, 0, 0, [], by omega, by omega, HC1.out, HNW.out⟩⟩
 case round =>
 obtain ⟨j, hj3, rfl, HCL⟩ := hrel
 obtain ⟨k', da, dn, dc, db, hk', hdn, hC2, hNW2⟩ := HCL.out
 have HC2 := hid hC2
 have HNW2 := hid hNW2
 clear HCL hC2 hNW2
 clear HC1 HNW
 by_cases hlt : j < 3
 case pos =>
  as_aux_lemma =>
  have hji : (j : Int) < 3 := by omega
  go_wp2_with fail
  refine (chance_k 2 HC2.out.p.src (by omega) (by constructor <;> decide)).mono ?_
  rintro e w2 ⟨b, rfl, hs', hkk⟩
  have HC3 := (show Hid (CkI (HsS w0 w lo B H v cs (k' + 1) size x (some ⟨gF, off, none⟩) fn fc qs g1 g2 g3 l1 l2 l3) N N ta tn tc tb da dn dc db w2) from HC2.out.kept hkk (fun b hb e => by have e' : b = B := e; omega) (HC2.out.p.draw hs' hkk))
  have HNW3 := (show Hid (N ≤ w2.heap.size) from Nat.le_trans HNW2.out hkk.size)
  clear HC2 HNW2 hs' hkk
  cases b
  case false =>
   go_wp2_with fail
   go_roundw
   case rel => exact ⟨j + 1, by omega, by go_num, ⟨k' + 1, da, dn, dc, db, by omega, by omega, HC3.out, HNW3.out⟩⟩
   case measure => simp [intOf]; omega
  go_wp2_with fail
  refine wp_region_V (fun wx : World => wx.cell? ⟨N, 12, none⟩ = some (.slice da dn dc) ∧ wx.cell? ⟨H, 5, none⟩ = some (.slice (some ⟨gF, off, none⟩) fn fc)) 21 22 rfl (by kernel_rfl) ?_
  generalize hwd : World.drew w2 = w7
  have hk7 : Same w2 w7 := by rw [← hwd]; exact (Kept.refl _ _).drew
  clear hwd
  have HC7 := hid (HC3.out.same hk7 (HC3.out.p.same hk7))
  have HN7 := (show Hid (N ≤ w7.heap.size) from Nat.le_trans HNW3.out hk7.size)
  have hS : (fun wx : World => wx.cell? ⟨N, 12, none⟩ = some (.slice da dn dc) ∧ wx.cell? ⟨H, 5, none⟩ = some (.slice (some ⟨gF, off, none⟩) fn fc)) w7 := ⟨HC7.out.box.cell 12, HC7.out.p.hs.box.cell 5⟩
  clear HC3 HNW3 hk7
  refine tk 0 70 hS ?_
  refine tk 1 71 hS ?_
  refine tk 2 72 hS ?_
  refine tk 3 73 hS ?_
  refine tk 4 74 hS ?_
  refine tk 5 75 hS ?_
  refine tk 6 76 hS ?_
  refine tk 7 77 hS ?_
  refine tk 8 78 hS ?_
  refine tk 9 79 hS ?_
  refine tk 10 80 hS ?_
  refine tk 11 81 hS ?_
  refine tk 12 82 hS ?_
  refine wpAnyV_one (i := 13) (by kernel_rfl) rfl (fun K hK => ?_)
  go_simp
  refine (next_k (fn : Int) HC7.out.p.src (by omega) (by constructor <;> omega)).mono ?_
  rintro e w8 ⟨d, rfl, hd, hs', hkk⟩
  obtain ⟨hd1, hd2⟩ := hd.2 (by omega)
  obtain ⟨d, rfl⟩ : ∃ m : Nat, d = (m : Int) := ⟨d.toNat, by omega⟩
  have HC8 := (show Hid (CkI (HsS w0 w lo B H v cs (k' + 1 + 1) size x (some ⟨gF, off, none⟩) fn fc qs g1 g2 g3 l1 l2 l3) N N ta tn tc tb da dn dc db w8) from HC7.out.kept hkk (fun b hb e => by have e' : b = B := e; omega) (HC7.out.p.draw hs' hkk))
  have HN8 := (show Hid (N ≤ w8.heap.size) from Nat.le_trans HN7.out hkk.size)
  have hdq : d < qs.length := by have := HFN.out; omega
  obtain ⟨Ld, hLd⟩ : ∃ z, qs[d].lsn = z := ⟨_, rfl⟩
  have cL := (HC8.out.p.hs.frs hq).lsn d hdq
  rw [hLd] at cL
  have hS : (fun wx : World => wx.cell? ⟨N, 12, none⟩ = some (.slice da dn dc) ∧ wx.cell? ⟨H, 5, none⟩ = some (.slice (some ⟨gF, off, none⟩) fn fc)) w8 := ⟨HC8.out.box.cell 12, HC8.out.p.hs.box.cell 5⟩
  clear HC7 HN7 hd hs' hkk hLd hd1
  go_wp2_with fail
  refine hK.out _ _ (fun _ => hS) ?_
  clear hK K
  try simp only [Act.put, sA, s0, sS]
  refine wpAnyV_one (i := 14) (by kernel_rfl) rfl (fun K hK => ?_)
  go_simp
  refine hK.out _ _ (fun _ => hS) ?_
  clear hK K
  try simp only [Act.put, sA, s0, sS]
  refine wpAnyV_one (i := 15) (by kernel_rfl) rfl (fun K hK => ?_)
  go_simp
  refine hK.out _ _ (fun _ => hS) ?_
  clear hK K
  try simp only [Act.put, sA, s0, sS]
  refine wpAnyV_one (i := 16) (by kernel_rfl) rfl (fun K hK => ?_)
  go_simp
  refine hK.out _ _ (fun _ => hS) ?_
  clear hK K
  try simp only [Act.put, sA, s0, sS]
  refine wpAnyV_one (i := 17) (by kernel_rfl) rfl (fun K hK => ?_)
  go_simp
  refine hK.out _ _ (fun _ => hS) ?_
  clear hK K
  try simp only [Act.put, sA, s0, sS]
  refine wpAnyV_one (i := 18) (by kernel_rfl) rfl (fun K hK => ?_)
  go_simp
  have HB8 := hid (Blk.newL w8 [.int .i64 (j : Int), .int .i64 Ld] 108)
  have hk8 : Same w8 (w8.alloc (.cells #[.int .i64 (j : Int), .int .i64 Ld] 108)) := (Kept.refl _ _).alloc _
  obtain ⟨Y, hY⟩ : ∃ Y, w8.heap.size = Y := ⟨_, rfl⟩
  rw [hY] at HB8
  try rw [hY]
  generalize w8.alloc (.cells #[.int .i64 (j : Int), .int .i64 Ld] 108) = wa at HB8 hk8 ⊢
  have HCa := hid (HC8.out.same hk8 (HC8.out.p.same hk8))
  have HNa := (show Hid (N ≤ wa.heap.size) from Nat.le_trans HN8.out hk8.size)
  have hS : (fun wx : World => wx.cell? ⟨N, 12, none⟩ = some (.slice da dn dc) ∧ wx.cell? ⟨H, 5, none⟩ = some (.slice (some ⟨gF, off, none⟩) fn fc)) wa := ⟨HCa.out.box.cell 12, HCa.out.p.hs.box.cell 5⟩
  clear HC8 HN8 hk8 hY cL
  refine hK.out _ _ (fun _ => hS) ?_
  clear hK K
  try simp only [Act.put, sA, s0, sS]
  refine wpAnyV_one (i := 19) (by kernel_rfl) rfl (fun K hK => ?_)
  refine step_appD (tb := db) rfl (.tmp 71) (.tmp 88) (by rfl) (by rfl) (by rfl) HB8.out HCa.out.dy (by omega) ?_
  intro g c w9 ho hg hat
  have hkA : Kept (fun b => N ≤ b) wa w9 := Kept.of_grown hg (fun k e => (HCa.out.fd k e).1)
  have hkB : Kept (fun b => N ≤ b) wa (w9.setCell ⟨N, 12, none⟩ (.slice (some ⟨g, 0, none⟩) (dn + 1) c)) := hkA.setCell (.inr (Nat.le_refl _)) _
  have HP9 := (show Hid (HsS w0 w lo B H v cs (k' + 1 + 1) size x (some ⟨gF, off, none⟩) fn fc qs g1 g2 g3 l1 l2 l3 w9) from HCa.out.p.far hkA HNF.out)
  have HCA := hid (HCa.out.appD HNa.out ho hg hat (HCa.out.p.far hkB HNF.out))
  have HNA := (show Hid (N ≤ (w9.setCell ⟨N, 12, none⟩ (.slice (some ⟨g, 0, none⟩) (dn + 1) c)).heap.size) from Nat.le_trans HNa.out hkB.size)
  have hb9 := HCa.out.box.kept (Kept.of_grown (R := fun b => (Value.slice da dn dc).ownBlock = some b) hg (fun k e => e)) (fun e => (HCa.out.fd N e).2.1 rfl)
  have c11 : w9.cell? ⟨N, 12, none⟩ = some (.slice da dn dc) := hb9.cell 12
  have fx := hb9.frozen 12
  have hS : (fun wx : World => wx.cell? ⟨N, 12, none⟩ = some (.slice da dn dc) ∧ wx.cell? ⟨H, 5, none⟩ = some (.slice (some ⟨gF, off, none⟩) fn fc)) w9 := ⟨c11, HP9.out.hs.box.cell 5⟩
  clear hkA hkB HP9 hb9 ho hg hat HCa HB8 HNa
  refine hK.out _ _ (fun _ => hS) ?_
  clear hK K
  try simp only [Act.put, sA, s0, sS]
  refine wpAnyV_one (i := 20) (by kernel_rfl) rfl (fun K hK => ?_)
  go_simp
  refine hK.out _ _ (fun _ => hS) ?_
  clear hK K
  try simp only [Act.put, sA, s0, sS]
  refine wpAnyV_one (i := 21) (by kernel_rfl) rfl (fun K hK => ?_)
  go_simp
  refine hK.out _ _ (fun h => absurd rfl h) ?_
  clear hK K
  refine wpAnyV_done (by kernel_rfl) ?_
  try simp only [Act.put, sA, s0, sS]
  clear hS c11 fx
  generalize World.setCell w9 ⟨N, 12, none⟩ (.slice (some ⟨g, 0, none⟩) (dn + 1) c) = wA at HCA HNA ⊢
  go_wp2_with fail
  go_roundw
  case rel => exact ⟨j + 1, by omega, by go_num, ⟨k' + 1 + 1, some ⟨g, 0, none⟩, dn + 1, c, _, by omega, by omega, HCA.out, HNA.out⟩⟩
  case measure => simp [intOf]; omega
 obtain rfl : j = 3 := by omega
 clear hlt hj3
 have q2 := HC2.out.p.hs.box.cell 2
 dsimp only [List.getElem?_cons_succ, List.getElem?_cons_zero] at q2
 have HRF := (show Hid (∀ b, FootL (StLogRecord.rows (ckR ⟨106, ta, tn, tc, tb⟩ ⟨108, da, dn, dc, db⟩)) b → N ≤ b ∧ b < wr.heap.size) from fun b hb => by
  rcases ck_foot hb with h | h
  ·exact ⟨(HC2.out.ft b h).1, HC2.out.tx.lt b ⟨_, List.mem_singleton.2 rfl, h⟩⟩
  ·exact ⟨(HC2.out.fd b h).1, HC2.out.dy.lt b ⟨_, List.mem_singleton.2 rfl, h⟩⟩)
 go_wp2_with fail
 refine (HC2.out.p.small hA hF (by omega) _ _ _ _ _).mono ?_
 rintro e w3 ⟨rfl, ha⟩
 obtain ⟨xm, fam, fm, fcm, qm, hS3, hl1, hl2, _, hk3, hf3⟩ := HC2.out.p.add2 ha
 have HC3 := (show Hid (CkI (HsS w0 w lo B H v cs k' size xm fam fm fcm qm g1 g2 g3 l1 l2 l3) N N ta tn tc tb da dn dc db w3) from HC2.out.kept hk3 (fun b hb e => e.elim (fun e => (HNF.out b hb).2.2.1 e) (fun e => (HNF.out b hb).2.2.2.2.2.2.1 e)) hS3)
 have HR3 := (show Hid (∀ b, FootL (StLogRecord.rows (ckR ⟨106, ta, tn, tc, tb⟩ ⟨108, da, dn, dc, db⟩)) b → lo ≤ b ∧ ¬ b = B ∧ ¬ b = H ∧ ¬ b = g1 ∧ ¬ b = g2 ∧ ¬ b = g3 ∧ ¬ footFr (.slice fam fm fcm) qm b ∧ ¬ FootL xm.rows b) from fun b hb => by
  obtain ⟨h1, h2⟩ := HRF.out b hb
  obtain ⟨a1, a2, a3, a4, a5, a6, a7, a8⟩ := HNF.out b h1
  have no : ¬ (footFr (.slice fam fm fcm) qm b ∨ FootL xm.rows b) := fun e => by
   rcases hf3 b e with e | e | e | e
   ·exact a7 e
   ·exact a8 e
   ·exact smR_foot _ _ _ _ _ b e
   ·omega
  exact ⟨a1, a2, a3, a4, a5, a6, fun e => no (.inl e), fun e => no (.inr e)⟩)
 clear ha hS3 hk3 hf3 HC2 HNW2 HRF q2
 go_wp2_with fail
 refine (chance_k 6 HC3.out.p.src (by omega) (by constructor <;> decide)).mono ?_
 rintro e w4 ⟨b, rfl, hs', hkk⟩
 have HC4 := (show Hid (CkI (HsS w0 w lo B H v cs (k' + 1) size xm fam fm fcm qm g1 g2 g3 l1 l2 l3) N N ta tn tc tb da dn dc db w4) from HC3.out.kept hkk (fun b hb e => by have e' : b = B := e; omega) (HC3.out.p.draw hs' hkk))
 clear HC3 hs' hkk
 cases b
 case true =>
  as_aux_lemma =>
  have HE := (show Hid (HsE w0 w lo B H v cs (k + 20) size (qs.length + 2) g1 g2 g3 w4) from ⟨_, _, _, _, _, _, _, _, _, HC4.out.p, by omega, by omega, by omega⟩)
  clear HC4 HR3
  go_wp2
  go_ret
  exact ⟨_, rfl, HE.out⟩
 have kM := HC4.out.p.more hA hF (by omega) (ckR ⟨106, ta, tn, tc, tb⟩ ⟨108, da, dn, dc, db⟩) ⟨⟨isB_nil, isB_nil, isB_nil, .inl rfl, .inl rfl, .inr rfl⟩, by simp only [ckR, StLogRecord.szs, StPageRecord.szs, List.length_nil]; omega⟩ (ck_own HC4.out.tx HC4.out.dy (fun b hb e => (HC4.out.fd b e).2.2 hb)) HR3.out
 have HRG := hid HC4.out.box.rangeAll
 obtain ⟨rc, hrc⟩ : ∃ z, rcCells (ckR ⟨106, ta, tn, tc, tb⟩ ⟨108, da, dn, dc, db⟩) = z := ⟨_, rfl⟩
 have HI14 := (show Hid ((Try.prog.info? 48).map (·.size) = some rc.length) from by unfold Hid; rw [← hrc]; exact infoLR14)
 rw [hrc] at kM HRG
 clear hrc
 go_wp2_with (refine wpList_load_mid rfl 48 _ rfl N 0 rfl rc _ HRG.out Try.underlying48 rfl HI14.out ?_)
 refine kM.mono ?_
 rintro e w5 ⟨rfl, ha⟩
 obtain ⟨xo, fao, fo, fco, qo, hS5, hl3, hl4, _⟩ := HC4.out.p.add ha
 have HS5 := hid hS5
 clear ha hS5 HC4 kM HRG HI14 HR3
 go_wp2_with fail
 refine (chance_k 3 HS5.out.src (by omega) (by constructor <;> decide)).mono ?_
 rintro e w6 ⟨b, rfl, hs', hkk⟩
 have HE := (show Hid (HsE w0 w lo B H v cs (k + 20) size (qs.length + 2) g1 g2 g3 w6) from ⟨_, _, _, _, _, _, _, _, _, HS5.out.draw hs' hkk, by omega, by omega, by omega⟩)
 clear HS5 hs' hkk
 cases b
 ·go_wp2
  go_ret
  exact ⟨_, rfl, HE.out⟩
 ·go_wp2
  go_ret
  exact ⟨_, rfl, HE.out⟩
abbrev RecT : Type := RcY
abbrev LogT : Type := Int × Int × Int × Int × List Int
def appOK (dl : LogT) (dr : RecT) : Prop := logFd dl = 0 ∧ recFd dr = 0 ∧ dl.2.2.1 + fsFd dr ≤ 1099511627776
def appOKDec (dl : LogT) (dr : RecT) : Decidable (appOK dl dr) := by unfold appOK; infer_instance
def appD (dl : LogT) (dr : RecT) : Int × Int × LogT :=
 @ite _ (appOK dl dr) (appOKDec dl dr) (0, dl.2.2.1, (dl.1, dl.2.1, dl.2.2.1 + fsFd dr, dl.2.2.2.1, dl.2.2.2.2 ++ frFd dl.2.2.1 dl.2.1 dr)) (1, 0, (0, 0, 0, 0, []))
theorem appD_yes {dl : LogT} {dr : RecT} (h : appOK dl dr) : appD dl dr = (0, dl.2.2.1, (dl.1, dl.2.1, dl.2.2.1 + fsFd dr, dl.2.2.2.1, dl.2.2.2.2 ++ frFd dl.2.2.1 dl.2.1 dr)) := if_pos h
theorem appD_no {dl : LogT} {dr : RecT} (h : ¬ appOK dl dr) : appD dl dr = (1, 0, (0, 0, 0, 0, [])) := if_neg h
theorem numB_len {x : Int} {n : Nat} (hn : 1 ≤ n ∧ n ≤ 8) (h0 : 0 ≤ x) (h1 : x < 256 ^ n) : (numB x n).length = n := by rw [numB_lows hn h0 h1, lows_length]
theorem frFd_len {lsn ep : Int} {d : RecT} (hB : IsB (recBd d)) (h : recFd d = 0) (hl : 1 ≤ lsn ∧ lsn ≤ 1099511627776) (he : 1 ≤ ep ∧ ep ≤ 4294967295) : ((frFd lsn ep d).length : Int) = fsFd d := by
 rw [frFd_yes ⟨h, hl, he⟩, fsFd_good h]
 obtain ⟨ha, hb⟩ := recBd_length h
 have hs : (sumB lsn ep (recBd d)).length = 12 + (recBd d).length := by
  have h1 : (numB lsn 8).length = 8 := numB_len (n := 8) (by omega) (by omega) (by omega)
  have h2 : (numB ep 4).length = 4 := numB_len (n := 4) (by omega) (by omega) (by omega)
  simp only [sumB, List.length_append, h1, h2]
 have hc := crcOn_le 0 (sumB lsn ep (recBd d)) (by omega) (by omega) (sumB_isB hB)
 have h3 : (numB (20 + ((recBd d).length : Int)) 4).length = 4 := numB_len (n := 4) (by omega) (by omega) (by omega)
 have h4 : (numB (crcOn 0 (sumB lsn ep (recBd d))) 4).length = 4 := numB_len (n := 4) (by omega) (by omega) (by omega)
 simp only [frB, List.length_append, h3, h4, hs]
 omega
theorem zeroApp_own (w : World) (k : Int) : OwnL w (StAppendResult.rows ⟨k, 0, ⟨0, 0, 0, 0, ⟨0, none, 0, []⟩⟩⟩) := OwnL.one (Own.nil 0 0 .u8 w)
theorem zeroApp_foot (k : Int) (b : Nat) : ¬ FootL (StAppendResult.rows ⟨k, 0, ⟨0, 0, 0, 0, ⟨0, none, 0, []⟩⟩⟩) b := fun h => by have := (footL_ints _ _ _ _ _).1 h; simp [BS.v, Value.ownBlock] at this
theorem Blk.newC (w : World) (xs : List Value) (e : TypeId) (ys : List Value) (e' : TypeId) (zs : List Value) (e'' : TypeId) : Blk (((w.alloc (.cells xs.toArray e)).alloc (.cells ys.toArray e')).alloc (.cells zs.toArray e'')) (w.heap.size + 1 + 1) e'' zs := by
 have h := Blk.newL ((w.alloc (.cells xs.toArray e)).alloc (.cells ys.toArray e')) zs e''
 rwa [World.size_alloc, World.size_alloc] at h
end Go.Proofs.Ytcldagphkpkdpaa
