import Derived.Test.YtcldagphkpkdpaaG12
import Derived.Test.YtcldagphkpkdpaaG28
namespace Go.Proofs.Ytcldagphkpkdpaa
set_option maxRecDepth 100000
set_option maxHeartbeats 8000000
set_option linter.unusedVariables false
set_option linter.unusedSimpArgs false
open Go Go.RowKit
section
variable {w0 w wr wx : World} {lo B H : Nat} {v : Value} {cs : List Int} {k k' : Nat} {size : Int} {x : StLog} {fa : Option Addr} {fn fc : Nat} {qs : List StLogFrame} {g1 g2 g3 : Nat} {l1 l2 l3 : List Int}
theorem HsS.here (h : HsS w0 w lo B H v cs k size x fa fn fc qs g1 g2 g3 l1 l2 l3 wr) : HsS w0 wr lo B H v cs k size x fa fn fc qs g1 g2 g3 l1 l2 l3 wr :=
 ⟨h.hs, h.src, Kept.refl _ _, h.base.1, by have := h.kept.size; have := h.base; omega, h.base.2.2⟩
theorem HsS.beside {w' : World} {g : Nat} (h : HsS w0 w lo B H v cs k size x fa fn fc qs g1 g2 g3 l1 l2 l3 wr) (hk : Kept (fun b => b = g) wr w') (hg : lo ≤ g ∧ ¬ g = B ∧ ¬ g = H ∧ ¬ g = g1 ∧ ¬ g = g2 ∧ ¬ g = g3 ∧ ¬ footFr (.slice fa fn fc) qs g ∧ ¬ FootL x.rows g) : HsS w0 w lo B H v cs k size x fa fn fc qs g1 g2 g3 l1 l2 l3 w' := by
 obtain ⟨a1, a2, a3, a4, a5, a6, a7, a8⟩ := hg
 obtain ⟨s1, s2⟩ := h.setR hk ⟨a1, a2⟩
 have ne : ∀ {b}, ¬ g = b → ¬ b = g := fun h e => h e.symm
 exact ⟨⟨h.hs.box.kept hk (ne a3), h.hs.tail.kept hk (fun b hb e => by have e' : b = g := e; subst e'; exact a8 hb), h.hs.tB, h.hs.tz, h.hs.own.kept hk (fun b hb e => by have e' : b = g := e; subst e'; exact a7 hb), h.hs.each, ⟨h.hs.c1.1.kept hk (ne a4), h.hs.c1.2⟩, ⟨h.hs.c2.1.kept hk (ne a5), h.hs.c2.2⟩, ⟨h.hs.c3.1.kept hk (ne a6), h.hs.c3.2⟩, h.hs.f, h.hs.t, h.hs.d⟩, s1, s2, h.base⟩
theorem HsE.back {n : Nat} (h : HsS w0 w lo B H v cs k size x fa fn fc qs g1 g2 g3 l1 l2 l3 wr) (he : HsE w0 wr lo B H v cs k' size n g1 g2 g3 wx) : HsE w0 w lo B H v cs k' size n g1 g2 g3 wx := by
 obtain ⟨x', fa', fn', fc', qs', l1', l2', l3', k2, h1, h2, h3, h4⟩ := he
 exact ⟨x', fa', fn', fc', qs', l1', l2', l3', k2, ⟨h1.hs, h1.src, h.kept.trans h1.kept, h.base⟩, h2, h3, h4⟩
theorem HsE.le {n m : Nat} (he : HsE w0 w lo B H v cs k size n g1 g2 g3 wx) (hk : k ≤ k') (hn : n ≤ m) : HsE w0 w lo B H v cs k' size m g1 g2 g3 wx := by
 obtain ⟨x', fa', fn', fc', qs', l1', l2', l3', k2, h1, h2, h3, h4⟩ := he
 exact ⟨x', fa', fn', fc', qs', l1', l2', l3', k2, h1, h2, by omega, by omega⟩
end
theorem Rd.pre {k : IntKind} {w : World} {a : Option Addr} {n c : Nat} {bs : List Int} (h : Rd k w (.slice a n c) bs) (m : Nat) (hm : m ≤ n) : Rd k w (.slice a m c) (bs.take m) := by
 rcases h.2 with ⟨rfl, a', c', he, hn⟩ | ⟨b, off, c', he, hl, hc⟩
 ·injection he with h1 h2 h3
  subst h1 h2 h3
  obtain rfl : m = 0 := by omega
  exact ⟨by simp, .inl ⟨by simp, _, _, rfl, hn⟩⟩
 ·injection he with h1 h2 h3
  subst h1 h2 h3
  exact h.front m hm
theorem OwnL.apart2 {w : World} {rs ss : List Row} (h : OwnL w (rs ++ ss)) (b : Nat) (h1 : FootL rs b) (h2 : FootL ss b) : False := by
 obtain ⟨r, hr, e⟩ := h1
 obtain ⟨s, hs, e'⟩ := h2
 exact (List.pairwise_append.1 h.apart).2.2 r hr s hs b e e'
def IsNm (v : Value) : Prop := ∃ z : Int, v = .int .i64 z
theorem rc_before {w : World} {r : StLogRecord} {u : Bool} {d : BS} (h : OwnL w r.rows) (hd : Own 0 d.e .u8 w d.v d.bs) (hf : ∀ b, d.v.ownBlock = some b → ¬ FootL r.rows b) : OwnL w (StLogRecord.rows { r with before := ⟨u, d⟩ }) ∧ ∀ b, FootL (StLogRecord.rows { r with before := ⟨u, d⟩ }) b → FootL r.rows b ∨ d.v.ownBlock = some b := by
 refine ⟨(OwnL.one hd).append h.right (fun b hb e => hf b ((footL_ints _ _ _ _ _).1 hb) ((FootL_append _ _ _).2 (.inr e))), fun b hb => ?_⟩
 rcases (FootL_append _ _ _).1 hb with hb | hb
 ·exact .inr ((footL_ints _ _ _ _ _).1 hb)
 ·exact .inl ((FootL_append _ _ _).2 (.inr hb))
theorem rc_after {w : World} {r : StLogRecord} {u : Bool} {d : BS} (h : OwnL w r.rows) (hd : Own 0 d.e .u8 w d.v d.bs) (hf : ∀ b, d.v.ownBlock = some b → ¬ FootL r.rows b) : OwnL w (StLogRecord.rows { r with after := ⟨u, d⟩ }) ∧ ∀ b, FootL (StLogRecord.rows { r with after := ⟨u, d⟩ }) b → FootL r.rows b ∨ d.v.ownBlock = some b := by
 have hA : ∀ b, FootL r.before.rows b → FootL r.rows b := fun b e => (FootL_append _ _ _).2 (.inl e)
 have hap := h.apart2
 refine ⟨h.left.append ((OwnL.one hd).append h.right.right (fun b hb e => hf b ((footL_ints _ _ _ _ _).1 hb) ((FootL_append _ _ _).2 (.inr ((FootL_append _ _ _).2 (.inr e)))))) (fun b hb e => ?_), fun b hb => ?_⟩
 ·rcases (FootL_append _ _ _).1 e with e | e
  ·exact hf b ((footL_ints _ _ _ _ _).1 e) (hA b hb)
  ·exact hap b hb ((FootL_append _ _ _).2 (.inr e))
 ·rcases (FootL_append _ _ _).1 hb with hb | hb
  ·exact .inl (hA b hb)
  ·rcases (FootL_append _ _ _).1 hb with hb | hb
   ·exact .inr ((footL_ints _ _ _ _ _).1 hb)
   ·exact .inl ((FootL_append _ _ _).2 (.inr ((FootL_append _ _ _).2 (.inr hb))))
def RcZ (P : World → Prop) (Z N : Nat) (wx : World) : Prop := ∃ r : StLogRecord, Blk wx Z 48 (rcCells r) ∧ RcB r ∧ OwnL wx r.rows ∧ (∀ b, FootL r.rows b → N ≤ b ∧ ¬ b = Z) ∧ P wx
theorem Rd.cap {k : IntKind} {w : World} {a : Option Addr} {n c : Nat} {bs : List Int} (h : Rd k w (.slice a n c) bs) (hn : bs.length = n) : n ≤ c := by
 rcases h.2 with ⟨h0, _⟩ | ⟨_, _, _, h1, h2, _⟩
 ·rw [h0] at hn
  rw [← hn]
  exact Nat.zero_le _
 ·injection h1 with _ h3 h4
  omega
theorem RcZ.before {Z N : Nat} {w8 w9 : World} {r : StLogRecord} (hZ : Blk w8 Z 48 (rcCells r)) (hr : RcB r) (ho : OwnL w8 r.rows) (hf : ∀ b, FootL r.rows b → N ≤ b ∧ ¬ b = Z) (hN : N ≤ w8.heap.size) (ck : Same w8 w9) {ca : Option Addr} {cc : Nat} {db : List Int} (co : Own 0 5 .u8 w9 (.slice ca db.length cc) db) (cf : ∀ b, (Value.slice ca db.length cc).ownBlock = some b → w8.heap.size ≤ b) (hB : IsB db) (hl : db.length ≤ r.before.data.bs.length) :
  Blk (w9.setCell ⟨Z, 6, none⟩ (.slice ca db.length cc)) Z 48 (rcCells { r with before := ⟨r.before.used, ⟨5, ca, cc, db⟩⟩ }) ∧ RcB { r with before := ⟨r.before.used, ⟨5, ca, cc, db⟩⟩ } ∧ OwnL (w9.setCell ⟨Z, 6, none⟩ (.slice ca db.length cc)) (StLogRecord.rows { r with before := ⟨r.before.used, ⟨5, ca, cc, db⟩⟩ }) ∧ ∀ b, FootL (StLogRecord.rows { r with before := ⟨r.before.used, ⟨5, ca, cc, db⟩⟩ }) b → N ≤ b ∧ ¬ b = Z := by
 have hk : Kept (fun b => b = Z) w9 (w9.setCell ⟨Z, 6, none⟩ (.slice ca db.length cc)) := Kept.setCell (R := fun b => b = Z) (Kept.refl _ _) (.inr (by rfl)) _
 obtain ⟨h1, h2⟩ := rc_before (u := r.before.used) (d := ⟨5, ca, cc, db⟩) (ho.same ck) co (fun b hb e => by have h1 := cf b hb; have h2 := ho.lt b e; omega)
 have hZl := hZ.lt
 have h3 : ∀ b, FootL (StLogRecord.rows { r with before := ⟨r.before.used, ⟨5, ca, cc, db⟩⟩ }) b → N ≤ b ∧ ¬ b = Z := fun b hb => by
  rcases h2 b hb with h | h
  ·exact hf b h
  ·have := cf b h
   exact ⟨by omega, by omega⟩
 have hs := hr.2
 simp only [StLogRecord.szs, StPageRecord.szs] at hs
 refine ⟨(hZ.same ck).stored 6 _, ⟨⟨hB, hr.1.2.1, hr.1.2.2⟩, ?_⟩, h1.kept hk (fun b hb e => (h3 b hb).2 e), h3⟩
 simp only [StLogRecord.szs, StPageRecord.szs]
 omega
theorem RcZ.after {Z N : Nat} {w8 w9 : World} {r : StLogRecord} (hZ : Blk w8 Z 48 (rcCells r)) (hr : RcB r) (ho : OwnL w8 r.rows) (hf : ∀ b, FootL r.rows b → N ≤ b ∧ ¬ b = Z) (hN : N ≤ w8.heap.size) (ck : Same w8 w9) {ca : Option Addr} {cc : Nat} {db : List Int} (co : Own 0 5 .u8 w9 (.slice ca db.length cc) db) (cf : ∀ b, (Value.slice ca db.length cc).ownBlock = some b → w8.heap.size ≤ b) (hB : IsB db) (hl : db.length ≤ r.after.data.bs.length) :
  Blk (w9.setCell ⟨Z, 8, none⟩ (.slice ca db.length cc)) Z 48 (rcCells { r with after := ⟨r.after.used, ⟨5, ca, cc, db⟩⟩ }) ∧ RcB { r with after := ⟨r.after.used, ⟨5, ca, cc, db⟩⟩ } ∧ OwnL (w9.setCell ⟨Z, 8, none⟩ (.slice ca db.length cc)) (StLogRecord.rows { r with after := ⟨r.after.used, ⟨5, ca, cc, db⟩⟩ }) ∧ ∀ b, FootL (StLogRecord.rows { r with after := ⟨r.after.used, ⟨5, ca, cc, db⟩⟩ }) b → N ≤ b ∧ ¬ b = Z := by
 have hk : Kept (fun b => b = Z) w9 (w9.setCell ⟨Z, 8, none⟩ (.slice ca db.length cc)) := Kept.setCell (R := fun b => b = Z) (Kept.refl _ _) (.inr (by rfl)) _
 obtain ⟨h1, h2⟩ := rc_after (u := r.after.used) (d := ⟨5, ca, cc, db⟩) (ho.same ck) co (fun b hb e => by have h1 := cf b hb; have h2 := ho.lt b e; omega)
 have hZl := hZ.lt
 have h3 : ∀ b, FootL (StLogRecord.rows { r with after := ⟨r.after.used, ⟨5, ca, cc, db⟩⟩ }) b → N ≤ b ∧ ¬ b = Z := fun b hb => by
  rcases h2 b hb with h | h
  ·exact hf b h
  ·have := cf b h
   exact ⟨by omega, by omega⟩
 have hs := hr.2
 simp only [StLogRecord.szs, StPageRecord.szs] at hs
 refine ⟨(hZ.same ck).stored 8 _, ⟨⟨hr.1.1, hB, hr.1.2.2⟩, ?_⟩, h1.kept hk (fun b hb e => (h3 b hb).2 e), h3⟩
 simp only [StLogRecord.szs, StPageRecord.szs]
 omega
theorem step_k {Ok : (Int × Int × Int × Int × List Int) → RcY → Prop} (hA : AppC Ok) (hF : FluC) (hU : UndC) {w0 w : World} {lo B H : Nat} {v : Value} {cs : List Int} {k : Nat} {size : Int} {x : StLog} {fa : Option Addr} {fn fc : Nat} {qs : List StLogFrame} {g1 g2 g3 : Nat} {l1 l2 l3 : List Int} (h : HsS w0 w lo B H v cs k size x fa fn fc qs g1 g2 g3 l1 l2 l3 w) (hq : 1 ≤ qs.length) (hn : qs.length ≤ 10000) (hk : k ≤ 1073000000) :
  Calls Try.prog 31 #[.pointer (some ⟨B, 0, none⟩), .pointer (some ⟨H, 0, none⟩)] w fun e w' => e = .returned (.tuple #[]) ∧ HsE w0 w lo B H v cs (k + 500) size (qs.length + 1) g1 g2 g3 w' := by
 have HS := hid h
 clear h
 go_enter Try.func31, Try.ntmps31
 go_wp2_with fail
 refine (next_k 5 HS.out.src (by omega) (by constructor <;> decide)).mono ?_
 rintro e w1 ⟨r, rfl, hd, hs', hk'⟩
 obtain ⟨hr1, hr2⟩ := hd.2 (by decide)
 have HS1 := hid (HS.out.draw hs' hk')
 obtain ⟨T, hT0⟩ : ∃ m : Nat, 1 + r = (m : Int) := ⟨(1 + r).toNat, by omega⟩
 have qT : IntKind.i64.wrap (1 + r) = (T : Int) := by rw [IntKind.wrap_i64]; omega
 have hT : T < 6 := by omega
 clear HS hd hs' hk' hr1 hr2 hT0
 have q8 := HS1.out.hs.box.cell 8
 dsimp only [List.getElem?_cons_succ, List.getElem?_cons_zero] at q8
 have a3 := six_at HS1.out.hs.c3 hT
 obtain ⟨z3, e3⟩ : ∃ z, l3.getD T 0 = z := ⟨_, rfl⟩
 rw [e3] at a3
 by_cases h9 : z3 = 9
 case pos =>
  as_aux_lemma =>
  have h9' : (z3 == 9) = true := by simp [h9]
  go_wp2
  refine bodyPost_ret (results_none (by rfl) _ _ _) rfl ⟨rfl, _, _, _, _, _, _, _, _, _, HS1.out, hq, by omega, by omega⟩
 have h9' : (z3 == 9) = false := by simp [h9]
 clear h9
 go_wp2_with fail
 refine (next_k 9 HS1.out.src (by omega) (by constructor <;> decide)).mono ?_
 rintro e w2 ⟨kk, rfl, hd, hs', hk'⟩
 have HS2 := hid (HS1.out.draw hs' hk')
 clear HS1 hd hs' hk' q8 a3 h9' qT
 have q6 := HS2.out.hs.box.cell 6
 have q7 := HS2.out.hs.box.cell 7
 have q8 := HS2.out.hs.box.cell 8
 dsimp only [List.getElem?_cons_succ, List.getElem?_cons_zero] at q6 q7 q8
 have a1 := six_at HS2.out.hs.c1 hT
 have a2 := six_at HS2.out.hs.c2 hT
 have a3 := six_at HS2.out.hs.c3 hT
 obtain ⟨z1, e1⟩ : ∃ z, l1.getD T 0 = z := ⟨_, rfl⟩
 obtain ⟨z2, e2⟩ : ∃ z, l2.getD T 0 = z := ⟨_, rfl⟩
 rw [e1] at a1
 rw [e2] at a2
 rw [e3] at a3
 clear e1 e2 e3
 go_upto_region 3 with fail
 go_cut [43] (fun x wx => Hid (IsBl x) ∧ w2 = wx)
 case first =>
  as_aux_lemma =>
  by_cases h3 : z3 = 3
  ·have h3' : (z3 == 3) = true := by simp [h3]
   go_wp2_with fail
   go_meet
   case rel => exact ⟨⟨_, rfl⟩, rfl⟩
  ·have h3' : (z3 == 3) = false := by simp [h3]
   by_cases h0 : kk = 0
   ·have h0' : (kk == 0) = true := by simp [h0]
    go_wp2_with fail
    go_meet
    case rel => exact ⟨⟨_, rfl⟩, rfl⟩
   ·have h0' : (kk == 0) = false := by simp [h0]
    go_wp2_with fail
    go_meet
    case rel => exact ⟨⟨_, rfl⟩, rfl⟩
 case rest =>
 as_aux_lemma =>
 obtain ⟨⟨cA, rfl⟩, rfl⟩ := hcut
 cases cA
 case true =>
  as_aux_lemma =>
  clear q6 q7 q8 a1 a2 a3
  go_wp2_with fail
  refine (giveup_k hA hF hU HS2.out.here hq hn T hT).mono ?_
  rintro e w3 ⟨rfl, hE⟩
  have HE := hid ((HsE.back HS2.out hE).le (k' := k + 500) (by omega) (Nat.le_refl _))
  clear hE HS2
  go_wp2
  exact bodyPost_ret (results_none (by rfl) _ _ _) rfl ⟨rfl, HE.out⟩
 go_upto_region 5 with fail
 go_cut [69] (fun x wx => Hid (IsBl x) ∧ w2 = wx)
 case first =>
  as_aux_lemma =>
  by_cases h3 : z3 = 2
  ·have h3' : (z3 == 2) = true := by simp [h3]
   go_wp2_with fail
   go_meet
   case rel => exact ⟨⟨_, rfl⟩, rfl⟩
  ·have h3' : (z3 == 2) = false := by simp [h3]
   by_cases h0 : kk = 1
   ·have h0' : (kk == 1) = true := by simp [h0]
    go_wp2_with fail
    go_meet
    case rel => exact ⟨⟨_, rfl⟩, rfl⟩
   ·have h0' : (kk == 1) = false := by simp [h0]
    go_wp2_with fail
    go_meet
    case rel => exact ⟨⟨_, rfl⟩, rfl⟩
 case rest =>
 as_aux_lemma =>
 obtain ⟨⟨cB, rfl⟩, rfl⟩ := hcut
 cases cB
 case true =>
  as_aux_lemma =>
  clear q7 a2
  go_upto_if 77 with fail
  go_cut [6] (fun x wx => Hid (IsNm x) ∧ w2 = wx)
  case first =>
   as_aux_lemma =>
   by_cases h3 : z3 = 2
   ·have h3' : (z3 == 2) = true := by simp [h3]
    go_wp2_with fail
    go_meet
    case rel => exact ⟨⟨_, rfl⟩, rfl⟩
   ·have h3' : (z3 == 2) = false := by simp [h3]
    go_wp2_with fail
    go_meet
    case rel => exact ⟨⟨_, rfl⟩, rfl⟩
  case rest =>
  as_aux_lemma =>
  obtain ⟨⟨kd, rfl⟩, rfl⟩ := hcut
  go_wp2_with fail
  refine (HS2.out.small hA hF (by omega) _ _ _ _ _).mono ?_
  rintro e w3 ⟨rfl, ha⟩
  obtain ⟨xm, fam, fm, fcm, qm, hS3, hl1, hl2, _⟩ := HS2.out.add ha
  have HS3 := hid hS3
  clear ha hS3 HS2 q6 q8 a1 a3
  obtain ⟨gF, off, rfl, hfm, hFR⟩ := HS3.out.hs.fr (by omega)
  obtain ⟨mm, hmm⟩ : ∃ m : Nat, m + 1 = fm := ⟨fm - 1, by omega⟩
  have HLM := hid (hFR.lsn mm (by omega))
  obtain ⟨Lm, hLm⟩ : ∃ z, (qm[mm]'(by omega)).lsn = z := ⟨_, rfl⟩
  rw [hLm] at HLM
  have qw : IntKind.i64.wrap ((fm : Int) - 1) = (mm : Int) := by rw [IntKind.wrap_i64]; have := HS3.out.hs.own.own.rd.max; unfold maxLen at this; omega
  have hmf : mm < fm := by omega
  have HFM := hid hfm
  clear hFR hLm hmm hfm
  go_wp2_with fail
  refine wp_region_V (fun wx : World => wx.cell? ⟨H, 6, none⟩ = some (.slice (some ⟨g1, 0, none⟩) 6 6) ∧ wx.cell? ⟨H, 5, none⟩ = some (.slice (some ⟨gF, off, none⟩) fm fcm) ∧ wx.cell? ⟨gF, off + mm * 16, none⟩ = some (.int .i64 Lm)) 19 20 rfl (by kernel_rfl) ?_
  generalize hwd : World.drew w3 = w7
  have hk7 : Same w3 w7 := by rw [← hwd]; exact (Kept.refl _ _).drew
  clear hwd
  have HS7 := hid (HS3.out.same hk7)
  have hS : (fun wx : World => wx.cell? ⟨H, 6, none⟩ = some (.slice (some ⟨g1, 0, none⟩) 6 6) ∧ wx.cell? ⟨H, 5, none⟩ = some (.slice (some ⟨gF, off, none⟩) fm fcm) ∧ wx.cell? ⟨gF, off + mm * 16, none⟩ = some (.int .i64 Lm)) w7 := ⟨HS7.out.hs.box.cell 6, HS7.out.hs.box.cell 5, hk7.cellOf HLM.out id⟩
  have u1 := six_at HS7.out.hs.c1 hT
  have fx := HS7.out.hs.c1.1.frozen T
  clear HS3 hk7 HLM
  refine tk 0 90 hS ?_
  refine tk 1 91 hS ?_
  refine tk 2 92 hS ?_
  refine tk 3 93 hS ?_
  refine tk 4 94 hS ?_
  refine tk 5 95 hS ?_
  refine tk 6 96 hS ?_
  refine tk 7 97 hS ?_
  refine tk 8 98 hS ?_
  refine tk 9 99 hS ?_
  refine tk 10 100 hS ?_
  refine tk 11 101 hS ?_
  refine tk 12 102 hS ?_
  refine tk 13 103 hS ?_
  refine tk 14 104 hS ?_
  refine tk 15 105 hS ?_
  refine tk 16 106 hS ?_
  refine tk 17 107 hS ?_
  have hTi : (T : Int) < 6 := by omega
  refine wpAnyV_one (i := 18) (by kernel_rfl) rfl (fun K hK => ?_)
  go_simp
  refine hK.out _ _ (fun _ => hS) ?_
  clear hK K
  try simp only [Act.put, sA, s0, sS]
  refine wpAnyV_one (i := 19) (by kernel_rfl) rfl (fun K hK => ?_)
  go_simp
  refine hK.out _ _ (fun h => absurd rfl h) ?_
  clear hK K
  refine wpAnyV_done (by kernel_rfl) ?_
  try simp only [Act.put, sA, s0, sS]
  clear hS u1 fx hTi
  have HS8 := hid (HS7.out.set1 T Lm)
  clear HS7 qw hmf
  generalize World.setCell w7 ⟨g1, T, none⟩ (.int .i64 Lm) = w8 at HS8 ⊢
  have r8 := HS8.out.hs.box.cell 8
  dsimp only [List.getElem?_cons_succ, List.getElem?_cons_zero] at r8
  have b3 := six_at HS8.out.hs.c3 hT
  have fx := HS8.out.hs.c3.1.frozen T
  have HS9 := hid (HS8.out.set3 T 2)
  by_cases h5 : kd = 5
  ·have h5' : (kd == 5) = true := by simp [h5]
   clear h5
   have c8 := HS9.out.hs.box.cell 8
   dsimp only [List.getElem?_cons_succ, List.getElem?_cons_zero] at c8
   have c3 := six_at HS9.out.hs.c3 hT
   have fy := HS9.out.hs.c3.1.frozen T
   have HSa := hid (HS9.out.set3 T 9)
   clear HS8 HS9
   go_upto_region 12 with fail
   generalize World.setCell w8 ⟨g3, T, none⟩ (.int .i64 2) = w9 at HSa c8 c3 fy ⊢
   go_wp2
   refine bodyPost_ret (results_none (by rfl) _ _ _) rfl ⟨rfl, _, _, _, _, _, _, _, _, _, HSa.out, by omega, by omega, by omega⟩
  ·have h5' : (kd == 5) = false := by simp [h5]
   clear HS8 h5
   go_wp2
   refine bodyPost_ret (results_none (by rfl) _ _ _) rfl ⟨rfl, _, _, _, _, _, _, _, _, _, HS9.out, by omega, by omega, by omega⟩
 clear q7 q8 a2 a3
 by_cases h2 : kk = 2
 case pos =>
  as_aux_lemma =>
  have h2' : (kk == 2) = true := by simp [h2]
  clear q6 a1
  go_wp2_with fail
  refine (next_k 3 HS2.out.src (by omega) (by constructor <;> decide)).mono ?_
  rintro e w3 ⟨p, rfl, hd, hs', hk'⟩
  obtain ⟨hp1, hp2⟩ := hd.2 (by decide)
  have HS3 := hid (HS2.out.draw hs' hk')
  clear HS2 hd hs' hk'
  go_wp2_with fail
  refine (pg_k p (by omega) (by omega) HS3.out.src (by omega)).mono ?_
  rintro e w4 ⟨g, c, bs, k4, rfl, hl, hb, ho, hgB, hk4, hs', hgw, hk'⟩
  have HS4 := hid (HS3.out.draw hs' hk')
  have hO : Own 0 5 .u8 w4 (.slice (some ⟨g, 0, none⟩) bs.length c) bs := by rw [hl]; exact ho.mono (fun b hb => Nat.zero_le _)
  have fn0 : ∀ b, ¬ (Value.slice none ([] : List Int).length 0).ownBlock = some b := fun b h => by simp [Value.ownBlock] at h
  have hR := recRows_own (k := 8) (t := 0) (p := 0) (g := p) (s := 0) (u := 0) (n := 0) (bu := false) (au := false) (Own.nil 0 0 .u8 w4) (Own.nil 0 0 .u8 w4) hO (fun b h => absurd h (fn0 b)) (fun b h => absurd h (fn0 b)) (fun b h => absurd h (fn0 b))
  have kM := HS4.out.more hA hF (by omega) _ ⟨⟨isB_nil, isB_nil, hb, .inr rfl, .inr rfl, .inl rfl⟩, by simp only [StLogRecord.szs, StPageRecord.szs, List.length_nil]; omega⟩ hR (fun b hb => by
   rcases recRows_foot hb with h | h | h
   ·exact absurd h (fn0 b)
   ·exact absurd h (fn0 b)
   ·have e1 : g = b := by simpa [Value.ownBlock] using h
    subst e1
    exact HS3.out.fresh g hgw)
  simp only [rcCells, BS.v, FR.v, List.length_nil, hl] at kM
  clear hR hO fn0 ho hb hs' hk' hgw HS3
  go_wp2_with fail
  refine kM.mono ?_
  rintro e w5 ⟨rfl, ha⟩
  obtain ⟨xm, fam, fm, fcm, qm, hS5, hl1, hl2, _⟩ := HS4.out.add ha
  have HS5 := hid hS5
  clear ha hS5 HS4 kM
  go_wp2
  refine bodyPost_ret (results_none (by rfl) _ _ _) rfl ⟨rfl, _, _, _, _, _, _, _, _, _, HS5.out, by omega, by omega, by omega⟩
 have h2' : (kk == 2) = false := by simp [h2]
 clear h2 q6 a1
 go_wp2_with fail
 refine (upd_k HS2.out.src (by omega)).mono ?_
 rintro e w3 ⟨y, k3, rfl, hyB, hyz, hyo, hyf, hk3, hs', hk'⟩
 have HS3 := hid (HS2.out.draw hs' hk')
 obtain ⟨N, hN⟩ : ∃ N, w2.heap.size = N := ⟨_, rfl⟩
 have HNF := (show Hid (∀ b, N ≤ b → lo ≤ b ∧ ¬ b = B ∧ ¬ b = H ∧ ¬ b = g1 ∧ ¬ b = g2 ∧ ¬ b = g3 ∧ ¬ footFr (.slice fa fn fc) qs b ∧ ¬ FootL x.rows b) from fun b hb => HS2.out.fresh b (by omega))
 have hNw : N ≤ w3.heap.size := by have := hk'.size; omega
 rw [hN] at hyf
 clear hs' hk' HS2 hN h2'
 as_aux_lemma =>
 have HYB := (show Hid (RcB y) from ⟨hyB, hyz⟩)
 have HO3 := hid hyo
 obtain ⟨kd, tx, pv, pg, sl, ⟨bU, ⟨bE, bA, bC, bB⟩⟩, ⟨aU, ⟨aE, aA, aC, aB⟩⟩, un, nt, te, de, im⟩ := y
 have HYN := (show Hid (∀ b, FootL (StLogRecord.rows ⟨kd, tx, pv, pg, sl, ⟨bU, ⟨bE, bA, bC, bB⟩⟩, ⟨aU, ⟨aE, aA, aC, aB⟩⟩, un, nt, te, de, im⟩) b → N ≤ b ∧ b < w3.heap.size) from fun b hb => ⟨(hyf b hb).1, hyo.lt b hb⟩)
 clear hyB hyz hyo hyf
 obtain ⟨yc, hyc⟩ : ∃ c, rcCells ⟨kd, tx, pv, pg, sl, ⟨bU, ⟨bE, bA, bC, bB⟩⟩, ⟨aU, ⟨aE, aA, aC, aB⟩⟩, un, nt, te, de, im⟩ = c := ⟨_, rfl⟩
 have HCY := (show Hid (yc.length = 14) from by unfold Hid; rw [← hyc]; rfl)
 have HON := (show Hid (yc.toArray.all (·.oneCell') = true) from by unfold Hid; rw [← hyc]; exact rcCells_one _)
 have HYC := hid hyc
 rw [show StLogRecord.val ⟨kd, tx, pv, pg, sl, ⟨bU, ⟨bE, bA, bC, bB⟩⟩, ⟨aU, ⟨aE, aA, aC, aB⟩⟩, un, nt, te, de, im⟩ = .agg (rcCells ⟨kd, tx, pv, pg, sl, ⟨bU, ⟨bE, bA, bC, bB⟩⟩, ⟨aU, ⟨aE, aA, aC, aB⟩⟩, un, nt, te, de, im⟩).toArray from rfl, hyc]
 clear hyc
 go_upto_region 18 with (refine wpList_store_mid rfl 48 _ _ rfl w3.heap.size 0 yc.toArray rfl rfl ((Blk.new w3 _ _).there 0 _ (by rw [List.size_toArray, HCY.out]; decide)) (by rw [List.size_toArray, HCY.out]; kernel_rfl) HON.out ?_; rw [List.toList_toArray])
 generalize hW : World.setCells _ w3.heap.size 0 yc = w4
 have hbx : Blk w4 w3.heap.size 48 yc ∧ Same w3 w4 := by rw [← hW]; exact box_fill w3 _ yc _ (by rw [HCY.out]; rfl)
 obtain ⟨hb, hk4⟩ := hbx
 clear hW
 rw [← HYC.out] at hb
 obtain ⟨Z, hZ⟩ : ∃ Z, w3.heap.size = Z := ⟨_, rfl⟩
 rw [hZ] at hb HYN hNw ⊢
 have hb5 := (hb.stored 1 (.int .i64 (T : Int)))
 have hk5 : Same w3 (w4.setCell ⟨Z, 1, none⟩ (.int .i64 (T : Int))) := hk4.next (Kept.setCell (R := fun b => b = Z) (Kept.refl _ _) (.inr (by rfl)) _) (fun i hi e => by have e' : i = Z := e; omega)
 have HB5 := (show Hid (Blk (w4.setCell ⟨Z, 1, none⟩ (.int .i64 (T : Int))) Z 48 (rcCells ⟨kd, (T : Int), pv, pg, sl, ⟨bU, ⟨bE, bA, bC, bB⟩⟩, ⟨aU, ⟨aE, aA, aC, aB⟩⟩, un, nt, te, de, im⟩)) from hb5)
 have c1 : w4.cell? ⟨Z, 1, none⟩ = some (.int .i64 tx) := hb.cell 1
 have f1 := hb.frozen 1
 clear hb hb5 hk4 HCY HON HYC
 go_upto_region 19 with fail
 generalize World.setCell w4 ⟨Z, 1, none⟩ (.int .i64 (T : Int)) = w5 at hk5 HB5 ⊢
 clear c1 f1
 have HS5 := hid (HS3.out.same hk5)
 have c2 : w5.cell? ⟨Z, 2, none⟩ = some (.int .i64 pv) := HB5.out.cell 2
 have f2 := HB5.out.frozen 2
 have r6 := HS5.out.hs.box.cell 6
 dsimp only [List.getElem?_cons_succ, List.getElem?_cons_zero] at r6
 have a1 := six_at HS5.out.hs.c1 hT
 obtain ⟨zp, ep⟩ : ∃ z, l1.getD T 0 = z := ⟨_, rfl⟩
 rw [ep] at a1
 clear ep
 have hk6 : Same w3 (w5.setCell ⟨Z, 2, none⟩ (.int .i64 zp)) := hk5.next (Kept.setCell (R := fun b => b = Z) (Kept.refl _ _) (.inr (by rfl)) _) (fun i hi e => by have e' : i = Z := e; omega)
 have HB6 := (show Hid (Blk (w5.setCell ⟨Z, 2, none⟩ (.int .i64 zp)) Z 48 (rcCells ⟨kd, (T : Int), zp, pg, sl, ⟨bU, ⟨bE, bA, bC, bB⟩⟩, ⟨aU, ⟨aE, aA, aC, aB⟩⟩, un, nt, te, de, im⟩)) from HB5.out.stored 2 _)
 clear HB5 hk5 HS5
 go_upto_region 20 with fail
 generalize World.setCell w5 ⟨Z, 2, none⟩ (.int .i64 zp) = w6 at hk6 HB6 ⊢
 clear c2 f2 r6 a1
 have HS6 := hid (HS3.out.same hk6)
 have HO6 := hid (HO3.out.same hk6)
 clear HS3 HO3 hk6
 go_wp2_with fail
 refine (next_k 3 HS6.out.src (by omega) (by constructor <;> decide)).mono ?_
 rintro e w7 ⟨pz, rfl, hd, hs', hk'⟩
 have HS7 := hid (HS6.out.draw hs' hk')
 have HZB := (show Hid (¬ Z = B ∧ ∀ b, N ≤ b → ¬ b = B) from ⟨(HNF.out Z hNw).2.1, fun b hb => (HNF.out b hb).2.1⟩)
 have HB7 := hid (HB6.out.kept hk' HZB.out.1)
 have HO7 := hid (HO6.out.kept hk' (fun b hb => HZB.out.2 b (HYN.out b hb).1))
 as_aux_lemma =>
 clear HS6 HB6 HO6 hd hs' hk'
 have hk8 : Kept (fun b => b = Z) w7 (w7.setCell ⟨Z, 3, none⟩ (.int .i64 pz)) := Kept.setCell (R := fun b => b = Z) (Kept.refl _ _) (.inr (by rfl)) _
 have HB8 := (show Hid (Blk (w7.setCell ⟨Z, 3, none⟩ (.int .i64 pz)) Z 48 (rcCells ⟨kd, (T : Int), zp, pz, sl, ⟨bU, ⟨bE, bA, bC, bB⟩⟩, ⟨aU, ⟨aE, aA, aC, aB⟩⟩, un, nt, te, de, im⟩)) from HB7.out.stored 3 _)
 have HS8 := hid (HS7.out.beside hk8 (HNF.out Z hNw))
 have HO8 := hid (HO7.out.kept hk8 (fun b hb e => by have := (HYN.out b hb).2; have e' : b = Z := e; omega))
 have c3 : w7.cell? ⟨Z, 3, none⟩ = some (.int .i64 pg) := HB7.out.cell 3
 have f3 := HB7.out.frozen 3
 clear HS7 HB7 HO7 hk8
 go_upto_region 21 with fail
 generalize World.setCell w7 ⟨Z, 3, none⟩ (.int .i64 pz) = w8 at HB8 HS8 HO8 ⊢
 clear c3 f3
 as_aux_lemma =>
 obtain ⟨k6, hk6⟩ : ∃ z, k3 + 1 = z := ⟨_, rfl⟩
 rw [hk6] at HS8
 have hk66 : k6 ≤ k + 43 := by omega
 clear hk6 hk3
 have c6 : w8.cell? ⟨Z, 6, none⟩ = some (.slice bA bB.length bC) := HB8.out.cell 6
 have c8 : w8.cell? ⟨Z, 8, none⟩ = some (.slice aA aB.length aC) := HB8.out.cell 8
 have hzs := HYB.out.2
 simp only [StLogRecord.szs, StPageRecord.szs] at hzs
 have qb : IntKind.i64.wrap ((bB.length : Int) + (aB.length : Int)) = (bB.length : Int) + (aB.length : Int) := by rw [IntKind.wrap_i64]; omega
 go_upto_if 158 with fail
 go_cut [8] (fun z wx => z = .pointer (some ⟨Z, 0, none⟩) ∧ Hid (RcZ (HsS w0 w lo B H v cs k6 size x fa fn fc qs g1 g2 g3 l1 l2 l3) Z N wx))
 case first =>
  as_aux_lemma =>
  by_cases hgt : (400 : Int) < (bB.length : Int) + (aB.length : Int)
  case neg =>
   as_aux_lemma =>
   go_wp2_with fail
   go_meet
   case rel => exact ⟨rfl, _, HB8.out, HYB.out, HO8.out, fun b hb => ⟨(HYN.out b hb).1, fun e => by have := (HYN.out b hb).2; omega⟩, HS8.out⟩
  have hRb : Rd .u8 w8 (.slice bA bB.length bC) bB := (StLogRecord.own_rd HO8.out).1
  have hcb : bB.length ≤ bC := hRb.cap rfl
  obtain ⟨pb, hpb⟩ : ∃ p, bB.length / 4 = p := ⟨_, rfl⟩
  have hq1 : ((bB.length : Int) / 4) = (pb : Int) := by omega
  have hpl : pb ≤ bB.length := by omega
  have hpc : (pb : Int) ≤ (bC : Int) := by omega
  have hqw : IntKind.i64.wrap (pb : Int) = (pb : Int) := by rw [IntKind.wrap_i64]; omega
  have kC := l1Copy_any (.slice bA pb bC) (bB.take pb) w8 (by rw [List.length_take]; omega) (hRb.pre pb hpl)
  clear hpb hRb
  go_wp2_with fail
  refine kC.mono ?_
  rintro e w9 ⟨ca, cn, cc, rfl, co, cf, ck⟩
  obtain ⟨db, hdb⟩ : ∃ d, bB.take pb = d := ⟨_, rfl⟩
  have hdl : db.length ≤ bB.length := by rw [← hdb, List.length_take]; omega
  have hdB : IsB db := by rw [← hdb]; exact isB_take HYB.out.1.1 _
  rw [hdb] at co
  have hcn : cn = db.length := by obtain ⟨_, _, he⟩ := co.rd.form; injection he
  subst hcn
  have HZ9 := hid (RcZ.before HB8.out HYB.out HO8.out (fun b hb => ⟨(HYN.out b hb).1, fun e => by have := (HYN.out b hb).2; omega⟩) (Nat.le_trans hNw (Nat.le_of_lt HB8.out.lt)) ck co cf hdB hdl)
  dsimp only at HZ9
  have HS9 := hid (HS8.out.same ck)
  have hk9 : Kept (fun b => b = Z) w9 (w9.setCell ⟨Z, 6, none⟩ (.slice ca db.length cc)) := Kept.setCell (R := fun b => b = Z) (Kept.refl _ _) (.inr (by rfl)) _
  have HSa := hid (HS9.out.beside hk9 (HNF.out Z hNw))
  have hb9 := HB8.out.same ck
  have d6 : w9.cell? ⟨Z, 6, none⟩ = some (.slice bA bB.length bC) := hb9.cell 6
  have g6 := hb9.frozen 6
  clear kC co cf ck hdB hdb HS8 HS9 HB8 HO8 hk9 hb9 c6 c8 hq1 hpl hpc hqw
  go_upto_region 23 with fail
  as_aux_lemma =>
  generalize World.setCell w9 ⟨Z, 6, none⟩ (.slice ca db.length cc) = wa at HZ9 HSa ⊢
  clear d6 g6
  obtain ⟨hB9, hR9, hO9, hF9⟩ := HZ9.out
  have HB9 := hid hB9
  have HR9 := hid hR9
  have HO9 := hid hO9
  have HF9 := hid hF9
  clear HZ9
  have c8 : wa.cell? ⟨Z, 8, none⟩ = some (.slice aA aB.length aC) := hB9.cell 8
  have hRb : Rd .u8 wa (.slice aA aB.length aC) aB := (StLogRecord.own_rd hO9).2.1
  have hcb : aB.length ≤ aC := hRb.cap rfl
  obtain ⟨pb, hpb⟩ : ∃ p, aB.length / 4 = p := ⟨_, rfl⟩
  have hq1 : ((aB.length : Int) / 4) = (pb : Int) := by omega
  have hpl : pb ≤ aB.length := by omega
  have hpc : (pb : Int) ≤ (aC : Int) := by omega
  have hqw : IntKind.i64.wrap (pb : Int) = (pb : Int) := by rw [IntKind.wrap_i64]; omega
  have kC := l1Copy_any (.slice aA pb aC) (aB.take pb) wa (by rw [List.length_take]; omega) (hRb.pre pb hpl)
  clear hpb hRb hB9 hR9 hO9 hF9
  go_wp2_with fail
  refine kC.mono ?_
  rintro e wb ⟨da, dn, dc, rfl, co, cf, ck⟩
  obtain ⟨eb, heb⟩ : ∃ d, aB.take pb = d := ⟨_, rfl⟩
  have hel : eb.length ≤ aB.length := by rw [← heb, List.length_take]; omega
  have heB : IsB eb := by rw [← heb]; exact isB_take HYB.out.1.2.1 _
  rw [heb] at co
  have hcn : dn = eb.length := by obtain ⟨_, _, he⟩ := co.rd.form; injection he
  subst hcn
  have HZb := hid (RcZ.after HB9.out HR9.out HO9.out HF9.out (Nat.le_trans hNw (Nat.le_of_lt HB9.out.lt)) ck co cf heB hel)
  dsimp only at HZb
  have HSb := hid (HSa.out.same ck)
  have hkb : Kept (fun b => b = Z) wb (wb.setCell ⟨Z, 8, none⟩ (.slice da eb.length dc)) := Kept.setCell (R := fun b => b = Z) (Kept.refl _ _) (.inr (by rfl)) _
  have HSc := hid (HSb.out.beside hkb (HNF.out Z hNw))
  have hbb := HB9.out.same ck
  have d8 : wb.cell? ⟨Z, 8, none⟩ = some (.slice aA aB.length aC) := hbb.cell 8
  have g8 := hbb.frozen 8
  clear kC co cf ck heB heb HSa HSb HB9 HR9 HO9 HF9 hkb hbb c8 hq1 hpl hpc hqw
  have HFIN := (show Hid (RcZ (HsS w0 w lo B H v cs k6 size x fa fn fc qs g1 g2 g3 l1 l2 l3) Z N (wb.setCell ⟨Z, 8, none⟩ (.slice da eb.length dc))) from ⟨_, HZb.out.1, HZb.out.2.1, HZb.out.2.2.1, HZb.out.2.2.2, HSc.out⟩)
  clear HZb HSc
  go_wp2_with fail
  generalize World.setCell wb ⟨Z, 8, none⟩ (.slice da eb.length dc) = wc at HFIN ⊢
  go_meet
  case rel => exact ⟨rfl, HFIN⟩
 case rest =>
 as_aux_lemma =>
 obtain ⟨rfl, HZ⟩ := hcut
 clear HB8 HS8 HO8 HYN HYB c6 c8 qb hzs HZB
 obtain ⟨r, hBr, hRr, hOr, hFr, hSr⟩ := HZ.out
 clear HZ
 have HSr := hid hSr
 have kM := hSr.more hA hF (by omega) r hRr hOr (fun b hb => HNF.out b (hFr b hb).1)
 have HRG := hid hBr.rangeAll
 obtain ⟨rc, hrc⟩ : ∃ z, rcCells r = z := ⟨_, rfl⟩
 have HI14 := (show Hid ((Try.prog.info? 48).map (·.size) = some rc.length) from by unfold Hid; rw [← hrc]; exact infoLR14)
 rw [hrc] at kM HRG
 clear hrc hBr hRr hOr hFr hSr
 go_wp2_with (refine wpList_load_mid rfl 48 _ rfl Z 0 rfl rc _ HRG.out Try.underlying48 rfl HI14.out ?_)
 refine kM.mono ?_
 rintro e w9 ⟨rfl, ha⟩
 obtain ⟨xm, fam, fm, fcm, qm, hS2, hl1, hl2, _⟩ := HSr.out.add ha
 have HS2 := hid hS2
 clear ha hS2 HSr kM HRG HI14 HNF
 obtain ⟨gF, off, rfl, hfm, hFR⟩ := HS2.out.hs.fr (by omega)
 obtain ⟨mm, hmm⟩ : ∃ m : Nat, m + 1 = fm := ⟨fm - 1, by omega⟩
 have HLM := hid (hFR.lsn mm (by omega))
 obtain ⟨Lm, hLm⟩ : ∃ z, (qm[mm]'(by omega)).lsn = z := ⟨_, rfl⟩
 rw [hLm] at HLM
 have qw : IntKind.i64.wrap ((fm : Int) - 1) = (mm : Int) := by rw [IntKind.wrap_i64]; have := HS2.out.hs.own.own.rd.max; unfold maxLen at this; omega
 have hmf : mm < fm := by omega
 have HFM := hid hfm
 clear hFR hLm hmm hfm
 go_wp2_with fail
 refine wp_region_V (fun wx : World => wx.cell? ⟨H, 6, none⟩ = some (.slice (some ⟨g1, 0, none⟩) 6 6) ∧ wx.cell? ⟨H, 5, none⟩ = some (.slice (some ⟨gF, off, none⟩) fm fcm) ∧ wx.cell? ⟨gF, off + mm * 16, none⟩ = some (.int .i64 Lm)) 19 20 rfl (by kernel_rfl) ?_
 generalize hwd : World.drew w9 = w7
 have hk7 : Same w9 w7 := by rw [← hwd]; exact (Kept.refl _ _).drew
 clear hwd
 have HS7 := hid (HS2.out.same hk7)
 have hS : (fun wx : World => wx.cell? ⟨H, 6, none⟩ = some (.slice (some ⟨g1, 0, none⟩) 6 6) ∧ wx.cell? ⟨H, 5, none⟩ = some (.slice (some ⟨gF, off, none⟩) fm fcm) ∧ wx.cell? ⟨gF, off + mm * 16, none⟩ = some (.int .i64 Lm)) w7 := ⟨HS7.out.hs.box.cell 6, HS7.out.hs.box.cell 5, hk7.cellOf HLM.out id⟩
 have u1 := six_at HS7.out.hs.c1 hT
 have fx := HS7.out.hs.c1.1.frozen T
 clear HS2 hk7 HLM
 refine tk 0 186 hS ?_
 refine tk 1 187 hS ?_
 refine tk 2 188 hS ?_
 refine tk 3 189 hS ?_
 refine tk 4 190 hS ?_
 refine tk 5 191 hS ?_
 refine tk 6 192 hS ?_
 refine tk 7 193 hS ?_
 refine tk 8 194 hS ?_
 refine tk 9 195 hS ?_
 refine tk 10 196 hS ?_
 refine tk 11 197 hS ?_
 refine tk 12 198 hS ?_
 refine tk 13 199 hS ?_
 refine tk 14 200 hS ?_
 refine tk 15 201 hS ?_
 refine tk 16 202 hS ?_
 refine tk 17 203 hS ?_
 have hTi : (T : Int) < 6 := by omega
 refine wpAnyV_one (i := 18) (by kernel_rfl) rfl (fun K hK => ?_)
 go_simp
 refine hK.out _ _ (fun _ => hS) ?_
 clear hK K
 try simp only [Act.put, sA, s0, sS]
 refine wpAnyV_one (i := 19) (by kernel_rfl) rfl (fun K hK => ?_)
 go_simp
 refine hK.out _ _ (fun h => absurd rfl h) ?_
 clear hK K
 refine wpAnyV_done (by kernel_rfl) ?_
 try simp only [Act.put, sA, s0, sS]
 clear hS u1 fx hTi
 have HSE := hid (HS7.out.set1 T Lm)
 clear HS7 qw hmf
 generalize World.setCell w7 ⟨g1, T, none⟩ (.int .i64 Lm) = wE at HSE ⊢
 as_aux_lemma =>
 have b1 := six_at HSE.out.hs.c1 hT
 obtain ⟨zl, el⟩ : ∃ z, (l1.set T Lm).getD T 0 = z := ⟨_, rfl⟩
 rw [el] at b1
 clear el
 go_wp2_with fail
 refine wp_region_V (fun wx : World => wx.cell? ⟨H, 7, none⟩ = some (.slice (some ⟨g2, 0, none⟩) 6 6) ∧ wx.cell? ⟨H, 6, none⟩ = some (.slice (some ⟨g1, 0, none⟩) 6 6) ∧ wx.cell? ⟨g1, T, none⟩ = some (.int .i64 zl)) 13 14 rfl (by kernel_rfl) ?_
 generalize hwd : World.drew wE = wF
 have hkF : Same wE wF := by rw [← hwd]; exact (Kept.refl _ _).drew
 clear hwd
 have HSF := hid (HSE.out.same hkF)
 have hS : (fun wx : World => wx.cell? ⟨H, 7, none⟩ = some (.slice (some ⟨g2, 0, none⟩) 6 6) ∧ wx.cell? ⟨H, 6, none⟩ = some (.slice (some ⟨g1, 0, none⟩) 6 6) ∧ wx.cell? ⟨g1, T, none⟩ = some (.int .i64 zl)) wF := ⟨HSF.out.hs.box.cell 7, HSF.out.hs.box.cell 6, hkF.cellOf b1 id⟩
 have u1 := six_at HSF.out.hs.c2 hT
 have fx := HSF.out.hs.c2.1.frozen T
 have hTi : (T : Int) < 6 := by omega
 clear HSE hkF b1
 refine tk 0 205 hS ?_
 refine tk 1 206 hS ?_
 refine tk 2 207 hS ?_
 refine tk 3 208 hS ?_
 refine tk 4 209 hS ?_
 refine tk 5 210 hS ?_
 refine tk 6 211 hS ?_
 refine tk 7 212 hS ?_
 refine tk 8 213 hS ?_
 refine tk 9 214 hS ?_
 refine tk 10 215 hS ?_
 refine tk 11 216 hS ?_
 refine wpAnyV_one (i := 12) (by kernel_rfl) rfl (fun K hK => ?_)
 go_simp
 refine hK.out _ _ (fun _ => hS) ?_
 clear hK K
 try simp only [Act.put, sA, s0, sS]
 refine wpAnyV_one (i := 13) (by kernel_rfl) rfl (fun K hK => ?_)
 go_simp
 refine hK.out _ _ (fun h => absurd rfl h) ?_
 clear hK K
 refine wpAnyV_done (by kernel_rfl) ?_
 try simp only [Act.put, sA, s0, sS]
 clear hS u1 fx
 have HSG := hid (HSF.out.set2 T zl)
 clear HSF
 generalize World.setCell wF ⟨g2, T, none⟩ (.int .i64 zl) = wG at HSG ⊢
 have r8 := HSG.out.hs.box.cell 8
 dsimp only [List.getElem?_cons_succ, List.getElem?_cons_zero] at r8
 have b3 := six_at HSG.out.hs.c3 hT
 have fx := HSG.out.hs.c3.1.frozen T
 have HSK := hid (HSG.out.set3 T 1)
 clear HSG
 go_wp2
 refine bodyPost_end (results_none (by rfl) _ _ _) rfl ⟨rfl, _, _, _, _, _, _, _, _, _, HSK.out, by omega, by omega, by omega⟩
end Go.Proofs.Ytcldagphkpkdpaa
