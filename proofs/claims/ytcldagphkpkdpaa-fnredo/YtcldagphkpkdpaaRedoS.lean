import Derived.Test.YtcldagphkpkdpaaG35
namespace Go.Proofs.Ytcldagphkpkdpaa
set_option maxRecDepth 100000
set_option maxHeartbeats 16000000
set_option linter.unusedVariables false
set_option linter.unusedSimpArgs false
open Go Go.RowKit
def recCells (p : StLogFrame) : List Value := p.cells.drop 2
structure RdI (w wr : World) (number frm : Int) (ps : List StLogFrame) (raw : List Int) (k : Nat) (a : Option Addr) (c : Nat) (E : List Int) : Prop where
 own : Own 0 5 .u8 wr (.slice a 4096 c) E
 new : ∀ b, (Value.slice a 4096 c).ownBlock = some b → w.heap.size < b
 isB : IsB E
 ok : ownOK E = true
 eq : redoL number frm raw (datFr ps) = redoL number frm E (datFr (ps.drop k))
 same : Same w wr
 res : Blk wr w.heap.size 27 [.int .i64 0, .slice none 0 0]
theorem RdI.on {w wr wx : World} {number frm : Int} {ps : List StLogFrame} {raw : List Int} {k : Nat} {a : Option Addr} {c : Nat} {E : List Int} (h : RdI w wr number frm ps raw k a c E) (hk : Same wr wx) : RdI w wx number frm ps raw k a c E :=
 ⟨h.own.same hk, h.new, h.isB, h.ok, h.eq, h.same.trans hk, h.res.same hk⟩
theorem RdI.next {w wr : World} {number frm : Int} {ps : List StLogFrame} {raw : List Int} {k : Nat} {a : Option Addr} {c : Nat} {E : List Int} (h : RdI w wr number frm ps raw k a c E) (hk : k < ps.length) (hs : skipF E number frm ps[k].dat) : RdI w wr number frm ps raw (k + 1) a c E :=
 ⟨h.own, h.new, h.isB, h.ok, by rw [h.eq, redoL_step hk, if_pos hs], h.same, h.res⟩
theorem RdI.put {w wr wx : World} {number frm : Int} {ps : List StLogFrame} {raw : List Int} {k : Nat} {a a' : Option Addr} {c c' : Nat} {E E' : List Int} (h : RdI w wr number frm ps raw k a c E) (hk : k < ps.length) (hs : ¬ skipF E number frm ps[k].dat) (hp : ps[k].isB) (h0 : (redoOne E ps[k].dat).1 = 0) (hE : (redoOne E ps[k].dat).2 = E')
  (ho : Own 0 5 .u8 wx (.slice a' 4096 c') E') (hn : ∀ b, (Value.slice a' 4096 c').ownBlock = some b → w.heap.size < b) (hw : Same w wx) (hr : Blk wx w.heap.size 27 [.int .i64 0, .slice none 0 0]) : RdI w wx number frm ps raw (k + 1) a' c' E' := by
 subst hE
 obtain ⟨h1, h2, h3⟩ := redoOne_ok h.isB h.ok (d := ps[k].dat) hp.2.1 h0
 exact ⟨ho, hn, h2, h1, by rw [h.eq, redoL_step hk, if_neg hs, if_pos h0], hw, hr⟩
def PRs (w0 w' : World) (D : Int × List Int) (v : Value) : Prop :=
 ∃ (B : Nat) (a : Option Addr) (c : Nat), v = .pointer (some ⟨B, 0, none⟩) ∧ w0.heap.size ≤ B ∧ Blk w' B 27 [.int .i64 D.1, .slice a D.2.length c] ∧ Own 0 5 .u8 w' (.slice a D.2.length c) D.2 ∧ (∀ b, (Value.slice a D.2.length c).ownBlock = some b → w0.heap.size ≤ b ∧ ¬ b = B) ∧ Same w0 w'
theorem specRedo_any (v : Value) (raw : List Int) (number : Int) (fv : Value) (ps : List StLogFrame) (frm : Int) (w : World) (hB : IsB raw) (hn : raw.length ≤ 1099511627776) (hv : Rd .u8 w v raw) (hfo : FrOK ps) (hf : RdFr w fv ps) :
  Calls Try.prog 6 #[v, .int .i64 number, fv, .int .i64 frm] w fun e w' => SetAns 5 w w' e (redoD raw number (datFr ps) frm).1 (redoD raw number (datFr ps) frm).2 := by
 have HK0 := hid (sameA w [.int .i64 0, .slice none 0 0] 27)
 have HB0 := hid (Blk.newL w [.int .i64 0, .slice none 0 0] 27)
 have kF := specFault_any v raw number _ hB hn (hv.same HK0.out)
 have hlen := hfo.len
 have HFO := hid hfo
 have HF := hid hf
 have HV := hid hv
 have HB := hid hB
 obtain ⟨fa, fc, rfl⟩ := hf.form
 clear hfo hf hv hB
 by_cases h0 : pageFault raw number = 0
 case neg =>
  have hR : redoD raw number (datFr ps) frm = (1, []) := if_neg h0
  rw [hR]
  clear hR
  obtain ⟨q, hq⟩ : ∃ q, pageFault raw number = q := ⟨_, rfl⟩
  rw [hq] at kF h0
  clear hq
  have e0 : (q == 0) = false := by simp [h0]
  go_enter Try.func6, Try.ntmps6
  go_wp2_with fail
  refine kF.mono ?_
  rintro e w1 ⟨rfl, hk1⟩
  have HK1 := hid (HK0.out.trans hk1)
  obtain ⟨c0, c1⟩ := (HB0.out.same hk1).all2
  have f0 := (HB0.out.same hk1).frozen
  clear hk1
  go_wp2
  refine bodyPost_ret (v := .agg #[.int .i64 1, .slice none 0 0]) (by simp [results, Try.results6, go_sem, c0, c1]) rfl (SetAns.none 1 ?_)
  exact (HK1.out.setCell (p := ⟨w.heap.size, 0, none⟩) (.inl (Nat.le_refl _)) _).setCell (p := ⟨w.heap.size, 1, none⟩) (.inl (Nat.le_refl _)) _
 rw [h0] at kF
 have hok := (fault0.1 h0).1
 have hl := ownOK_len hok
 have HD := (show Hid (redoD raw number (datFr ps) frm = redoL number frm raw (datFr ps)) from if_pos h0)
 have HOK := hid hok
 obtain ⟨len, hlen0⟩ : ∃ n, ps.length = n := ⟨_, rfl⟩
 have HL := hid hlen0
 rw [hlen0] at hlen ⊢
 clear h0 hok hlen0
 have HRW := hid hl
 clear hl
 go_enter Try.func6, Try.ntmps6
 go_wp2_with fail
 refine kF.mono ?_
 rintro e w1 ⟨rfl, hk1⟩
 have HK1 := hid (HK0.out.trans hk1)
 have HB1 := hid (HB0.out.same hk1)
 clear hk1 HK0 HB0
 go_wp2_with fail
 refine (l1Copy_any v raw _ hn (HV.out.same HK1.out)).mono ?_
 rintro e w2 ⟨a0, n0, c0, rfl, ho2, hf2, hk2⟩
 obtain ⟨g0, cap0, hg0, _, _, _, _⟩ : ∃ g cap, Value.slice a0 n0 c0 = .slice (some ⟨g, 0, none⟩) raw.length cap ∧ 0 ≤ g ∧ g < w2.heap.size ∧ raw.length ≤ cap ∧ cap ≤ maxLen := by
  rcases ho2.form with ⟨_, h⟩ | h
  ·have := HRW.out; rw [h] at this; simp at this
  ·exact h
 rw [HRW.out] at hg0
 injection hg0 with hga hgn hgc
 subst hga hgn hgc
 have HI0 : Hid (RdI w w2 number frm ps raw 0 (some ⟨g0, 0, none⟩) c0 raw) := ⟨ho2, fun b hb => by have h1 := hf2 b hb; have h2 := HB1.out.lt; omega, HB.out, HOK.out, by simp, HK1.out.trans hk2, HB1.out.same hk2⟩
 clear ho2 hf2 hk2 HK1 HB1 HV kF
 go_wp2_with fail
 go_loopw [9, 10] (fun v9 i wr => ∃ (k : Nat) (a : Option Addr) (c : Nat) (E : List Int), k ≤ len ∧ i = .int .i64 k ∧ v9 = .slice a 4096 c ∧ Hid (RdI w wr number frm ps raw k a c E)) (fun _ i _ => len - (intOf i).toNat)
 case atStart => exact ⟨0, _, _, raw, Nat.zero_le _, rfl, rfl, HI0⟩
 case round =>
  obtain ⟨k, a, c, E, hk, rfl, rfl, HI⟩ := hrel
  by_cases hlt : k < len
  case neg =>
   obtain ⟨d0, d1⟩ := HI.out.res.all2
   have ff := HI.out.res.frozen
   have hlt0 := HI.out.res.lt
   go_wp2
   have hkw : Kept (fun b => b = w.heap.size) wr ((wr.setCell ⟨w.heap.size, 0, none⟩ (.int .i64 0)).setCell ⟨w.heap.size, 1, none⟩ (.slice a 4096 c)) := ((Kept.refl (fun b => b = w.heap.size) wr).setCell (p := ⟨w.heap.size, 0, none⟩) (.inr rfl) _).setCell (p := ⟨w.heap.size, 1, none⟩) (.inr rfl) _
   have hfin := HI.out.eq
   obtain rfl : k = len := by omega
   rw [← HL.out, List.drop_length, show datFr [] = [] from rfl, redoL, ← HD.out] at hfin
   rw [hfin]
   have hEl := ownOK_len HI.out.ok
   refine bodyPost_ret (v := .agg #[.int .i64 0, .slice a 4096 c]) (by simp [results, Try.results6, go_sem, d0, d1]) rfl ⟨a, c, by simp only [hEl], fun b hb => ?_, ?_, ?_⟩
   ·simp only [hEl] at hb
    exact Nat.le_of_lt (HI.out.new b hb)
   ·simp only [hEl]
    exact HI.out.own.kept hkw (fun b hb e => by have := HI.out.new b hb; omega)
   ·exact (HI.out.same.setCell (p := ⟨w.heap.size, 0, none⟩) (.inl (Nat.le_refl _)) _).setCell (p := ⟨w.heap.size, 1, none⟩) (.inl (Nat.le_refl _)) _
  have hlp : k < ps.length := by rw [HL.out]; exact hlt
  obtain ⟨b, off, fc', hfa, hcell⟩ : ∃ b off c, Value.slice fa len fc = .slice (some ⟨b, off, none⟩) len c ∧ ∀ j i, (h : j < ps.length) → i < 16 → w.cell? ⟨b, off + (j * 16 + i), none⟩ = (kFr.cells ps[j])[i]? := by
   rcases HF.out.row.row with ⟨h, _⟩ | ⟨b, off, c, h, hc⟩
   ·rw [h] at hlp; simp at hlp
   ·exact ⟨b, off, c, by rw [← HL.out]; exact h, hc⟩
  injection hfa with hfa _ hfc
  subst hfa hfc
  have HFC := hid hcell
  clear hcell
  have HPB := hid (HFO.out.isB _ (List.getElem_mem hlp))
  have HPD := hid ((HF.out.data _ (List.getElem_mem hlp)).same HI.out.same)
  have HPZ := hid (HFO.out.each _ (List.getElem_mem hlp))
  have HNX := (show Hid (∀ wx, RdI w wx number frm ps raw k a c E → skipF E number frm ps[k].dat → RdI w wx number frm ps raw (k + 1) a c E) from fun wx h hs => h.next hlp hs)
  have HPUT := (show Hid (¬ skipF E number frm ps[k].dat → (redoOne E ps[k].dat).1 = 0 → ∀ wx a' c', Own 0 5 .u8 wx (.slice a' 4096 c') (redoOne E ps[k].dat).2 → (∀ b, (Value.slice a' 4096 c').ownBlock = some b → w.heap.size < b) → Same w wx → Blk wx w.heap.size 27 [.int .i64 0, .slice none 0 0] → RdI w wx number frm ps raw (k + 1) a' c' (redoOne E ps[k].dat).2) from fun hs h0 wx a' c' ho hn hw hr => HI.out.put hlp hs HPB.out h0 rfl ho hn hw hr)
  have HBAD := (show Hid (¬ skipF E number frm ps[k].dat → ¬ (redoOne E ps[k].dat).1 = 0 → redoD raw number (datFr ps) frm = (2, [])) from fun hs h0 => by rw [HD.out, HI.out.eq, redoL_step hlp, if_neg hs, if_neg h0])
  have HLEN := (show Hid ((redoOne E ps[k].dat).1 = 0 → (redoOne E ps[k].dat).2.length = 4096) from fun h0 => ownOK_len (redoOne_ok HI.out.isB HI.out.ok (d := ps[k].dat) HPB.out.2.1 h0).1)
  obtain ⟨cs, hcs⟩ : ∃ cs, recCells ps[k] = cs := ⟨_, rfl⟩
  have hcl : cs.length = 14 := by rw [← hcs]; rfl
  have HRG : Hid (wr.rangeAt b (off + k * 16 + 2) cs) := fun j v hv => by
   have hj : j < 14 := by have := (List.getElem?_eq_some_iff.1 hv).1; omega
   have h := HFC.out k (2 + j) hlp (by omega)
   rw [← hcs] at hv
   have h2 : (kFr.cells ps[k])[2 + j]? = some v := by rw [← hv]; exact (List.getElem?_drop ..).symm
   rw [h2, show off + (k * 16 + (2 + j)) = off + k * 16 + 2 + j from by omega] at h
   exact HI.out.same.cellOf h id
  have hq0 : wr.cell? ⟨b, off + k * 16, none⟩ = some (.int .i64 ps[k].lsn) := HI.out.same.cellOf (HFC.out k 0 hlp (by decide)) id
  have HIS : Hid ((Try.prog.info? 48).map (·.size) = some cs.length) := by unfold Hid; rw [hcl]; kernel_rfl
  have hone : cs.toArray.all (·.oneCell') = true := all_oneCell_toArray (fun v hv => by
   rw [← hcs] at hv
   simp only [recCells, StLogFrame.cells, List.drop_succ_cons, List.drop_zero, List.mem_cons, List.not_mem_nil, or_false] at hv
   rcases hv with rfl | rfl | rfl | rfl | rfl | rfl | rfl | rfl | rfl | rfl | rfl | rfl | rfl | rfl <;> rfl)
  have hst := run_storeCells_new (P := Try.prog) wr 48 #[.int .i64 0, .int .i64 0, .int .i64 0, .int .i64 0, .int .i64 0, .bool false, .slice none 0 0, .bool false, .slice none 0 0, .int .i64 0, .int .i64 0, .slice none 0 0, .slice none 0 0, .slice none 0 0] cs.toArray (by rw [List.size_toArray]; exact HIS.out) (by simp [hcl]) hone
  rw [List.toList_toArray] at hst
  have HBR := (show Hid (Blk (wr.alloc (.cells cs.toArray 48)) wr.heap.size 48 [.int .i64 ps[k].record.kind, .int .i64 ps[k].record.txn, .int .i64 ps[k].record.prev, .int .i64 ps[k].record.page, .int .i64 ps[k].record.slot, .bool ps[k].record.before.used, ps[k].record.before.data.v, .bool ps[k].record.after.used, ps[k].record.after.data.v, .int .i64 ps[k].record.uN, .int .i64 ps[k].record.nT, ps[k].record.txns.v, ps[k].record.dirty.v, ps[k].record.image.v]) from by
   have h := Blk.newL wr cs 48
   rw [← hcs] at h
   rw [← hcs]
   exact h)
  have HW2 := (show Hid (Same wr (wr.alloc (.cells cs.toArray 48))) from (Kept.refl _ _).alloc _)
  have HWR := hid HI.out.res.lt
  have HSP := (show Hid (skipF E number frm ps[k].dat ↔ ((¬ ps[k].record.kind = 1 ∧ ¬ ps[k].record.kind = 2) ∨ ¬ ps[k].record.page = number ∨ ps[k].lsn < frm ∨ ps[k].lsn ≤ pageLSN E)) from Iff.rfl)
  have HRO := (show Hid (redoOne E ps[k].dat = pageSet E ps[k].record.slot ps[k].record.after.used ps[k].record.after.data.bs ps[k].lsn) from rfl)
  have HRDA := (show Hid (Rd .u8 wr ps[k].record.after.data.v ps[k].record.after.data.bs) from HPD.out.2.1)
  have HDN := (show Hid (ps[k].record.after.data.bs.length ≤ 1099511627776) from by
   have h := HPZ.out
   have h1 := HPD.out.2.2.1.2.1
   have h2 := HPD.out.2.2.2.1.2.1
   simp only [StLogFrame.szs, StLogRecord.szs, StPageRecord.szs] at h
   unfold Hid
   omega)
  obtain ⟨ta, tc, hta⟩ : ∃ ta tc, ps[k].record.after.data.v = .slice ta ps[k].record.after.data.bs.length tc := ⟨_, _, rfl⟩
  rw [hta] at HBR HRDA
  generalize skipF E number frm ps[k].dat = SK at HNX HPUT HBAD HSP
  generalize redoOne E ps[k].dat = RO at HPUT HBAD HLEN HRO
  generalize ps[k].record.kind = kd at HBR HSP
  generalize ps[k].record.page = pg at HBR HSP
  generalize ps[k].lsn = ls at hq0 HSP HRO
  generalize ps[k].record.slot = sn at HBR HRO
  generalize ps[k].record.after.used = us at HBR HRO
  generalize ps[k].record.after.data.bs = ad at HBR HRO HRDA HDN hta
  generalize ps[k].record.after.data.v = av at hta
  clear hta
  clear hcs hone HPB HPD HPZ HFC
  go_upto_region 8 with (first | (refine wpList_load_mid rfl 48 _ rfl b (off + k * 16 + 2) rfl cs _ HRG.out Try.underlying48 rfl HIS.out ?_))
  clear hst HRG HIS hcl
  generalize wr.alloc (.cells cs.toArray 48) = w3 at HBR HW2 ⊢
  have HI3 := hid (HI.out.on HW2.out)
  have HRD3 := hid (HRDA.out.same HW2.out)
  have hq3 := HW2.out.cellOf hq0 id
  have hz3 := HW2.out.size
  have hlsn := fun wx (h : RdI w wx number frm ps raw k a c E) => specLSN_any (.slice a 4096 c) E wx h.isB (by rw [ownOK_len h.ok]; omega) h.own.rd
  have HBg : Hid (w.heap.size < wr.heap.size) := HWR.out
  clear hq0 HW2 HRDA HI HWR
  obtain ⟨L, hL⟩ : ∃ L, pageLSN E = L := ⟨_, rfl⟩
  rw [hL] at HSP hlsn
  clear hL
  obtain ⟨q, hq⟩ : ∃ q : Bool, (q = true ↔ SK) := by
   by_cases h : SK
   ·exact ⟨true, by simp [h]⟩
   ·exact ⟨false, by simp [h]⟩
  have HQ := hid hq
  clear hq
  go_cut [63] (fun v wx => v = .bool q ∧ Hid (Same w3 wx))
  case first =>
   by_cases k1 : kd = 1
   ·subst k1
    by_cases hp : pg = number
    case neg =>
     have hqq : q = true := HQ.out.2 (HSP.out.2 (.inr (.inl hp)))
     let Y3 : World → Prop := fun wx : World => wx.cell? ⟨wr.heap.size, 0, none⟩ = some (.int .i64 1) ∧ wx.cell? ⟨wr.heap.size, 3, none⟩ = some (.int .i64 pg) ∧ wx.cell? ⟨b, off + k * 16, none⟩ = some (.int .i64 ls)
     have hS : Y3 w3.drew := ⟨HBR.out.cell 0, HBR.out.cell 3, hq3⟩
     refine wp_region_V Y3 99 33 rfl (by kernel_rfl) ?_
     refine tk 0 31 hS ?_
     refine tk 1 32 hS ?_
     refine tkV 2 33 (.bool false) hS ?_
     refine tk 3 34 hS ?_
     refine tkS 4 35 hS ?_
     refine tkS 5 36 hS ?_
     refine tkS 6 37 hS ?_
     refine tkV 7 38 (.bool false) hS ?_
     refine tk 8 39 hS ?_
     refine tk 9 40 hS ?_
     refine tk 10 41 hS ?_
     refine tk 11 42 hS ?_
     refine tkV 12 43 (.bool true) hS ?_
     refine tk 13 44 hS ?_
     refine tk 14 45 hS ?_
     refine tkS 15 46 hS ?_
     refine tkS 16 47 hS ?_
     refine tkS 17 48 hS ?_
     refine tkS 18 49 hS ?_
     refine tkS 19 50 hS ?_
     refine tkS 20 51 hS ?_
     refine tkS 21 52 hS ?_
     refine tk 22 53 hS ?_
     refine tk 23 54 hS ?_
     refine tkS 24 55 hS ?_
     refine tkS 25 56 hS ?_
     refine tkS 26 57 hS ?_
     refine tkS 27 58 hS ?_
     refine tkS 28 59 hS ?_
     refine tkS 29 60 hS ?_
     refine tkS 30 61 hS ?_
     refine tkS 31 62 hS ?_
     refine tk 32 63 hS ?_
     refine wpAnyV_done (by kernel_rfl) ?_
     clear hS
     go_wp2_with fail
     go_meet
     case rel => exact ⟨by rw [hqq], (Kept.refl _ _).drew⟩
    by_cases hf : ls < frm
    case pos =>
     have hqq : q = true := HQ.out.2 (HSP.out.2 (.inr (.inr (.inl hf))))
     let Y4 : World → Prop := fun wx : World => wx.cell? ⟨wr.heap.size, 0, none⟩ = some (.int .i64 1) ∧ wx.cell? ⟨wr.heap.size, 3, none⟩ = some (.int .i64 pg) ∧ wx.cell? ⟨b, off + k * 16, none⟩ = some (.int .i64 ls)
     have hS : Y4 w3.drew := ⟨HBR.out.cell 0, HBR.out.cell 3, hq3⟩
     refine wp_region_V Y4 99 33 rfl (by kernel_rfl) ?_
     refine tk 0 31 hS ?_
     refine tk 1 32 hS ?_
     refine tkV 2 33 (.bool false) hS ?_
     refine tk 3 34 hS ?_
     refine tkS 4 35 hS ?_
     refine tkS 5 36 hS ?_
     refine tkS 6 37 hS ?_
     refine tkV 7 38 (.bool false) hS ?_
     refine tk 8 39 hS ?_
     refine tk 9 40 hS ?_
     refine tk 10 41 hS ?_
     refine tk 11 42 hS ?_
     refine tkV 12 43 (.bool false) hS ?_
     refine tk 13 44 hS ?_
     refine tk 14 45 hS ?_
     refine tk 15 46 hS ?_
     refine tk 16 47 hS ?_
     refine tk 17 48 hS ?_
     refine tk 18 49 hS ?_
     refine tk 19 50 hS ?_
     refine tk 20 51 hS ?_
     refine tkV 21 52 (.bool true) hS ?_
     refine tk 22 53 hS ?_
     refine tk 23 54 hS ?_
     refine tkS 24 55 hS ?_
     refine tkS 25 56 hS ?_
     refine tkS 26 57 hS ?_
     refine tkS 27 58 hS ?_
     refine tkS 28 59 hS ?_
     refine tkS 29 60 hS ?_
     refine tkS 30 61 hS ?_
     refine tkS 31 62 hS ?_
     refine tk 32 63 hS ?_
     refine wpAnyV_done (by kernel_rfl) ?_
     clear hS
     go_wp2_with fail
     go_meet
     case rel => exact ⟨by rw [hqq], (Kept.refl _ _).drew⟩
    by_cases hg : ls ≤ L
    case pos =>
     have hqq : q = true := HQ.out.2 (HSP.out.2 (.inr (.inr (.inr hg))))
     let Y5 : World → Prop := fun wx : World => wx.cell? ⟨wr.heap.size, 0, none⟩ = some (.int .i64 1) ∧ wx.cell? ⟨wr.heap.size, 3, none⟩ = some (.int .i64 pg) ∧ wx.cell? ⟨b, off + k * 16, none⟩ = some (.int .i64 ls)
     have hS : Y5 w3.drew := ⟨HBR.out.cell 0, HBR.out.cell 3, hq3⟩
     refine wp_region_V Y5 99 33 rfl (by kernel_rfl) ?_
     refine tk 0 31 hS ?_
     refine tk 1 32 hS ?_
     refine tkV 2 33 (.bool false) hS ?_
     refine tk 3 34 hS ?_
     refine tkS 4 35 hS ?_
     refine tkS 5 36 hS ?_
     refine tkS 6 37 hS ?_
     refine tkV 7 38 (.bool false) hS ?_
     refine tk 8 39 hS ?_
     refine tk 9 40 hS ?_
     refine tk 10 41 hS ?_
     refine tk 11 42 hS ?_
     refine tkV 12 43 (.bool false) hS ?_
     refine tk 13 44 hS ?_
     refine tk 14 45 hS ?_
     refine tk 15 46 hS ?_
     refine tk 16 47 hS ?_
     refine tk 17 48 hS ?_
     refine tk 18 49 hS ?_
     refine tk 19 50 hS ?_
     refine tk 20 51 hS ?_
     refine tkV 21 52 (.bool false) hS ?_
     refine tk 22 53 hS ?_
     refine tk 23 54 hS ?_
     refine tk 24 55 hS ?_
     refine tk 25 56 hS ?_
     refine tk 26 57 hS ?_
     refine tk 27 58 hS ?_
     refine tk 28 59 hS ?_
     refine tk 29 60 hS ?_
     refine wpAnyV_one (i := 30) (by kernel_rfl) rfl (fun K hK => ?_)
     go_simp
     refine (hlsn _ (HI3.out.on (Kept.refl _ _).drew)).mono ?_
     rintro e w4 ⟨rfl, hk4⟩
     have hS : Y5 w4 := ⟨hk4.cellOf hS.1 id, hk4.cellOf hS.2.1 id, hk4.cellOf hS.2.2 id⟩
     have HK4 : Hid (Same w3 w4) := (Kept.refl _ _).drew.trans hk4
     go_wp2_with fail
     refine hK.out _ _ (fun _ => hS) ?_
     clear hK K hk4
     try simp only [Act.put, sA, s0, sS]
     refine tkV 31 62 (.bool true) hS ?_
     refine tk 32 63 hS ?_
     refine wpAnyV_done (by kernel_rfl) ?_
     clear hS
     go_wp2_with fail
     go_meet
     case rel => exact ⟨by rw [hqq], HK4⟩
    have hqq : q = false := by
     cases hq : q with
     | false => rfl
     | true => have := HSP.out.1 (HQ.out.1 hq); omega
    let Y6 : World → Prop := fun wx : World => wx.cell? ⟨wr.heap.size, 0, none⟩ = some (.int .i64 1) ∧ wx.cell? ⟨wr.heap.size, 3, none⟩ = some (.int .i64 pg) ∧ wx.cell? ⟨b, off + k * 16, none⟩ = some (.int .i64 ls)
    have hS : Y6 w3.drew := ⟨HBR.out.cell 0, HBR.out.cell 3, hq3⟩
    refine wp_region_V Y6 99 33 rfl (by kernel_rfl) ?_
    refine tk 0 31 hS ?_
    refine tk 1 32 hS ?_
    refine tkV 2 33 (.bool false) hS ?_
    refine tk 3 34 hS ?_
    refine tkS 4 35 hS ?_
    refine tkS 5 36 hS ?_
    refine tkS 6 37 hS ?_
    refine tkV 7 38 (.bool false) hS ?_
    refine tk 8 39 hS ?_
    refine tk 9 40 hS ?_
    refine tk 10 41 hS ?_
    refine tk 11 42 hS ?_
    refine tkV 12 43 (.bool false) hS ?_
    refine tk 13 44 hS ?_
    refine tk 14 45 hS ?_
    refine tk 15 46 hS ?_
    refine tk 16 47 hS ?_
    refine tk 17 48 hS ?_
    refine tk 18 49 hS ?_
    refine tk 19 50 hS ?_
    refine tk 20 51 hS ?_
    refine tkV 21 52 (.bool false) hS ?_
    refine tk 22 53 hS ?_
    refine tk 23 54 hS ?_
    refine tk 24 55 hS ?_
    refine tk 25 56 hS ?_
    refine tk 26 57 hS ?_
    refine tk 27 58 hS ?_
    refine tk 28 59 hS ?_
    refine tk 29 60 hS ?_
    refine wpAnyV_one (i := 30) (by kernel_rfl) rfl (fun K hK => ?_)
    go_simp
    refine (hlsn _ (HI3.out.on (Kept.refl _ _).drew)).mono ?_
    rintro e w4 ⟨rfl, hk4⟩
    have hS : Y6 w4 := ⟨hk4.cellOf hS.1 id, hk4.cellOf hS.2.1 id, hk4.cellOf hS.2.2 id⟩
    have HK4 : Hid (Same w3 w4) := (Kept.refl _ _).drew.trans hk4
    go_wp2_with fail
    refine hK.out _ _ (fun _ => hS) ?_
    clear hK K hk4
    try simp only [Act.put, sA, s0, sS]
    refine tkV 31 62 (.bool false) hS ?_
    refine tk 32 63 hS ?_
    refine wpAnyV_done (by kernel_rfl) ?_
    clear hS
    go_wp2_with fail
    go_meet
    case rel => exact ⟨by rw [hqq], HK4⟩
   by_cases k2 : kd = 2
   ·subst k2
    by_cases hp : pg = number
    case neg =>
     have hqq : q = true := HQ.out.2 (HSP.out.2 (.inr (.inl hp)))
     let Y7 : World → Prop := fun wx : World => wx.cell? ⟨wr.heap.size, 0, none⟩ = some (.int .i64 2) ∧ wx.cell? ⟨wr.heap.size, 3, none⟩ = some (.int .i64 pg) ∧ wx.cell? ⟨b, off + k * 16, none⟩ = some (.int .i64 ls)
     have hS : Y7 w3.drew := ⟨HBR.out.cell 0, HBR.out.cell 3, hq3⟩
     refine wp_region_V Y7 99 33 rfl (by kernel_rfl) ?_
     refine tk 0 31 hS ?_
     refine tk 1 32 hS ?_
     refine tkV 2 33 (.bool true) hS ?_
     refine tk 3 34 hS ?_
     refine tk 4 35 hS ?_
     refine tk 5 36 hS ?_
     refine tkV 6 37 (.bool false) hS ?_
     refine tkV 7 38 (.bool false) hS ?_
     refine tk 8 39 hS ?_
     refine tk 9 40 hS ?_
     refine tk 10 41 hS ?_
     refine tk 11 42 hS ?_
     refine tkV 12 43 (.bool true) hS ?_
     refine tk 13 44 hS ?_
     refine tk 14 45 hS ?_
     refine tkS 15 46 hS ?_
     refine tkS 16 47 hS ?_
     refine tkS 17 48 hS ?_
     refine tkS 18 49 hS ?_
     refine tkS 19 50 hS ?_
     refine tkS 20 51 hS ?_
     refine tkS 21 52 hS ?_
     refine tk 22 53 hS ?_
     refine tk 23 54 hS ?_
     refine tkS 24 55 hS ?_
     refine tkS 25 56 hS ?_
     refine tkS 26 57 hS ?_
     refine tkS 27 58 hS ?_
     refine tkS 28 59 hS ?_
     refine tkS 29 60 hS ?_
     refine tkS 30 61 hS ?_
     refine tkS 31 62 hS ?_
     refine tk 32 63 hS ?_
     refine wpAnyV_done (by kernel_rfl) ?_
     clear hS
     go_wp2_with fail
     go_meet
     case rel => exact ⟨by rw [hqq], (Kept.refl _ _).drew⟩
    by_cases hf : ls < frm
    case pos =>
     have hqq : q = true := HQ.out.2 (HSP.out.2 (.inr (.inr (.inl hf))))
     let Y8 : World → Prop := fun wx : World => wx.cell? ⟨wr.heap.size, 0, none⟩ = some (.int .i64 2) ∧ wx.cell? ⟨wr.heap.size, 3, none⟩ = some (.int .i64 pg) ∧ wx.cell? ⟨b, off + k * 16, none⟩ = some (.int .i64 ls)
     have hS : Y8 w3.drew := ⟨HBR.out.cell 0, HBR.out.cell 3, hq3⟩
     refine wp_region_V Y8 99 33 rfl (by kernel_rfl) ?_
     refine tk 0 31 hS ?_
     refine tk 1 32 hS ?_
     refine tkV 2 33 (.bool true) hS ?_
     refine tk 3 34 hS ?_
     refine tk 4 35 hS ?_
     refine tk 5 36 hS ?_
     refine tkV 6 37 (.bool false) hS ?_
     refine tkV 7 38 (.bool false) hS ?_
     refine tk 8 39 hS ?_
     refine tk 9 40 hS ?_
     refine tk 10 41 hS ?_
     refine tk 11 42 hS ?_
     refine tkV 12 43 (.bool false) hS ?_
     refine tk 13 44 hS ?_
     refine tk 14 45 hS ?_
     refine tk 15 46 hS ?_
     refine tk 16 47 hS ?_
     refine tk 17 48 hS ?_
     refine tk 18 49 hS ?_
     refine tk 19 50 hS ?_
     refine tk 20 51 hS ?_
     refine tkV 21 52 (.bool true) hS ?_
     refine tk 22 53 hS ?_
     refine tk 23 54 hS ?_
     refine tkS 24 55 hS ?_
     refine tkS 25 56 hS ?_
     refine tkS 26 57 hS ?_
     refine tkS 27 58 hS ?_
     refine tkS 28 59 hS ?_
     refine tkS 29 60 hS ?_
     refine tkS 30 61 hS ?_
     refine tkS 31 62 hS ?_
     refine tk 32 63 hS ?_
     refine wpAnyV_done (by kernel_rfl) ?_
     clear hS
     go_wp2_with fail
     go_meet
     case rel => exact ⟨by rw [hqq], (Kept.refl _ _).drew⟩
    by_cases hg : ls ≤ L
    case pos =>
     have hqq : q = true := HQ.out.2 (HSP.out.2 (.inr (.inr (.inr hg))))
     let Y9 : World → Prop := fun wx : World => wx.cell? ⟨wr.heap.size, 0, none⟩ = some (.int .i64 2) ∧ wx.cell? ⟨wr.heap.size, 3, none⟩ = some (.int .i64 pg) ∧ wx.cell? ⟨b, off + k * 16, none⟩ = some (.int .i64 ls)
     have hS : Y9 w3.drew := ⟨HBR.out.cell 0, HBR.out.cell 3, hq3⟩
     refine wp_region_V Y9 99 33 rfl (by kernel_rfl) ?_
     refine tk 0 31 hS ?_
     refine tk 1 32 hS ?_
     refine tkV 2 33 (.bool true) hS ?_
     refine tk 3 34 hS ?_
     refine tk 4 35 hS ?_
     refine tk 5 36 hS ?_
     refine tkV 6 37 (.bool false) hS ?_
     refine tkV 7 38 (.bool false) hS ?_
     refine tk 8 39 hS ?_
     refine tk 9 40 hS ?_
     refine tk 10 41 hS ?_
     refine tk 11 42 hS ?_
     refine tkV 12 43 (.bool false) hS ?_
     refine tk 13 44 hS ?_
     refine tk 14 45 hS ?_
     refine tk 15 46 hS ?_
     refine tk 16 47 hS ?_
     refine tk 17 48 hS ?_
     refine tk 18 49 hS ?_
     refine tk 19 50 hS ?_
     refine tk 20 51 hS ?_
     refine tkV 21 52 (.bool false) hS ?_
     refine tk 22 53 hS ?_
     refine tk 23 54 hS ?_
     refine tk 24 55 hS ?_
     refine tk 25 56 hS ?_
     refine tk 26 57 hS ?_
     refine tk 27 58 hS ?_
     refine tk 28 59 hS ?_
     refine tk 29 60 hS ?_
     refine wpAnyV_one (i := 30) (by kernel_rfl) rfl (fun K hK => ?_)
     go_simp
     refine (hlsn _ (HI3.out.on (Kept.refl _ _).drew)).mono ?_
     rintro e w4 ⟨rfl, hk4⟩
     have hS : Y9 w4 := ⟨hk4.cellOf hS.1 id, hk4.cellOf hS.2.1 id, hk4.cellOf hS.2.2 id⟩
     have HK4 : Hid (Same w3 w4) := (Kept.refl _ _).drew.trans hk4
     go_wp2_with fail
     refine hK.out _ _ (fun _ => hS) ?_
     clear hK K hk4
     try simp only [Act.put, sA, s0, sS]
     refine tkV 31 62 (.bool true) hS ?_
     refine tk 32 63 hS ?_
     refine wpAnyV_done (by kernel_rfl) ?_
     clear hS
     go_wp2_with fail
     go_meet
     case rel => exact ⟨by rw [hqq], HK4⟩
    have hqq : q = false := by
     cases hq : q with
     | false => rfl
     | true => have := HSP.out.1 (HQ.out.1 hq); omega
    let Y10 : World → Prop := fun wx : World => wx.cell? ⟨wr.heap.size, 0, none⟩ = some (.int .i64 2) ∧ wx.cell? ⟨wr.heap.size, 3, none⟩ = some (.int .i64 pg) ∧ wx.cell? ⟨b, off + k * 16, none⟩ = some (.int .i64 ls)
    have hS : Y10 w3.drew := ⟨HBR.out.cell 0, HBR.out.cell 3, hq3⟩
    refine wp_region_V Y10 99 33 rfl (by kernel_rfl) ?_
    refine tk 0 31 hS ?_
    refine tk 1 32 hS ?_
    refine tkV 2 33 (.bool true) hS ?_
    refine tk 3 34 hS ?_
    refine tk 4 35 hS ?_
    refine tk 5 36 hS ?_
    refine tkV 6 37 (.bool false) hS ?_
    refine tkV 7 38 (.bool false) hS ?_
    refine tk 8 39 hS ?_
    refine tk 9 40 hS ?_
    refine tk 10 41 hS ?_
    refine tk 11 42 hS ?_
    refine tkV 12 43 (.bool false) hS ?_
    refine tk 13 44 hS ?_
    refine tk 14 45 hS ?_
    refine tk 15 46 hS ?_
    refine tk 16 47 hS ?_
    refine tk 17 48 hS ?_
    refine tk 18 49 hS ?_
    refine tk 19 50 hS ?_
    refine tk 20 51 hS ?_
    refine tkV 21 52 (.bool false) hS ?_
    refine tk 22 53 hS ?_
    refine tk 23 54 hS ?_
    refine tk 24 55 hS ?_
    refine tk 25 56 hS ?_
    refine tk 26 57 hS ?_
    refine tk 27 58 hS ?_
    refine tk 28 59 hS ?_
    refine tk 29 60 hS ?_
    refine wpAnyV_one (i := 30) (by kernel_rfl) rfl (fun K hK => ?_)
    go_simp
    refine (hlsn _ (HI3.out.on (Kept.refl _ _).drew)).mono ?_
    rintro e w4 ⟨rfl, hk4⟩
    have hS : Y10 w4 := ⟨hk4.cellOf hS.1 id, hk4.cellOf hS.2.1 id, hk4.cellOf hS.2.2 id⟩
    have HK4 : Hid (Same w3 w4) := (Kept.refl _ _).drew.trans hk4
    go_wp2_with fail
    refine hK.out _ _ (fun _ => hS) ?_
    clear hK K hk4
    try simp only [Act.put, sA, s0, sS]
    refine tkV 31 62 (.bool false) hS ?_
    refine tk 32 63 hS ?_
    refine wpAnyV_done (by kernel_rfl) ?_
    clear hS
    go_wp2_with fail
    go_meet
    case rel => exact ⟨by rw [hqq], HK4⟩
   have hqq : q = true := HQ.out.2 (HSP.out.2 (.inl ⟨k1, k2⟩))
   let Y2 : World → Prop := fun wx : World => wx.cell? ⟨wr.heap.size, 0, none⟩ = some (.int .i64 kd) ∧ wx.cell? ⟨wr.heap.size, 3, none⟩ = some (.int .i64 pg) ∧ wx.cell? ⟨b, off + k * 16, none⟩ = some (.int .i64 ls)
   have hS : Y2 w3.drew := ⟨HBR.out.cell 0, HBR.out.cell 3, hq3⟩
   refine wp_region_V Y2 99 33 rfl (by kernel_rfl) ?_
   refine tk 0 31 hS ?_
   refine tk 1 32 hS ?_
   refine tkV 2 33 (.bool true) hS ?_
   refine tk 3 34 hS ?_
   refine tk 4 35 hS ?_
   refine tk 5 36 hS ?_
   refine tkV 6 37 (.bool true) hS ?_
   refine tkV 7 38 (.bool true) hS ?_
   refine tk 8 39 hS ?_
   refine tkS 9 40 hS ?_
   refine tkS 10 41 hS ?_
   refine tkS 11 42 hS ?_
   refine tkS 12 43 hS ?_
   refine tk 13 44 hS ?_
   refine tk 14 45 hS ?_
   refine tkS 15 46 hS ?_
   refine tkS 16 47 hS ?_
   refine tkS 17 48 hS ?_
   refine tkS 18 49 hS ?_
   refine tkS 19 50 hS ?_
   refine tkS 20 51 hS ?_
   refine tkS 21 52 hS ?_
   refine tk 22 53 hS ?_
   refine tk 23 54 hS ?_
   refine tkS 24 55 hS ?_
   refine tkS 25 56 hS ?_
   refine tkS 26 57 hS ?_
   refine tkS 27 58 hS ?_
   refine tkS 28 59 hS ?_
   refine tkS 29 60 hS ?_
   refine tkS 30 61 hS ?_
   refine tkS 31 62 hS ?_
   refine tk 32 63 hS ?_
   refine wpAnyV_done (by kernel_rfl) ?_
   clear hS
   go_wp2_with fail
   go_meet
   case rel => exact ⟨by rw [hqq], (Kept.refl _ _).drew⟩
  case rest =>
  obtain ⟨rfl, HS3⟩ := hcut
  have HI4 := hid (HI3.out.on HS3.out)
  have HB4 := hid (HBR.out.same HS3.out)
  have HRD4 := hid (HRD3.out.same HS3.out)
  have hq4 := HS3.out.cellOf hq3 id
  have hz4 := HS3.out.size
  clear HBR hq3 HRD3 HI3 HS3 HSP hlsn
  cases q with
  | true =>
   have hs := HQ.out.1 rfl
   go_wp2_with fail
   go_roundw
   case rel => exact ⟨k + 1, a, c, E, by omega, by go_num, rfl, HNX.out _ HI4.out hs⟩
   case measure => simp [intOf]; omega
  | false =>
   have HNS : Hid (¬ SK) := fun h => by have := HQ.out.2 h; cases this
   have HKS := (show Hid (∀ wx, RdI w wx number frm ps raw k a c E → Rd .u8 wx (.slice ta ad.length tc) ad → Calls Try.prog 27 #[.slice a 4096 c, .int .i64 sn, .agg #[.bool us, .slice ta ad.length tc], .int .i64 ls] wx fun e w' => SetAns 5 wx w' e RO.1 RO.2) from fun wx h hd => by rw [HRO.out]; exact specSet_any (.slice a 4096 c) E sn us ta tc ad ls wx h.isB (by rw [ownOK_len h.ok]; omega) h.own.rd HDN.out hd)
   generalize ad.length = an at HB4 HRD4 HKS
   clear HNX HQ HRO HDN
   go_wp2_with fail
   go_cut [12] (fun v wx => Hid (PRs wc wx RO v))
   case first =>
    let Y1 : World → Prop := fun wx : World => wx.cell? ⟨wr.heap.size, 4, none⟩ = some (.int .i64 sn) ∧ wx.cell? ⟨wr.heap.size, 7, none⟩ = some (.bool us) ∧ wx.cell? ⟨wr.heap.size, 8, none⟩ = some (.slice ta an tc) ∧ wx.cell? ⟨b, off + k * 16, none⟩ = some (.int .i64 ls)
    refine wp_region_V Y1 12 13 rfl (by kernel_rfl) ?_
    generalize hwd : World.drew wc = w5
    have hk5 : Same wc w5 := by rw [← hwd]; exact (Kept.refl _ _).drew
    clear hwd
    have HI5 := hid (HI4.out.on hk5)
    have HB5 := hid (HB4.out.same hk5)
    have HRD5 := hid (HRD4.out.same hk5)
    have hq5 := hk5.cellOf hq4 id
    have HK5 := hid hk5
    clear hk5
    have hS : Y1 w5 := ⟨HB5.out.cell 4, HB5.out.cell 7, HB5.out.cell 8, hq5⟩
    refine tk 0 64 hS ?_
    refine tk 1 65 hS ?_
    refine tk 2 66 hS ?_
    refine tk 3 67 hS ?_
    refine tk 4 68 hS ?_
    refine tk 5 69 hS ?_
    refine tk 6 70 hS ?_
    refine tk 7 71 hS ?_
    refine tk 8 72 hS ?_
    refine tk 9 73 hS ?_
    refine wpAnyV_two (i := 10) (j := 11) (by kernel_rfl) rfl rfl (fun K hK => ?_) (fun K hK => ?_)
    ·go_simp
     refine (HKS.out _ HI5.out HRD5.out).mono ?_
     rintro e w6 ⟨a6, c6, rfl, hf6, ho6, hk6⟩
     have hS : Y1 w6 := ⟨hk6.cellOf hS.1 id, hk6.cellOf hS.2.1 id, hk6.cellOf hS.2.2.1 id, hk6.cellOf hS.2.2.2 id⟩
     go_wp2_with fail
     refine hK.out _ _ (fun _ => hS) ?_
     clear hK K
     try simp only [Act.put, sA, s0, sS]
     refine wpAnyV_one (i := 11) (by kernel_rfl) rfl (fun K hK => ?_)
     go_simp
     have HB7 := hid (Blk.new w6 #[.int .i64 0, .slice none 0 0] 27)
     have hk7 : Same w6 (w6.alloc (.cells #[.int .i64 0, .slice none 0 0] 27)) := (Kept.refl _ _).alloc _
     generalize w6.alloc (.cells #[.int .i64 0, .slice none 0 0] 27) = w7 at HB7 hk7 ⊢
     have hS : Y1 w7 := ⟨hk7.cellOf hS.1 id, hk7.cellOf hS.2.1 id, hk7.cellOf hS.2.2.1 id, hk7.cellOf hS.2.2.2 id⟩
     refine hK.out _ _ (fun _ => hS) ?_
     clear hK K
     try simp only [Act.put, sA, s0, sS]
     have HO7 := hid (ho6.same hk7)
     have HK7 := hid ((HK5.out.trans hk6).trans hk7)
     have HF7 := (show Hid (∀ b, (Value.slice a6 RO.2.length c6).ownBlock = some b → wc.heap.size ≤ b ∧ ¬ b = w6.heap.size) from fun b hb => by have h1 := hf6 b hb; have h2 := (ho6.lt b hb).2; have h3 := HK5.out.size; omega)
     have hz6 : wc.heap.size ≤ w6.heap.size := by have h1 := hk6.size; have h2 := HK5.out.size; omega
     clear ho6 hk6 hk7 hf6
     obtain ⟨z0, z1⟩ := HB7.out.all2
     have fz := HB7.out.frozen
     refine wpAnyV_one (i := 12) (by kernel_rfl) rfl (fun K hK => ?_)
     go_simp
     refine hK.out _ _ (fun h => absurd rfl h) ?_
     clear hK K
     refine wpAnyV_done (by kernel_rfl) ?_
     try simp only [Act.put, sA, s0, sS]
     have hk9 : Kept (fun b => b = w6.heap.size) w7 ((w7.setCell ⟨w6.heap.size, 0, none⟩ (.int .i64 RO.1)).setCell ⟨w6.heap.size, 1, none⟩ (.slice a6 RO.2.length c6)) := ((Kept.refl (fun b => b = w6.heap.size) w7).setCell (p := ⟨w6.heap.size, 0, none⟩) (.inr rfl) _).setCell (p := ⟨w6.heap.size, 1, none⟩) (.inr rfl) _
     have HZ := (show Hid (PRs wc ((w7.setCell ⟨w6.heap.size, 0, none⟩ (.int .i64 RO.1)).setCell ⟨w6.heap.size, 1, none⟩ (.slice a6 RO.2.length c6)) RO (.pointer (some ⟨w6.heap.size, 0, none⟩))) from ⟨w6.heap.size, a6, c6, rfl, hz6, (HB7.out.stored 0 (.int .i64 RO.1)).stored 1 (.slice a6 RO.2.length c6), HO7.out.kept hk9 (fun b hb e => (HF7.out b hb).2 e), HF7.out, HK7.out.next hk9 (fun i hi e => by omega)⟩)
     clear hk9 hS z0 z1 fz
     go_wp2_with fail
     go_meet
     case rel => exact HZ
    ·go_simp
     have HB7 := hid (Blk.new w5 #[.int .i64 0, .slice none 0 0] 27)
     have hk7 : Same w5 (w5.alloc (.cells #[.int .i64 0, .slice none 0 0] 27)) := (Kept.refl _ _).alloc _
     have hz7 : (w5.alloc (.cells #[.int .i64 0, .slice none 0 0] 27)).heap.size = w5.heap.size + 1 := by simp
     generalize w5.alloc (.cells #[.int .i64 0, .slice none 0 0] 27) = w6 at HB7 hk7 hz7 ⊢
     have hS : Y1 w6 := ⟨hk7.cellOf hS.1 id, hk7.cellOf hS.2.1 id, hk7.cellOf hS.2.2.1 id, hk7.cellOf hS.2.2.2 id⟩
     refine hK.out _ _ (fun _ => hS) ?_
     clear hK K
     try simp only [Act.put, sA, s0, sS]
     refine wpAnyV_one (i := 10) (by kernel_rfl) rfl (fun K hK => ?_)
     go_simp
     refine (HKS.out _ (HI5.out.on hk7) (HRD5.out.same hk7)).mono ?_
     rintro e w7 ⟨a6, c6, rfl, hf6, ho6, hk6⟩
     have hS : Y1 w7 := ⟨hk6.cellOf hS.1 id, hk6.cellOf hS.2.1 id, hk6.cellOf hS.2.2.1 id, hk6.cellOf hS.2.2.2 id⟩
     go_wp2_with fail
     refine hK.out _ _ (fun _ => hS) ?_
     clear hK K
     try simp only [Act.put, sA, s0, sS]
     have HB7 := hid (HB7.out.same hk6)
     have HO7 := hid ho6
     have HK7 := hid ((HK5.out.trans hk7).trans hk6)
     have HF7 := (show Hid (∀ b, (Value.slice a6 RO.2.length c6).ownBlock = some b → wc.heap.size ≤ b ∧ ¬ b = w5.heap.size) from fun b hb => by have h1 := hf6 b hb; have h3 := HK5.out.size; omega)
     have hz6 : wc.heap.size ≤ w5.heap.size := HK5.out.size
     clear ho6 hk6 hk7 hf6 hz7
     obtain ⟨z0, z1⟩ := HB7.out.all2
     have fz := HB7.out.frozen
     refine wpAnyV_one (i := 12) (by kernel_rfl) rfl (fun K hK => ?_)
     go_simp
     refine hK.out _ _ (fun h => absurd rfl h) ?_
     clear hK K
     refine wpAnyV_done (by kernel_rfl) ?_
     try simp only [Act.put, sA, s0, sS]
     have hk9 : Kept (fun b => b = w5.heap.size) w7 ((w7.setCell ⟨w5.heap.size, 0, none⟩ (.int .i64 RO.1)).setCell ⟨w5.heap.size, 1, none⟩ (.slice a6 RO.2.length c6)) := ((Kept.refl (fun b => b = w5.heap.size) w7).setCell (p := ⟨w5.heap.size, 0, none⟩) (.inr rfl) _).setCell (p := ⟨w5.heap.size, 1, none⟩) (.inr rfl) _
     have HZ := (show Hid (PRs wc ((w7.setCell ⟨w5.heap.size, 0, none⟩ (.int .i64 RO.1)).setCell ⟨w5.heap.size, 1, none⟩ (.slice a6 RO.2.length c6)) RO (.pointer (some ⟨w5.heap.size, 0, none⟩))) from ⟨w5.heap.size, a6, c6, rfl, hz6, (HB7.out.stored 0 (.int .i64 RO.1)).stored 1 (.slice a6 RO.2.length c6), HO7.out.kept hk9 (fun b hb e => (HF7.out b hb).2 e), HF7.out, HK7.out.next hk9 (fun i hi e => by omega)⟩)
     clear hk9 hS z0 z1 fz
     go_wp2_with fail
     go_meet
     case rel => exact HZ
   case rest =>
   obtain ⟨B, a6, c6, rfl, hB, hblk, ho, hf, hsame⟩ := hcut
   have HR6 := hid (HI4.out.res.same hsame)
   have HW6 := hid (HI4.out.same.trans hsame)
   have hz0 := HI4.out.same.size
   obtain ⟨e0, e1⟩ := hblk.all2
   have HO6 := hid ho
   have HN6 := (show Hid (∀ b, (Value.slice a6 RO.2.length c6).ownBlock = some b → w.heap.size < b) from fun b hb => by have h1 := (hf b hb).1; have h2 := HBg.out; omega)
   clear ho hf hsame hblk HI4 HB4 HRD4 hq4 HKS
   obtain ⟨x, ys⟩ := RO
   dsimp only at *
   by_cases hx : x = 0
   case neg =>
    have HBD := hid (HBAD.out HNS.out hx)
    have ex : (x == 0) = false := by simp [hx]
    obtain ⟨d0, d1⟩ := HR6.out.all2
    have ff := HR6.out.frozen
    have hlt0 := HR6.out.lt
    go_wp2
    rw [HBD.out]
    refine bodyPost_ret (v := .agg #[.int .i64 2, .slice none 0 0]) (by simp [results, Try.results6, go_sem, d0, d1]) rfl (SetAns.none 2 ?_)
    exact (HW6.out.setCell (p := ⟨w.heap.size, 0, none⟩) (.inl (Nat.le_refl _)) _).setCell (p := ⟨w.heap.size, 1, none⟩) (.inl (Nat.le_refl _)) _
   subst hx
   have hyl := HLEN.out rfl
   rw [hyl] at e1 HO6 HN6
   have HY := hid hyl
   clear hyl
   go_wp2_with fail
   go_roundw
   case rel => exact ⟨k + 1, a6, c6, ys, by omega, by go_num, rfl, HPUT.out HNS.out rfl _ _ _ HO6.out HN6.out HW6.out HR6.out⟩
   case measure => simp [intOf]; omega
end Go.Proofs.Ytcldagphkpkdpaa
