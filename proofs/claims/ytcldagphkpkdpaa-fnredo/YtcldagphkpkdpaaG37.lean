import Derived.Test.YtcldagphkpkdpaaRedoS
namespace Go.Proofs.Ytcldagphkpkdpaa
set_option maxRecDepth 100000
set_option maxHeartbeats 16000000
set_option linter.unusedVariables false
set_option linter.unusedSimpArgs false
open Go Go.RowKit
theorem changes_any (p : StLogFrame) (w : World) : Calls Try.prog 20 #[.agg (recCells p).toArray] w fun e w' => e = .returned (.bool (decide (p.record.kind = 1 ∨ p.record.kind = 2))) ∧ Same w w' := by
 have e : (recCells p).toArray = #[.int .i64 p.record.kind, .int .i64 p.record.txn, .int .i64 p.record.prev, .int .i64 p.record.page, .int .i64 p.record.slot, .bool p.record.before.used, p.record.before.data.v, .bool p.record.after.used, p.record.after.data.v, .int .i64 p.record.uN, .int .i64 p.record.nT, p.record.txns.v, p.record.dirty.v, p.record.image.v] := rfl
 rw [e]
 clear e
 generalize p.record.kind = kd
 by_cases h1 : kd = 1
 ·subst h1
  rw [decide_eq_true (.inl rfl)]
  go_enter Try.func20, Try.ntmps20
  go_wp2
  go_ret
  exact ⟨rfl, (Kept.refl _ _).alloc _⟩
 by_cases h2 : kd = 2
 ·subst h2
  rw [decide_eq_true (.inr rfl)]
  go_enter Try.func20, Try.ntmps20
  go_wp2
  go_ret
  exact ⟨rfl, (Kept.refl _ _).alloc _⟩
 ·rw [decide_eq_false (by omega)]
  have e1 : (kd == 1) = false := by simp [h1]
  have e2 : (kd == 2) = false := by simp [h2]
  go_enter Try.func20, Try.ntmps20
  go_wp2
  go_ret
  exact ⟨rfl, (Kept.refl _ _).alloc _⟩
structure RdJ (w wr : World) (number frm : Int) (ps : List StLogFrame) (raw : List Int) (k P : Nat) (E : List Int) : Prop where
 pg : PgAt wr P E
 isB : IsB E
 ok : ownOK E = true
 eq : redoL number frm raw (datFr ps) = redoL number frm E (datFr (ps.drop k))
 same : Same w wr
 res : Blk wr w.heap.size 27 [.int .i64 0, .slice none 0 0]
theorem RdJ.on {w wr wx : World} {number frm : Int} {ps : List StLogFrame} {raw : List Int} {k P : Nat} {E : List Int} (h : RdJ w wr number frm ps raw k P E) (hk : Same wr wx) : RdJ w wx number frm ps raw k P E :=
 ⟨h.pg.same hk, h.isB, h.ok, h.eq, h.same.trans hk, h.res.same hk⟩
theorem RdJ.next {w wr : World} {number frm : Int} {ps : List StLogFrame} {raw : List Int} {k P : Nat} {E : List Int} (h : RdJ w wr number frm ps raw k P E) (hk : k < ps.length) (hs : skipF E number frm ps[k].dat) : RdJ w wr number frm ps raw (k + 1) P E :=
 ⟨h.pg, h.isB, h.ok, by rw [h.eq, redoL_step hk, if_pos hs], h.same, h.res⟩
theorem RdJ.put {w wr wx : World} {number frm : Int} {ps : List StLogFrame} {raw : List Int} {k P : Nat} {E E' : List Int} (h : RdJ w wr number frm ps raw k P E) (hk : k < ps.length) (hs : ¬ skipF E number frm ps[k].dat) (h0 : (redoOne E ps[k].dat).1 = 0) (hE : (redoOne E ps[k].dat).2 = E')
  (ho : PgAt wx P E') (h1 : ownOK E' = true) (h2 : IsB E') (hw : Same w wx) (hr : Blk wx w.heap.size 27 [.int .i64 0, .slice none 0 0]) : RdJ w wx number frm ps raw (k + 1) P E' := by
 subst hE
 exact ⟨ho, h2, h1, by rw [h.eq, redoL_step hk, if_neg hs, if_pos h0], hw, hr⟩
theorem implRedo_any (v : Value) (raw : List Int) (number : Int) (fv : Value) (ps : List StLogFrame) (frm : Int) (w : World) (hB : IsB raw) (hn : raw.length ≤ 1099511627776) (hv : Rd .u8 w v raw) (hfo : FrOK ps) (hf : RdFr w fv ps) :
  Calls Try.prog 5 #[v, .int .i64 number, fv, .int .i64 frm] w fun e w' => SetAns 60 w w' e (redoD raw number (datFr ps) frm).1 (redoD raw number (datFr ps) frm).2 := by
 have HK0 := hid (sameA w [.int .i64 0, .slice none 0 0] 27)
 have HB0 := hid (Blk.newL w [.int .i64 0, .slice none 0 0] 27)
 have hz0 : (w.alloc (.cells #[.int .i64 0, .slice none 0 0] 27)).heap.size = w.heap.size + 1 := by simp
 have HZ0 := hid hz0
 have hlen := hfo.len
 have HFO := hid hfo
 have HF := hid hf
 have HV := hid (hv.same HK0.out)
 have HB := hid hB
 obtain ⟨fa, fc, rfl⟩ := hf.form
 clear hfo hf hv hB hz0
 cases hok : ownOK raw with
 | false =>
  have kW := wellFormed_no v raw _ HB.out hn HV.out hok
  rw [show redoD raw number (datFr ps) frm = (1, []) from if_neg (fun h => by rw [(fault0.1 h).1] at hok; cases hok)]
  go_enter Try.func5, Try.ntmps5
  go_wp2_with fail
  refine kW.mono ?_
  rintro e w1 ⟨rfl, hk1⟩
  have HK1 := hid (HK0.out.trans hk1)
  obtain ⟨c0, c1⟩ := (HB0.out.same hk1).all2
  have f0 := (HB0.out.same hk1).frozen
  clear hk1
  go_wp2
  refine bodyPost_ret (v := .agg #[.int .i64 1, .slice none 0 0]) (by simp [results, Try.results5, go_sem, c0, c1]) rfl (SetAns.none 1 ?_)
  exact (HK1.out.setCell (p := ⟨w.heap.size, 0, none⟩) (.inl (Nat.le_refl _)) _).setCell (p := ⟨w.heap.size, 1, none⟩) (.inl (Nat.le_refl _)) _
 | true =>
 have kW := wellFormed_yes v raw _ HB.out hn HV.out hok
 have HOK := hid hok
 clear hok
 by_cases hnum : numAt raw 12 4 = number
 case neg =>
  rw [show redoD raw number (datFr ps) frm = (1, []) from if_neg (fun h => hnum (fault0.1 h).2)]
  have e0 : (numAt raw 12 4 == number) = false := by simp [hnum]
  generalize numAt raw 12 4 = nm at kW e0 hnum
  go_enter Try.func5, Try.ntmps5
  go_wp2_with fail
  refine kW.mono ?_
  rintro e w1 ⟨P, rfl, hP, hsp, hk1⟩
  have HK1 := hid (HK0.out.trans hk1)
  obtain ⟨c0, c1⟩ := (HB0.out.same hk1).all2
  have f0 := (HB0.out.same hk1).frozen
  obtain ⟨_, p5, _⟩ := hsp.num3
  clear hk1 hsp
  go_wp2
  refine bodyPost_ret (v := .agg #[.int .i64 1, .slice none 0 0]) (by simp [results, Try.results5, go_sem, c0, c1]) rfl (SetAns.none 1 ?_)
  exact (HK1.out.setCell (p := ⟨w.heap.size, 0, none⟩) (.inl (Nat.le_refl _)) _).setCell (p := ⟨w.heap.size, 1, none⟩) (.inl (Nat.le_refl _)) _
 have HD := (show Hid (redoD raw number (datFr ps) frm = redoL number frm raw (datFr ps)) from if_pos (fault0.2 ⟨HOK.out, hnum⟩))
 have HNM := hid hnum
 clear hnum
 obtain ⟨len, hlen0⟩ : ∃ n, ps.length = n := ⟨_, rfl⟩
 have HL := hid hlen0
 rw [hlen0] at hlen ⊢
 clear hlen0
 go_enter Try.func5, Try.ntmps5
 go_wp2_with fail
 refine kW.mono ?_
 rintro e w1 ⟨P, rfl, hP, hsp, hk1⟩
 rw [HZ0.out] at hP
 have HJ0 : Hid (RdJ w w1 number frm ps raw 0 P raw) := ⟨⟨raw, rfl, hsp⟩, HB.out, HOK.out, by simp, HK0.out.trans hk1, HB0.out.same hk1⟩
 obtain ⟨_, p5, _⟩ := hsp.num3
 rw [HNM.out] at p5
 clear hk1 hsp kW HK0 HB0 HZ0
 go_wp2_with fail
 clear p5
 go_loopw [28] (fun i wr => ∃ (k : Nat) (E : List Int), k ≤ len ∧ i = .int .i64 k ∧ Hid (RdJ w wr number frm ps raw k P E)) (fun i _ => len - (intOf i).toNat)
 case atStart => exact ⟨0, raw, Nat.zero_le _, rfl, HJ0⟩
 case round =>
  obtain ⟨k, E, hk, rfl, HJ⟩ := hrel
  by_cases hlt : k < len
  case neg =>
   obtain ⟨r2, hsp2, he2⟩ := HJ.out.pg.enc HJ.out.ok
   obtain ⟨n1, n2, n3⟩ := num3_own HJ.out.isB HJ.out.ok
   have hpt := ownOK_parts HJ.out.ok
   have hl2 := ownOK_len HJ.out.ok
   have kE := encode_any P _ _ _ _ _ _ wr hsp2 ⟨n1, n2, by omega, n3⟩
   rw [he2] at kE
   have kLs := fun wx => list_any E wx hl2
   obtain ⟨cs, hcs⟩ : ∃ cs : Array Value, (vals .u8 E).toArray = cs := ⟨_, rfl⟩
   rw [hcs] at kE kLs
   have HLE := hid hl2
   clear hcs n1 n2 n3 hpt hl2 hsp2 he2
   go_wp2_with fail
   refine kE.mono ?_
   rintro e w8 ⟨rfl, hk8⟩
   have HK8 := hid (HJ.out.same.trans hk8)
   have HR8 := hid (HJ.out.res.same hk8)
   clear hk8 kE
   go_wp2_with fail
   refine (kLs _).mono ?_
   rintro e w9 ⟨rfl, hb9, hk9⟩
   have HK9 := hid (HK8.out.trans hk9)
   have HR9 := hid (HR8.out.same hk9)
   have HO9 := (show Hid (Own 0 60 .u8 w9 (.slice (some ⟨w8.heap.size, 0, none⟩) 4096 4096) E) from by have h := Blk.own hb9 (by rw [HLE.out]; unfold maxLen; omega); rw [HLE.out] at h; exact h)
   have HZ8 := hid HR8.out.lt
   clear hk9 hb9 kLs
   obtain ⟨d0, d1⟩ := HR9.out.all2
   have ff := HR9.out.frozen
   have hlt0 := HR9.out.lt
   go_wp2
   have hfin := HJ.out.eq
   obtain rfl : k = len := by omega
   rw [← HL.out, List.drop_length, show datFr [] = [] from rfl, redoL, ← HD.out] at hfin
   rw [hfin]
   have hko : Kept (fun b => b = w.heap.size) w9 ((w9.setCell ⟨w.heap.size, 0, none⟩ (.int .i64 0)).setCell ⟨w.heap.size, 1, none⟩ (.slice (some ⟨w8.heap.size, 0, none⟩) 4096 4096)) := ((Kept.refl (fun b => b = w.heap.size) w9).setCell (p := ⟨w.heap.size, 0, none⟩) (.inr rfl) _).setCell (p := ⟨w.heap.size, 1, none⟩) (.inr rfl) _
   refine bodyPost_ret (v := .agg #[.int .i64 0, .slice (some ⟨w8.heap.size, 0, none⟩) 4096 4096]) (by simp [results, Try.results5, go_sem, d0, d1]) rfl ⟨some ⟨w8.heap.size, 0, none⟩, 4096, by simp only [HLE.out], fun b hb => ?_, ?_, ?_⟩
   ·have h : w8.heap.size = b := (by simpa [Value.ownBlock] using hb)
    have := HZ8.out
    omega
   ·simp only [HLE.out]
    exact HO9.out.kept hko (fun b hb e => by have h : w8.heap.size = b := (by simpa [Value.ownBlock] using hb); have := HZ8.out; omega)
   ·exact (HK9.out.setCell (p := ⟨w.heap.size, 0, none⟩) (.inl (Nat.le_refl _)) _).setCell (p := ⟨w.heap.size, 1, none⟩) (.inl (Nat.le_refl _)) _
  have hlp : k < ps.length := by rw [HL.out]; exact hlt
  obtain ⟨b, off, fc', hfa, hcell⟩ : ∃ b off c, Value.slice fa len fc = .slice (some ⟨b, off, none⟩) len c ∧ ∀ j i, (h : j < ps.length) → i < 16 → w.cell? ⟨b, off + (j * 16 + i), none⟩ = (kFr.cells ps[j])[i]? := by
   rcases HF.out.row.row with ⟨h, _⟩ | ⟨b, off, c, h, hc⟩
   ·rw [h] at hlp; simp at hlp
   ·exact ⟨b, off, c, by rw [← HL.out]; exact h, hc⟩
  injection hfa with hfa _ hfc
  subst hfa hfc
  have HFC := hid hcell
  clear hcell
  have HPB := hid (HFO.out.isB _ (List.getElem_mem hlp))
  have HPD := hid (HF.out.data _ (List.getElem_mem hlp))
  have HPZ := hid (HFO.out.each _ (List.getElem_mem hlp))
  have HNX := (show Hid (∀ wx, RdJ w wx number frm ps raw k P E → skipF E number frm ps[k].dat → RdJ w wx number frm ps raw (k + 1) P E) from fun wx h hs => h.next hlp hs)
  have HPUT := (show Hid (¬ skipF E number frm ps[k].dat → (redoOne E ps[k].dat).1 = 0 → ∀ wx, PgAt wx P (redoOne E ps[k].dat).2 → ownOK (redoOne E ps[k].dat).2 = true → IsB (redoOne E ps[k].dat).2 → Same w wx → Blk wx w.heap.size 27 [.int .i64 0, .slice none 0 0] → RdJ w wx number frm ps raw (k + 1) P (redoOne E ps[k].dat).2) from fun hs h0 wx ho h1 h2 hw hr => HJ.out.put hlp hs h0 rfl ho h1 h2 hw hr)
  have HBAD := (show Hid (¬ skipF E number frm ps[k].dat → ¬ (redoOne E ps[k].dat).1 = 0 → redoD raw number (datFr ps) frm = (2, [])) from fun hs h0 => by rw [HD.out, HJ.out.eq, redoL_step hlp, if_neg hs, if_neg h0])
  obtain ⟨cs, hcs⟩ : ∃ cs, kFr.cells ps[k] = cs := ⟨_, rfl⟩
  have hcl : cs.length = 16 := by rw [← hcs]; exact kFr.len _
  obtain ⟨rs, hrs⟩ : ∃ rs, recCells ps[k] = rs := ⟨_, rfl⟩
  have hrl : rs.length = 14 := by rw [← hrs]; rfl
  have hcr : ∀ j v, rs[j]? = some v → cs[2 + j]? = some v := fun j v h => by rw [← hcs]; rw [← hrs] at h; rw [← h]; exact (List.getElem?_drop ..).symm
  have HRG : Hid (wr.rangeAt b (off + k * 16) cs) := fun j v hv => by
   have hj : j < 16 := by have := (List.getElem?_eq_some_iff.1 hv).1; omega
   have h := HFC.out k j hlp hj
   rw [hcs, hv, ← Nat.add_assoc] at h
   exact HJ.out.same.cellOf h id
  have HIS : Hid ((Try.prog.info? 50).map (·.size) = some cs.length) := by unfold Hid; rw [hcl]; kernel_rfl
  have HIR : Hid ((Try.prog.info? 48).map (·.size) = some rs.length) := by unfold Hid; rw [hrl]; kernel_rfl
  have hone : cs.toArray.all (·.oneCell') = true := all_oneCell_toArray (fun v hv => by
   rw [← hcs] at hv
   simp only [kFr, StLogFrame.cells, List.mem_cons, List.not_mem_nil, or_false] at hv
   rcases hv with rfl | rfl | rfl | rfl | rfl | rfl | rfl | rfl | rfl | rfl | rfl | rfl | rfl | rfl | rfl | rfl <;> rfl)
  have hone2 : rs.toArray.all (·.oneCell') = true := all_oneCell_toArray (fun v hv => by
   rw [← hrs] at hv
   simp only [recCells, StLogFrame.cells, List.drop_succ_cons, List.drop_zero, List.mem_cons, List.not_mem_nil, or_false] at hv
   rcases hv with rfl | rfl | rfl | rfl | rfl | rfl | rfl | rfl | rfl | rfl | rfl | rfl | rfl | rfl <;> rfl)
  have hst := run_storeCells_new (P := Try.prog) wr 50 #[.int .i64 0, .int .i64 0, .int .i64 0, .int .i64 0, .int .i64 0, .int .i64 0, .int .i64 0, .bool false, .slice none 0 0, .bool false, .slice none 0 0, .int .i64 0, .int .i64 0, .slice none 0 0, .slice none 0 0, .slice none 0 0] cs.toArray (by rw [List.size_toArray]; exact HIS.out) (by simp [hcl]) hone
  rw [List.toList_toArray] at hst
  have HRG2 := (show Hid ((wr.alloc (.cells cs.toArray 50)).rangeAt wr.heap.size 2 rs) from (Blk.newL wr cs 50).range 2 rs hcr)
  have hst2 := run_storeCells_new (P := Try.prog) (wr.alloc (.cells cs.toArray 50)) 48 #[.int .i64 0, .int .i64 0, .int .i64 0, .int .i64 0, .int .i64 0, .bool false, .slice none 0 0, .bool false, .slice none 0 0, .int .i64 0, .int .i64 0, .slice none 0 0, .slice none 0 0, .slice none 0 0] rs.toArray (by rw [List.size_toArray]; exact HIR.out) (by simp [hrl]) hone2
  rw [List.toList_toArray, World.size_alloc] at hst2
  have HBF := (show Hid (Blk ((wr.alloc (.cells cs.toArray 50)).alloc (.cells rs.toArray 48)) wr.heap.size 50 cs) from (Blk.newL wr cs 50).alloc _)
  have HBS := (show Hid (Blk ((wr.alloc (.cells cs.toArray 50)).alloc (.cells rs.toArray 48)) (wr.heap.size + 1) 48 rs) from by have h := Blk.newL (wr.alloc (.cells cs.toArray 50)) rs 48; rw [World.size_alloc] at h; exact h)
  have HBR := (show Hid (Blk ((wr.alloc (.cells cs.toArray 50)).alloc (.cells rs.toArray 48)) (wr.heap.size + 1) 48 [.int .i64 ps[k].record.kind, .int .i64 ps[k].record.txn, .int .i64 ps[k].record.prev, .int .i64 ps[k].record.page, .int .i64 ps[k].record.slot, .bool ps[k].record.before.used, ps[k].record.before.data.v, .bool ps[k].record.after.used, ps[k].record.after.data.v, .int .i64 ps[k].record.uN, .int .i64 ps[k].record.nT, ps[k].record.txns.v, ps[k].record.dirty.v, ps[k].record.image.v]) from by
   have h := HBS.out
   have e : rs = [.int .i64 ps[k].record.kind, .int .i64 ps[k].record.txn, .int .i64 ps[k].record.prev, .int .i64 ps[k].record.page, .int .i64 ps[k].record.slot, .bool ps[k].record.before.used, ps[k].record.before.data.v, .bool ps[k].record.after.used, ps[k].record.after.data.v, .int .i64 ps[k].record.uN, .int .i64 ps[k].record.nT, ps[k].record.txns.v, ps[k].record.dirty.v, ps[k].record.image.v] := hrs.symm
   rw [← e]
   exact h)
  have hq0 : ((wr.alloc (.cells cs.toArray 50)).alloc (.cells rs.toArray 48)).cell? ⟨wr.heap.size, 0, none⟩ = some (.int .i64 ps[k].lsn) := by
   rw [HBF.out.cell 0, ← hcs]
   rfl
  have HW2 := (show Hid (Same wr ((wr.alloc (.cells cs.toArray 50)).alloc (.cells rs.toArray 48))) from ((Kept.refl _ _).alloc _).alloc _)
  have HWR := hid HJ.out.res.lt
  have HCH := (show Hid (∀ wx, Calls Try.prog 20 #[.agg rs.toArray] wx fun e w' => e = .returned (.bool (decide (ps[k].record.kind = 1 ∨ ps[k].record.kind = 2))) ∧ Same wx w') from fun wx => by rw [← hrs]; exact changes_any ps[k] wx)
  have HSP := (show Hid (skipF E number frm ps[k].dat ↔ ((¬ ps[k].record.kind = 1 ∧ ¬ ps[k].record.kind = 2) ∨ ¬ ps[k].record.page = number ∨ ps[k].lsn < frm ∨ ps[k].lsn ≤ pageLSN E)) from Iff.rfl)
  have HLS := (show Hid (pageLSN E = numAt E 4 8) from if_pos HJ.out.ok)
  rw [HLS.out] at HSP
  have HRO := (show Hid (redoOne E ps[k].dat = pageSet E ps[k].record.slot ps[k].record.after.used ps[k].record.after.data.bs ps[k].lsn) from rfl)
  have HRDA := (show Hid (Rd .u8 w ps[k].record.after.data.v ps[k].record.after.data.bs) from HPD.out.2.1)
  have HAB := (show Hid (IsB ps[k].record.after.data.bs) from HPB.out.2.1)
  have HDN := (show Hid (ps[k].record.after.data.bs.length ≤ 1099511627776) from by
   have h := HPZ.out
   have h1 := HPD.out.2.2.1.2.1
   have h2 := HPD.out.2.2.2.1.2.1
   simp only [StLogFrame.szs, StLogRecord.szs, StPageRecord.szs] at h
   unfold Hid
   omega)
  obtain ⟨ta, tc, hta⟩ : ∃ ta tc, ps[k].record.after.data.v = .slice ta ps[k].record.after.data.bs.length tc := ⟨_, _, rfl⟩
  rw [hta] at HBR HRDA
  generalize skipF E number frm ps[k].dat = SK at HNX HPUT HBAD HSP
  generalize redoOne E ps[k].dat = RO at HPUT HBAD HRO
  generalize ps[k].record.kind = kd at HBR HSP HCH
  generalize ps[k].record.page = pg at HBR HSP
  generalize ps[k].lsn = ls at hq0 HSP HRO
  generalize ps[k].record.slot = sn at HBR HRO
  generalize ps[k].record.after.used = us at HBR HRO
  generalize ps[k].record.after.data.bs = ad at HBR HRO HRDA HDN hta HAB
  generalize ps[k].record.after.data.v = av at hta
  clear hta
  clear hcs hrs hcr hone hone2 HPB HPD HPZ HFC
  go_upto_region 8 with (first | (refine wpList_load_mid rfl 50 _ rfl b (off + k * 16) rfl cs _ HRG.out Try.underlying50 rfl HIS.out ?_) | (refine wpList_load_mid rfl 48 _ rfl wr.heap.size 2 rfl rs _ HRG2.out Try.underlying48 rfl HIR.out ?_))
  clear hst hst2 HRG HRG2 HIS hcl
  generalize (wr.alloc (.cells cs.toArray 50)).alloc (.cells rs.toArray 48) = w3 at HBR HBS HBF HW2 hq0 ⊢
  have HJ3 := hid (HJ.out.on HW2.out)
  have hz3 := HW2.out.size
  have HBg : Hid (w.heap.size < wr.heap.size) := HWR.out
  obtain ⟨r3, _, hsp3⟩ := HJ3.out.pg
  obtain ⟨p4, _, _⟩ := hsp3.num3
  have hrg3 := HBS.out.rangeAll
  clear HW2 HJ HWR hsp3 HBF HBS
  obtain ⟨L, hL⟩ : ∃ L, numAt E 4 8 = L := ⟨_, rfl⟩
  rw [hL] at HSP p4
  clear hL HLS
  obtain ⟨q, hq⟩ : ∃ q : Bool, (q = true ↔ SK) := by
   by_cases h : SK
   ·exact ⟨true, by simp [h]⟩
   ·exact ⟨false, by simp [h]⟩
  have HQ := hid hq
  clear hq
  go_cut [57] (fun v wx => v = .bool q ∧ Hid (Same w3 wx))
  case first =>
   by_cases hkd : kd = 1 ∨ kd = 2
   case neg =>
    have hch : decide (kd = 1 ∨ kd = 2) = false := decide_eq_false hkd
    have hqq : q = true := HQ.out.2 (HSP.out.2 (.inl ⟨fun h => hkd (.inl h), fun h => hkd (.inr h)⟩))
    let Y1 : World → Prop := fun wx : World => wx.rangeAt (wr.heap.size + 1) 0 rs ∧ wx.cell? ⟨wr.heap.size + 1, 3, none⟩ = some (.int .i64 pg) ∧ wx.cell? ⟨wr.heap.size, 0, none⟩ = some (.int .i64 ls) ∧ wx.cell? ⟨P, 4, none⟩ = some (.int .i64 L)
    have hS : Y1 w3.drew := ⟨hrg3, HBR.out.cell 3, hq0, p4⟩
    refine wp_region_V Y1 99 24 rfl (by kernel_rfl) ?_
    refine wpAnyV_take (i := 0) (v := .agg rs.toArray) (some 34) rfl rfl (by kernel_rfl) (by kernel_rfl) (by kernel_rfl) (by kernel_rfl) (fun _ _ _ h => h) (yieldsIf_load_mid rfl 48 _ rfl (wr.heap.size + 1) 0 rfl rs _ (fun w h => h.1) Try.underlying48 rfl HIR.out) hS ?_
    try simp only [Act.put, sA, s0, sS]
    refine wpAnyV_one (i := 1) (by kernel_rfl) rfl (fun K hK => ?_)
    go_simp
    refine (HCH.out _).mono ?_
    rintro e w4 ⟨rfl, hk4⟩
    rw [hch]
    have hS : Y1 w4 := ⟨Kept.ranges hk4 hS.1, hk4.cellOf hS.2.1 id, hk4.cellOf hS.2.2.1 id, hk4.cellOf hS.2.2.2 id⟩
    have HK4 : Hid (Same w3 w4) := (Kept.refl _ _).drew.trans hk4
    go_wp2_with fail
    refine hK.out _ _ (fun _ => hS) ?_
    clear hK K hk4
    try simp only [Act.put, sA, s0, sS]
    refine tkV 2 36 (.bool true) hS ?_
    refine tk 3 37 hS ?_
    refine tkS 4 38 hS ?_
    refine tkS 5 39 hS ?_
    refine tkS 6 40 hS ?_
    refine tkS 7 41 hS ?_
    refine tk 8 42 hS ?_
    refine tk 9 43 hS ?_
    refine tkS 10 44 hS ?_
    refine tkS 11 45 hS ?_
    refine tkS 12 46 hS ?_
    refine tkS 13 47 hS ?_
    refine tk 14 48 hS ?_
    refine tk 15 49 hS ?_
    refine tkS 16 50 hS ?_
    refine tkS 17 51 hS ?_
    refine tkS 18 52 hS ?_
    refine tkS 19 53 hS ?_
    refine tkS 20 54 hS ?_
    refine tkS 21 55 hS ?_
    refine tkS 22 56 hS ?_
    refine tk 23 57 hS ?_
    refine wpAnyV_done (by kernel_rfl) ?_
    clear hS
    go_wp2_with fail
    go_meet
    case rel => exact ⟨by rw [hqq], HK4⟩
   have hch : decide (kd = 1 ∨ kd = 2) = true := decide_eq_true hkd
   by_cases hp : pg = number
   case neg =>
    have hqq : q = true := HQ.out.2 (HSP.out.2 (.inr (.inl hp)))
    let Y2 : World → Prop := fun wx : World => wx.rangeAt (wr.heap.size + 1) 0 rs ∧ wx.cell? ⟨wr.heap.size + 1, 3, none⟩ = some (.int .i64 pg) ∧ wx.cell? ⟨wr.heap.size, 0, none⟩ = some (.int .i64 ls) ∧ wx.cell? ⟨P, 4, none⟩ = some (.int .i64 L)
    have hS : Y2 w3.drew := ⟨hrg3, HBR.out.cell 3, hq0, p4⟩
    refine wp_region_V Y2 99 24 rfl (by kernel_rfl) ?_
    refine wpAnyV_take (i := 0) (v := .agg rs.toArray) (some 34) rfl rfl (by kernel_rfl) (by kernel_rfl) (by kernel_rfl) (by kernel_rfl) (fun _ _ _ h => h) (yieldsIf_load_mid rfl 48 _ rfl (wr.heap.size + 1) 0 rfl rs _ (fun w h => h.1) Try.underlying48 rfl HIR.out) hS ?_
    try simp only [Act.put, sA, s0, sS]
    refine wpAnyV_one (i := 1) (by kernel_rfl) rfl (fun K hK => ?_)
    go_simp
    refine (HCH.out _).mono ?_
    rintro e w4 ⟨rfl, hk4⟩
    rw [hch]
    have hS : Y2 w4 := ⟨Kept.ranges hk4 hS.1, hk4.cellOf hS.2.1 id, hk4.cellOf hS.2.2.1 id, hk4.cellOf hS.2.2.2 id⟩
    have HK4 : Hid (Same w3 w4) := (Kept.refl _ _).drew.trans hk4
    go_wp2_with fail
    refine hK.out _ _ (fun _ => hS) ?_
    clear hK K hk4
    try simp only [Act.put, sA, s0, sS]
    refine tkV 2 36 (.bool false) hS ?_
    refine tk 3 37 hS ?_
    refine tk 4 38 hS ?_
    refine tk 5 39 hS ?_
    refine tk 6 40 hS ?_
    refine tkV 7 41 (.bool true) hS ?_
    refine tk 8 42 hS ?_
    refine tk 9 43 hS ?_
    refine tkS 10 44 hS ?_
    refine tkS 11 45 hS ?_
    refine tkS 12 46 hS ?_
    refine tkS 13 47 hS ?_
    refine tk 14 48 hS ?_
    refine tk 15 49 hS ?_
    refine tkS 16 50 hS ?_
    refine tkS 17 51 hS ?_
    refine tkS 18 52 hS ?_
    refine tkS 19 53 hS ?_
    refine tkS 20 54 hS ?_
    refine tkS 21 55 hS ?_
    refine tkS 22 56 hS ?_
    refine tk 23 57 hS ?_
    refine wpAnyV_done (by kernel_rfl) ?_
    clear hS
    go_wp2_with fail
    go_meet
    case rel => exact ⟨by rw [hqq], HK4⟩
   by_cases hf : ls < frm
   case pos =>
    have hqq : q = true := HQ.out.2 (HSP.out.2 (.inr (.inr (.inl hf))))
    let Y3 : World → Prop := fun wx : World => wx.rangeAt (wr.heap.size + 1) 0 rs ∧ wx.cell? ⟨wr.heap.size + 1, 3, none⟩ = some (.int .i64 pg) ∧ wx.cell? ⟨wr.heap.size, 0, none⟩ = some (.int .i64 ls) ∧ wx.cell? ⟨P, 4, none⟩ = some (.int .i64 L)
    have hS : Y3 w3.drew := ⟨hrg3, HBR.out.cell 3, hq0, p4⟩
    refine wp_region_V Y3 99 24 rfl (by kernel_rfl) ?_
    refine wpAnyV_take (i := 0) (v := .agg rs.toArray) (some 34) rfl rfl (by kernel_rfl) (by kernel_rfl) (by kernel_rfl) (by kernel_rfl) (fun _ _ _ h => h) (yieldsIf_load_mid rfl 48 _ rfl (wr.heap.size + 1) 0 rfl rs _ (fun w h => h.1) Try.underlying48 rfl HIR.out) hS ?_
    try simp only [Act.put, sA, s0, sS]
    refine wpAnyV_one (i := 1) (by kernel_rfl) rfl (fun K hK => ?_)
    go_simp
    refine (HCH.out _).mono ?_
    rintro e w4 ⟨rfl, hk4⟩
    rw [hch]
    have hS : Y3 w4 := ⟨Kept.ranges hk4 hS.1, hk4.cellOf hS.2.1 id, hk4.cellOf hS.2.2.1 id, hk4.cellOf hS.2.2.2 id⟩
    have HK4 : Hid (Same w3 w4) := (Kept.refl _ _).drew.trans hk4
    go_wp2_with fail
    refine hK.out _ _ (fun _ => hS) ?_
    clear hK K hk4
    try simp only [Act.put, sA, s0, sS]
    refine tkV 2 36 (.bool false) hS ?_
    refine tk 3 37 hS ?_
    refine tk 4 38 hS ?_
    refine tk 5 39 hS ?_
    refine tk 6 40 hS ?_
    refine tkV 7 41 (.bool false) hS ?_
    refine tk 8 42 hS ?_
    refine tk 9 43 hS ?_
    refine tk 10 44 hS ?_
    refine tk 11 45 hS ?_
    refine tk 12 46 hS ?_
    refine tkV 13 47 (.bool true) hS ?_
    refine tk 14 48 hS ?_
    refine tk 15 49 hS ?_
    refine tkS 16 50 hS ?_
    refine tkS 17 51 hS ?_
    refine tkS 18 52 hS ?_
    refine tkS 19 53 hS ?_
    refine tkS 20 54 hS ?_
    refine tkS 21 55 hS ?_
    refine tkS 22 56 hS ?_
    refine tk 23 57 hS ?_
    refine wpAnyV_done (by kernel_rfl) ?_
    clear hS
    go_wp2_with fail
    go_meet
    case rel => exact ⟨by rw [hqq], HK4⟩
   by_cases hg : ls ≤ L
   case pos =>
    have hqq : q = true := HQ.out.2 (HSP.out.2 (.inr (.inr (.inr hg))))
    let Y4 : World → Prop := fun wx : World => wx.rangeAt (wr.heap.size + 1) 0 rs ∧ wx.cell? ⟨wr.heap.size + 1, 3, none⟩ = some (.int .i64 pg) ∧ wx.cell? ⟨wr.heap.size, 0, none⟩ = some (.int .i64 ls) ∧ wx.cell? ⟨P, 4, none⟩ = some (.int .i64 L)
    have hS : Y4 w3.drew := ⟨hrg3, HBR.out.cell 3, hq0, p4⟩
    refine wp_region_V Y4 99 24 rfl (by kernel_rfl) ?_
    refine wpAnyV_take (i := 0) (v := .agg rs.toArray) (some 34) rfl rfl (by kernel_rfl) (by kernel_rfl) (by kernel_rfl) (by kernel_rfl) (fun _ _ _ h => h) (yieldsIf_load_mid rfl 48 _ rfl (wr.heap.size + 1) 0 rfl rs _ (fun w h => h.1) Try.underlying48 rfl HIR.out) hS ?_
    try simp only [Act.put, sA, s0, sS]
    refine wpAnyV_one (i := 1) (by kernel_rfl) rfl (fun K hK => ?_)
    go_simp
    refine (HCH.out _).mono ?_
    rintro e w4 ⟨rfl, hk4⟩
    rw [hch]
    have hS : Y4 w4 := ⟨Kept.ranges hk4 hS.1, hk4.cellOf hS.2.1 id, hk4.cellOf hS.2.2.1 id, hk4.cellOf hS.2.2.2 id⟩
    have HK4 : Hid (Same w3 w4) := (Kept.refl _ _).drew.trans hk4
    go_wp2_with fail
    refine hK.out _ _ (fun _ => hS) ?_
    clear hK K hk4
    try simp only [Act.put, sA, s0, sS]
    refine tkV 2 36 (.bool false) hS ?_
    refine tk 3 37 hS ?_
    refine tk 4 38 hS ?_
    refine tk 5 39 hS ?_
    refine tk 6 40 hS ?_
    refine tkV 7 41 (.bool false) hS ?_
    refine tk 8 42 hS ?_
    refine tk 9 43 hS ?_
    refine tk 10 44 hS ?_
    refine tk 11 45 hS ?_
    refine tk 12 46 hS ?_
    refine tkV 13 47 (.bool false) hS ?_
    refine tk 14 48 hS ?_
    refine tk 15 49 hS ?_
    refine tk 16 50 hS ?_
    refine tk 17 51 hS ?_
    refine tk 18 52 hS ?_
    refine tk 19 53 hS ?_
    refine tk 20 54 hS ?_
    refine tk 21 55 hS ?_
    refine tkV 22 56 (.bool true) hS ?_
    refine tk 23 57 hS ?_
    refine wpAnyV_done (by kernel_rfl) ?_
    clear hS
    go_wp2_with fail
    go_meet
    case rel => exact ⟨by rw [hqq], HK4⟩
   have hqq : q = false := by
    cases hq : q with
    | false => rfl
    | true => have := HSP.out.1 (HQ.out.1 hq); omega
   let Y5 : World → Prop := fun wx : World => wx.rangeAt (wr.heap.size + 1) 0 rs ∧ wx.cell? ⟨wr.heap.size + 1, 3, none⟩ = some (.int .i64 pg) ∧ wx.cell? ⟨wr.heap.size, 0, none⟩ = some (.int .i64 ls) ∧ wx.cell? ⟨P, 4, none⟩ = some (.int .i64 L)
   have hS : Y5 w3.drew := ⟨hrg3, HBR.out.cell 3, hq0, p4⟩
   refine wp_region_V Y5 99 24 rfl (by kernel_rfl) ?_
   refine wpAnyV_take (i := 0) (v := .agg rs.toArray) (some 34) rfl rfl (by kernel_rfl) (by kernel_rfl) (by kernel_rfl) (by kernel_rfl) (fun _ _ _ h => h) (yieldsIf_load_mid rfl 48 _ rfl (wr.heap.size + 1) 0 rfl rs _ (fun w h => h.1) Try.underlying48 rfl HIR.out) hS ?_
   try simp only [Act.put, sA, s0, sS]
   refine wpAnyV_one (i := 1) (by kernel_rfl) rfl (fun K hK => ?_)
   go_simp
   refine (HCH.out _).mono ?_
   rintro e w4 ⟨rfl, hk4⟩
   rw [hch]
   have hS : Y5 w4 := ⟨Kept.ranges hk4 hS.1, hk4.cellOf hS.2.1 id, hk4.cellOf hS.2.2.1 id, hk4.cellOf hS.2.2.2 id⟩
   have HK4 : Hid (Same w3 w4) := (Kept.refl _ _).drew.trans hk4
   go_wp2_with fail
   refine hK.out _ _ (fun _ => hS) ?_
   clear hK K hk4
   try simp only [Act.put, sA, s0, sS]
   refine tkV 2 36 (.bool false) hS ?_
   refine tk 3 37 hS ?_
   refine tk 4 38 hS ?_
   refine tk 5 39 hS ?_
   refine tk 6 40 hS ?_
   refine tkV 7 41 (.bool false) hS ?_
   refine tk 8 42 hS ?_
   refine tk 9 43 hS ?_
   refine tk 10 44 hS ?_
   refine tk 11 45 hS ?_
   refine tk 12 46 hS ?_
   refine tkV 13 47 (.bool false) hS ?_
   refine tk 14 48 hS ?_
   refine tk 15 49 hS ?_
   refine tk 16 50 hS ?_
   refine tk 17 51 hS ?_
   refine tk 18 52 hS ?_
   refine tk 19 53 hS ?_
   refine tk 20 54 hS ?_
   refine tk 21 55 hS ?_
   refine tkV 22 56 (.bool false) hS ?_
   refine tk 23 57 hS ?_
   refine wpAnyV_done (by kernel_rfl) ?_
   clear hS
   go_wp2_with fail
   go_meet
   case rel => exact ⟨by rw [hqq], HK4⟩
  case rest =>
  obtain ⟨rfl, HS3⟩ := hcut
  have HJ4 := hid (HJ3.out.on HS3.out)
  have HB4 := hid (HBR.out.same HS3.out)
  have hq4 := HS3.out.cellOf hq0 id
  have hz4 := HS3.out.size
  clear HBR hq0 HJ3 HS3 HSP HCH p4 hrg3
  cases q with
  | true =>
   have hs := HQ.out.1 rfl
   go_wp2_with fail
   go_roundw
   case rel => exact ⟨k + 1, E, by omega, by go_num, HNX.out _ HJ4.out hs⟩
   case measure => simp [intOf]; omega
  | false =>
   have HNS : Hid (¬ SK) := fun h => by have := HQ.out.2 h; cases this
   have HKC := (show Hid (∀ wx, RdJ w wx number frm ps raw k P E → Calls Try.prog 21 #[.pointer (some ⟨P, 0, none⟩), .int .i64 sn, .agg #[.bool us, .slice ta ad.length tc], .int .i64 ls] wx fun e w' => ChR wx w' P RO.1 RO.2 e) from fun wx h => by rw [HRO.out]; exact change_any P E sn us ta tc ad ls wx w h.isB h.ok h.pg HDN.out HRDA.out (by omega) (HRDA.out.same h.same) HAB.out)
   generalize ad.length = an at HB4 HKC
   have d4 := HB4.out.cell 4
   have d7 := HB4.out.cell 7
   have d8 := HB4.out.cell 8
   obtain ⟨x, ys⟩ := RO
   dsimp only at HKC HPUT HBAD
   clear HNX HQ HRO HDN HRDA HAB
   go_wp2_with fail
   refine (HKC.out _ HJ4.out).mono ?_
   rintro e w5 ⟨rfl, hk5, hx⟩
   have HR5 := hid (HJ4.out.res.kept hk5 (fun e => by omega))
   have HW5 := hid (HJ4.out.same.next hk5 (fun i hi e => by omega))
   clear hk5 d4 d7 d8 HKC
   rcases hx with ⟨rfl, hpg, hok5, hB5⟩ | ⟨hx0, rfl⟩
   ·have HN5 := hid (HPUT.out HNS.out rfl _ hpg hok5 hB5 HW5.out HR5.out)
    go_wp2_with fail
    go_roundw
    case rel => exact ⟨k + 1, ys, by omega, by go_num, HN5⟩
    case measure => simp [intOf]; omega
   ·have HBD := hid (HBAD.out HNS.out hx0)
    have ex : (x == 0) = false := by simp [hx0]
    obtain ⟨d0, d1⟩ := HR5.out.all2
    have ff := HR5.out.frozen
    have hlt0 := HR5.out.lt
    go_wp2
    rw [HBD.out]
    refine bodyPost_ret (v := .agg #[.int .i64 2, .slice none 0 0]) (by simp [results, Try.results5, go_sem, d0, d1]) rfl (SetAns.none 2 ?_)
    exact (HW5.out.setCell (p := ⟨w.heap.size, 0, none⟩) (.inl (Nat.le_refl _)) _).setCell (p := ⟨w.heap.size, 1, none⟩) (.inl (Nat.le_refl _)) _
theorem sameB_any (va vb : Value) (xs : List Int) (w : World) (hra : Rd .u8 w va xs) (hrb : Rd .u8 w vb xs) :
  Calls Try.prog 7 #[va, vb] w fun e w' => e = .returned (.bool true) ∧ Same w w' := by
 have h1 := conv_any hra
 have h2 := conv_any hrb
 clear hra hrb
 generalize strOfNums xs = s at *
 go_enter Try.func7, Try.ntmps7
 go_wp2
 go_ret
 exact ⟨rfl, Kept.refl _ _⟩
def AtR (n r : Int) : Prop := (n ≤ 1 → r = 0) ∧ (1 < n → 0 ≤ r ∧ r < n)
theorem lwAt_any (v : Value) (cs : List Int) (k : Nat) (n : Int) (w : World) (hb : IsB cs) (hfew : cs.length ≤ 1048576) (hk : k ≤ 1048576) (hn : IsI n) (hv : Rd .u8 w v cs) :
  Calls Try.prog 8 #[v, .int .i64 k, .int .i64 n] w fun e w' => ∃ r, e = .returned (.int .i64 r) ∧ AtR n r ∧ Same w w' := by
 obtain ⟨a, c, rfl⟩ := hv.form
 obtain ⟨hn1, hn2⟩ := hn
 by_cases h1 : n ≤ 1
 ·go_enter Try.func8, Try.ntmps8
  go_wp2
  go_ret
  exact ⟨0, rfl, ⟨fun _ => rfl, fun h => by omega⟩, Kept.refl _ _⟩
 ·by_cases h2 : cs.length = 0
  ·have e0 : ((cs.length : Nat) : Int) = 0 := by omega
   rw [h2]
   go_enter Try.func8, Try.ntmps8
   go_wp2
   go_ret
   exact ⟨_, rfl, ⟨fun h => by omega, fun h => ⟨Int.emod_nonneg _ (by omega), Int.emod_lt_of_pos _ (by omega)⟩⟩, Kept.refl _ _⟩
  ·obtain ⟨b, off, rfl, hc⟩ : ∃ b off, a = some ⟨b, off, none⟩ ∧ ∀ i, i < cs.length → w.cell? ⟨b, off + i, none⟩ = some (.int .u8 (cs.getD i 0)) := by
    rcases hv.2 with ⟨hnil, _⟩ | ⟨b, off, c', h, _, hc⟩
    ·rw [hnil] at h2
     simp at h2
    ·cases h
     exact ⟨b, off, rfl, hc⟩
   have q1 := hc (k % cs.length) (Nat.mod_lt _ (by omega))
   have q2 := hc ((k + 1) % cs.length) (Nat.mod_lt _ (by omega))
   have x1 := hb.at (k % cs.length) (Nat.mod_lt _ (by omega))
   have x2 := hb.at ((k + 1) % cs.length) (Nat.mod_lt _ (by omega))
   have m1 : (k : Int) % (cs.length : Int) = ((k % cs.length : Nat) : Int) := by simp
   have m2 : ((k : Int) + 1) % (cs.length : Int) = (((k + 1) % cs.length : Nat) : Int) := by simp
   have l1 := Nat.mod_lt k (y := cs.length) (by omega)
   have l2 := Nat.mod_lt (k + 1) (y := cs.length) (by omega)
   have d1 : (k : Int) / (cs.length : Int) = ((k / cs.length : Nat) : Int) := by simp
   have d2 : k / cs.length ≤ k := Nat.div_le_self _ _
   clear hc hv hb
   generalize cs.getD (k % cs.length) 0 = x at *
   generalize cs.getD ((k + 1) % cs.length) 0 = y at *
   generalize k % cs.length = i1 at *
   generalize (k + 1) % cs.length = i2 at *
   generalize k / cs.length = j1 at *
   generalize hl : cs.length = len at *
   have hl0 : (0 : Int) < (len : Int) := by omega
   have hl1 : ¬ (len : Int) = 0 := by omega
   have l1' : (i1 : Int) < (len : Int) := by omega
   have l2' : (i2 : Int) < (len : Int) := by omega
   by_cases h3 : 200 < n
   ·go_enter Try.func8, Try.ntmps8
    go_wp2
    go_quiet (fail)
    go_wp2
    go_ret
    exact ⟨_, rfl, ⟨fun h => by omega, fun h => ⟨Int.emod_nonneg _ (by omega), Int.emod_lt_of_pos _ (by omega)⟩⟩, (Kept.refl _ _).drewN _⟩
   ·go_enter Try.func8, Try.ntmps8
    go_wp2
    go_quiet (fail)
    go_wp2
    go_ret
    exact ⟨_, rfl, ⟨fun h => by omega, fun h => ⟨Int.emod_nonneg _ (by omega), Int.emod_lt_of_pos _ (by omega)⟩⟩, (Kept.refl _ _).drewN _⟩
theorem size_w : ∀ (ps : List StLogFrame), (∀ p ∈ ps, RcW p.record) → sizeFr ps ≤ 7000 * (ps.length : Int)
 | [], _ => by simp [sizeFr]
 | p :: ps, h => by
  have h1 := size_w ps (fun q hq => h q (List.mem_cons_of_mem _ hq))
  have h2 : p.szs ≤ 7000 := (h p List.mem_cons_self).2
  have h3 : sizeFr (p :: ps) = p.szs + sizeFr ps := rfl
  rw [h3, List.length_cons]
  omega
theorem frOK_w {ps : List StLogFrame} (h : ∀ p ∈ ps, RcW p.record) (hl : ps.length ≤ 110) : FrOK ps :=
 ⟨by omega, fun p hp => by have : p.szs ≤ 7000 := (h p hp).2; omega, by have := size_w ps h; omega, fun p hp => (h p hp).1⟩
theorem FrOK.take {ps : List StLogFrame} (h : ∀ p ∈ ps, RcW p.record) (hl : ps.length ≤ 110) (k : Nat) : FrOK (ps.take k) := frOK_w (fun p hp => h p (List.mem_of_mem_take hp)) (by rw [List.length_take]; omega)
theorem RdFr.pre2 {w : World} {fa : Option Addr} {n c : Nat} {qs : List StLogFrame} (h : RdFr w (.slice fa n c) qs) (t : Nat) (ht : t ≤ qs.length) : RdFr w (.slice fa t c) (qs.take t) := by
 cases fa with
 | none =>
  rcases h.row.row with ⟨h1, _⟩ | ⟨b, off, c', he, _⟩
  ·subst h1
   have e : t = 0 := by simpa using ht
   subst e
   exact ⟨⟨by simp, .inl ⟨by simp, _, _, rfl⟩, fun p hp => by simp at hp⟩, fun p hp => by simp at hp⟩
  ·cases he
 | some a =>
  rcases h.row.row with ⟨h1, _⟩ | ⟨b, off, c', he, _⟩
  ·subst h1
   have e : t = 0 := by simpa using ht
   subst e
   exact ⟨⟨by simp, .inl ⟨by simp, _, _, rfl⟩, fun p hp => by simp at hp⟩, fun p hp => by simp at hp⟩
  ·injection he with e1 _ _
   injection e1 with e1
   subst e1
   exact h.pre t ht
theorem datFr_take (ps : List StLogFrame) (k : Nat) : datFr (ps.take k) = (datFr ps).take k := by simp [datFr, List.map_take]
def RxR (wr wx : World) (ty : TypeId) (v : Value) (x : Int) (ys : List Int) : Prop := ∃ (R : Nat) (a : Option Addr) (c : Nat), v = .pointer (some ⟨R, 0, none⟩) ∧ wr.heap.size ≤ R ∧ Blk wx R 27 [.int .i64 x, .slice a ys.length c] ∧ Own 0 ty .u8 wx (.slice a ys.length c) ys ∧ Same wr wx
theorem fnRedo_law (v0 : Value) (cs : List Int) (v1 : Value) (ms : List Int) (w : World) (hv0 : Rd .u8 w v0 cs) (hB0 : IsB cs) (hv1 : Rd .u8 w v1 ms) (hB1 : IsB ms) :
  Calls Try.prog 3 #[v0, v1] w fun e w' => e = .returned (.bool true) ∧ Same w w' := by
 obtain ⟨av, cv, rfl⟩ := hv0.form
 obtain ⟨bv, dv, rfl⟩ := hv1.form
 have hm0 := hv0.1
 have hm1 := hv1.1
 unfold maxLen at hm0 hm1
 by_cases h0 : (1048576 : Int) < (cs.length : Int)
 ·go_enter Try.func3, Try.ntmps3
  go_wp2
  go_ret
  exact ⟨rfl, Kept.refl _ _⟩
 by_cases h1 : (1048576 : Int) < (ms.length : Int)
 ·go_enter Try.func3, Try.ntmps3
  go_wp2
  go_ret
  exact ⟨rfl, Kept.refl _ _⟩
 have kD := drp_k (.slice av cs.length cv) cs w hB0 (by omega) hv0
 have HA := (show Hid (∀ (n : Int) (wx : World), IsI n → Same w wx → _) from fun n wx hn hx => lwAt_any (.slice bv ms.length dv) ms 0 n wx hB1 (by omega) (by omega) hn (hv1.same hx))
 clear hv0 hv1 hB0 hB1 hm0 hm1
 generalize cs.length = cn at kD h0
 generalize ms.length = mn at HA h1
 go_enter Try.func3, Try.ntmps3
 go_wp2_with fail
 refine kD.mono ?_
 rintro e w1 ⟨pv, fa, fn, fc, raw, number, frm, ps, rfl, hB, hl, hR, hF, hpw, ⟨hpl, hcap⟩, hk1⟩
 have hfn : fn = ps.length := by obtain ⟨_, _, he⟩ := hF.form; injection he
 have HFN := hid hfn
 have hfn2 : fn ≤ 110 := by omega
 clear hfn kD
 have HB := hid hB
 have HR := hid hR
 have HF := hid hF
 have HPW := hid hpw
 have HPL := hid hpl
 have HK1 := hid hk1
 have HFO := hid (frOK_w hpw hpl)
 have HDB := (show Hid (∀ d ∈ datFr ps, IsB (fAft d).2) from fun d hd => by
  obtain ⟨p, hp, rfl⟩ := List.mem_map.1 hd
  exact (hpw p hp).1.2.1)
 clear hB hR hF hpw hk1
 obtain ⟨X, hX⟩ : ∃ X, redoD raw number (datFr ps) frm = X := ⟨_, rfl⟩
 have HX := hid hX
 have kI := implRedo_any pv raw number (.slice fa fn fc) ps frm w1 HB.out (by omega) HR.out HFO.out HF.out
 rw [hX] at kI
 clear hX hpl
 obtain ⟨xc, xp⟩ := X
 dsimp only at kI
 go_upto_region 4 with fail
 go_cut [9] (fun z wx => Hid (RxR w1 wx 60 z xc xp))
 case first =>
  go_wp2_with fail
  refine (kI).mono ?_
  rintro e wq ⟨a, c, rfl, hf, ho, hkq⟩
  have hb := Blk.newL wq [.int .i64 xc, .slice a (xp).length c] 27
  have hkb : Same wq (wq.alloc (.cells #[.int .i64 xc, .slice a (xp).length c] 27)) := (Kept.refl _ _).alloc _
  have HZ := (show Hid (RxR w1 (wq.alloc (.cells #[.int .i64 xc, .slice a (xp).length c] 27)) 60 (.pointer (some ⟨wq.heap.size, 0, none⟩)) xc xp) from ⟨wq.heap.size, a, c, rfl, hkq.size, hb, ho.same hkb, hkq.trans hkb⟩)
  clear hf ho hkq hb hkb
  go_wp2_with fail
  go_meet
  case rel => exact HZ
 case rest =>
 obtain ⟨xR, xa, xc', rfl, xr, xb, xo, xk⟩ := hcut.out
 have Hxb := hid xb
 have Hxo := hid xo
 have Hxk := hid xk
 clear hcut xb xo xk
 obtain ⟨w2, hw2⟩ : ∃ x, wc = x := ⟨_, rfl⟩
 rw [hw2] at Hxb Hxo Hxk ⊢
 clear hw2
 clear kI
 have kS := specRedo_any pv raw number (.slice fa fn fc) ps frm w2 HB.out (by omega) (HR.out.same Hxk.out) HFO.out (HF.out.same Hxk.out)
 rw [HX.out] at kS
 dsimp only at kS
 go_upto_region 5 with fail
 go_cut [10] (fun z wx => Hid (RxR w2 wx 5 z xc xp))
 case first =>
  go_wp2_with fail
  refine (kS).mono ?_
  rintro e wq ⟨a, c, rfl, hf, ho, hkq⟩
  have hb := Blk.newL wq [.int .i64 xc, .slice a (xp).length c] 27
  have hkb : Same wq (wq.alloc (.cells #[.int .i64 xc, .slice a (xp).length c] 27)) := (Kept.refl _ _).alloc _
  have HZ := (show Hid (RxR w2 (wq.alloc (.cells #[.int .i64 xc, .slice a (xp).length c] 27)) 5 (.pointer (some ⟨wq.heap.size, 0, none⟩)) xc xp) from ⟨wq.heap.size, a, c, rfl, hkq.size, hb, ho.same hkb, hkq.trans hkb⟩)
  clear hf ho hkq hb hkb
  go_wp2_with fail
  go_meet
  case rel => exact HZ
 case rest =>
 obtain ⟨yR, ya, yc, rfl, yr, yb, yo, yk⟩ := hcut.out
 have Hyb := hid yb
 have Hyo := hid yo
 have Hyk := hid yk
 clear hcut yb yo yk
 obtain ⟨w3, hw3⟩ : ∃ x, wc = x := ⟨_, rfl⟩
 rw [hw3] at Hyb Hyo Hyk ⊢
 clear hw3
 clear kS
 have Hxb3 := hid (Hxb.out.same Hyk.out)
 have Hxo3 := hid (Hxo.out.same Hyk.out)
 have HK3 := hid ((HK1.out.trans Hxk.out).trans Hyk.out)
 have HW3 := hid (Hxk.out.trans Hyk.out)
 have x0 : w3.cell? ⟨xR, 0, none⟩ = some (.int .i64 xc) := Hxb3.out.cell 0
 have x1 : w3.cell? ⟨xR, 1, none⟩ = some (.slice xa xp.length xc') := Hxb3.out.cell 1
 have y0 : w3.cell? ⟨yR, 0, none⟩ = some (.int .i64 xc) := Hyb.out.cell 0
 have y1 : w3.cell? ⟨yR, 1, none⟩ = some (.slice ya xp.length yc) := Hyb.out.cell 1
 have kB := sameB_any (.slice xa xp.length xc') (.slice ya xp.length yc) xp w3 Hxo3.out.rd Hyo.out.rd
 have eX : (xc != xc) = false := by simp
 obtain ⟨xn, hxn⟩ : ∃ n, xp.length = n := ⟨_, rfl⟩
 have HXN := hid hxn
 rw [hxn] at x1 y1 kB
 clear hxn Hxb Hxo Hyk Hxk Hyb Hyo
 go_wp2_with fail
 refine kB.mono ?_
 rintro e w4 ⟨rfl, hk4⟩
 have Hxb4 := hid (Hxb3.out.same hk4)
 have Hxo4 := hid (Hxo3.out.same hk4)
 have HK4 := hid (HK3.out.trans hk4)
 have HW4 := hid (HW3.out.trans hk4)
 clear hk4 kB x0 x1 y0 y1 Hxb3 Hxo3 HK3 HW3
 have x0 : w4.cell? ⟨xR, 0, none⟩ = some (.int .i64 xc) := Hxb4.out.cell 0
 have x1 : w4.cell? ⟨xR, 1, none⟩ = some (.slice xa xn xc') := by rw [← HXN.out]; exact Hxb4.out.cell 1
 by_cases hx : xc = 0
 case neg =>
  as_aux_lemma =>
  have hx' : (xc != 0) = true := by simp [hx]
  have hn0 : xn = 0 := by
   have := redoD_bad (raw := raw) (number := number) (frm := frm) (ds := datFr ps) (by rw [HX.out]; exact hx)
   rw [HX.out] at this
   have h2 := HXN.out
   rw [show xp = [] from this] at h2
   exact h2.symm
  subst hn0
  go_wp2
  go_ret
  exact ⟨rfl, HK4.out⟩
 subst hx
 clear eX
 have HALL := (show Hid (∀ k : Nat, redoD xp number (datFr ps) frm = (0, xp) ∧ (redoD raw number ((datFr ps).take k) frm).1 = 0 ∧ redoD (redoD raw number ((datFr ps).take k) frm).2 number (datFr ps) frm = (0, xp) ∧ pageFault xp number = 0 ∧ pageLSN raw ≤ pageLSN xp ∧ IsB xp ∧ IsB (redoD raw number ((datFr ps).take k) frm).2 ∧ xp.length = 4096 ∧ (redoD raw number ((datFr ps).take k) frm).2.length = 4096) from fun k => by
  have h := redo_all HB.out HDB.out (show (redoD raw number (datFr ps) frm).1 = 0 from by rw [HX.out]) k
  rw [HX.out] at h
  exact h)
 have hxl : xp.length ≤ 1099511627776 := by have := (HALL.out 0).2.2.2.2.2.2.2.1; omega
 have kY := implRedo_any (.slice xa xn xc') xp number (.slice fa fn fc) ps frm w4 (HALL.out 0).2.2.2.2.2.1 hxl (by rw [← HXN.out]; exact Hxo4.out.rd) HFO.out (HF.out.same HW4.out)
 rw [(HALL.out 0).1] at kY
 dsimp only at kY
 go_upto_region 10 with fail
 go_cut [11] (fun z wx => Hid (RxR w4 wx 60 z 0 xp))
 case first =>
  go_wp2_with fail
  refine (kY).mono ?_
  rintro e wq ⟨a, c, rfl, hf, ho, hkq⟩
  have hb := Blk.newL wq [.int .i64 0, .slice a (xp).length c] 27
  have hkb : Same wq (wq.alloc (.cells #[.int .i64 0, .slice a (xp).length c] 27)) := (Kept.refl _ _).alloc _
  have HZ := (show Hid (RxR w4 (wq.alloc (.cells #[.int .i64 0, .slice a (xp).length c] 27)) 60 (.pointer (some ⟨wq.heap.size, 0, none⟩)) 0 xp) from ⟨wq.heap.size, a, c, rfl, hkq.size, hb, ho.same hkb, hkq.trans hkb⟩)
  clear hf ho hkq hb hkb
  go_wp2_with fail
  go_meet
  case rel => exact HZ
 case rest =>
 obtain ⟨uR, ua, uc, rfl, ur, ub, uo, uk⟩ := hcut.out
 have Hub := hid ub
 have Huo := hid uo
 have Huk := hid uk
 clear hcut ub uo uk
 obtain ⟨w5, hw5⟩ : ∃ x, wc = x := ⟨_, rfl⟩
 rw [hw5] at Hub Huo Huk ⊢
 clear hw5
 clear kY x0 x1
 have q1 : IntKind.i64.wrap ((fn : Int) + 1) = (fn : Int) + 1 := by rw [IntKind.wrap_i64]; omega
 go_wp2_with fail
 refine (HA.out ((fn : Int) + 1) w5 (by constructor <;> omega) (HK4.out.trans Huk.out)).mono ?_
 rintro e w6 ⟨r, rfl, hr, hk6⟩
 obtain ⟨kk, hkk⟩ : ∃ m : Nat, r = (m : Int) ∧ m ≤ fn := by
  by_cases h : 1 < (fn : Int) + 1
  ·have := hr.2 h
   exact ⟨r.toNat, by omega, by omega⟩
  ·have := hr.1 (by omega)
   exact ⟨0, by omega, by omega⟩
 obtain ⟨rfl, hkn⟩ := hkk
 have HU6 := hid (Huk.out.trans hk6)
 have H56 := hid hk6
 have HW6 := hid (HW4.out.trans HU6.out)
 have hki : (kk : Int) ≤ (fc : Int) := by omega
 have kH := implRedo_any pv raw number (.slice fa kk fc) (ps.take kk) frm w6 HB.out (by omega) (HR.out.same HW6.out) (FrOK.take HPW.out HPL.out kk) ((HF.out.same HW6.out).pre2 kk (by have := HFN.out; omega))
 rw [datFr_take] at kH
 obtain ⟨HD, hHD⟩ : ∃ z, redoD raw number ((datFr ps).take kk) frm = z := ⟨_, rfl⟩
 have HKK := (show Hid (HD.1 = 0 ∧ redoD HD.2 number (datFr ps) frm = (0, xp) ∧ IsB HD.2 ∧ HD.2.length = 4096) from by have h := HALL.out kk; rw [hHD] at h; exact ⟨h.2.1, h.2.2.1, h.2.2.2.2.2.2.1, h.2.2.2.2.2.2.2.2⟩)
 rw [hHD] at kH
 clear hHD hr hk6 q1
 obtain ⟨hc0, hp⟩ := HD
 obtain rfl : hc0 = 0 := HKK.out.1
 dsimp only at kH
 go_upto_region 12 with fail
 go_cut [13] (fun z wx => Hid (RxR w6 wx 60 z 0 hp))
 case first =>
  go_wp2_with fail
  refine (kH).mono ?_
  rintro e wq ⟨a, c, rfl, hf, ho, hkq⟩
  have hb := Blk.newL wq [.int .i64 0, .slice a (hp).length c] 27
  have hkb : Same wq (wq.alloc (.cells #[.int .i64 0, .slice a (hp).length c] 27)) := (Kept.refl _ _).alloc _
  have HZ := (show Hid (RxR w6 (wq.alloc (.cells #[.int .i64 0, .slice a (hp).length c] 27)) 60 (.pointer (some ⟨wq.heap.size, 0, none⟩)) 0 hp) from ⟨wq.heap.size, a, c, rfl, hkq.size, hb, ho.same hkb, hkq.trans hkb⟩)
  clear hf ho hkq hb hkb
  go_wp2_with fail
  go_meet
  case rel => exact HZ
 case rest =>
 obtain ⟨hR, ha, hc, rfl, hr, hb, ho, hk⟩ := hcut.out
 have Hhb := hid hb
 have Hho := hid ho
 have Hhk := hid hk
 clear hcut hb ho hk
 obtain ⟨w7, hw7⟩ : ∃ x, wc = x := ⟨_, rfl⟩
 rw [hw7] at Hhb Hho Hhk ⊢
 clear hw7
 clear kH
 have hhl : hp.length ≤ 1099511627776 := by have := HKK.out.2.2.2; omega
 have HW7 := hid (HW6.out.trans Hhk.out)
 obtain ⟨hn, hhn⟩ : ∃ n, hp.length = n := ⟨_, rfl⟩
 have HHN := hid hhn
 clear hhn
 have h1' : w7.cell? ⟨hR, 1, none⟩ = some (.slice ha hn hc) := by rw [← HHN.out]; exact Hhb.out.cell 1
 have kZ := implRedo_any (.slice ha hn hc) hp number (.slice fa fn fc) ps frm w7 HKK.out.2.2.1 hhl (by rw [← HHN.out]; exact Hho.out.rd) HFO.out (HF.out.same HW7.out)
 rw [HKK.out.2.1] at kZ
 dsimp only at kZ
 go_upto_region 13 with fail
 go_cut [14] (fun z wx => Hid (RxR w7 wx 60 z 0 xp))
 case first =>
  go_wp2_with fail
  refine (kZ).mono ?_
  rintro e wq ⟨a, c, rfl, hf, ho, hkq⟩
  have hb := Blk.newL wq [.int .i64 0, .slice a (xp).length c] 27
  have hkb : Same wq (wq.alloc (.cells #[.int .i64 0, .slice a (xp).length c] 27)) := (Kept.refl _ _).alloc _
  have HZ := (show Hid (RxR w7 (wq.alloc (.cells #[.int .i64 0, .slice a (xp).length c] 27)) 60 (.pointer (some ⟨wq.heap.size, 0, none⟩)) 0 xp) from ⟨wq.heap.size, a, c, rfl, hkq.size, hb, ho.same hkb, hkq.trans hkb⟩)
  clear hf ho hkq hb hkb
  go_wp2_with fail
  go_meet
  case rel => exact HZ
 case rest =>
 obtain ⟨zR, za, zc, rfl, zr, zb, zo, zk⟩ := hcut.out
 have Hzb := hid zb
 have Hzo := hid zo
 have Hzk := hid zk
 clear hcut zb zo zk
 obtain ⟨w8, hw8⟩ : ∃ x, wc = x := ⟨_, rfl⟩
 rw [hw8] at Hzb Hzo Hzk ⊢
 clear hw8
 clear kZ h1'
 have HU8 := (show Hid (Same w5 w8) from (H56.out.trans Hhk.out).trans Hzk.out)
 have HX8 := hid (Huk.out.trans HU8.out)
 have HWA := (show Hid (∀ wx, Same w8 wx → Rd .u8 wx (.slice xa xn xc') xp ∧ Rd .u8 wx (.slice ua xn uc) xp ∧ Rd .u8 wx (.slice za xn zc) xp ∧ Rd .u8 wx pv raw) from fun wx hx => by
  rw [← HXN.out]
  exact ⟨(Hxo4.out.same (HX8.out.trans hx)).rd, (Huo.out.same (HU8.out.trans hx)).rd, (Hzo.out.same hx).rd, HR.out.same ((HW4.out.trans HX8.out).trans hx)⟩)
 have HXB := (show Hid (∀ wx, Same w8 wx → wx.cell? ⟨xR, 1, none⟩ = some (.slice xa xn xc')) from fun wx hx => by rw [← HXN.out]; exact (Hxb4.out.same (HX8.out.trans hx)).cell 1)
 have HUB := (show Hid (∀ wx, Same w8 wx → wx.cell? ⟨uR, 0, none⟩ = some (.int .i64 0) ∧ wx.cell? ⟨uR, 1, none⟩ = some (.slice ua xn uc)) from fun wx hx => by rw [← HXN.out]; exact ⟨(Hub.out.same (HU8.out.trans hx)).cell 0, (Hub.out.same (HU8.out.trans hx)).cell 1⟩)
 have HZB := (show Hid (∀ wx, Same w8 wx → wx.cell? ⟨zR, 0, none⟩ = some (.int .i64 0) ∧ wx.cell? ⟨zR, 1, none⟩ = some (.slice za xn zc)) from fun wx hx => by rw [← HXN.out]; exact ⟨(Hzb.out.same hx).cell 0, (Hzb.out.same hx).cell 1⟩)
 have HHB := (show Hid (∀ wx, Same w8 wx → wx.cell? ⟨hR, 0, none⟩ = some (.int .i64 0)) from fun wx hx => (Hhb.out.same (Hzk.out.trans hx)).cell 0)
 have HKE := hid (HK4.out.trans HX8.out)
 clear HK4 HX8 HU8 HU6 H56 Huk Hhk Hzk Hxb4 Hxo4 Hub Huo Hhb Hho Hzb Hzo HW4 HW6 HW7 HHN HF HR
 have hk8 : Same w8 w8 := Kept.refl _ _
 have x1 := HXB.out w8 hk8
 obtain ⟨u0, u1⟩ := HUB.out w8 hk8
 have kB1 := sameB_any (.slice ua xn uc) (.slice xa xn xc') xp w8 (HWA.out w8 hk8).2.1 (HWA.out w8 hk8).1
 clear hk8
 go_wp2_with fail
 refine kB1.mono ?_
 rintro e w9 ⟨rfl, hk9⟩
 have HK9 := hid hk9
 clear x1 u0 u1 kB1 hk9
 have x1 := HXB.out w9 HK9.out
 have h0' := HHB.out w9 HK9.out
 obtain ⟨z0, z1⟩ := HZB.out w9 HK9.out
 have kB2 := sameB_any (.slice za xn zc) (.slice xa xn xc') xp w9 (HWA.out w9 HK9.out).2.2.1 (HWA.out w9 HK9.out).1
 go_wp2_with fail
 refine kB2.mono ?_
 rintro e w10 ⟨rfl, hk10⟩
 have HK10 := hid (HK9.out.trans hk10)
 clear x1 h0' z0 z1 kB2 hk10 HK9
 have x1 := HXB.out w10 HK10.out
 have kF := implFault_any (.slice xa xn xc') xp number w10 (HALL.out 0).2.2.2.2.2.1 hxl (HWA.out w10 HK10.out).1
 rw [(HALL.out 0).2.2.2.1] at kF
 go_wp2_with fail
 refine kF.mono ?_
 rintro e w11 ⟨rfl, hk11⟩
 have HK11 := hid (HK10.out.trans hk11)
 clear x1 kF hk11 HK10
 have x1 := HXB.out w11 HK11.out
 have kL1 := implLSN_any (.slice xa xn xc') xp w11 (HALL.out 0).2.2.2.2.2.1 hxl (HWA.out w11 HK11.out).1
 obtain ⟨L1, hL1⟩ : ∃ z, pageLSN xp = z := ⟨_, rfl⟩
 obtain ⟨L2, hL2⟩ : ∃ z, pageLSN raw = z := ⟨_, rfl⟩
 have hLL : L2 ≤ L1 := by rw [← hL1, ← hL2]; exact (HALL.out 0).2.2.2.2.1
 rw [hL1] at kL1
 go_wp2_with fail
 refine kL1.mono ?_
 rintro e w12 ⟨rfl, hk12⟩
 have HK12 := hid (HK11.out.trans hk12)
 clear x1 kL1 hk12 HK11
 have kL2 := implLSN_any pv raw w12 HB.out (by omega) (HWA.out w12 HK12.out).2.2.2
 rw [hL2] at kL2
 clear hL1 hL2
 go_wp2_with fail
 refine kL2.mono ?_
 rintro e w13 ⟨rfl, hk13⟩
 have HK13 := hid ((HKE.out.trans HK12.out).trans hk13)
 clear kL2 hk13 HK12 HKE
 go_wp2
 go_ret
 exact ⟨by simp [hLL], HK13.out⟩
end Go.Proofs.Ytcldagphkpkdpaa
