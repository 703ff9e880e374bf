import Derived.Test.YtepdakgfioffgaaGreatG05
import Derived.Laws.StructEq
namespace Go.Proofs.YtepdakgfioffgaaGreat
set_option maxRecDepth 100000
set_option maxHeartbeats 16000000
set_option linter.unusedVariables false
set_option linter.unusedSimpArgs false
open Go.RowKit
def numAt (raw : List Int) (o n : Nat) : Int := getN ((raw.drop o).take n)
def slotsOf (raw : List Int) : List Int := (List.range 64).map fun j => numAt raw (20 + 2 * j) 2
theorem slotsOf_length (raw : List Int) : (slotsOf raw).length = 64 := by simp [slotsOf]
theorem slotsOf_at (raw : List Int) (j : Nat) (h : j < 64) : (slotsOf raw).getD j 0 = numAt raw (20 + 2 * j) 2 := by simp [slotsOf, List.getD, h]
def someOf (sl : List Int) (n : Nat) : List Int := sl.take n ++ List.replicate (64 - n) 0
theorem someOf_length (sl : List Int) (n : Nat) (h : sl.length = 64) (hn : n ≤ 64) : (someOf sl n).length = 64 := by simp [someOf, h]; omega
theorem someOf_set (sl : List Int) (n : Nat) (h : sl.length = 64) (hn : n < 64) : (someOf sl n).set n (sl.getD n 0) = someOf sl (n + 1) := by
 unfold someOf
 rw [List.set_append_right (h := by simp; omega)]
 have e : (sl.take n).length = n := by simp; omega
 rw [e, Nat.sub_self, show 64 - n = (64 - (n + 1)) + 1 from by omega, List.replicate_succ, List.set_cons_zero, List.take_succ_eq_append_getElem (by omega)]
 have e2 : sl.getD n 0 = sl[n] := by simp [List.getD, List.getElem?_eq_getElem (show n < sl.length by omega)]
 rw [e2, List.append_assoc]
 rfl
theorem spCells_set (sum : List Int) (lsn num bot : Int) (sl raw : List Int) (j : Nat) (x : Int) (h1 : sum.length = 4) (h2 : sl.length = 64) (hj : j < 64) : (spCells sum lsn num bot sl raw).set (7 + j) (.int .i64 x) = spCells sum lsn num bot (sl.set j x) raw := by
 have e : (vals .u8 sum).length = 4 := by rw [vals_length, h1]
 unfold spCells
 rw [List.set_append_right (h := by omega), e, show 7 + j - 4 = j + 1 + 1 + 1 from by omega, List.set_cons_succ, List.set_cons_succ, List.set_cons_succ, List.set_append_left (h := by rw [vals_length, h2]; exact hj)]
 simp [vals]
theorem SP.slot {w : World} {B : Nat} {sum : List Int} {lsn num bot : Int} {sl raw : List Int} (h : SP w B sum lsn num bot sl raw) (j : Nat) (hj : j < 64) (x : Int) : SP (w.setCell ⟨B, 7 + j, none⟩ (.int .i64 x)) B sum lsn num bot (sl.set j x) raw := by
 refine ⟨?_, h.l1, by rw [List.length_set]; exact h.l2, h.l3⟩
 rw [← spCells_set sum lsn num bot sl raw j x h.l1 h.l2 hj]
 exact h.blk.stored _ _
theorem num_at (B o n c : Nat) (raw : List Int) (w : World) (hb : Blk w B 205 (vals .u8 raw)) (hB : IsB raw) (hl : raw.length = 4096) (hn : o + n ≤ 4096) (hc : n ≤ c) :
  Calls Tryz.prog 171 #[.slice (some ⟨B, o, none⟩) n c] w fun e w' => e = .returned (.int .i64 (numAt raw o n)) ∧ Same w w' :=
 implGet_any _ _ w (isB_take (isB_drop hB o) n) (by simp; omega) (hb.rd o n c (by omega) hc (by rw [hl]; decide))
section
variable {P : Program} {fi : Array Oper} {S : World → Prop} {o : Oper} {a : Act}
theorem yields_build82 (rf : o.guard = none) (x0 x1 x2 x3 x5 : Operand) (Uv : o.op = Op.build 212 #[(0, x0), (1, x1), (2, x2), (3, x3), (5, x5)]) (sum : List Int) (lsn num bot : Int) (raw : List Int) (cs ds : Array Value)
  (e0 : a.eval x0 = .agg ds) (e1 : a.eval x1 = .int .i64 lsn) (e2 : a.eval x2 = .int .i64 num) (e3 : a.eval x3 = .int .i64 bot) (e5 : a.eval x5 = .agg cs) (lR : ds = (vals .u8 sum).toArray) (dY : cs = (vals .u8 raw).toArray) (h1 : sum.length = 4) (h3 : raw.length = 4096) :
  YieldsIf Tryz.prog fi S o (.agg (spCells sum lsn num bot (List.replicate 64 0) raw).toArray) a := by
 have hw : Region.wanted o (yielded fi a.tmps) = true := by simp [Region.wanted, rf]
 have hb := build82 sum lsn num bot raw h1 h3
 refine .inl ⟨hw, fun w _ => ?_⟩
 have yO := run_build (P := Tryz.prog) w _ #[(0, .agg (vals .u8 sum).toArray), (1, .int .i64 lsn), (2, .int .i64 num), (3, .int .i64 bot), (5, .agg (vals .u8 raw).toArray)] _ hb
 unfold execOp
 simp only [Uv]
 have e : (#[(0, x0), (1, x1), (2, x2), (3, x3), (5, x5)] : Array (Nat × Operand)).map (fun (i, x) => (i, a.eval x)) = #[(0, .agg (vals .u8 sum).toArray), (1, .int .i64 lsn), (2, .int .i64 num), (3, .int .i64 bot), (5, .agg (vals .u8 raw).toArray)] := by simp [e0, e1, e2, e3, e5, lR, dY]
 rw [e]
 simp only [Sem.run_bind, yO, Result.andThen_ok]
 rfl
end
theorem run_array4 (w : World) (ad : Option Addr) (c : Nat) : (Instr.arrayAt 207 (.slice ad 4 c)).run Tryz.prog w = .ok (.pointer ad) w := by
 simp [Instr.arrayAt, run_underlying Tryz.underlying207]
theorem takeApart_any (raw : List Int) (w : World) (hB : IsB raw) (hl : raw.length = 4096) :
  Calls Tryz.prog 169 #[.agg (vals .u8 raw).toArray] w fun e w' => ∃ P, e = .returned (.pointer (some ⟨P, 0, none⟩)) ∧ w.heap.size ≤ P ∧
   SP w' P (raw.take 4) (numAt raw 4 8) (numAt raw 12 4) (numAt raw 16 2) (slotsOf raw) raw ∧ Same w w' := by
 obtain ⟨cs, dY⟩ : ∃ cs : Array Value, (vals .u8 raw).toArray = cs := ⟨_, rfl⟩
 have i1 : cs.size = 4096 := by rw [← dY]; simp [vals, hl]
 have l6 := (show Hid (cs = (vals .u8 raw).toArray) from dY.symm)
 have HB := (show Hid (IsB raw) from hB)
 have HL := (show Hid (raw.length = 4096) from hl)
 have fx : Blk (w.alloc (.cells cs 205)) w.heap.size 205 (vals .u8 raw) := by
  have h := Blk.new w cs 205
  rw [← dY] at h ⊢
  exact h
 have bg : Same w (w.alloc (.cells cs 205)) := (Kept.refl _ _).alloc _
 obtain ⟨w1, fC⟩ : ∃ w1, w.alloc (.cells cs 205) = w1 := ⟨_, rfl⟩
 have j0 : w1.heap.size = w.heap.size + 1 := by rw [← fC]; simp
 rw [fC] at fx bg
 have bG := (show Hid (Blk w1 w.heap.size 205 (vals .u8 raw)) from fx)
 have bq := (show Hid (Same w w1) from bg)
 have t6 : (raw.take 4).length = 4 := by simp; omega
 have pn : w1.rangeAt w.heap.size 0 (vals .u8 raw) := fx.rangeAll
 have pq : w1.rangeAt w.heap.size 0 (vals .u8 (raw.take 4)) := fx.range 0 _ (fun j v hv => by
  have hj : j < 4 := by have := (List.getElem?_eq_some_iff.1 hv).1; rwa [vals_length, t6] at this
  rw [← hv, Nat.zero_add, vals_at _ _ _ (by omega), vals_at _ _ _ (by omega)]
  simp [List.getD, List.getElem?_take, hj])
 have qw : (Tryz.prog.info? 205).map (·.size) = some (vals .u8 raw).length := by rw [vals_length, hl]; exact page_info
 have yA : (Tryz.prog.info? 207).map (·.size) = some (vals .u8 (raw.take 4)).length := by rw [vals_length, t6]; exact (by kernel_rfl : (Tryz.prog.info? 207).map (·.size) = some 4)
 obtain ⟨cl, j7⟩ : ∃ cl : List Value, vals .u8 raw = cl := ⟨_, rfl⟩
 obtain ⟨dl, oS⟩ : ∃ dl : List Value, vals .u8 (raw.take 4) = dl := ⟨_, rfl⟩
 rw [j7] at pn qw
 rw [oS] at pq yA
 have jw := (show Hid (cl.toArray = (vals .u8 raw).toArray) from (by rw [j7] : cl.toArray = (vals .u8 raw).toArray))
 have Rz := (show Hid (dl.toArray = (vals .u8 (raw.take 4)).toArray) from (by rw [oS] : dl.toArray = (vals .u8 (raw.take 4)).toArray))
 have tf := run_array4
 rw [dY]
 clear dY hB hl fx bg j7 oS
 go_enter Tryz.func169, Tryz.ntmps169
 go_wp2_with fail
 try rw [fC]
 clear fC
 have hS : (fun wx : World => wx.rangeAt w.heap.size 0 cl ∧ wx.rangeAt w.heap.size 0 dl) w1.drew := by exact ⟨pn, pq⟩
 refine wp_region_V (fun wx : World => wx.rangeAt w.heap.size 0 cl ∧ wx.rangeAt w.heap.size 0 dl) 99 13 rfl (by kernel_rfl) ?_
 refine tk 0 6 hS ?_
 refine tk 1 7 hS ?_
 refine wpAnyV_take (i := 2) (v := .agg dl.toArray) (some 8) rfl rfl (by kernel_rfl) (by kernel_rfl) (by kernel_rfl) (by kernel_rfl) (fun _ _ _ h => h) (yieldsIf_load_mid (by rfl) 207 _ rfl w.heap.size 0 rfl dl _ (fun _ h => h.2) Tryz.underlying207 rfl yA) hS ?_
 try simp only [Act.put, sA, s0, sS]
 refine tk 3 9 hS ?_
 refine tk 5 11 hS ?_
 refine tk 7 13 hS ?_
 refine wpAnyV_take (i := 9) (v := .agg cl.toArray) (some 15) rfl rfl (by kernel_rfl) (by kernel_rfl) (by kernel_rfl) (by kernel_rfl) (fun _ _ _ h => h) (yieldsIf_load_mid (by rfl) 205 _ rfl w.heap.size 0 rfl cl _ (fun _ h => h.1) Tryz.underlying205 rfl qw) hS ?_
 try simp only [Act.put, sA, s0, sS]
 refine wpAnyV_one (i := 4) (by kernel_rfl) rfl (fun K hK => ?_)
 go_simp
 have hc := num_at w.heap.size 4 8 4092 raw w1.drew (bG.out.same ((Kept.refl _ _).drew)) HB.out HL.out (by decide) (by decide)
 with_reducible refine hc.mono ?_
 clear hc
 rintro e w2 ⟨rfl, bJ⟩
 have cY : Same w1 w2 := Kept.trans ((Kept.refl _ _).drew) bJ
 clear bJ
 have hS : (fun wx : World => wx.rangeAt w.heap.size 0 cl ∧ wx.rangeAt w.heap.size 0 dl) w2 := ⟨Kept.ranges cY pn, Kept.ranges cY pq⟩
 refine hK.out _ _ (fun _ => hS) ?_
 clear hK K
 try simp only [Act.put, sA, s0, sS]
 refine wpAnyV_one (i := 6) (by kernel_rfl) rfl (fun K hK => ?_)
 go_simp
 have hc := num_at w.heap.size 12 4 4084 raw w2 (bG.out.same (cY)) HB.out HL.out (by decide) (by decide)
 with_reducible refine hc.mono ?_
 clear hc
 rintro e w3 ⟨rfl, bJ⟩
 have iV : Same w1 w3 := Kept.trans (cY) bJ
 clear bJ
 have hS : (fun wx : World => wx.rangeAt w.heap.size 0 cl ∧ wx.rangeAt w.heap.size 0 dl) w3 := ⟨Kept.ranges iV pn, Kept.ranges iV pq⟩
 refine hK.out _ _ (fun _ => hS) ?_
 clear hK K
 try simp only [Act.put, sA, s0, sS]
 refine wpAnyV_one (i := 8) (by kernel_rfl) rfl (fun K hK => ?_)
 go_simp
 have hc := num_at w.heap.size 16 2 4080 raw w3 (bG.out.same (iV)) HB.out HL.out (by decide) (by decide)
 with_reducible refine hc.mono ?_
 clear hc
 rintro e w4 ⟨rfl, bJ⟩
 have bC : Same w1 w4 := Kept.trans (iV) bJ
 clear bJ
 have hS : (fun wx : World => wx.rangeAt w.heap.size 0 cl ∧ wx.rangeAt w.heap.size 0 dl) w4 := ⟨Kept.ranges bC pn, Kept.ranges bC pq⟩
 refine hK.out _ _ (fun _ => hS) ?_
 clear hK K
 try simp only [Act.put, sA, s0, sS]
 refine wpAnyV_take (i := 10) (v := .agg (spCells (raw.take 4) (numAt raw 4 8) (numAt raw 12 4) (numAt raw 16 2) (List.replicate 64 0) raw).toArray) (some 16) rfl rfl (by kernel_rfl) (by kernel_rfl) (by kernel_rfl) (by kernel_rfl) (fun _ _ _ h => h) (yields_build82 rfl _ _ _ _ _ rfl (raw.take 4) (numAt raw 4 8) (numAt raw 12 4) (numAt raw 16 2) raw cl.toArray dl.toArray rfl rfl rfl rfl rfl Rz.out jw.out t6 HL.out) hS ?_
 try simp only [Act.put, sA, s0, sS]
 obtain ⟨pl, oH⟩ : ∃ pl : Array Value, (spCells (raw.take 4) (numAt raw 4 8) (numAt raw 12 4) (numAt raw 16 2) (List.replicate 64 0) raw).toArray = pl := ⟨_, rfl⟩
 have VH : pl.size = 4167 := by rw [← oH, List.size_toArray]; exact spCells_length t6 List.length_replicate HL.out
 have qk := (show Hid ((spCells (raw.take 4) (numAt raw 4 8) (numAt raw 12 4) (numAt raw 16 2) (List.replicate 64 0) raw).toArray = pl) from oH)
 rw [oH]
 clear oH
 refine wpAnyV_one (i := 11) (by kernel_rfl) rfl (fun K hK => ?_)
 go_simp
 have hP : w.heap.size + 1 ≤ w4.heap.size := by have := bC.size; omega
 have nS : SP (w4.alloc (.cells pl 212)) w4.heap.size (raw.take 4) (numAt raw 4 8) (numAt raw 12 4) (numAt raw 16 2) (someOf (slotsOf raw) (2 * 0)) raw := by
  refine ⟨?_, t6, someOf_length _ _ (slotsOf_length raw) (by decide), HL.out⟩
  have h := Blk.new w4 pl 212
  rw [← qk.out] at h ⊢
  exact h
 have n0 : Same w1 (w4.alloc (.cells pl 212)) := bC.trans ((Kept.refl _ _).alloc _)
 obtain ⟨w5, Pt⟩ : ∃ w5, w4.alloc (.cells pl 212) = w5 := ⟨_, rfl⟩
 rw [Pt] at nS n0 ⊢
 obtain ⟨P, MY⟩ : ∃ P, w4.heap.size = P := ⟨_, rfl⟩
 rw [MY] at nS hP ⊢
 have Ge := (show Hid (SP w5 P (raw.take 4) (numAt raw 4 8) (numAt raw 12 4) (numAt raw 16 2) (someOf (slotsOf raw) (2 * 0)) raw) from nS)
 have jQ := hid (bG.out.same n0)
 have fM := hid (bq.out.trans n0)
 have hS : (fun wx : World => wx.rangeAt w.heap.size 0 cl ∧ wx.rangeAt w.heap.size 0 dl) w5 := ⟨Kept.ranges n0 pn, Kept.ranges n0 pq⟩
 clear Pt nS MY
 refine hK.out _ _ (fun _ => hS) ?_
 clear hK K
 try simp only [Act.put, sA, s0, sS]
 refine tk 12 3 hS ?_
 refine wpAnyV_done (by kernel_rfl) ?_
 try simp only [Act.put, sA, s0, sS]
 clear hS n0 cY iV bC pn pq qw yA
 go_wp2_with fail
 go_loopw [4, 5, 18] (fun _ _ i wr => ∃ k : Nat, k ≤ 32 ∧ i = .int .i64 k ∧ Hid (SP wr P (raw.take 4) (numAt raw 4 8) (numAt raw 12 4) (numAt raw 16 2) (someOf (slotsOf raw) (2 * k)) raw) ∧ Hid (Blk wr w.heap.size 205 (vals .u8 raw)) ∧ Hid (Same w wr)) (fun _ _ i _ => 32 - (intOf i).toNat)
 case atStart => exact ⟨0, by omega, rfl, Ge, jQ, fM⟩
 case round =>
  obtain ⟨k, hk, rfl, mX, zE, ef⟩ := hrel
  by_cases dh : k < 32
  ·have eC : (k : Int) < 32 := by omega
   have ix : (0 : Int) ≤ (k : Int) := by omega
   have HX := (show Hid ((slotsOf raw).getD (2 * k) 0 = numAt raw (20 + 4 * k) 2) from (by rw [slotsOf_at _ _ (by omega), show 20 + 2 * (2 * k) = 20 + 4 * k from by omega] : (slotsOf raw).getD (2 * k) 0 = numAt raw (20 + 4 * k) 2))
   have HY := (show Hid ((slotsOf raw).getD (2 * k + 1) 0 = numAt raw (20 + 4 * k + 2) 2) from (by rw [slotsOf_at _ _ (by omega), show 20 + 2 * (2 * k + 1) = 20 + 4 * k + 2 from by omega] : (slotsOf raw).getD (2 * k + 1) 0 = numAt raw (20 + 4 * k + 2) 2))
   go_wp2_with fail
   obtain ⟨oo, Mn⟩ : ∃ oo : Nat, 20 + 4 * k = oo := ⟨_, rfl⟩
   have e1 : (20 + (k : Int) * 4) = (oo : Int) := by omega
   rw [e1]
   rw [Mn] at HX HY
   obtain ⟨X, hX⟩ : ∃ X, (slotsOf raw).getD (2 * k) 0 = X := ⟨_, rfl⟩
   obtain ⟨Y, hY⟩ : ∃ Y, (slotsOf raw).getD (2 * k + 1) 0 = Y := ⟨_, rfl⟩
   have Nk := (show Hid ((slotsOf raw).getD (2 * k) 0 = X) from hX)
   have Md := (show Hid ((slotsOf raw).getD (2 * k + 1) 0 = Y) from hY)
   have S2 := (show Hid (numAt raw oo 2 = X) from HX.out.symm.trans hX)
   have Uz := (show Hid (numAt raw (oo + 2) 2 = Y) from HY.out.symm.trans hY)
   clear hX hY HX HY
   have o1 : (oo : Int) + 2 ≤ 4096 := by omega
   have o2 : (0 : Int) ≤ (oo : Int) := by omega
   have o3 : IntKind.i64.wrap ((oo : Int) + 2) = (oo : Int) + 2 := by rw [IntKind.wrap_i64]; omega
   have o4 : (oo : Int) ≤ (oo : Int) + 2 := by omega
   have o5 : ((oo : Int) + 2).toNat = oo + 2 := by omega
   have o6 : oo + 2 - oo = 2 := by omega
   have o7 : oo < 4096 := by omega
   have o8 : ¬ 4096 = oo := by omega
   have p3 : IntKind.i64.wrap ((oo : Int) + 4) = (oo : Int) + 4 := by rw [IntKind.wrap_i64]; omega
   have p1 : (oo : Int) + 4 ≤ 4096 := by omega
   have p4 : (oo : Int) + 2 ≤ (oo : Int) + 4 := by omega
   have p2 : (0 : Int) ≤ (oo : Int) + 2 := by omega
   have p5 : ((oo : Int) + 4).toNat = oo + 4 := by omega
   have p6 : oo + 4 - (oo + 2) = 2 := by omega
   have p7 : oo + 2 < 4096 := by omega
   have p8 : ¬ 4096 = oo + 2 := by omega
   have hS : (fun _ : World => True) wr.drew := by trivial
   refine wp_region_V (fun _ : World => True) 99 12 rfl (by kernel_rfl) ?_
   refine tk 0 24 hS ?_
   refine tk 1 25 hS ?_
   refine tk 2 26 hS ?_
   refine tk 3 27 hS ?_
   refine tk 4 28 hS ?_
   refine tk 5 29 hS ?_
   refine tk 7 31 hS ?_
   refine tk 8 32 hS ?_
   refine wpAnyV_one (i := 6) (by kernel_rfl) rfl (fun K hK => ?_)
   go_simp
   have hc := num_at w.heap.size (oo) 2 (4096 - oo) raw wr.drew (zE.out.same (Kept.refl _ _).drew) HB.out HL.out (by omega) (by omega)
   with_reducible refine hc.mono ?_
   clear hc
   rintro e w6 ⟨rfl, bJ⟩
   have gE : Same wr w6 := (Kept.refl _ _).drew.trans bJ
   rw [S2.out]
   have uZ := hid (mX.out.same gE)
   have D6 := hid (zE.out.same gE)
   have sM := hid (ef.out.trans gE)
   clear bJ gE
   refine hK.out _ _ (fun _ => trivial) ?_
   clear hK K
   try simp only [Act.put, sA, s0, sS]
   refine tk 9 33 hS ?_
   refine tk 10 34 hS ?_
   have c6 := uZ.out.slAt (2 * k) (by omega)
   have f6 := uZ.out.blk.frozen (7 + 2 * k)
   rw [show 7 + 2 * k = 7 + k * 2 from by omega] at c6 f6
   refine wpAnyV_one (i := 11) (by kernel_rfl) rfl (fun K hK => ?_)
   go_simp
   have EN := uZ.out.slot (2 * k) (by omega) X
   rw [← Nk.out, someOf_set _ _ (slotsOf_length raw) (by omega), Nk.out, show 7 + 2 * k = 7 + k * 2 from by omega] at EN
   have l0 := Kept.setCell (R := fun b => b = P) (Kept.refl _ w6) (p := ⟨P, 7 + k * 2, none⟩) (.inr rfl) (.int .i64 X)
   obtain ⟨w7, rm⟩ : ∃ w7, w6.setCell ⟨P, 7 + k * 2, none⟩ (.int .i64 X) = w7 := ⟨_, rfl⟩
   rw [rm] at EN l0 ⊢
   have tM := (show Hid (SP w7 P (raw.take 4) (numAt raw 4 8) (numAt raw 12 4) (numAt raw 16 2) (someOf (slotsOf raw) (2 * k + 1)) raw) from EN)
   have nu := hid (D6.out.kept l0 (by omega))
   have fy := hid (sM.out.next l0 (fun i hi e => by omega))
   clear EN l0 rm c6 f6 uZ D6 sM
   refine hK.out _ _ (fun _ => trivial) ?_
   clear hK K hS
   refine wpAnyV_done (by kernel_rfl) ?_
   try simp only [Act.put, sA, s0, sS]
   go_wp2_with fail
   have hS : (fun _ : World => True) w7.drew := by trivial
   refine wp_region_V (fun _ : World => True) 99 13 rfl (by kernel_rfl) ?_
   refine tk 0 35 hS ?_
   refine tk 1 36 hS ?_
   refine tk 2 37 hS ?_
   refine tk 3 38 hS ?_
   refine tk 4 39 hS ?_
   refine tk 5 40 hS ?_
   refine tk 6 41 hS ?_
   refine tk 8 43 hS ?_
   refine tk 9 44 hS ?_
   refine wpAnyV_one (i := 7) (by kernel_rfl) rfl (fun K hK => ?_)
   go_simp
   have hc := num_at w.heap.size (oo + 2) 2 (4094 - oo) raw w7.drew (nu.out.same (Kept.refl _ _).drew) HB.out HL.out (by omega) (by omega)
   with_reducible refine hc.mono ?_
   clear hc
   rintro e w8 ⟨rfl, bJ⟩
   have gE : Same w7 w8 := (Kept.refl _ _).drew.trans bJ
   rw [Uz.out]
   have um := hid (tM.out.same gE)
   have DK := hid (nu.out.same gE)
   have rL := hid (fy.out.trans gE)
   clear bJ gE
   refine hK.out _ _ (fun _ => trivial) ?_
   clear hK K
   try simp only [Act.put, sA, s0, sS]
   refine tk 10 45 hS ?_
   refine tk 11 46 hS ?_
   have c8 := um.out.slAt (2 * k + 1) (by omega)
   have f8 := um.out.blk.frozen (7 + (2 * k + 1))
   rw [show 7 + (2 * k + 1) = 7 + k * 2 + 1 from by omega] at c8 f8
   refine wpAnyV_one (i := 12) (by kernel_rfl) rfl (fun K hK => ?_)
   go_simp
   have ER := um.out.slot (2 * k + 1) (by omega) Y
   rw [← Md.out, someOf_set _ _ (slotsOf_length raw) (by omega), Md.out, show 7 + (2 * k + 1) = 7 + k * 2 + 1 from by omega, show 2 * k + 1 + 1 = 2 * (k + 1) from by omega] at ER
   have j5 := Kept.setCell (R := fun b => b = P) (Kept.refl _ w8) (p := ⟨P, 7 + k * 2 + 1, none⟩) (.inr rfl) (.int .i64 Y)
   obtain ⟨w9, Oj⟩ : ∃ w9, w8.setCell ⟨P, 7 + k * 2 + 1, none⟩ (.int .i64 Y) = w9 := ⟨_, rfl⟩
   rw [Oj] at ER j5 ⊢
   have iZ := (show Hid (SP w9 P (raw.take 4) (numAt raw 4 8) (numAt raw 12 4) (numAt raw 16 2) (someOf (slotsOf raw) (2 * (k + 1))) raw) from ER)
   have iK := hid (DK.out.kept j5 (by omega))
   have tV := hid (rL.out.next j5 (fun i hi e => by omega))
   clear ER j5 Oj c8 f8 um DK rL
   refine hK.out _ _ (fun _ => trivial) ?_
   clear hK K hS
   refine wpAnyV_done (by kernel_rfl) ?_
   try simp only [Act.put, sA, s0, sS]
   go_wp2
   go_roundw
   case rel => exact ⟨k + 1, by omega, by go_num, iZ, iK, tV⟩
   case measure => simp [intOf]; omega
  ·obtain rfl : k = 32 := by omega
   go_wp2
   go_ret
   have h := mX.out
   have e : someOf (slotsOf raw) (2 * 32) = slotsOf raw := by simp [someOf, List.take_of_length_le, slotsOf_length]
   rw [e] at h
   exact ⟨P, rfl, by omega, h, ef.out⟩
theorem used_any (x y : Int) (w : World) : Calls Tryz.prog 176 #[.agg #[.int .i64 x, .int .i64 y]] w fun e w' => e = .returned (.bool (x != 0)) ∧ Same w w' := by
 go_enter Tryz.func176, Tryz.ntmps176
 go_wp2
 go_ret
 exact ⟨rfl, (Kept.refl _ _).alloc _⟩
theorem end_any (x y : Int) (w : World) (hx : 0 ≤ x ∧ x ≤ 65535) (hy : 0 ≤ y ∧ y ≤ 65535) : Calls Tryz.prog 177 #[.agg #[.int .i64 x, .int .i64 y]] w fun e w' => e = .returned (.int .i64 (x + y)) ∧ Same w w' := by
 go_enter Tryz.func177, Tryz.ntmps177
 go_wp2
 go_ret
 exact ⟨rfl, (Kept.refl _ _).alloc _⟩
def isLSN (x : Int) : Bool := decide (0 ≤ x) && decide (x ≤ 1099511627776)
theorem isLSN_any (x : Int) (w : World) : Calls Tryz.prog 151 #[.int .i64 x] w fun e w' => e = .returned (.bool (isLSN x)) ∧ Same w w' := by
 by_cases h : 0 ≤ x
 ·go_enter Tryz.func151, Tryz.ntmps151
  go_wp2
  go_ret
  refine ⟨?_, Kept.refl _ _⟩
  simp [isLSN, h]
 ·have e : isLSN x = false := by simp [isLSN, h]
  rw [e]
  go_enter Tryz.func151, Tryz.ntmps151
  go_wp2
  go_ret
  exact ⟨rfl, Kept.refl _ _⟩
def sharesB (x y x' y' : Int) : Bool := decide (max x x' < min (x + y) (x' + y'))
theorem shares_any (x y x' y' : Int) (w : World) (hx : 0 ≤ x ∧ x ≤ 65535) (hy : 0 ≤ y ∧ y ≤ 65535) (pQ : 0 ≤ x' ∧ x' ≤ 65535) (EP : 0 ≤ y' ∧ y' ≤ 65535) :
  Calls Tryz.prog 178 #[.agg #[.int .i64 x, .int .i64 y], .agg #[.int .i64 x', .int .i64 y']] w fun e w' => e = .returned (.bool (sharesB x y x' y')) ∧ Same w w' := by
 go_enter Tryz.func178, Tryz.ntmps178
 go_wp2_with fail
 have fx := (Blk.new w #[.int .i64 x, .int .i64 y] 209).alloc (.cells #[.int .i64 x', .int .i64 y'] 209)
 have fW := Blk.new (w.alloc (.cells #[.int .i64 x, .int .i64 y] 209)) #[.int .i64 x', .int .i64 y'] 209
 have bg : Same w ((w.alloc (.cells #[.int .i64 x, .int .i64 y] 209)).alloc (.cells #[.int .i64 x', .int .i64 y'] 209)) := ((Kept.refl _ _).alloc _).alloc _
 rw [World.size_alloc] at fW
 obtain ⟨w1, fC⟩ : ∃ w1, (w.alloc (.cells #[.int .i64 x, .int .i64 y] 209)).alloc (.cells #[.int .i64 x', .int .i64 y'] 209) = w1 := ⟨_, rfl⟩
 rw [fC] at fx fW bg ⊢
 clear fC
 let Y1 : World → Prop := fun wx : World => wx.cell? ⟨w.heap.size, 0, none⟩ = some (.int .i64 x) ∧ wx.cell? ⟨w.heap.size, 1, none⟩ = some (.int .i64 y) ∧ wx.cell? ⟨w.heap.size + 1, 0, none⟩ = some (.int .i64 x') ∧ wx.cell? ⟨w.heap.size + 1, 1, none⟩ = some (.int .i64 y')
 have cI : ∀ wx, Same w1 wx → Y1 wx := fun wx h => ⟨by rw [(fx.same h).cell]; rfl, by rw [(fx.same h).cell]; rfl, by rw [(fW.same h).cell]; rfl, by rw [(fW.same h).cell]; rfl⟩
 have hS : Y1 w1.drew := by exact cI _ (Kept.refl _ _).drew
 refine wp_region_V Y1 99 12 rfl (by kernel_rfl) ?_
 refine tk 0 5 hS ?_
 refine tk 1 6 hS ?_
 refine tk 2 7 hS ?_
 refine tk 3 8 hS ?_
 refine tk 4 9 hS ?_
 refine tk 5 10 hS ?_
 refine tk 7 12 hS ?_
 refine wpAnyV_one (i := 6) (by kernel_rfl) rfl (fun K hK => ?_)
 go_simp
 have hc := end_any x y w1.drew hx hy
 with_reducible refine hc.mono ?_
 clear hc
 rintro e w2 ⟨rfl, bJ⟩
 have cY : Same w1 w2 := Kept.trans ((Kept.refl _ _).drew) bJ
 clear bJ
 have hS : Y1 w2 := cI _ cY
 refine hK.out _ _ (fun _ => hS) ?_
 clear hK K
 try simp only [Act.put, sA, s0, sS]
 refine wpAnyV_one (i := 8) (by kernel_rfl) rfl (fun K hK => ?_)
 go_simp
 have hc := end_any x' y' w2 pQ EP
 with_reducible refine hc.mono ?_
 clear hc
 rintro e w3 ⟨rfl, bJ⟩
 have iV : Same w1 w3 := Kept.trans (cY) bJ
 clear bJ
 have hS : Y1 w3 := cI _ iV
 refine hK.out _ _ (fun _ => hS) ?_
 clear hK K
 try simp only [Act.put, sA, s0, sS]
 refine tk 9 14 hS ?_
 refine tk 10 15 hS ?_
 refine tk 11 4 hS ?_
 refine wpAnyV_done (by kernel_rfl) ?_
 go_wp2
 all_goals
  go_ret
  refine ⟨congrArg (fun b => Ending.returned (.bool b)) (?_ : _ = sharesB x y x' y'), bg.trans iV⟩
  unfold sharesB
  first
   | (rw [decide_eq_decide]; omega)
   | (symm; rw [decide_eq_true_eq]; omega)
   | (symm; rw [decide_eq_false_iff_not]; omega)
   | (rw [decide_eq_decide]; repeat (first | omega | split))
def astrayAt (bot x y : Int) : Bool := (x != 0 && (decide (1000 < y) || decide (x < bot) || decide (4096 < x + y))) || (x == 0 && y != 0)
def astray (bot : Int) (sl : List Int) : Bool := (List.range 32).any fun i => astrayAt bot (sl.getD (2 * i) 0) (sl.getD (2 * i + 1) 0)
theorem astray_yes (bot : Int) (sl : List Int) (k : Nat) (hk : k < 32) (h : astrayAt bot (sl.getD (2 * k) 0) (sl.getD (2 * k + 1) 0) = true) : astray bot sl = true := by
 unfold astray
 rw [List.any_eq_true]
 exact ⟨k, List.mem_range.2 hk, h⟩
theorem astray_no (bot : Int) (sl : List Int) (h : ∀ k < 32, astrayAt bot (sl.getD (2 * k) 0) (sl.getD (2 * k + 1) 0) = false) : astray bot sl = false := by
 unfold astray
 rw [List.any_eq_false]
 intro k hk
 rw [h k (List.mem_range.1 hk)]
 simp
def Small (sl : List Int) : Prop := ∀ x ∈ sl, 0 ≤ x ∧ x ≤ 65535
theorem Small.at {sl : List Int} (h : Small sl) (k : Nat) : 0 ≤ sl.getD k 0 ∧ sl.getD k 0 ≤ 65535 := by
 by_cases hk : k < sl.length
 ·have : sl.getD k 0 = sl[k] := by simp [hk]
  rw [this]
  exact h _ (List.getElem_mem hk)
 ·simp [List.getD, List.getElem?_eq_none (show sl.length ≤ k by omega)]
theorem slotsAstray_any (P : Nat) (sum : List Int) (lsn num bot : Int) (sl raw : List Int) (w : World) (hp : SP w P sum lsn num bot sl raw) (hs : Small sl) :
  Calls Tryz.prog 173 #[.pointer (some ⟨P, 0, none⟩)] w fun e w' => e = .returned (.bool (astray bot sl)) ∧ Same w w' := by
 have TJ := hp.blk.lt
 have HP := (show Hid (SP w P sum lsn num bot sl raw) from hp)
 have oX := (show Hid (Small sl) from hs)
 have wU := (show Hid ((Tryz.prog.info? 210).map (·.size) = some (vals .i64 sl).length) from (by rw [vals_length, hp.l2]; exact (by kernel_rfl : (Tryz.prog.info? 210).map (·.size) = some 64) : (Tryz.prog.info? 210).map (·.size) = some (vals .i64 sl).length))
 have zV := (show Hid (w.rangeAt P 7 (vals .i64 sl)) from hp.slRange)
 obtain ⟨ss, sV⟩ : ∃ ss : List Value, vals .i64 sl = ss := ⟨_, rfl⟩
 have Ay := (show Hid (vals .i64 sl = ss) from sV)
 rw [sV] at wU zV
 clear sV hp hs
 obtain ⟨R, hR⟩ : ∃ R, astray bot sl = R := ⟨_, rfl⟩
 have HR := (show Hid (astray bot sl = R) from hR)
 rw [hR]
 clear hR
 go_enter Tryz.func173, Tryz.ntmps173
 go_wp2_with (refine wpList_load_mid rfl 210 _ rfl P 7 rfl ss _ zV.out Tryz.underlying210 rfl wU.out ?_)
 go_loopw [4, 9] (fun _ i wr => ∃ k : Nat, k ≤ 32 ∧ i = .int .i64 k ∧ Hid (∀ j < k, astrayAt bot (sl.getD (2 * j) 0) (sl.getD (2 * j + 1) 0) = false) ∧ Hid (Same w wr)) (fun _ i _ => 32 - (intOf i).toNat)
 case atStart => exact ⟨0, by omega, rfl, fun j hj => by omega, Kept.refl _ _⟩
 case round =>
  obtain ⟨k, hk, rfl, tR, ef⟩ := hrel
  by_cases dh : k < 32
  ·have eC : (k : Int) < 32 := by omega
   have Am := fun w => slot_at sl HP.out.l2 k dh w
   rw [Ay.out] at Am
   have Bu := oX.out.at (2 * k)
   have Er := oX.out.at (2 * k + 1)
   have my := (show Hid (astrayAt bot (sl.getD (2 * k) 0) (sl.getD (2 * k + 1) 0) = true → R = true) from fun h => by rw [← HR.out]; exact astray_yes bot sl k dh h)
   have zt := (show Hid (astrayAt bot (sl.getD (2 * k) 0) (sl.getD (2 * k + 1) 0) = false → ∀ j < k + 1, astrayAt bot (sl.getD (2 * j) 0) (sl.getD (2 * j + 1) 0) = false) from fun h j hj => by
    by_cases e : j = k
    ·rw [e]; exact h
    ·exact tR.out j (by omega))
   generalize sl.getD (2 * k) 0 = x at *
   generalize sl.getD (2 * k + 1) 0 = y at *
   go_wp2_with fail
   have oV := Blk.new wr #[.int .i64 x, .int .i64 y] 209
   have l0 : Same wr (wr.alloc (.cells #[.int .i64 x, .int .i64 y] 209)) := (Kept.refl _ _).alloc _
   obtain ⟨w7, rm⟩ : ∃ w7, wr.alloc (.cells #[.int .i64 x, .int .i64 y] 209) = w7 := ⟨_, rfl⟩
   rw [rm] at l0 oV ⊢
   have zH := (HP.out.same (ef.out.trans l0)).num3.2.2
   let Y1 : World → Prop := fun wx : World => wx.cell? ⟨wr.heap.size, 0, none⟩ = some (.int .i64 x) ∧ wx.cell? ⟨wr.heap.size, 1, none⟩ = some (.int .i64 y) ∧ wx.cell? ⟨P, 6, none⟩ = some (.int .i64 bot)
   have cI : ∀ wx, Same w7 wx → Y1 wx := fun wx h => ⟨by rw [(oV.same h).cell]; rfl, by rw [(oV.same h).cell]; rfl, h.cellOf zH id⟩
   have AE := hid (ef.out.trans l0)
   clear rm l0
   by_cases lz : x = 0
   ·have nB : (x != 0) = false := by rw [lz]; rfl
    have LD := (show Hid (x = 0) from lz)
    clear lz
    have hS : Y1 w7.drew := by exact cI _ (Kept.refl _ _).drew
    refine wp_region_V Y1 99 21 rfl (by kernel_rfl) ?_
    refine tk 0 12 hS ?_
    refine wpAnyV_one (i := 1) (by kernel_rfl) rfl (fun K hK => ?_)
    go_simp
    have hc := used_any x y w7.drew
    with_reducible refine hc.mono ?_
    clear hc
    rintro e w8 ⟨rfl, bJ⟩
    have kV : Same w7 w8 := Kept.trans ((Kept.refl _ _).drew) bJ
    clear bJ
    rw [nB]
    have hS : Y1 w8 := cI _ kV
    refine hK.out _ _ (fun _ => hS) ?_
    clear hK K
    try simp only [Act.put, sA, s0, sS]
    refine tk 2 14 hS ?_
    refine tkS 3 15 hS ?_
    refine tkS 4 16 hS ?_
    refine tkS 5 17 hS ?_
    refine tkS 6 18 hS ?_
    refine tkS 7 19 hS ?_
    refine tkS 8 20 hS ?_
    refine tkS 9 21 hS ?_
    refine tkS 10 22 hS ?_
    refine tkS 11 23 hS ?_
    refine tkS 12 24 hS ?_
    refine tkS 13 25 hS ?_
    refine tkS 14 26 hS ?_
    refine tkS 15 27 hS ?_
    refine tkS 16 28 hS ?_
    refine tkS 17 29 hS ?_
    refine tkS 18 30 hS ?_
    refine tkS 19 31 hS ?_
    refine tk 20 32 hS ?_
    refine wpAnyV_done (by kernel_rfl) ?_
    try simp only [Act.put, sA, s0, sS]
    have Ar := used_any x y w8
    rw [nB] at Ar
    have q0 : w8.cell? ⟨wr.heap.size, 0, none⟩ = some (.int .i64 x) := (cI _ kV).1
    have q1 : w8.cell? ⟨wr.heap.size, 1, none⟩ = some (.int .i64 y) := (cI _ kV).2.1
    have q2 : ∀ wx, Same w8 wx → wx.cell? ⟨wr.heap.size, 1, none⟩ = some (.int .i64 y) := fun wx h => (cI _ (kV.trans h)).2.1
    by_cases nZ : y = 0
    ·have mq : astrayAt bot x y = false := by simp [astrayAt, LD.out, nZ]
     have yt : (y != 0) = false := by rw [nZ]; rfl
     clear nZ
     go_wp2_with (go_at_call 176; refine Ar.mono ?_; rintro e vw ⟨rfl, mH⟩; have q3 := q2 vw mH)
     go_roundw
     case rel => exact ⟨k + 1, by omega, by go_num, zt.out mq, AE.out.trans (kV.trans mH)⟩
     case measure => simp [intOf]; omega
    ·have mq : astrayAt bot x y = true := by simp [astrayAt, LD.out, nZ]
     have yt : (y != 0) = true := by simp [nZ]
     have ul := my.out mq
     go_wp2_with (go_at_call 176; refine Ar.mono ?_; rintro e vw ⟨rfl, mH⟩; have q3 := q2 vw mH)
     go_ret
     try rw [ul]
     exact ⟨rfl, AE.out.trans (kV.trans mH)⟩
   ·have nB : (x != 0) = true := by simp [lz]
    by_cases hL : 1000 < y
    ·have mq : astrayAt bot x y = true := by simp [astrayAt, lz, hL]
     have ul := my.out mq
     have RS : decide (1000 < y) = true := by simp [hL]
     have hS : Y1 w7.drew := by exact cI _ (Kept.refl _ _).drew
     refine wp_region_V Y1 99 21 rfl (by kernel_rfl) ?_
     refine tk 0 12 hS ?_
     refine wpAnyV_one (i := 1) (by kernel_rfl) rfl (fun K hK => ?_)
     go_simp
     have hc := used_any x y w7.drew
     with_reducible refine hc.mono ?_
     clear hc
     rintro e w8 ⟨rfl, bJ⟩
     have kV : Same w7 w8 := Kept.trans ((Kept.refl _ _).drew) bJ
     clear bJ
     rw [nB]
     have hS : Y1 w8 := cI _ kV
     refine hK.out _ _ (fun _ => hS) ?_
     clear hK K
     try simp only [Act.put, sA, s0, sS]
     refine tk 2 14 hS ?_
     refine tk 3 15 hS ?_
     refine tk 4 16 hS ?_
     refine tk 5 17 hS ?_
     refine tk 6 18 hS ?_
     refine tkS 7 19 hS ?_
     refine tkS 8 20 hS ?_
     refine tkS 9 21 hS ?_
     refine tkS 10 22 hS ?_
     refine tkS 11 23 hS ?_
     refine tkS 12 24 hS ?_
     refine tkS 13 25 hS ?_
     refine tk 14 26 hS ?_
     refine tk 15 27 hS ?_
     refine tkS 16 28 hS ?_
     refine tkS 17 29 hS ?_
     refine tkS 18 30 hS ?_
     refine tk 19 31 hS ?_
     refine tk 20 32 hS ?_
     refine wpAnyV_done (by kernel_rfl) ?_
     try simp only [Act.put, sA, s0, sS]
     go_wp2
     go_ret
     try rw [ul]
     exact ⟨rfl, AE.out.trans kV⟩
    ·have RS : decide (1000 < y) = false := by simp; omega
     by_cases hO : x < bot
     ·have mq : astrayAt bot x y = true := by simp [astrayAt, lz, hO]
      have ul := my.out mq
      have Uw : decide (x < bot) = true := by simp [hO]
      have hS : Y1 w7.drew := by exact cI _ (Kept.refl _ _).drew
      refine wp_region_V Y1 99 21 rfl (by kernel_rfl) ?_
      refine tk 0 12 hS ?_
      refine wpAnyV_one (i := 1) (by kernel_rfl) rfl (fun K hK => ?_)
      go_simp
      have hc := used_any x y w7.drew
      with_reducible refine hc.mono ?_
      clear hc
      rintro e w8 ⟨rfl, bJ⟩
      have kV : Same w7 w8 := Kept.trans ((Kept.refl _ _).drew) bJ
      clear bJ
      rw [nB]
      have hS : Y1 w8 := cI _ kV
      refine hK.out _ _ (fun _ => hS) ?_
      clear hK K
      try simp only [Act.put, sA, s0, sS]
      refine tk 2 14 hS ?_
      refine tk 3 15 hS ?_
      refine tk 4 16 hS ?_
      refine tk 5 17 hS ?_
      refine tk 6 18 hS ?_
      refine tk 7 19 hS ?_
      refine tk 8 20 hS ?_
      refine tk 9 21 hS ?_
      refine tk 10 22 hS ?_
      refine tk 11 23 hS ?_
      refine tk 12 24 hS ?_
      refine tk 13 25 hS ?_
      refine tk 14 26 hS ?_
      refine tk 15 27 hS ?_
      refine tkS 16 28 hS ?_
      refine tkS 17 29 hS ?_
      refine tkS 18 30 hS ?_
      refine tk 19 31 hS ?_
      refine tk 20 32 hS ?_
      refine wpAnyV_done (by kernel_rfl) ?_
      try simp only [Act.put, sA, s0, sS]
      go_wp2
      go_ret
      try rw [ul]
      exact ⟨rfl, AE.out.trans kV⟩
     ·have Uw : decide (x < bot) = false := by simp; omega
      have hS : Y1 w7.drew := by exact cI _ (Kept.refl _ _).drew
      refine wp_region_V Y1 99 21 rfl (by kernel_rfl) ?_
      refine tk 0 12 hS ?_
      refine wpAnyV_one (i := 1) (by kernel_rfl) rfl (fun K hK => ?_)
      go_simp
      have hc := used_any x y w7.drew
      with_reducible refine hc.mono ?_
      clear hc
      rintro e w8 ⟨rfl, bJ⟩
      have kV : Same w7 w8 := Kept.trans ((Kept.refl _ _).drew) bJ
      clear bJ
      rw [nB]
      have hS : Y1 w8 := cI _ kV
      refine hK.out _ _ (fun _ => hS) ?_
      clear hK K
      try simp only [Act.put, sA, s0, sS]
      refine tk 2 14 hS ?_
      refine tk 3 15 hS ?_
      refine tk 4 16 hS ?_
      refine tk 5 17 hS ?_
      refine tk 6 18 hS ?_
      refine tk 7 19 hS ?_
      refine tk 8 20 hS ?_
      refine tk 9 21 hS ?_
      refine tk 10 22 hS ?_
      refine tk 11 23 hS ?_
      refine tk 12 24 hS ?_
      refine tk 13 25 hS ?_
      refine tk 14 26 hS ?_
      refine tk 15 27 hS ?_
      refine tk 16 28 hS ?_
      refine wpAnyV_one (i := 17) (by kernel_rfl) rfl (fun K hK => ?_)
      go_simp
      have hc := end_any x y w8 Bu Er
      with_reducible refine hc.mono ?_
      clear hc
      rintro e w9 ⟨rfl, bJ⟩
      have rO : Same w7 w9 := Kept.trans (kV) bJ
      clear bJ
      have hS : Y1 w9 := cI _ rO
      refine hK.out _ _ (fun _ => hS) ?_
      clear hK K
      try simp only [Act.put, sA, s0, sS]
      refine tk 18 30 hS ?_
      refine tk 19 31 hS ?_
      refine tk 20 32 hS ?_
      refine wpAnyV_done (by kernel_rfl) ?_
      try simp only [Act.put, sA, s0, sS]
      by_cases hE : 4096 < x + y
      ·have mq : astrayAt bot x y = true := by simp [astrayAt, lz, hE]
       have ul := my.out mq
       go_wp2
       go_ret
       try rw [ul]
       exact ⟨rfl, AE.out.trans rO⟩
      ·have mq : astrayAt bot x y = false := by simp [astrayAt, lz]; omega
       have Ar := used_any x y w9
       rw [nB] at Ar
       have q0 : w9.cell? ⟨wr.heap.size, 0, none⟩ = some (.int .i64 x) := (cI _ rO).1
       have q1 : w9.cell? ⟨wr.heap.size, 1, none⟩ = some (.int .i64 y) := (cI _ rO).2.1
       go_wp2_with (go_at_call 176; refine Ar.mono ?_; rintro e vw ⟨rfl, mH⟩)
       go_roundw
       case rel => exact ⟨k + 1, by omega, by go_num, zt.out mq, AE.out.trans (rO.trans mH)⟩
       case measure => simp [intOf]; omega
  ·obtain rfl : k = 32 := by omega
   have IK : R = false := by rw [← HR.out]; exact astray_no bot sl tR.out
   go_wp2
   go_ret
   try rw [IK]
   exact ⟨rfl, ef.out⟩
def shareAt (sl : List Int) (i j : Nat) : Bool := sharesB (sl.getD (2 * i) 0) (sl.getD (2 * i + 1) 0) (sl.getD (2 * j) 0) (sl.getD (2 * j + 1) 0)
def share (sl : List Int) : Bool := (List.range 32).any fun i => (List.range i).any fun j => shareAt sl i j
theorem share_yes (sl : List Int) (i j : Nat) (hi : i < 32) (hj : j < i) (h : shareAt sl i j = true) : share sl = true := by
 unfold share
 rw [List.any_eq_true]
 exact ⟨i, List.mem_range.2 hi, by rw [List.any_eq_true]; exact ⟨j, List.mem_range.2 hj, h⟩⟩
theorem share_no (sl : List Int) (h : ∀ i < 32, ∀ j < i, shareAt sl i j = false) : share sl = false := by
 unfold share
 rw [List.any_eq_false]
 intro i hi
 rw [Bool.not_eq_true, List.any_eq_false]
 intro j hj
 rw [h i (List.mem_range.1 hi) j (List.mem_range.1 hj)]
 simp
theorem recordsShare_any (P : Nat) (sum : List Int) (lsn num bot : Int) (sl raw : List Int) (w : World) (hp : SP w P sum lsn num bot sl raw) (hs : Small sl) :
  Calls Tryz.prog 174 #[.pointer (some ⟨P, 0, none⟩)] w fun e w' => e = .returned (.bool (share sl)) ∧ Same w w' := by
 have TJ := hp.blk.lt
 have HP := (show Hid (SP w P sum lsn num bot sl raw) from hp)
 have oX := (show Hid (Small sl) from hs)
 have wU := (show Hid ((Tryz.prog.info? 210).map (·.size) = some (vals .i64 sl).length) from (by rw [vals_length, hp.l2]; exact (by kernel_rfl : (Tryz.prog.info? 210).map (·.size) = some 64) : (Tryz.prog.info? 210).map (·.size) = some (vals .i64 sl).length))
 have zV := (show Hid (w.rangeAt P 7 (vals .i64 sl)) from hp.slRange)
 obtain ⟨ss, sV⟩ : ∃ ss : List Value, vals .i64 sl = ss := ⟨_, rfl⟩
 have Ay := (show Hid (vals .i64 sl = ss) from sV)
 rw [sV] at wU zV
 clear sV hp hs
 obtain ⟨R, hR⟩ : ∃ R, share sl = R := ⟨_, rfl⟩
 have HR := (show Hid (share sl = R) from hR)
 rw [hR]
 clear hR
 go_enter Tryz.func174, Tryz.ntmps174
 go_wp2_with (refine wpList_load_mid rfl 210 _ rfl P 7 rfl ss _ zV.out Tryz.underlying210 rfl wU.out ?_)
 go_loopw [3, 4, 6, 11] (fun _ _ _ i wr => ∃ k : Nat, k ≤ 32 ∧ i = .int .i64 k ∧ Hid (∀ i < k, ∀ j < i, shareAt sl i j = false) ∧ Hid (Same w wr)) (fun _ _ _ i _ => 32 - (intOf i).toNat)
 case atStart => exact ⟨0, by omega, rfl, fun j hj => by omega, Kept.refl _ _⟩
 case round =>
  obtain ⟨k, hk, rfl, tR, ef⟩ := hrel
  by_cases dh : k < 32
  ·have eC : (k : Int) < 32 := by omega
   have ix : (k : Int) ≤ 32 := by omega
   have Am := fun w => slot_at sl HP.out.l2 k dh w
   rw [Ay.out] at Am
   have Bu := oX.out.at (2 * k)
   have Er := oX.out.at (2 * k + 1)
   have LG := (show Hid (∀ j, shareAt sl k j = sharesB (sl.getD (2 * k) 0) (sl.getD (2 * k + 1) 0) (sl.getD (2 * j) 0) (sl.getD (2 * j + 1) 0)) from fun _ => rfl)
   obtain ⟨x, hx⟩ : ∃ x, sl.getD (2 * k) 0 = x := ⟨_, rfl⟩
   obtain ⟨y, hy⟩ : ∃ y, sl.getD (2 * k + 1) 0 = y := ⟨_, rfl⟩
   rw [hx, hy] at Am LG
   rw [hx] at Bu
   rw [hy] at Er
   clear hx hy
   go_wp2
   have oV := Blk.new wr #[.int .i64 x, .int .i64 y] 209
   have l0 : Same wr (wr.alloc (.cells #[.int .i64 x, .int .i64 y] 209)) := (Kept.refl _ _).alloc _
   obtain ⟨w7, rm⟩ : ∃ w7, wr.alloc (.cells #[.int .i64 x, .int .i64 y] 209) = w7 := ⟨_, rfl⟩
   rw [rm] at l0 oV ⊢
   have nu := (show Hid (Blk w7 wr.heap.size 209 [.int .i64 x, .int .i64 y]) from oV)
   have fy := hid (ef.out.trans l0)
   obtain ⟨BI, LM⟩ : ∃ BI, wr.heap.size = BI := ⟨_, rfl⟩
   have IY := oV.lt
   rw [LM] at nu IY ⊢
   clear rm l0 oV LM
   go_loopw [6, 21] (fun _ i wi => ∃ j : Nat, j ≤ k ∧ i = .int .i64 j ∧ Hid (∀ m < j, shareAt sl k m = false) ∧ Hid (Same w7 wi)) (fun _ i _ => k - (intOf i).toNat)
   case atStart => exact ⟨0, by omega, rfl, fun j hj => by omega, Kept.refl _ _⟩
   case round =>
    obtain ⟨j, hj, rfl, KN, Kg⟩ := hrel
    by_cases ow : j < k
    ·have nS := HP.out.same (fy.out.trans Kg.out)
     have c0 := nS.slAt (2 * j) (by omega)
     have c1 := nS.slAt (2 * j + 1) (by omega)
     rw [show 7 + 2 * j = 7 + j * 2 from by omega] at c0
     rw [show 7 + (2 * j + 1) = 7 + j * 2 + 1 from by omega] at c1
     have Q7 := oX.out.at (2 * j)
     have P2 := oX.out.at (2 * j + 1)
     have zW := (show Hid (_) from LG.out j)
     obtain ⟨u, hu⟩ : ∃ u, sl.getD (2 * j) 0 = u := ⟨_, rfl⟩
     obtain ⟨v, hv⟩ : ∃ v, sl.getD (2 * j + 1) 0 = v := ⟨_, rfl⟩
     rw [hu] at c0 Q7
     rw [hv] at c1 P2
     rw [hu, hv] at zW
     clear hu hv nS
     have EQ : (j : Int) < (k : Int) := by omega
     have nR : Same w7 (wr.alloc (.cells #[.int .i64 u, .int .i64 v] 209)) := Kg.out.trans ((Kept.refl _ _).alloc _)
     have d0 : (wr.alloc (.cells #[.int .i64 u, .int .i64 v] 209)).cell? ⟨BI, 0, none⟩ = some (.int .i64 x) := by rw [(nu.out.same nR).cell]; rfl
     have d1 : (wr.alloc (.cells #[.int .i64 u, .int .i64 v] 209)).cell? ⟨BI, 1, none⟩ = some (.int .i64 y) := by rw [(nu.out.same nR).cell]; rfl
     have pa := (show Hid (Same w7 (wr.alloc (.cells #[.int .i64 u, .int .i64 v] 209))) from nR)
     have hc := shares_any x y u v (wr.alloc (.cells #[.int .i64 u, .int .i64 v] 209)) Bu Er Q7 P2
     have my := (show Hid (sharesB x y u v = true → R = true) from fun h => by rw [← HR.out]; exact share_yes sl k j dh ow (by rw [zW.out]; exact h))
     have zt := (show Hid (sharesB x y u v = false → ∀ m < j + 1, shareAt sl k m = false) from fun h m hm => by
      by_cases e : m = j
      ·rw [e, zW.out]; exact h
      ·exact KN.out m (by omega))
     generalize sharesB x y u v = sb at *
     clear nR
     cases sb with
     | true =>
      have ul := my.out (by first | trivial | rfl)
      go_wp2_with (go_at_call 178; refine hc.mono ?_; rintro e w9 ⟨rfl, j5⟩)
      go_ret
      try rw [ul]
      exact ⟨rfl, fy.out.trans (pa.out.trans j5)⟩
     | false =>
      go_wp2_with (go_at_call 178; refine hc.mono ?_; rintro e w9 ⟨rfl, j5⟩)
      go_roundw
      case rel => exact ⟨j + 1, by omega, by go_num, zt.out (by first | trivial | rfl), pa.out.trans j5⟩
      case measure => simp [intOf]; omega
    ·obtain rfl : j = k := by omega
     go_wp2
     go_roundw
     case rel =>
      refine ⟨j + 1, by omega, by go_num, fun i hi m hm => ?_, fy.out.trans Kg.out⟩
      by_cases e : i = j
      ·rw [e] at hm ⊢
       exact KN.out m hm
      ·exact tR.out i (by omega) m hm
     case measure => simp [intOf]; omega
  ·obtain rfl : k = 32 := by omega
   have IK : R = false := by rw [← HR.out]; exact share_no sl tR.out
   go_wp2
   go_ret
   try rw [IK]
   exact ⟨rfl, ef.out⟩
theorem all_range_ints : ∀ (xs ys : List Int), xs.length = ys.length → ((List.range xs.length).all fun i => xs.getD i 0 == ys.getD i 0) = (xs == ys)
 | [], [], _ => rfl
 | x :: xs, y :: ys, h => by
  have ih := all_range_ints xs ys (by simpa using h)
  rw [List.length_cons, List.range_succ_eq_map, List.all_cons, List.all_map]
  simp only [List.getD_cons_zero, Function.comp_def, List.getD_cons_succ, ih]
  simp [List.cons_beq_cons]
 | [], _ :: _, h => by simp at h
 | _ :: _, [], h => by simp at h
theorem run_equalIn_ints {P : Program} (w : World) (d : Nat) (t e : TypeId) (n : Nat) (ht : P.underlying t = some (.array n e)) (he : P.underlying e = some (.int .u8)) (i1 : ∀ w, (sizeOf e).run P w = .ok 1 w)
  (xs ys : List Int) (hx : xs.length = n) (hy : ys.length = n) :
  (Op.equalIn (d + 2) t (.agg (vals .u8 xs).toArray) (.agg (vals .u8 ys).toArray)).run P w = .ok (xs == ys) w := by
 rw [← all_range_ints xs ys (hx.trans hy.symm), hx, List.range_eq_range', Op.equalIn]
 simp only [Sem.run_bind, run_underlying ht, Result.andThen_ok, i1, Std.Legacy.Range.forIn_eq_forIn_range', Std.Legacy.Range.size, Nat.sub_zero, Nat.add_sub_cancel, Nat.div_one]
 have hl : ∀ i ∈ List.range' 0 n 1, i < n := fun i hi => by simpa using (List.mem_range'_1.1 hi).2
 generalize List.range' 0 n 1 = l at hl ⊢
 induction l with
 | nil => simp
 | cons i l ih =>
  have hi : i < n := hl i (by simp)
  have px : (Go.part e (vals .u8 xs).toArray (i * 1)).run P w = .ok (.int .u8 (xs.getD i 0)) w := by
   simp [vals, Go.part, isAgg, run_underlying he, List.getD, List.getElem?_eq_getElem (show i < xs.length by omega)]
  have py : (Go.part e (vals .u8 ys).toArray (i * 1)).run P w = .ok (.int .u8 (ys.getD i 0)) w := by
   simp [vals, Go.part, isAgg, run_underlying he, List.getD, List.getElem?_eq_getElem (show i < ys.length by omega)]
  have pe : (Op.equalIn (d + 1) e (.int .u8 (xs.getD i 0)) (.int .u8 (ys.getD i 0))).run P w = .ok (xs.getD i 0 == ys.getD i 0) w := run_equalIn_int w d e .u8 .u8 _ _ he
  simp only [List.forIn_cons, Sem.run_bind, px, py, pe, Result.andThen_ok, List.all_cons]
  cases hb : (xs.getD i 0 == ys.getD i 0)
  ·simp
  ·simp only [Bool.not_true, Bool.false_eq_true, if_false, Sem.run_pure, Result.andThen_ok, Bool.true_and]
   exact ih fun j hj => hl j (by simp [hj])
theorem size_byte (w : World) : (sizeOf 5).run Tryz.prog w = .ok 1 w := by
 obtain ⟨i0, hi, j9, j0, l9⟩ := info_parts Tryz.infoByte'
 simp [sizeOf, typeInfo, hi, j0]
theorem run_neq_pages (w : World) (xs ys : List Int) (hx : xs.length = 4096) (hy : ys.length = 4096) : (binOp .neq 205 (.agg (vals .u8 xs).toArray) (.agg (vals .u8 ys).toArray)).run Tryz.prog w = .ok (.bool (xs != ys)) w := by
 rw [run_neq_struct, run_equalIn_ints w 9998 205 5 4096 Tryz.underlying205 Tryz.underlying5 size_byte xs ys hx hy]
 rfl
/-! ### A number and its bytes -/
theorem lows_add (k : Nat) : ∀ (v m : Nat), lows ((v + m * 256 ^ k : Nat) : Int) k = lows (v : Int) k := by
 induction k with
 | zero => intro v m; rfl
 | succ k ih =>
  intro v m
  have e1 : (v + m * 256 ^ (k + 1) : Nat) = v + (m * 256) * 256 ^ k := by rw [Nat.pow_succ, Nat.mul_comm (256 ^ k) 256, Nat.mul_assoc]
  simp only [lows]
  rw [e1, ih v (m * 256)]
  congr 1
  have h2 : (((v + m * 256 * 256 ^ k : Nat) : Int) / 256 ^ k) = (((v + m * 256 * 256 ^ k) / 256 ^ k : Nat) : Int) := by simp
  have h3 : ((v : Int) / 256 ^ k) = ((v / 256 ^ k : Nat) : Int) := by simp
  rw [h2, h3, Nat.add_mul_div_right _ _ (Nat.pow_pos (by decide))]
  omega
theorem lows_num (bs : List Int) (hb : IsB bs) : lows (num bs) bs.length = bs := by
 induction bs with
 | nil => rfl
 | cons b bs ih =>
  have om : IsB bs := fun y hy => hb y (by simp [hy])
  have h0 := hb b (by simp)
  have h1 := num_bound bs om bs.length (Nat.le_refl _)
  rw [List.take_length] at h1
  obtain ⟨n, hn⟩ : ∃ n : Nat, num bs = n := ⟨(num bs).toNat, by omega⟩
  obtain ⟨c, rfl⟩ : ∃ c : Nat, b = c := ⟨b.toNat, by omega⟩
  have PD := ih om
  rw [num_cons, hn]
  rw [hn] at PD h1
  have e3 : (256 : Int) ^ bs.length = ((256 ^ bs.length : Nat) : Int) := by simp
  rw [e3] at h1 ⊢
  have e : ((c : Int) * ((256 ^ bs.length : Nat) : Int) + (n : Int)) = ((n + c * 256 ^ bs.length : Nat) : Int) := by simp [Int.add_comm]
  rw [e, List.length_cons]
  simp only [lows]
  rw [lows_add, PD]
  congr 1
  have h2 : (((n + c * 256 ^ bs.length : Nat) : Int) / 256 ^ bs.length) = (((n + c * 256 ^ bs.length) / 256 ^ bs.length : Nat) : Int) := by simp
  rw [h2, Nat.add_mul_div_right _ _ (Nat.pow_pos (by decide)), Nat.div_eq_of_lt (by omega)]
  omega
end Go.Proofs.YtepdakgfioffgaaGreat
