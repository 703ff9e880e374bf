import Derived.Test.YtdgmecmkkddpeaaGreatG07
import Derived.Laws.StructEq
namespace Go.Proofs.YtdgmecmkkddpeaaGreat
set_option maxRecDepth 100000
set_option maxHeartbeats 16000000
set_option linter.unusedVariables false
set_option linter.unusedSimpArgs false
open Go.RowKit
def numAt (raw : List Int) (o n : Nat) : Int := getN ((raw.drop o).take n)
def slotsOf (raw : List Int) : List Int := (List.range 64).map fun j => numAt raw (20 + 2 * j) 2
theorem slotsOf_length (raw : List Int) : (slotsOf raw).length = 64 := by simp [slotsOf]
theorem slotsOf_at (raw : List Int) (j : Nat) (h : j < 64) : (slotsOf raw).getD j 0 = numAt raw (20 + 2 * j) 2 := by simp [slotsOf, List.getD, h]
def someOf (sl : List Int) (n : Nat) : List Int := sl.take n ++ List.replicate (64 - n) 0
theorem someOf_length (sl : List Int) (n : Nat) (h : sl.length = 64) (hn : n ≤ 64) : (someOf sl n).length = 64 := by simp [someOf, h]; omega
theorem someOf_set (sl : List Int) (n : Nat) (h : sl.length = 64) (hn : n < 64) : (someOf sl n).set n (sl.getD n 0) = someOf sl (n + 1) := by
 unfold someOf
 rw [List.set_append_right (h := by simp; omega)]
 have e : (sl.take n).length = n := by simp; omega
 rw [e, Nat.sub_self, show 64 - n = (64 - (n + 1)) + 1 from by omega, List.replicate_succ, List.set_cons_zero, List.take_succ_eq_append_getElem (by omega)]
 have e2 : sl.getD n 0 = sl[n] := by simp [List.getD, List.getElem?_eq_getElem (show n < sl.length by omega)]
 rw [e2, List.append_assoc]
 rfl
theorem spCells_set (sum : List Int) (lsn num bot : Int) (sl raw : List Int) (j : Nat) (x : Int) (h1 : sum.length = 4) (h2 : sl.length = 64) (hj : j < 64) : (spCells sum lsn num bot sl raw).set (7 + j) (.int .i64 x) = spCells sum lsn num bot (sl.set j x) raw := by
 have e : (vals .u8 sum).length = 4 := by rw [vals_length, h1]
 unfold spCells
 rw [List.set_append_right (h := by omega), e, show 7 + j - 4 = j + 1 + 1 + 1 from by omega, List.set_cons_succ, List.set_cons_succ, List.set_cons_succ, List.set_append_left (h := by rw [vals_length, h2]; exact hj)]
 simp [vals]
theorem SP.slot {w : World} {B : Nat} {sum : List Int} {lsn num bot : Int} {sl raw : List Int} (h : SP w B sum lsn num bot sl raw) (j : Nat) (hj : j < 64) (x : Int) : SP (w.setCell ⟨B, 7 + j, none⟩ (.int .i64 x)) B sum lsn num bot (sl.set j x) raw := by
 refine ⟨?_, h.l1, by rw [List.length_set]; exact h.l2, h.l3⟩
 rw [← spCells_set sum lsn num bot sl raw j x h.l1 h.l2 hj]
 exact h.blk.stored _ _
theorem num_at (B o n c : Nat) (raw : List Int) (w : World) (hb : Blk w B 168 (vals .u8 raw)) (hB : IsB raw) (hl : raw.length = 4096) (hn : o + n ≤ 4096) (hc : n ≤ c) :
  Calls Tryz.prog 144 #[.slice (some ⟨B, o, none⟩) n c] w fun e w' => e = .returned (.int .i64 (numAt raw o n)) ∧ Same w w' :=
 implGet_any _ _ w (isB_take (isB_drop hB o) n) (by simp; omega) (hb.rd o n c (by omega) hc (by rw [hl]; decide))
section
variable {P : Program} {ops : Array Oper} {S : World → Prop} {o : Oper} {a : Act}
theorem yields_build82 (hgd : o.guard = none) (x0 x1 x2 x3 x5 : Operand) (hop : o.op = Op.build 175 #[(0, x0), (1, x1), (2, x2), (3, x3), (5, x5)]) (sum : List Int) (lsn num bot : Int) (raw : List Int) (cs ds : Array Value)
  (e0 : a.eval x0 = .agg ds) (e1 : a.eval x1 = .int .i64 lsn) (e2 : a.eval x2 = .int .i64 num) (e3 : a.eval x3 = .int .i64 bot) (e5 : a.eval x5 = .agg cs) (hds : ds = (vals .u8 sum).toArray) (hcs : cs = (vals .u8 raw).toArray) (h1 : sum.length = 4) (h3 : raw.length = 4096) :
  YieldsIf Tryz.prog ops S o (.agg (spCells sum lsn num bot (List.replicate 64 0) raw).toArray) a := by
 have hw : Region.wanted o (yielded ops a.tmps) = true := by simp [Region.wanted, hgd]
 have hb := build82 sum lsn num bot raw h1 h3
 refine .inl ⟨hw, fun w _ => ?_⟩
 have hrun := run_build (P := Tryz.prog) w _ #[(0, .agg (vals .u8 sum).toArray), (1, .int .i64 lsn), (2, .int .i64 num), (3, .int .i64 bot), (5, .agg (vals .u8 raw).toArray)] _ hb
 unfold execOp
 simp only [hop]
 have e : (#[(0, x0), (1, x1), (2, x2), (3, x3), (5, x5)] : Array (Nat × Operand)).map (fun (i, x) => (i, a.eval x)) = #[(0, .agg (vals .u8 sum).toArray), (1, .int .i64 lsn), (2, .int .i64 num), (3, .int .i64 bot), (5, .agg (vals .u8 raw).toArray)] := by simp [e0, e1, e2, e3, e5, hds, hcs]
 rw [e]
 simp only [Sem.run_bind, hrun, Result.andThen_ok]
 rfl
end
theorem run_array4 (w : World) (ad : Option Addr) (c : Nat) : (Instr.arrayAt 170 (.slice ad 4 c)).run Tryz.prog w = .ok (.pointer ad) w := by
 simp [Instr.arrayAt, run_underlying Tryz.underlying170]
theorem takeApart_any (raw : List Int) (w : World) (hB : IsB raw) (hl : raw.length = 4096) :
  Calls Tryz.prog 142 #[.agg (vals .u8 raw).toArray] w fun e w' => ∃ P, e = .returned (.pointer (some ⟨P, 0, none⟩)) ∧ w.heap.size ≤ P ∧
   SP w' P (raw.take 4) (numAt raw 4 8) (numAt raw 12 4) (numAt raw 16 2) (slotsOf raw) raw ∧ Same w w' := by
 obtain ⟨cs, hcs⟩ : ∃ cs : Array Value, (vals .u8 raw).toArray = cs := ⟨_, rfl⟩
 have hsz : cs.size = 4096 := by rw [← hcs]; simp [vals, hl]
 have HCS := (show Hid (cs = (vals .u8 raw).toArray) from hcs.symm)
 have HB := (show Hid (IsB raw) from hB)
 have HL := (show Hid (raw.length = 4096) from hl)
 have hb1 : Blk (w.alloc (.cells cs 168)) w.heap.size 168 (vals .u8 raw) := by
  have h := Blk.new w cs 168
  rw [← hcs] at h ⊢
  exact h
 have hk1 : Same w (w.alloc (.cells cs 168)) := (Kept.refl _ _).alloc _
 obtain ⟨w1, hw1⟩ : ∃ w1, w.alloc (.cells cs 168) = w1 := ⟨_, rfl⟩
 have hz1 : w1.heap.size = w.heap.size + 1 := by rw [← hw1]; simp
 rw [hw1] at hb1 hk1
 have HB1 := (show Hid (Blk w1 w.heap.size 168 (vals .u8 raw)) from hb1)
 have HK1 := (show Hid (Same w w1) from hk1)
 have hs4 : (raw.take 4).length = 4 := by simp; omega
 have hR80 : w1.rangeAt w.heap.size 0 (vals .u8 raw) := hb1.rangeAll
 have hR77 : w1.rangeAt w.heap.size 0 (vals .u8 (raw.take 4)) := hb1.range 0 _ (fun j v hv => by
  have hj : j < 4 := by have := (List.getElem?_eq_some_iff.1 hv).1; rwa [vals_length, hs4] at this
  rw [← hv, Nat.zero_add, vals_at _ _ _ (by omega), vals_at _ _ _ (by omega)]
  simp [List.getD, List.getElem?_take, hj])
 have hI80 : (Tryz.prog.info? 168).map (·.size) = some (vals .u8 raw).length := by rw [vals_length, hl]; exact page_info
 have hI77 : (Tryz.prog.info? 170).map (·.size) = some (vals .u8 (raw.take 4)).length := by rw [vals_length, hs4]; exact (by kernel_rfl : (Tryz.prog.info? 170).map (·.size) = some 4)
 obtain ⟨cl, hcl⟩ : ∃ cl : List Value, vals .u8 raw = cl := ⟨_, rfl⟩
 obtain ⟨dl, hdl⟩ : ∃ dl : List Value, vals .u8 (raw.take 4) = dl := ⟨_, rfl⟩
 rw [hcl] at hR80 hI80
 rw [hdl] at hR77 hI77
 have HCL := (show Hid (cl.toArray = (vals .u8 raw).toArray) from (by rw [hcl] : cl.toArray = (vals .u8 raw).toArray))
 have HDL := (show Hid (dl.toArray = (vals .u8 (raw.take 4)).toArray) from (by rw [hdl] : dl.toArray = (vals .u8 (raw.take 4)).toArray))
 have harr := run_array4
 rw [hcs]
 clear hcs hB hl hb1 hk1 hcl hdl
 go_enter Tryz.func142, Tryz.ntmps142
 go_wp2_with fail
 try rw [hw1]
 clear hw1
 have hS : (fun wx : World => wx.rangeAt w.heap.size 0 cl ∧ wx.rangeAt w.heap.size 0 dl) w1.drew := by exact ⟨hR80, hR77⟩
 refine wp_region_V (fun wx : World => wx.rangeAt w.heap.size 0 cl ∧ wx.rangeAt w.heap.size 0 dl) 99 13 rfl (by kernel_rfl) ?_
 refine tk 0 6 hS ?_
 refine tk 1 7 hS ?_
 refine wpAnyV_take (i := 2) (v := .agg dl.toArray) (some 8) rfl rfl (by kernel_rfl) (by kernel_rfl) (by kernel_rfl) (by kernel_rfl) (fun _ _ _ h => h) (yieldsIf_load_mid (by rfl) 170 _ rfl w.heap.size 0 rfl dl _ (fun _ h => h.2) Tryz.underlying170 rfl hI77) hS ?_
 try simp only [Act.put, sA, s0, sS]
 refine tk 3 9 hS ?_
 refine tk 5 11 hS ?_
 refine tk 7 13 hS ?_
 refine wpAnyV_take (i := 9) (v := .agg cl.toArray) (some 15) rfl rfl (by kernel_rfl) (by kernel_rfl) (by kernel_rfl) (by kernel_rfl) (fun _ _ _ h => h) (yieldsIf_load_mid (by rfl) 168 _ rfl w.heap.size 0 rfl cl _ (fun _ h => h.1) Tryz.underlying168 rfl hI80) hS ?_
 try simp only [Act.put, sA, s0, sS]
 refine wpAnyV_one (i := 4) (by kernel_rfl) rfl (fun K hK => ?_)
 go_simp
 have hc := num_at w.heap.size 4 8 4092 raw w1.drew (HB1.out.same ((Kept.refl _ _).drew)) HB.out HL.out (by decide) (by decide)
 with_reducible refine hc.mono ?_
 clear hc
 rintro e w2 ⟨rfl, hkk⟩
 have hkw2 : Same w1 w2 := Kept.trans ((Kept.refl _ _).drew) hkk
 clear hkk
 have hS : (fun wx : World => wx.rangeAt w.heap.size 0 cl ∧ wx.rangeAt w.heap.size 0 dl) w2 := ⟨Kept.ranges hkw2 hR80, Kept.ranges hkw2 hR77⟩
 refine hK.out _ _ (fun _ => hS) ?_
 clear hK K
 try simp only [Act.put, sA, s0, sS]
 refine wpAnyV_one (i := 6) (by kernel_rfl) rfl (fun K hK => ?_)
 go_simp
 have hc := num_at w.heap.size 12 4 4084 raw w2 (HB1.out.same (hkw2)) HB.out HL.out (by decide) (by decide)
 with_reducible refine hc.mono ?_
 clear hc
 rintro e w3 ⟨rfl, hkk⟩
 have hkw3 : Same w1 w3 := Kept.trans (hkw2) hkk
 clear hkk
 have hS : (fun wx : World => wx.rangeAt w.heap.size 0 cl ∧ wx.rangeAt w.heap.size 0 dl) w3 := ⟨Kept.ranges hkw3 hR80, Kept.ranges hkw3 hR77⟩
 refine hK.out _ _ (fun _ => hS) ?_
 clear hK K
 try simp only [Act.put, sA, s0, sS]
 refine wpAnyV_one (i := 8) (by kernel_rfl) rfl (fun K hK => ?_)
 go_simp
 have hc := num_at w.heap.size 16 2 4080 raw w3 (HB1.out.same (hkw3)) HB.out HL.out (by decide) (by decide)
 with_reducible refine hc.mono ?_
 clear hc
 rintro e w4 ⟨rfl, hkk⟩
 have hkw4 : Same w1 w4 := Kept.trans (hkw3) hkk
 clear hkk
 have hS : (fun wx : World => wx.rangeAt w.heap.size 0 cl ∧ wx.rangeAt w.heap.size 0 dl) w4 := ⟨Kept.ranges hkw4 hR80, Kept.ranges hkw4 hR77⟩
 refine hK.out _ _ (fun _ => hS) ?_
 clear hK K
 try simp only [Act.put, sA, s0, sS]
 refine wpAnyV_take (i := 10) (v := .agg (spCells (raw.take 4) (numAt raw 4 8) (numAt raw 12 4) (numAt raw 16 2) (List.replicate 64 0) raw).toArray) (some 16) rfl rfl (by kernel_rfl) (by kernel_rfl) (by kernel_rfl) (by kernel_rfl) (fun _ _ _ h => h) (yields_build82 rfl _ _ _ _ _ rfl (raw.take 4) (numAt raw 4 8) (numAt raw 12 4) (numAt raw 16 2) raw cl.toArray dl.toArray rfl rfl rfl rfl rfl HDL.out HCL.out hs4 HL.out) hS ?_
 try simp only [Act.put, sA, s0, sS]
 obtain ⟨pl, hpl⟩ : ∃ pl : Array Value, (spCells (raw.take 4) (numAt raw 4 8) (numAt raw 12 4) (numAt raw 16 2) (List.replicate 64 0) raw).toArray = pl := ⟨_, rfl⟩
 have hps : pl.size = 4167 := by rw [← hpl, List.size_toArray]; exact spCells_length hs4 List.length_replicate HL.out
 have HPL := (show Hid ((spCells (raw.take 4) (numAt raw 4 8) (numAt raw 12 4) (numAt raw 16 2) (List.replicate 64 0) raw).toArray = pl) from hpl)
 rw [hpl]
 clear hpl
 refine wpAnyV_one (i := 11) (by kernel_rfl) rfl (fun K hK => ?_)
 go_simp
 have hP : w.heap.size + 1 ≤ w4.heap.size := by have := hkw4.size; omega
 have hsp : SP (w4.alloc (.cells pl 175)) w4.heap.size (raw.take 4) (numAt raw 4 8) (numAt raw 12 4) (numAt raw 16 2) (someOf (slotsOf raw) (2 * 0)) raw := by
  refine ⟨?_, hs4, someOf_length _ _ (slotsOf_length raw) (by decide), HL.out⟩
  have h := Blk.new w4 pl 175
  rw [← HPL.out] at h ⊢
  exact h
 have hk5 : Same w1 (w4.alloc (.cells pl 175)) := hkw4.trans ((Kept.refl _ _).alloc _)
 obtain ⟨w5, hw5⟩ : ∃ w5, w4.alloc (.cells pl 175) = w5 := ⟨_, rfl⟩
 rw [hw5] at hsp hk5 ⊢
 obtain ⟨P, hPe⟩ : ∃ P, w4.heap.size = P := ⟨_, rfl⟩
 rw [hPe] at hsp hP ⊢
 have HSP5 := (show Hid (SP w5 P (raw.take 4) (numAt raw 4 8) (numAt raw 12 4) (numAt raw 16 2) (someOf (slotsOf raw) (2 * 0)) raw) from hsp)
 have HB5 := (show Hid (Blk w5 w.heap.size 168 (vals .u8 raw)) from HB1.out.same hk5)
 have HK5 := hid (HK1.out.trans hk5)
 have hS : (fun wx : World => wx.rangeAt w.heap.size 0 cl ∧ wx.rangeAt w.heap.size 0 dl) w5 := ⟨Kept.ranges hk5 hR80, Kept.ranges hk5 hR77⟩
 clear hw5 hsp hPe
 refine hK.out _ _ (fun _ => hS) ?_
 clear hK K
 try simp only [Act.put, sA, s0, sS]
 refine tk 12 3 hS ?_
 refine wpAnyV_done (by kernel_rfl) ?_
 try simp only [Act.put, sA, s0, sS]
 clear hS hk5 hkw2 hkw3 hkw4 hR80 hR77 hI80 hI77
 go_wp2_with fail
 go_loopw [4, 5, 18] (fun _ _ i wr => ∃ k : Nat, k ≤ 32 ∧ i = .int .i64 k ∧ Hid (SP wr P (raw.take 4) (numAt raw 4 8) (numAt raw 12 4) (numAt raw 16 2) (someOf (slotsOf raw) (2 * k)) raw) ∧ Hid (Blk wr w.heap.size 168 (vals .u8 raw)) ∧ Hid (Same w wr)) (fun _ _ i _ => 32 - (intOf i).toNat)
 case atStart => exact ⟨0, by omega, rfl, HSP5, HB5, HK5⟩
 case round =>
  obtain ⟨k, hk, rfl, HSr, HBr, HKr⟩ := hrel
  by_cases hlt : k < 32
  ·have hk2 : (k : Int) < 32 := by omega
   have hk3 : (0 : Int) ≤ (k : Int) := by omega
   have HX := (show Hid ((slotsOf raw).getD (2 * k) 0 = numAt raw (20 + 4 * k) 2) from (by rw [slotsOf_at _ _ (by omega), show 20 + 2 * (2 * k) = 20 + 4 * k from by omega] : (slotsOf raw).getD (2 * k) 0 = numAt raw (20 + 4 * k) 2))
   have HY := (show Hid ((slotsOf raw).getD (2 * k + 1) 0 = numAt raw (20 + 4 * k + 2) 2) from (by rw [slotsOf_at _ _ (by omega), show 20 + 2 * (2 * k + 1) = 20 + 4 * k + 2 from by omega] : (slotsOf raw).getD (2 * k + 1) 0 = numAt raw (20 + 4 * k + 2) 2))
   go_wp2_with fail
   obtain ⟨oo, hoo⟩ : ∃ oo : Nat, 20 + 4 * k = oo := ⟨_, rfl⟩
   have e1 : (20 + (k : Int) * 4) = (oo : Int) := by omega
   rw [e1]
   rw [hoo] at HX HY
   obtain ⟨X, hX⟩ : ∃ X, (slotsOf raw).getD (2 * k) 0 = X := ⟨_, rfl⟩
   obtain ⟨Y, hY⟩ : ∃ Y, (slotsOf raw).getD (2 * k + 1) 0 = Y := ⟨_, rfl⟩
   have HXe := (show Hid ((slotsOf raw).getD (2 * k) 0 = X) from hX)
   have HYe := (show Hid ((slotsOf raw).getD (2 * k + 1) 0 = Y) from hY)
   have HXn := (show Hid (numAt raw oo 2 = X) from HX.out.symm.trans hX)
   have HYn := (show Hid (numAt raw (oo + 2) 2 = Y) from HY.out.symm.trans hY)
   clear hX hY HX HY
   have o1 : (oo : Int) + 2 ≤ 4096 := by omega
   have o2 : (0 : Int) ≤ (oo : Int) := by omega
   have o3 : IntKind.i64.wrap ((oo : Int) + 2) = (oo : Int) + 2 := by rw [IntKind.wrap_i64]; omega
   have o4 : (oo : Int) ≤ (oo : Int) + 2 := by omega
   have o5 : ((oo : Int) + 2).toNat = oo + 2 := by omega
   have o6 : oo + 2 - oo = 2 := by omega
   have o7 : oo < 4096 := by omega
   have o8 : ¬ 4096 = oo := by omega
   have p3 : IntKind.i64.wrap ((oo : Int) + 4) = (oo : Int) + 4 := by rw [IntKind.wrap_i64]; omega
   have p1 : (oo : Int) + 4 ≤ 4096 := by omega
   have p4 : (oo : Int) + 2 ≤ (oo : Int) + 4 := by omega
   have p2 : (0 : Int) ≤ (oo : Int) + 2 := by omega
   have p5 : ((oo : Int) + 4).toNat = oo + 4 := by omega
   have p6 : oo + 4 - (oo + 2) = 2 := by omega
   have p7 : oo + 2 < 4096 := by omega
   have p8 : ¬ 4096 = oo + 2 := by omega
   have hS : (fun _ : World => True) wr.drew := by trivial
   refine wp_region_V (fun _ : World => True) 99 12 rfl (by kernel_rfl) ?_
   refine tk 0 24 hS ?_
   refine tk 1 25 hS ?_
   refine tk 2 26 hS ?_
   refine tk 3 27 hS ?_
   refine tk 4 28 hS ?_
   refine tk 5 29 hS ?_
   refine tk 7 31 hS ?_
   refine tk 8 32 hS ?_
   refine wpAnyV_one (i := 6) (by kernel_rfl) rfl (fun K hK => ?_)
   go_simp
   have hc := num_at w.heap.size (oo) 2 (4096 - oo) raw wr.drew (HBr.out.same (Kept.refl _ _).drew) HB.out HL.out (by omega) (by omega)
   with_reducible refine hc.mono ?_
   clear hc
   rintro e w6 ⟨rfl, hkk⟩
   have hkx : Same wr w6 := (Kept.refl _ _).drew.trans hkk
   rw [HXn.out]
   have HSw6 := hid (HSr.out.same hkx)
   have HBw6 := (show Hid (Blk w6 w.heap.size 168 (vals .u8 raw)) from HBr.out.same hkx)
   have HKw6 := hid (HKr.out.trans hkx)
   clear hkk hkx
   refine hK.out _ _ (fun _ => trivial) ?_
   clear hK K
   try simp only [Act.put, sA, s0, sS]
   refine tk 9 33 hS ?_
   refine tk 10 34 hS ?_
   have c6 := HSw6.out.slAt (2 * k) (by omega)
   have f6 := HSw6.out.blk.frozen (7 + 2 * k)
   rw [show 7 + 2 * k = 7 + k * 2 from by omega] at c6 f6
   refine wpAnyV_one (i := 11) (by kernel_rfl) rfl (fun K hK => ?_)
   go_simp
   have hs7 := HSw6.out.slot (2 * k) (by omega) X
   rw [← HXe.out, someOf_set _ _ (slotsOf_length raw) (by omega), HXe.out, show 7 + 2 * k = 7 + k * 2 from by omega] at hs7
   have hk7 := Kept.setCell (R := fun b => b = P) (Kept.refl _ w6) (p := ⟨P, 7 + k * 2, none⟩) (.inr rfl) (.int .i64 X)
   obtain ⟨w7, hw7⟩ : ∃ w7, w6.setCell ⟨P, 7 + k * 2, none⟩ (.int .i64 X) = w7 := ⟨_, rfl⟩
   rw [hw7] at hs7 hk7 ⊢
   have HS7 := (show Hid (SP w7 P (raw.take 4) (numAt raw 4 8) (numAt raw 12 4) (numAt raw 16 2) (someOf (slotsOf raw) (2 * k + 1)) raw) from hs7)
   have HB7 := (show Hid (Blk w7 w.heap.size 168 (vals .u8 raw)) from HBw6.out.kept hk7 (by omega))
   have HK7 := (show Hid (Same w w7) from HKw6.out.next hk7 (fun i hi e => by omega))
   clear hs7 hk7 hw7 c6 f6 HSw6 HBw6 HKw6
   refine hK.out _ _ (fun _ => trivial) ?_
   clear hK K hS
   refine wpAnyV_done (by kernel_rfl) ?_
   try simp only [Act.put, sA, s0, sS]
   go_wp2_with fail
   have hS : (fun _ : World => True) w7.drew := by trivial
   refine wp_region_V (fun _ : World => True) 99 13 rfl (by kernel_rfl) ?_
   refine tk 0 35 hS ?_
   refine tk 1 36 hS ?_
   refine tk 2 37 hS ?_
   refine tk 3 38 hS ?_
   refine tk 4 39 hS ?_
   refine tk 5 40 hS ?_
   refine tk 6 41 hS ?_
   refine tk 8 43 hS ?_
   refine tk 9 44 hS ?_
   refine wpAnyV_one (i := 7) (by kernel_rfl) rfl (fun K hK => ?_)
   go_simp
   have hc := num_at w.heap.size (oo + 2) 2 (4094 - oo) raw w7.drew (HB7.out.same (Kept.refl _ _).drew) HB.out HL.out (by omega) (by omega)
   with_reducible refine hc.mono ?_
   clear hc
   rintro e w8 ⟨rfl, hkk⟩
   have hkx : Same w7 w8 := (Kept.refl _ _).drew.trans hkk
   rw [HYn.out]
   have HSw8 := hid (HS7.out.same hkx)
   have HBw8 := (show Hid (Blk w8 w.heap.size 168 (vals .u8 raw)) from HB7.out.same hkx)
   have HKw8 := hid (HK7.out.trans hkx)
   clear hkk hkx
   refine hK.out _ _ (fun _ => trivial) ?_
   clear hK K
   try simp only [Act.put, sA, s0, sS]
   refine tk 10 45 hS ?_
   refine tk 11 46 hS ?_
   have c8 := HSw8.out.slAt (2 * k + 1) (by omega)
   have f8 := HSw8.out.blk.frozen (7 + (2 * k + 1))
   rw [show 7 + (2 * k + 1) = 7 + k * 2 + 1 from by omega] at c8 f8
   refine wpAnyV_one (i := 12) (by kernel_rfl) rfl (fun K hK => ?_)
   go_simp
   have hs9 := HSw8.out.slot (2 * k + 1) (by omega) Y
   rw [← HYe.out, someOf_set _ _ (slotsOf_length raw) (by omega), HYe.out, show 7 + (2 * k + 1) = 7 + k * 2 + 1 from by omega, show 2 * k + 1 + 1 = 2 * (k + 1) from by omega] at hs9
   have hk9 := Kept.setCell (R := fun b => b = P) (Kept.refl _ w8) (p := ⟨P, 7 + k * 2 + 1, none⟩) (.inr rfl) (.int .i64 Y)
   obtain ⟨w9, hw9⟩ : ∃ w9, w8.setCell ⟨P, 7 + k * 2 + 1, none⟩ (.int .i64 Y) = w9 := ⟨_, rfl⟩
   rw [hw9] at hs9 hk9 ⊢
   have HS9 := (show Hid (SP w9 P (raw.take 4) (numAt raw 4 8) (numAt raw 12 4) (numAt raw 16 2) (someOf (slotsOf raw) (2 * (k + 1))) raw) from hs9)
   have HB9 := (show Hid (Blk w9 w.heap.size 168 (vals .u8 raw)) from HBw8.out.kept hk9 (by omega))
   have HK9 := (show Hid (Same w w9) from HKw8.out.next hk9 (fun i hi e => by omega))
   clear hs9 hk9 hw9 c8 f8 HSw8 HBw8 HKw8
   refine hK.out _ _ (fun _ => trivial) ?_
   clear hK K hS
   refine wpAnyV_done (by kernel_rfl) ?_
   try simp only [Act.put, sA, s0, sS]
   go_wp2
   go_roundw
   case rel => exact ⟨k + 1, by omega, by go_num, HS9, HB9, HK9⟩
   case measure => simp [intOf]; omega
  ·obtain rfl : k = 32 := by omega
   go_wp2
   go_ret
   have h := HSr.out
   have e : someOf (slotsOf raw) (2 * 32) = slotsOf raw := by simp [someOf, List.take_of_length_le, slotsOf_length]
   rw [e] at h
   exact ⟨P, rfl, by omega, h, HKr.out⟩
theorem used_any (x y : Int) (w : World) : Calls Tryz.prog 148 #[.agg #[.int .i64 x, .int .i64 y]] w fun e w' => e = .returned (.bool (x != 0)) ∧ Same w w' := by
 go_enter Tryz.func148, Tryz.ntmps148
 go_wp2
 go_ret
 exact ⟨rfl, (Kept.refl _ _).alloc _⟩
theorem end_any (x y : Int) (w : World) (hx : 0 ≤ x ∧ x ≤ 65535) (hy : 0 ≤ y ∧ y ≤ 65535) : Calls Tryz.prog 149 #[.agg #[.int .i64 x, .int .i64 y]] w fun e w' => e = .returned (.int .i64 (x + y)) ∧ Same w w' := by
 go_enter Tryz.func149, Tryz.ntmps149
 go_wp2
 go_ret
 exact ⟨rfl, (Kept.refl _ _).alloc _⟩
def isLSN (x : Int) : Bool := decide (0 ≤ x) && decide (x ≤ 1099511627776)
theorem isLSN_any (x : Int) (w : World) : Calls Tryz.prog 122 #[.int .i64 x] w fun e w' => e = .returned (.bool (isLSN x)) ∧ Same w w' := by
 by_cases h : 0 ≤ x
 ·go_enter Tryz.func122, Tryz.ntmps122
  go_wp2
  go_ret
  refine ⟨?_, Kept.refl _ _⟩
  simp [isLSN, h]
 ·have e : isLSN x = false := by simp [isLSN, h]
  rw [e]
  go_enter Tryz.func122, Tryz.ntmps122
  go_wp2
  go_ret
  exact ⟨rfl, Kept.refl _ _⟩
def sharesB (x y x' y' : Int) : Bool := decide (max x x' < min (x + y) (x' + y'))
theorem shares_any (x y x' y' : Int) (w : World) (hx : 0 ≤ x ∧ x ≤ 65535) (hy : 0 ≤ y ∧ y ≤ 65535) (hx' : 0 ≤ x' ∧ x' ≤ 65535) (hy' : 0 ≤ y' ∧ y' ≤ 65535) :
  Calls Tryz.prog 150 #[.agg #[.int .i64 x, .int .i64 y], .agg #[.int .i64 x', .int .i64 y']] w fun e w' => e = .returned (.bool (sharesB x y x' y')) ∧ Same w w' := by
 go_enter Tryz.func150, Tryz.ntmps150
 go_wp2_with fail
 have hb1 := (Blk.new w #[.int .i64 x, .int .i64 y] 172).alloc (.cells #[.int .i64 x', .int .i64 y'] 172)
 have hb2 := Blk.new (w.alloc (.cells #[.int .i64 x, .int .i64 y] 172)) #[.int .i64 x', .int .i64 y'] 172
 have hk1 : Same w ((w.alloc (.cells #[.int .i64 x, .int .i64 y] 172)).alloc (.cells #[.int .i64 x', .int .i64 y'] 172)) := ((Kept.refl _ _).alloc _).alloc _
 rw [World.size_alloc] at hb2
 obtain ⟨w1, hw1⟩ : ∃ w1, (w.alloc (.cells #[.int .i64 x, .int .i64 y] 172)).alloc (.cells #[.int .i64 x', .int .i64 y'] 172) = w1 := ⟨_, rfl⟩
 rw [hw1] at hb1 hb2 hk1 ⊢
 clear hw1
 let Y1 : World → Prop := fun wx : World => wx.cell? ⟨w.heap.size, 0, none⟩ = some (.int .i64 x) ∧ wx.cell? ⟨w.heap.size, 1, none⟩ = some (.int .i64 y) ∧ wx.cell? ⟨w.heap.size + 1, 0, none⟩ = some (.int .i64 x') ∧ wx.cell? ⟨w.heap.size + 1, 1, none⟩ = some (.int .i64 y')
 have hSx : ∀ wx, Same w1 wx → Y1 wx := fun wx h => ⟨by rw [(hb1.same h).cell]; rfl, by rw [(hb1.same h).cell]; rfl, by rw [(hb2.same h).cell]; rfl, by rw [(hb2.same h).cell]; rfl⟩
 have hS : Y1 w1.drew := by exact hSx _ (Kept.refl _ _).drew
 refine wp_region_V Y1 99 12 rfl (by kernel_rfl) ?_
 refine tk 0 5 hS ?_
 refine tk 1 6 hS ?_
 refine tk 2 7 hS ?_
 refine tk 3 8 hS ?_
 refine tk 4 9 hS ?_
 refine tk 5 10 hS ?_
 refine tk 7 12 hS ?_
 refine wpAnyV_one (i := 6) (by kernel_rfl) rfl (fun K hK => ?_)
 go_simp
 have hc := end_any x y w1.drew hx hy
 with_reducible refine hc.mono ?_
 clear hc
 rintro e w2 ⟨rfl, hkk⟩
 have hkw2 : Same w1 w2 := Kept.trans ((Kept.refl _ _).drew) hkk
 clear hkk
 have hS : Y1 w2 := hSx _ hkw2
 refine hK.out _ _ (fun _ => hS) ?_
 clear hK K
 try simp only [Act.put, sA, s0, sS]
 refine wpAnyV_one (i := 8) (by kernel_rfl) rfl (fun K hK => ?_)
 go_simp
 have hc := end_any x' y' w2 hx' hy'
 with_reducible refine hc.mono ?_
 clear hc
 rintro e w3 ⟨rfl, hkk⟩
 have hkw3 : Same w1 w3 := Kept.trans (hkw2) hkk
 clear hkk
 have hS : Y1 w3 := hSx _ hkw3
 refine hK.out _ _ (fun _ => hS) ?_
 clear hK K
 try simp only [Act.put, sA, s0, sS]
 refine tk 9 14 hS ?_
 refine tk 10 15 hS ?_
 refine tk 11 4 hS ?_
 refine wpAnyV_done (by kernel_rfl) ?_
 go_wp2
 all_goals
  go_ret
  refine ⟨congrArg (fun b => Ending.returned (.bool b)) (?_ : _ = sharesB x y x' y'), hk1.trans hkw3⟩
  unfold sharesB
  first
   | (rw [decide_eq_decide]; omega)
   | (symm; rw [decide_eq_true_eq]; omega)
   | (symm; rw [decide_eq_false_iff_not]; omega)
   | (rw [decide_eq_decide]; repeat (first | omega | split))
def astrayAt (bot x y : Int) : Bool := (x != 0 && (decide (1000 < y) || decide (x < bot) || decide (4096 < x + y))) || (x == 0 && y != 0)
def astray (bot : Int) (sl : List Int) : Bool := (List.range 32).any fun i => astrayAt bot (sl.getD (2 * i) 0) (sl.getD (2 * i + 1) 0)
theorem astray_yes (bot : Int) (sl : List Int) (k : Nat) (hk : k < 32) (h : astrayAt bot (sl.getD (2 * k) 0) (sl.getD (2 * k + 1) 0) = true) : astray bot sl = true := by
 unfold astray
 rw [List.any_eq_true]
 exact ⟨k, List.mem_range.2 hk, h⟩
theorem astray_no (bot : Int) (sl : List Int) (h : ∀ k < 32, astrayAt bot (sl.getD (2 * k) 0) (sl.getD (2 * k + 1) 0) = false) : astray bot sl = false := by
 unfold astray
 rw [List.any_eq_false]
 intro k hk
 rw [h k (List.mem_range.1 hk)]
 simp
def Small (sl : List Int) : Prop := ∀ x ∈ sl, 0 ≤ x ∧ x ≤ 65535
theorem Small.at {sl : List Int} (h : Small sl) (k : Nat) : 0 ≤ sl.getD k 0 ∧ sl.getD k 0 ≤ 65535 := by
 by_cases hk : k < sl.length
 ·have : sl.getD k 0 = sl[k] := by simp [hk]
  rw [this]
  exact h _ (List.getElem_mem hk)
 ·simp [List.getD, List.getElem?_eq_none (show sl.length ≤ k by omega)]
theorem slotsAstray_any (P : Nat) (sum : List Int) (lsn num bot : Int) (sl raw : List Int) (w : World) (hp : SP w P sum lsn num bot sl raw) (hs : Small sl) :
  Calls Tryz.prog 146 #[.pointer (some ⟨P, 0, none⟩)] w fun e w' => e = .returned (.bool (astray bot sl)) ∧ Same w w' := by
 have hPw := hp.blk.lt
 have HP := (show Hid (SP w P sum lsn num bot sl raw) from hp)
 have HSm := (show Hid (Small sl) from hs)
 have HIs := (show Hid ((Tryz.prog.info? 173).map (·.size) = some (vals .i64 sl).length) from (by rw [vals_length, hp.l2]; exact (by kernel_rfl : (Tryz.prog.info? 173).map (·.size) = some 64) : (Tryz.prog.info? 173).map (·.size) = some (vals .i64 sl).length))
 have HRs := (show Hid (w.rangeAt P 7 (vals .i64 sl)) from hp.slRange)
 obtain ⟨ss, hss⟩ : ∃ ss : List Value, vals .i64 sl = ss := ⟨_, rfl⟩
 have HSS := (show Hid (vals .i64 sl = ss) from hss)
 rw [hss] at HIs HRs
 clear hss hp hs
 obtain ⟨R, hR⟩ : ∃ R, astray bot sl = R := ⟨_, rfl⟩
 have HR := (show Hid (astray bot sl = R) from hR)
 rw [hR]
 clear hR
 go_enter Tryz.func146, Tryz.ntmps146
 go_wp2_with (refine wpList_load_mid rfl 173 _ rfl P 7 rfl ss _ HRs.out Tryz.underlying173 rfl HIs.out ?_)
 go_loopw [4, 9] (fun _ i wr => ∃ k : Nat, k ≤ 32 ∧ i = .int .i64 k ∧ Hid (∀ j < k, astrayAt bot (sl.getD (2 * j) 0) (sl.getD (2 * j + 1) 0) = false) ∧ Hid (Same w wr)) (fun _ i _ => 32 - (intOf i).toNat)
 case atStart => exact ⟨0, by omega, rfl, fun j hj => by omega, Kept.refl _ _⟩
 case round =>
  obtain ⟨k, hk, rfl, HAl, HKr⟩ := hrel
  by_cases hlt : k < 32
  ·have hk2 : (k : Int) < 32 := by omega
   have hix := fun w => slot_at sl HP.out.l2 k hlt w
   rw [HSS.out] at hix
   have hxb := HSm.out.at (2 * k)
   have hyb := HSm.out.at (2 * k + 1)
   have HYes := (show Hid (astrayAt bot (sl.getD (2 * k) 0) (sl.getD (2 * k + 1) 0) = true → R = true) from fun h => by rw [← HR.out]; exact astray_yes bot sl k hlt h)
   have HNo := (show Hid (astrayAt bot (sl.getD (2 * k) 0) (sl.getD (2 * k + 1) 0) = false → ∀ j < k + 1, astrayAt bot (sl.getD (2 * j) 0) (sl.getD (2 * j + 1) 0) = false) from fun h j hj => by
    by_cases e : j = k
    ·rw [e]; exact h
    ·exact HAl.out j (by omega))
   generalize sl.getD (2 * k) 0 = x at *
   generalize sl.getD (2 * k + 1) 0 = y at *
   go_wp2_with fail
   have hb7 := Blk.new wr #[.int .i64 x, .int .i64 y] 172
   have hk7 : Same wr (wr.alloc (.cells #[.int .i64 x, .int .i64 y] 172)) := (Kept.refl _ _).alloc _
   obtain ⟨w7, hw7⟩ : ∃ w7, wr.alloc (.cells #[.int .i64 x, .int .i64 y] 172) = w7 := ⟨_, rfl⟩
   rw [hw7] at hk7 hb7 ⊢
   have hbot := (HP.out.same (HKr.out.trans hk7)).num3.2.2
   let Y1 : World → Prop := fun wx : World => wx.cell? ⟨wr.heap.size, 0, none⟩ = some (.int .i64 x) ∧ wx.cell? ⟨wr.heap.size, 1, none⟩ = some (.int .i64 y) ∧ wx.cell? ⟨P, 6, none⟩ = some (.int .i64 bot)
   have hSx : ∀ wx, Same w7 wx → Y1 wx := fun wx h => ⟨by rw [(hb7.same h).cell]; rfl, by rw [(hb7.same h).cell]; rfl, h.cellOf hbot id⟩
   have HKw := hid (HKr.out.trans hk7)
   clear hw7 hk7
   by_cases hx0 : x = 0
   ·have hx0b : (x != 0) = false := by rw [hx0]; rfl
    have HX0 := (show Hid (x = 0) from hx0)
    clear hx0
    have hS : Y1 w7.drew := by exact hSx _ (Kept.refl _ _).drew
    refine wp_region_V Y1 99 21 rfl (by kernel_rfl) ?_
    refine tk 0 12 hS ?_
    refine wpAnyV_one (i := 1) (by kernel_rfl) rfl (fun K hK => ?_)
    go_simp
    have hc := used_any x y w7.drew
    with_reducible refine hc.mono ?_
    clear hc
    rintro e w8 ⟨rfl, hkk⟩
    have hkw8 : Same w7 w8 := Kept.trans ((Kept.refl _ _).drew) hkk
    clear hkk
    rw [hx0b]
    have hS : Y1 w8 := hSx _ hkw8
    refine hK.out _ _ (fun _ => hS) ?_
    clear hK K
    try simp only [Act.put, sA, s0, sS]
    refine tk 2 14 hS ?_
    refine tkS 3 15 hS ?_
    refine tkS 4 16 hS ?_
    refine tkS 5 17 hS ?_
    refine tkS 6 18 hS ?_
    refine tkS 7 19 hS ?_
    refine tkS 8 20 hS ?_
    refine tkS 9 21 hS ?_
    refine tkS 10 22 hS ?_
    refine tkS 11 23 hS ?_
    refine tkS 12 24 hS ?_
    refine tkS 13 25 hS ?_
    refine tkS 14 26 hS ?_
    refine tkS 15 27 hS ?_
    refine tkS 16 28 hS ?_
    refine tkS 17 29 hS ?_
    refine tkS 18 30 hS ?_
    refine tkS 19 31 hS ?_
    refine tk 20 32 hS ?_
    refine wpAnyV_done (by kernel_rfl) ?_
    try simp only [Act.put, sA, s0, sS]
    have hcu := used_any x y w8
    rw [hx0b] at hcu
    have q0 : w8.cell? ⟨wr.heap.size, 0, none⟩ = some (.int .i64 x) := (hSx _ hkw8).1
    have q1 : w8.cell? ⟨wr.heap.size, 1, none⟩ = some (.int .i64 y) := (hSx _ hkw8).2.1
    have q2 : ∀ wx, Same w8 wx → wx.cell? ⟨wr.heap.size, 1, none⟩ = some (.int .i64 y) := fun wx h => (hSx _ (hkw8.trans h)).2.1
    by_cases hy0 : y = 0
    ·have hAt : astrayAt bot x y = false := by simp [astrayAt, HX0.out, hy0]
     have hyb0 : (y != 0) = false := by rw [hy0]; rfl
     clear hy0
     go_wp2_with (go_at_call 148; refine hcu.mono ?_; rintro e w10 ⟨rfl, hk10⟩; have q3 := q2 w10 hk10)
     go_roundw
     case rel => exact ⟨k + 1, by omega, by go_num, HNo.out hAt, HKw.out.trans (hkw8.trans hk10)⟩
     case measure => simp [intOf]; omega
    ·have hAt : astrayAt bot x y = true := by simp [astrayAt, HX0.out, hy0]
     have hyb0 : (y != 0) = true := by simp [hy0]
     have hRt := HYes.out hAt
     go_wp2_with (go_at_call 148; refine hcu.mono ?_; rintro e w10 ⟨rfl, hk10⟩; have q3 := q2 w10 hk10)
     go_ret
     try rw [hRt]
     exact ⟨rfl, HKw.out.trans (hkw8.trans hk10)⟩
   ·have hx0b : (x != 0) = true := by simp [hx0]
    by_cases hL : 1000 < y
    ·have hAt : astrayAt bot x y = true := by simp [astrayAt, hx0, hL]
     have hRt := HYes.out hAt
     have hLd : decide (1000 < y) = true := by simp [hL]
     have hS : Y1 w7.drew := by exact hSx _ (Kept.refl _ _).drew
     refine wp_region_V Y1 99 21 rfl (by kernel_rfl) ?_
     refine tk 0 12 hS ?_
     refine wpAnyV_one (i := 1) (by kernel_rfl) rfl (fun K hK => ?_)
     go_simp
     have hc := used_any x y w7.drew
     with_reducible refine hc.mono ?_
     clear hc
     rintro e w8 ⟨rfl, hkk⟩
     have hkw8 : Same w7 w8 := Kept.trans ((Kept.refl _ _).drew) hkk
     clear hkk
     rw [hx0b]
     have hS : Y1 w8 := hSx _ hkw8
     refine hK.out _ _ (fun _ => hS) ?_
     clear hK K
     try simp only [Act.put, sA, s0, sS]
     refine tk 2 14 hS ?_
     refine tk 3 15 hS ?_
     refine tk 4 16 hS ?_
     refine tk 5 17 hS ?_
     refine tk 6 18 hS ?_
     refine tkS 7 19 hS ?_
     refine tkS 8 20 hS ?_
     refine tkS 9 21 hS ?_
     refine tkS 10 22 hS ?_
     refine tkS 11 23 hS ?_
     refine tkS 12 24 hS ?_
     refine tkS 13 25 hS ?_
     refine tk 14 26 hS ?_
     refine tk 15 27 hS ?_
     refine tkS 16 28 hS ?_
     refine tkS 17 29 hS ?_
     refine tkS 18 30 hS ?_
     refine tk 19 31 hS ?_
     refine tk 20 32 hS ?_
     refine wpAnyV_done (by kernel_rfl) ?_
     try simp only [Act.put, sA, s0, sS]
     go_wp2
     go_ret
     try rw [hRt]
     exact ⟨rfl, HKw.out.trans hkw8⟩
    ·have hLd : decide (1000 < y) = false := by simp; omega
     by_cases hO : x < bot
     ·have hAt : astrayAt bot x y = true := by simp [astrayAt, hx0, hO]
      have hRt := HYes.out hAt
      have hOd : decide (x < bot) = true := by simp [hO]
      have hS : Y1 w7.drew := by exact hSx _ (Kept.refl _ _).drew
      refine wp_region_V Y1 99 21 rfl (by kernel_rfl) ?_
      refine tk 0 12 hS ?_
      refine wpAnyV_one (i := 1) (by kernel_rfl) rfl (fun K hK => ?_)
      go_simp
      have hc := used_any x y w7.drew
      with_reducible refine hc.mono ?_
      clear hc
      rintro e w8 ⟨rfl, hkk⟩
      have hkw8 : Same w7 w8 := Kept.trans ((Kept.refl _ _).drew) hkk
      clear hkk
      rw [hx0b]
      have hS : Y1 w8 := hSx _ hkw8
      refine hK.out _ _ (fun _ => hS) ?_
      clear hK K
      try simp only [Act.put, sA, s0, sS]
      refine tk 2 14 hS ?_
      refine tk 3 15 hS ?_
      refine tk 4 16 hS ?_
      refine tk 5 17 hS ?_
      refine tk 6 18 hS ?_
      refine tk 7 19 hS ?_
      refine tk 8 20 hS ?_
      refine tk 9 21 hS ?_
      refine tk 10 22 hS ?_
      refine tk 11 23 hS ?_
      refine tk 12 24 hS ?_
      refine tk 13 25 hS ?_
      refine tk 14 26 hS ?_
      refine tk 15 27 hS ?_
      refine tkS 16 28 hS ?_
      refine tkS 17 29 hS ?_
      refine tkS 18 30 hS ?_
      refine tk 19 31 hS ?_
      refine tk 20 32 hS ?_
      refine wpAnyV_done (by kernel_rfl) ?_
      try simp only [Act.put, sA, s0, sS]
      go_wp2
      go_ret
      try rw [hRt]
      exact ⟨rfl, HKw.out.trans hkw8⟩
     ·have hOd : decide (x < bot) = false := by simp; omega
      have hS : Y1 w7.drew := by exact hSx _ (Kept.refl _ _).drew
      refine wp_region_V Y1 99 21 rfl (by kernel_rfl) ?_
      refine tk 0 12 hS ?_
      refine wpAnyV_one (i := 1) (by kernel_rfl) rfl (fun K hK => ?_)
      go_simp
      have hc := used_any x y w7.drew
      with_reducible refine hc.mono ?_
      clear hc
      rintro e w8 ⟨rfl, hkk⟩
      have hkw8 : Same w7 w8 := Kept.trans ((Kept.refl _ _).drew) hkk
      clear hkk
      rw [hx0b]
      have hS : Y1 w8 := hSx _ hkw8
      refine hK.out _ _ (fun _ => hS) ?_
      clear hK K
      try simp only [Act.put, sA, s0, sS]
      refine tk 2 14 hS ?_
      refine tk 3 15 hS ?_
      refine tk 4 16 hS ?_
      refine tk 5 17 hS ?_
      refine tk 6 18 hS ?_
      refine tk 7 19 hS ?_
      refine tk 8 20 hS ?_
      refine tk 9 21 hS ?_
      refine tk 10 22 hS ?_
      refine tk 11 23 hS ?_
      refine tk 12 24 hS ?_
      refine tk 13 25 hS ?_
      refine tk 14 26 hS ?_
      refine tk 15 27 hS ?_
      refine tk 16 28 hS ?_
      refine wpAnyV_one (i := 17) (by kernel_rfl) rfl (fun K hK => ?_)
      go_simp
      have hc := end_any x y w8 hxb hyb
      with_reducible refine hc.mono ?_
      clear hc
      rintro e w9 ⟨rfl, hkk⟩
      have hkw9 : Same w7 w9 := Kept.trans (hkw8) hkk
      clear hkk
      have hS : Y1 w9 := hSx _ hkw9
      refine hK.out _ _ (fun _ => hS) ?_
      clear hK K
      try simp only [Act.put, sA, s0, sS]
      refine tk 18 30 hS ?_
      refine tk 19 31 hS ?_
      refine tk 20 32 hS ?_
      refine wpAnyV_done (by kernel_rfl) ?_
      try simp only [Act.put, sA, s0, sS]
      by_cases hE : 4096 < x + y
      ·have hAt : astrayAt bot x y = true := by simp [astrayAt, hx0, hE]
       have hRt := HYes.out hAt
       go_wp2
       go_ret
       try rw [hRt]
       exact ⟨rfl, HKw.out.trans hkw9⟩
      ·have hAt : astrayAt bot x y = false := by simp [astrayAt, hx0]; omega
       have hcu := used_any x y w9
       rw [hx0b] at hcu
       have q0 : w9.cell? ⟨wr.heap.size, 0, none⟩ = some (.int .i64 x) := (hSx _ hkw9).1
       have q1 : w9.cell? ⟨wr.heap.size, 1, none⟩ = some (.int .i64 y) := (hSx _ hkw9).2.1
       go_wp2_with (go_at_call 148; refine hcu.mono ?_; rintro e w10 ⟨rfl, hk10⟩)
       go_roundw
       case rel => exact ⟨k + 1, by omega, by go_num, HNo.out hAt, HKw.out.trans (hkw9.trans hk10)⟩
       case measure => simp [intOf]; omega
  ·obtain rfl : k = 32 := by omega
   have hRf : R = false := by rw [← HR.out]; exact astray_no bot sl HAl.out
   go_wp2
   go_ret
   try rw [hRf]
   exact ⟨rfl, HKr.out⟩
def shareAt (sl : List Int) (i j : Nat) : Bool := sharesB (sl.getD (2 * i) 0) (sl.getD (2 * i + 1) 0) (sl.getD (2 * j) 0) (sl.getD (2 * j + 1) 0)
def share (sl : List Int) : Bool := (List.range 32).any fun i => (List.range i).any fun j => shareAt sl i j
theorem share_yes (sl : List Int) (i j : Nat) (hi : i < 32) (hj : j < i) (h : shareAt sl i j = true) : share sl = true := by
 unfold share
 rw [List.any_eq_true]
 exact ⟨i, List.mem_range.2 hi, by rw [List.any_eq_true]; exact ⟨j, List.mem_range.2 hj, h⟩⟩
theorem share_no (sl : List Int) (h : ∀ i < 32, ∀ j < i, shareAt sl i j = false) : share sl = false := by
 unfold share
 rw [List.any_eq_false]
 intro i hi
 rw [Bool.not_eq_true, List.any_eq_false]
 intro j hj
 rw [h i (List.mem_range.1 hi) j (List.mem_range.1 hj)]
 simp
theorem recordsShare_any (P : Nat) (sum : List Int) (lsn num bot : Int) (sl raw : List Int) (w : World) (hp : SP w P sum lsn num bot sl raw) (hs : Small sl) :
  Calls Tryz.prog 147 #[.pointer (some ⟨P, 0, none⟩)] w fun e w' => e = .returned (.bool (share sl)) ∧ Same w w' := by
 have hPw := hp.blk.lt
 have HP := (show Hid (SP w P sum lsn num bot sl raw) from hp)
 have HSm := (show Hid (Small sl) from hs)
 have HIs := (show Hid ((Tryz.prog.info? 173).map (·.size) = some (vals .i64 sl).length) from (by rw [vals_length, hp.l2]; exact (by kernel_rfl : (Tryz.prog.info? 173).map (·.size) = some 64) : (Tryz.prog.info? 173).map (·.size) = some (vals .i64 sl).length))
 have HRs := (show Hid (w.rangeAt P 7 (vals .i64 sl)) from hp.slRange)
 obtain ⟨ss, hss⟩ : ∃ ss : List Value, vals .i64 sl = ss := ⟨_, rfl⟩
 have HSS := (show Hid (vals .i64 sl = ss) from hss)
 rw [hss] at HIs HRs
 clear hss hp hs
 obtain ⟨R, hR⟩ : ∃ R, share sl = R := ⟨_, rfl⟩
 have HR := (show Hid (share sl = R) from hR)
 rw [hR]
 clear hR
 go_enter Tryz.func147, Tryz.ntmps147
 go_wp2_with (refine wpList_load_mid rfl 173 _ rfl P 7 rfl ss _ HRs.out Tryz.underlying173 rfl HIs.out ?_)
 go_loopw [3, 4, 6, 11] (fun _ _ _ i wr => ∃ k : Nat, k ≤ 32 ∧ i = .int .i64 k ∧ Hid (∀ i < k, ∀ j < i, shareAt sl i j = false) ∧ Hid (Same w wr)) (fun _ _ _ i _ => 32 - (intOf i).toNat)
 case atStart => exact ⟨0, by omega, rfl, fun j hj => by omega, Kept.refl _ _⟩
 case round =>
  obtain ⟨k, hk, rfl, HAl, HKr⟩ := hrel
  by_cases hlt : k < 32
  ·have hk2 : (k : Int) < 32 := by omega
   have hk3 : (k : Int) ≤ 32 := by omega
   have hix := fun w => slot_at sl HP.out.l2 k hlt w
   rw [HSS.out] at hix
   have hxb := HSm.out.at (2 * k)
   have hyb := HSm.out.at (2 * k + 1)
   have HAt := (show Hid (∀ j, shareAt sl k j = sharesB (sl.getD (2 * k) 0) (sl.getD (2 * k + 1) 0) (sl.getD (2 * j) 0) (sl.getD (2 * j + 1) 0)) from fun _ => rfl)
   obtain ⟨x, hx⟩ : ∃ x, sl.getD (2 * k) 0 = x := ⟨_, rfl⟩
   obtain ⟨y, hy⟩ : ∃ y, sl.getD (2 * k + 1) 0 = y := ⟨_, rfl⟩
   rw [hx, hy] at hix HAt
   rw [hx] at hxb
   rw [hy] at hyb
   clear hx hy
   go_wp2
   have hb7 := Blk.new wr #[.int .i64 x, .int .i64 y] 172
   have hk7 : Same wr (wr.alloc (.cells #[.int .i64 x, .int .i64 y] 172)) := (Kept.refl _ _).alloc _
   obtain ⟨w7, hw7⟩ : ∃ w7, wr.alloc (.cells #[.int .i64 x, .int .i64 y] 172) = w7 := ⟨_, rfl⟩
   rw [hw7] at hk7 hb7 ⊢
   have HB7 := (show Hid (Blk w7 wr.heap.size 172 [.int .i64 x, .int .i64 y]) from hb7)
   have HK7 := hid (HKr.out.trans hk7)
   obtain ⟨BI, hBI⟩ : ∃ BI, wr.heap.size = BI := ⟨_, rfl⟩
   have hBI7 := hb7.lt
   rw [hBI] at HB7 hBI7 ⊢
   clear hw7 hk7 hb7 hBI
   go_loopw [6, 21] (fun _ i wi => ∃ j : Nat, j ≤ k ∧ i = .int .i64 j ∧ Hid (∀ m < j, shareAt sl k m = false) ∧ Hid (Same w7 wi)) (fun _ i _ => k - (intOf i).toNat)
   case atStart => exact ⟨0, by omega, rfl, fun j hj => by omega, Kept.refl _ _⟩
   case round =>
    obtain ⟨j, hj, rfl, HAj, HKj⟩ := hrel
    by_cases hjl : j < k
    ·have hsp := HP.out.same (HK7.out.trans HKj.out)
     have c0 := hsp.slAt (2 * j) (by omega)
     have c1 := hsp.slAt (2 * j + 1) (by omega)
     rw [show 7 + 2 * j = 7 + j * 2 from by omega] at c0
     rw [show 7 + (2 * j + 1) = 7 + j * 2 + 1 from by omega] at c1
     have hub := HSm.out.at (2 * j)
     have hvb := HSm.out.at (2 * j + 1)
     have HAtj := (show Hid (_) from HAt.out j)
     obtain ⟨u, hu⟩ : ∃ u, sl.getD (2 * j) 0 = u := ⟨_, rfl⟩
     obtain ⟨v, hv⟩ : ∃ v, sl.getD (2 * j + 1) 0 = v := ⟨_, rfl⟩
     rw [hu] at c0 hub
     rw [hv] at c1 hvb
     rw [hu, hv] at HAtj
     clear hu hv hsp
     have hjk : (j : Int) < (k : Int) := by omega
     have hk8 : Same w7 (wr.alloc (.cells #[.int .i64 u, .int .i64 v] 172)) := HKj.out.trans ((Kept.refl _ _).alloc _)
     have d0 : (wr.alloc (.cells #[.int .i64 u, .int .i64 v] 172)).cell? ⟨BI, 0, none⟩ = some (.int .i64 x) := by rw [(HB7.out.same hk8).cell]; rfl
     have d1 : (wr.alloc (.cells #[.int .i64 u, .int .i64 v] 172)).cell? ⟨BI, 1, none⟩ = some (.int .i64 y) := by rw [(HB7.out.same hk8).cell]; rfl
     have HK8 := (show Hid (Same w7 (wr.alloc (.cells #[.int .i64 u, .int .i64 v] 172))) from hk8)
     have hc := shares_any x y u v (wr.alloc (.cells #[.int .i64 u, .int .i64 v] 172)) hxb hyb hub hvb
     have HYes := (show Hid (sharesB x y u v = true → R = true) from fun h => by rw [← HR.out]; exact share_yes sl k j hlt hjl (by rw [HAtj.out]; exact h))
     have HNo := (show Hid (sharesB x y u v = false → ∀ m < j + 1, shareAt sl k m = false) from fun h m hm => by
      by_cases e : m = j
      ·rw [e, HAtj.out]; exact h
      ·exact HAj.out m (by omega))
     generalize sharesB x y u v = sb at *
     clear hk8
     cases sb with
     | true =>
      have hRt := HYes.out (by first | trivial | rfl)
      go_wp2_with (go_at_call 150; refine hc.mono ?_; rintro e w9 ⟨rfl, hk9⟩)
      go_ret
      try rw [hRt]
      exact ⟨rfl, HK7.out.trans (HK8.out.trans hk9)⟩
     | false =>
      go_wp2_with (go_at_call 150; refine hc.mono ?_; rintro e w9 ⟨rfl, hk9⟩)
      go_roundw
      case rel => exact ⟨j + 1, by omega, by go_num, HNo.out (by first | trivial | rfl), HK8.out.trans hk9⟩
      case measure => simp [intOf]; omega
    ·obtain rfl : j = k := by omega
     go_wp2
     go_roundw
     case rel =>
      refine ⟨j + 1, by omega, by go_num, fun i hi m hm => ?_, HK7.out.trans HKj.out⟩
      by_cases e : i = j
      ·rw [e] at hm ⊢
       exact HAj.out m hm
      ·exact HAl.out i (by omega) m hm
     case measure => simp [intOf]; omega
  ·obtain rfl : k = 32 := by omega
   have hRf : R = false := by rw [← HR.out]; exact share_no sl HAl.out
   go_wp2
   go_ret
   try rw [hRf]
   exact ⟨rfl, HKr.out⟩
theorem all_range_ints : ∀ (xs ys : List Int), xs.length = ys.length → ((List.range xs.length).all fun i => xs.getD i 0 == ys.getD i 0) = (xs == ys)
 | [], [], _ => rfl
 | x :: xs, y :: ys, h => by
  have ih := all_range_ints xs ys (by simpa using h)
  rw [List.length_cons, List.range_succ_eq_map, List.all_cons, List.all_map]
  simp only [List.getD_cons_zero, Function.comp_def, List.getD_cons_succ, ih]
  simp [List.cons_beq_cons]
 | [], _ :: _, h => by simp at h
 | _ :: _, [], h => by simp at h
theorem run_equalIn_ints {P : Program} (w : World) (d : Nat) (t e : TypeId) (n : Nat) (ht : P.underlying t = some (.array n e)) (he : P.underlying e = some (.int .u8)) (hsz : ∀ w, (sizeOf e).run P w = .ok 1 w)
  (xs ys : List Int) (hx : xs.length = n) (hy : ys.length = n) :
  (Op.equalIn (d + 2) t (.agg (vals .u8 xs).toArray) (.agg (vals .u8 ys).toArray)).run P w = .ok (xs == ys) w := by
 rw [← all_range_ints xs ys (hx.trans hy.symm), hx, List.range_eq_range', Op.equalIn]
 simp only [Sem.run_bind, run_underlying ht, Result.andThen_ok, hsz, Std.Legacy.Range.forIn_eq_forIn_range', Std.Legacy.Range.size, Nat.sub_zero, Nat.add_sub_cancel, Nat.div_one]
 have hl : ∀ i ∈ List.range' 0 n 1, i < n := fun i hi => by simpa using (List.mem_range'_1.1 hi).2
 generalize List.range' 0 n 1 = l at hl ⊢
 induction l with
 | nil => simp
 | cons i l ih =>
  have hi : i < n := hl i (by simp)
  have px : (Go.part e (vals .u8 xs).toArray (i * 1)).run P w = .ok (.int .u8 (xs.getD i 0)) w := by
   simp [vals, Go.part, isAgg, run_underlying he, List.getD, List.getElem?_eq_getElem (show i < xs.length by omega)]
  have py : (Go.part e (vals .u8 ys).toArray (i * 1)).run P w = .ok (.int .u8 (ys.getD i 0)) w := by
   simp [vals, Go.part, isAgg, run_underlying he, List.getD, List.getElem?_eq_getElem (show i < ys.length by omega)]
  have pe : (Op.equalIn (d + 1) e (.int .u8 (xs.getD i 0)) (.int .u8 (ys.getD i 0))).run P w = .ok (xs.getD i 0 == ys.getD i 0) w := run_equalIn_int w d e .u8 .u8 _ _ he
  simp only [List.forIn_cons, Sem.run_bind, px, py, pe, Result.andThen_ok, List.all_cons]
  cases hb : (xs.getD i 0 == ys.getD i 0)
  ·simp
  ·simp only [Bool.not_true, Bool.false_eq_true, if_false, Sem.run_pure, Result.andThen_ok, Bool.true_and]
   exact ih fun j hj => hl j (by simp [hj])
theorem size_byte (w : World) : (sizeOf 5).run Tryz.prog w = .ok 1 w := by
 obtain ⟨i0, hi, hz0, hz1, hz2⟩ := info_parts Tryz.infoByte'
 simp [sizeOf, typeInfo, hi, hz1]
theorem run_neq_pages (w : World) (xs ys : List Int) (hx : xs.length = 4096) (hy : ys.length = 4096) : (binOp .neq 168 (.agg (vals .u8 xs).toArray) (.agg (vals .u8 ys).toArray)).run Tryz.prog w = .ok (.bool (xs != ys)) w := by
 rw [run_neq_struct, run_equalIn_ints w 9998 168 5 4096 Tryz.underlying168 Tryz.underlying5 size_byte xs ys hx hy]
 rfl
/-! ### A number and its bytes -/
theorem lows_add (k : Nat) : ∀ (v m : Nat), lows ((v + m * 256 ^ k : Nat) : Int) k = lows (v : Int) k := by
 induction k with
 | zero => intro v m; rfl
 | succ k ih =>
  intro v m
  have e1 : (v + m * 256 ^ (k + 1) : Nat) = v + (m * 256) * 256 ^ k := by rw [Nat.pow_succ, Nat.mul_comm (256 ^ k) 256, Nat.mul_assoc]
  simp only [lows]
  rw [e1, ih v (m * 256)]
  congr 1
  have h2 : (((v + m * 256 * 256 ^ k : Nat) : Int) / 256 ^ k) = (((v + m * 256 * 256 ^ k) / 256 ^ k : Nat) : Int) := by simp
  have h3 : ((v : Int) / 256 ^ k) = ((v / 256 ^ k : Nat) : Int) := by simp
  rw [h2, h3, Nat.add_mul_div_right _ _ (Nat.pow_pos (by decide))]
  omega
theorem lows_num (bs : List Int) (hb : IsB bs) : lows (num bs) bs.length = bs := by
 induction bs with
 | nil => rfl
 | cons b bs ih =>
  have hb' : IsB bs := fun y hy => hb y (by simp [hy])
  have h0 := hb b (by simp)
  have h1 := num_bound bs hb' bs.length (Nat.le_refl _)
  rw [List.take_length] at h1
  obtain ⟨n, hn⟩ : ∃ n : Nat, num bs = n := ⟨(num bs).toNat, by omega⟩
  obtain ⟨c, rfl⟩ : ∃ c : Nat, b = c := ⟨b.toNat, by omega⟩
  have ih' := ih hb'
  rw [num_cons, hn]
  rw [hn] at ih' h1
  have e3 : (256 : Int) ^ bs.length = ((256 ^ bs.length : Nat) : Int) := by simp
  rw [e3] at h1 ⊢
  have e : ((c : Int) * ((256 ^ bs.length : Nat) : Int) + (n : Int)) = ((n + c * 256 ^ bs.length : Nat) : Int) := by simp [Int.add_comm]
  rw [e, List.length_cons]
  simp only [lows]
  rw [lows_add, ih']
  congr 1
  have h2 : (((n + c * 256 ^ bs.length : Nat) : Int) / 256 ^ bs.length) = (((n + c * 256 ^ bs.length) / 256 ^ bs.length : Nat) : Int) := by simp
  rw [h2, Nat.add_mul_div_right _ _ (Nat.pow_pos (by decide)), Nat.div_eq_of_lt (by omega)]
  omega
end Go.Proofs.YtdgmecmkkddpeaaGreat
