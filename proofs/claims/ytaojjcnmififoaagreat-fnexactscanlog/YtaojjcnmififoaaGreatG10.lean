import Derived.Test.YtaojjcnmififoaaGreatG09
import Derived.Great.BuildSlice
namespace Go.Proofs.YtaojjcnmififoaaGreat
set_option linter.unusedVariables false
set_option linter.unusedSimpArgs false
set_option maxRecDepth 100000
set_option maxHeartbeats 16000000
open Go.RowKit
theorem WG (A B C B' : List Value) (h : B'.length = B.length) : lay (A ++ (B ++ C)) A.length B' = A ++ (B' ++ C) := by
 unfold lay
 rw [List.take_left, h, List.drop_append, List.drop_of_length_le (by omega), Nat.add_sub_cancel_left, List.drop_left, List.nil_append]
def jfL : Array (Nat × Nat) := #[(0, 4), (4, 1), (5, 1), (6, 1), (7, 64), (71, 4096)]
set_option maxRecDepth 100000 in
theorem jeo (parts : List (Nat × Value)) : Tryz.prog.built 221 parts = Instr.fill (fun i => jfL[i]?) Tryz.zeroCells221 parts := by kernel_rfl
theorem VB (L : Nat → Option (Nat × Nat)) (Z : List Value) (i off n : Nat) (v : Value) (ps : List (Nat × Value)) (hL : L i = some (off, n)) (hv : v.cells.size = n) (hz : off + n ≤ Z.length) :
  Instr.fill L Z.toArray ((i, v) :: ps) = Instr.fill L (lay Z off v.cells.toList).toArray ps := by
 obtain ⟨s1, g1⟩ := Great.foldl_set off v.cells.toList 0 Z.toArray
 have qT : v.cells.toList.length = n := by rw [Array.length_toList, hv]
 have e : v.cells.zipIdx.foldl (fun cs (c, j) => cs.setIfInBounds (off + j) c) Z.toArray = (lay Z off v.cells.toList).toArray := by
  have e0 : v.cells.zipIdx.foldl (fun cs (c, j) => cs.setIfInBounds (off + j) c) Z.toArray = (v.cells.toList.zipIdx 0).foldl (fun cs (x : Value × Nat) => cs.setIfInBounds (off + x.2) x.1) Z.toArray := by
   rw [← Array.foldl_toList, Array.toList_zipIdx]
  rw [e0]
  refine Array.ext_getElem? fun k => ?_
  rw [g1 k]
  simp only [Nat.add_zero, List.getElem?_toArray, List.size_toArray, qT]
  unfold lay
  by_cases h1 : k < off
  ·rw [if_neg (by omega), List.getElem?_append_left (by simp; omega), List.getElem?_take_of_lt h1]
  ·rw [List.getElem?_append_right (by simp; omega), List.length_take, Nat.min_eq_left (by omega)]
   by_cases h2 : k < off + n
   ·rw [if_pos (by omega), List.getElem?_append_left (by omega)]
   ·rw [if_neg (by omega), List.getElem?_append_right (by omega), qT, List.getElem?_drop]
    congr 1
    omega
 rw [Instr.fill, hL]
 simp only [hv, List.size_toArray, ne_eq, not_true_eq_false, decide_false, Bool.false_or, gt_iff_lt, decide_eq_true_eq]
 rw [if_neg (by omega), e]
set_option maxRecDepth 100000 in
theorem jep (sum : List Int) (lsn num bot : Int) (raw : List Int) (h1 : sum.length = 4) (h3 : raw.length = 4096) :
  Tryz.prog.built 221 [(0, .agg (vals .u8 sum).toArray), (1, .int .i64 lsn), (2, .int .i64 num), (3, .int .i64 bot), (5, .agg (vals .u8 raw).toArray)] = some (RH sum lsn num bot (List.replicate 64 0) raw).toArray := by
 have Br : Tryz.zeroCells221.toList = RH (List.replicate 4 0) 0 0 0 (List.replicate 64 0) (List.replicate 4096 0) := by kernel_rfl
 have hz : Tryz.zeroCells221 = (RH (List.replicate 4 0) 0 0 0 (List.replicate 64 0) (List.replicate 4096 0)).toArray := by rw [← Br]
 have L0 : ∀ (sum : List Int) (a b c : Int) (sl raw : List Int), sum.length = 4 → sl.length = 64 → raw.length = 4096 → (RH sum a b c sl raw).length = 4167 := fun _ _ _ _ _ _ h1 h2 h3 => Vz h1 h2 h3
 rw [jeo, hz]
 rw [VB _ _ 0 0 4 _ _ rfl (by simp [Value.cells, vals, h1]) (by rw [L0 _ _ _ _ _ _ List.length_replicate List.length_replicate List.length_replicate]; decide)]
 have e0 : lay (RH (List.replicate 4 0) 0 0 0 (List.replicate 64 0) (List.replicate 4096 0)) 0 (Value.agg (vals .u8 sum).toArray).cells.toList = RH sum 0 0 0 (List.replicate 64 0) (List.replicate 4096 0) := WG [] (vals .u8 (List.replicate 4 0)) _ (vals .u8 sum) (by rw [Rb, Rb, h1, List.length_replicate])
 rw [e0, VB _ _ 1 4 1 _ _ rfl rfl (by rw [L0 _ _ _ _ _ _ h1 List.length_replicate List.length_replicate]; decide)]
 have pY : (vals .u8 sum).length = 4 := by rw [Rb, h1]
 have e1 : lay (RH sum 0 0 0 (List.replicate 64 0) (List.replicate 4096 0)) 4 (Value.int .i64 lsn).cells.toList = RH sum lsn 0 0 (List.replicate 64 0) (List.replicate 4096 0) := by
  have h := WG (vals .u8 sum) [.int .i64 0] (.int .i64 0 :: .int .i64 0 :: (vals .i64 (List.replicate 64 0) ++ vals .u8 (List.replicate 4096 0))) [.int .i64 lsn] rfl
  rw [pY] at h
  exact h
 rw [e1, VB _ _ 2 5 1 _ _ rfl rfl (by rw [L0 _ _ _ _ _ _ h1 List.length_replicate List.length_replicate]; decide)]
 have e2 : lay (RH sum lsn 0 0 (List.replicate 64 0) (List.replicate 4096 0)) 5 (Value.int .i64 num).cells.toList = RH sum lsn num 0 (List.replicate 64 0) (List.replicate 4096 0) := by
  have h := WG (vals .u8 sum ++ [.int .i64 lsn]) [.int .i64 0] (.int .i64 0 :: (vals .i64 (List.replicate 64 0) ++ vals .u8 (List.replicate 4096 0))) [.int .i64 num] rfl
  rw [List.length_append, pY, List.append_assoc, List.append_assoc] at h
  exact h
 rw [e2, VB _ _ 3 6 1 _ _ rfl rfl (by rw [L0 _ _ _ _ _ _ h1 List.length_replicate List.length_replicate]; decide)]
 have e3 : lay (RH sum lsn num 0 (List.replicate 64 0) (List.replicate 4096 0)) 6 (Value.int .i64 bot).cells.toList = RH sum lsn num bot (List.replicate 64 0) (List.replicate 4096 0) := by
  have h := WG (vals .u8 sum ++ [.int .i64 lsn, .int .i64 num]) [.int .i64 0] (vals .i64 (List.replicate 64 0) ++ vals .u8 (List.replicate 4096 0)) [.int .i64 bot] rfl
  rw [List.length_append, pY, List.append_assoc, List.append_assoc] at h
  exact h
 rw [e3, VB _ _ 5 71 4096 _ _ rfl (by simp [Value.cells, vals, h3]) (by rw [L0 _ _ _ _ _ _ h1 List.length_replicate List.length_replicate]; decide)]
 have e4 : lay (RH sum lsn num bot (List.replicate 64 0) (List.replicate 4096 0)) 71 (Value.agg (vals .u8 raw).toArray).cells.toList = RH sum lsn num bot (List.replicate 64 0) raw := by
  have h := WG (vals .u8 sum ++ (.int .i64 lsn :: .int .i64 num :: .int .i64 bot :: vals .i64 (List.replicate 64 0))) (vals .u8 (List.replicate 4096 0)) [] (vals .u8 raw) (by rw [Rb, Rb, h3, List.length_replicate])
  have e : (vals .u8 sum ++ (.int .i64 lsn :: .int .i64 num :: .int .i64 bot :: vals .i64 (List.replicate 64 0))).length = 71 := by rw [List.length_append, pY]; rw [List.length_cons, List.length_cons, List.length_cons, Rb, List.length_replicate]
  rw [e, List.append_nil, List.append_nil, List.append_assoc] at h
  have e5 : RH sum lsn num bot (List.replicate 64 0) (List.replicate 4096 0) = vals .u8 sum ++ ((.int .i64 lsn :: .int .i64 num :: .int .i64 bot :: vals .i64 (List.replicate 64 0)) ++ vals .u8 (List.replicate 4096 0)) := rfl
  rw [e5]
  refine Eq.trans h ?_
  rw [List.append_assoc]
  rfl
 rw [e4]
 rfl
def Ri (raw : List Int) (o n : Nat) : Int := RQ ((raw.drop o).take n)
def slotsOf (raw : List Int) : List Int := (List.range 64).map fun j => Ri raw (20 + 2 * j) 2
theorem SG (raw : List Int) : (slotsOf raw).length = 64 := by simp [slotsOf]
theorem Vk (raw : List Int) (j : Nat) (h : j < 64) : (slotsOf raw).getD j 0 = Ri raw (20 + 2 * j) 2 := by simp [slotsOf, List.getD, h]
def Uv (sl : List Int) (n : Nat) : List Int := sl.take n ++ List.replicate (64 - n) 0
theorem YS (sl : List Int) (n : Nat) (h : sl.length = 64) (hn : n ≤ 64) : (Uv sl n).length = 64 := by simp [Uv, h]; omega
theorem Yb (sl : List Int) (n : Nat) (h : sl.length = 64) (hn : n < 64) : (Uv sl n).set n (sl.getD n 0) = Uv sl (n + 1) := by
 unfold Uv
 rw [List.set_append_right (h := by simp; omega)]
 have e : (sl.take n).length = n := by simp; omega
 rw [e, Nat.sub_self, show 64 - n = (64 - (n + 1)) + 1 from by omega, List.replicate_succ, List.set_cons_zero, List.take_succ_eq_append_getElem (by omega)]
 have e2 : sl.getD n 0 = sl[n] := by simp [List.getD, List.getElem?_eq_getElem (show n < sl.length by omega)]
 rw [e2, List.append_assoc]
 rfl
theorem jaO (sum : List Int) (lsn num bot : Int) (sl raw : List Int) (j : Nat) (x : Int) (h1 : sum.length = 4) (h2 : sl.length = 64) (hj : j < 64) : (RH sum lsn num bot sl raw).set (7 + j) (.int .i64 x) = RH sum lsn num bot (sl.set j x) raw := by
 have e : (vals .u8 sum).length = 4 := by rw [Rb, h1]
 unfold RH
 rw [List.set_append_right (h := by omega), e, show 7 + j - 4 = j + 1 + 1 + 1 from by omega, List.set_cons_succ, List.set_cons_succ, List.set_cons_succ, List.set_append_left (h := by rw [Rb, h2]; exact hj)]
 simp [vals]
theorem SP.slot {w : World} {B : Nat} {sum : List Int} {lsn num bot : Int} {sl raw : List Int} (h : SP w B sum lsn num bot sl raw) (j : Nat) (hj : j < 64) (x : Int) : SP (w.setCell ⟨B, 7 + j, none⟩ (.int .i64 x)) B sum lsn num bot (sl.set j x) raw := by
 refine ⟨?_, h.l1, by rw [List.length_set]; exact h.l2, h.l3⟩
 rw [← jaO sum lsn num bot sl raw j x h.l1 h.l2 hj]
 exact h.blk.stored _ _
theorem Yc (B o n c : Nat) (raw : List Int) (w : World) (hb : Blk w B 215 (vals .u8 raw)) (hB : IsB raw) (hl : raw.length = 4096) (hn : o + n ≤ 4096) (hc : n ≤ c) :
  Calls Tryz.prog 48 #[.slice (some ⟨B, o, none⟩) n c] w fun e w' => e = .returned (.int .i64 (Ri raw o n)) ∧ Same w w' :=
 Us _ _ w (Vx (Vy hB o) n) (by simp; omega) (hb.rd o n c (by omega) hc (by rw [hl]; decide))
section
variable {P : Program} {ct : Array Oper} {S : World → Prop} {o : Oper} {a : Act}
theorem Yd (j1 : o.guard = none) (x0 x1 x2 x3 x5 : Operand) (BP : o.op = Op.build 221 #[(0, x0), (1, x1), (2, x2), (3, x3), (5, x5)]) (sum : List Int) (lsn num bot : Int) (raw : List Int) (cs ds : Array Value)
  (e0 : a.eval x0 = .agg ds) (e1 : a.eval x1 = .int .i64 lsn) (e2 : a.eval x2 = .int .i64 num) (e3 : a.eval x3 = .int .i64 bot) (e5 : a.eval x5 = .agg cs) (mg : ds = (vals .u8 sum).toArray) (hC : cs = (vals .u8 raw).toArray) (h1 : sum.length = 4) (h3 : raw.length = 4096) :
  YieldsIf Tryz.prog ct S o (.agg (RH sum lsn num bot (List.replicate 64 0) raw).toArray) a := by
 have hw : Region.wanted o (yielded ct a.tmps) = true := by simp [Region.wanted, j1]
 have hb := jep sum lsn num bot raw h1 h3
 refine .inl ⟨hw, fun w _ => ?_⟩
 have iH := run_build (P := Tryz.prog) w _ #[(0, .agg (vals .u8 sum).toArray), (1, .int .i64 lsn), (2, .int .i64 num), (3, .int .i64 bot), (5, .agg (vals .u8 raw).toArray)] _ hb
 unfold execOp
 simp only [BP]
 have e : (#[(0, x0), (1, x1), (2, x2), (3, x3), (5, x5)] : Array (Nat × Operand)).map (fun (i, x) => (i, a.eval x)) = #[(0, .agg (vals .u8 sum).toArray), (1, .int .i64 lsn), (2, .int .i64 num), (3, .int .i64 bot), (5, .agg (vals .u8 raw).toArray)] := by simp [e0, e1, e2, e3, e5, mg, hC]
 rw [e]
 simp only [Sem.run_bind, iH, Result.andThen_ok]
 rfl
end
theorem jbT (w : World) (ad : Option Addr) (c : Nat) : (Instr.arrayAt 216 (.slice ad 4 c)).run Tryz.prog w = .ok (.pointer ad) w := by
 simp [Instr.arrayAt, run_underlying Tryz.underlying216]
theorem YT (raw : List Int) (w : World) (hB : IsB raw) (hl : raw.length = 4096) :
  Calls Tryz.prog 178 #[.agg (vals .u8 raw).toArray] w fun e w' => ∃ P, e = .returned (.pointer (some ⟨P, 0, none⟩)) ∧ w.heap.size ≤ P ∧
   SP w' P (raw.take 4) (Ri raw 4 8) (Ri raw 12 4) (Ri raw 16 2) (slotsOf raw) raw ∧ Same w w' := by
 obtain ⟨cs, hC⟩ : ∃ cs : Array Value, (vals .u8 raw).toArray = cs := ⟨_, rfl⟩
 have gE : cs.size = 4096 := by rw [← hC]; simp [vals, hl]
 have G6 := (show Hid (cs = (vals .u8 raw).toArray) from hC.symm)
 have HB := (show Hid (IsB raw) from hB)
 have HL := (show Hid (raw.length = 4096) from hl)
 have cN : Blk (w.alloc (.cells cs 215)) w.heap.size 215 (vals .u8 raw) := by
  have h := Blk.new w cs 215
  rw [← hC] at h ⊢
  exact h
 have aH : Same w (w.alloc (.cells cs 215)) := kZ0.alloc _
 obtain ⟨w1, fX⟩ : ∃ w1, w.alloc (.cells cs 215) = w1 := ⟨_, rfl⟩
 have eT : w1.heap.size = w.heap.size + 1 := by rw [← fX]; simp
 rw [fX] at cN aH
 have bf := (show Hid (Blk w1 w.heap.size 215 (vals .u8 raw)) from cN)
 have aM := (show Hid (Same w w1) from aH)
 have pY : (raw.take 4).length = 4 := by simp; omega
 have lG : w1.rangeAt w.heap.size 0 (vals .u8 raw) := cN.rangeAll
 have l9 : w1.rangeAt w.heap.size 0 (vals .u8 (raw.take 4)) := cN.range 0 _ (fun j v hv => by
  have hj : j < 4 := by have := (List.getElem?_eq_some_iff.1 hv).1; rwa [Rb, pY] at this
  rw [← hv, Nat.zero_add, SK _ _ _ (by omega), SK _ _ _ (by omega)]
  simp [List.getD, List.getElem?_take, hj])
 have nD : (Tryz.prog.info? 215).map (·.size) = some (vals .u8 raw).length := by rw [Rb, hl]; exact Va
 have tX : (Tryz.prog.info? 216).map (·.size) = some (vals .u8 (raw.take 4)).length := by rw [Rb, pY]; exact (by kernel_rfl : (Tryz.prog.info? 216).map (·.size) = some 4)
 obtain ⟨cl, lM⟩ : ∃ cl : List Value, vals .u8 raw = cl := ⟨_, rfl⟩
 obtain ⟨dl, m7⟩ : ∃ dl : List Value, vals .u8 (raw.take 4) = dl := ⟨_, rfl⟩
 rw [lM] at lG nD
 rw [m7] at l9 tX
 have OG := (show Hid (cl.toArray = (vals .u8 raw).toArray) from (by rw [lM] : cl.toArray = (vals .u8 raw).toArray))
 have yC := (show Hid (dl.toArray = (vals .u8 (raw.take 4)).toArray) from (by rw [m7] : dl.toArray = (vals .u8 (raw.take 4)).toArray))
 have pz := jbT
 rw [hC]
 clear hC hB hl cN aH lM m7
 go_enter Tryz.func178, Tryz.ntmps178
 go_wp2_with fail
 try rw [fX]
 clear fX
 have hS : (fun wx : World => wx.rangeAt w.heap.size 0 cl ∧ wx.rangeAt w.heap.size 0 dl) w1.drew := by exact ⟨lG, l9⟩
 refine Q9 (fun wx : World => wx.rangeAt w.heap.size 0 cl ∧ wx.rangeAt w.heap.size 0 dl) 99 13 rfl (by kernel_rfl) ?_
 refine tk 0 6 hS ?_
 refine tk 1 7 hS ?_
 refine RB (i := 2) (v := .agg dl.toArray) (some 8) rfl rfl (by kernel_rfl) (by kernel_rfl) (by kernel_rfl) (by kernel_rfl) (fun _ _ _ h => h) (yieldsIf_load_mid (by rfl) 216 _ rfl w.heap.size 0 rfl dl _ (fun _ h => h.2) Tryz.underlying216 rfl tX) hS ?_
 try simp only [Act.put, sA, s0, sS]
 refine tk 3 9 hS ?_
 refine tk 5 11 hS ?_
 refine tk 7 13 hS ?_
 refine RB (i := 9) (v := .agg cl.toArray) (some 15) rfl rfl (by kernel_rfl) (by kernel_rfl) (by kernel_rfl) (by kernel_rfl) (fun _ _ _ h => h) (yieldsIf_load_mid (by rfl) 215 _ rfl w.heap.size 0 rfl cl _ (fun _ h => h.1) Tryz.underlying215 rfl nD) hS ?_
 try simp only [Act.put, sA, s0, sS]
 refine o1Q 4 (fun K hK => ?_)
 go_simp
 have hc := Yc w.heap.size 4 8 4092 raw w1.drew (bf.out.same (kZ0.drew)) HB.out HL.out (by decide) (by decide)
 with_reducible refine hc.mono ?_
 clear hc
 rintro e w2 ⟨rfl, aG⟩
 have bo : Same w1 w2 := Kept.trans (kZ0.drew) aG
 clear aG
 have hS : (fun wx : World => wx.rangeAt w.heap.size 0 cl ∧ wx.rangeAt w.heap.size 0 dl) w2 := ⟨Kept.ranges bo lG, Kept.ranges bo l9⟩
 refine hK.out _ _ (fun _ => hS) ?_
 clear hK K
 try simp only [Act.put, sA, s0, sS]
 refine o1Q 6 (fun K hK => ?_)
 go_simp
 have hc := Yc w.heap.size 12 4 4084 raw w2 (bf.out.same (bo)) HB.out HL.out (by decide) (by decide)
 with_reducible refine hc.mono ?_
 clear hc
 rintro e w3 ⟨rfl, aG⟩
 have eS : Same w1 w3 := Kept.trans (bo) aG
 clear aG
 have hS : (fun wx : World => wx.rangeAt w.heap.size 0 cl ∧ wx.rangeAt w.heap.size 0 dl) w3 := ⟨Kept.ranges eS lG, Kept.ranges eS l9⟩
 refine hK.out _ _ (fun _ => hS) ?_
 clear hK K
 try simp only [Act.put, sA, s0, sS]
 refine o1Q 8 (fun K hK => ?_)
 go_simp
 have hc := Yc w.heap.size 16 2 4080 raw w3 (bf.out.same (eS)) HB.out HL.out (by decide) (by decide)
 with_reducible refine hc.mono ?_
 clear hc
 rintro e w4 ⟨rfl, aG⟩
 have aO : Same w1 w4 := Kept.trans (eS) aG
 clear aG
 have hS : (fun wx : World => wx.rangeAt w.heap.size 0 cl ∧ wx.rangeAt w.heap.size 0 dl) w4 := ⟨Kept.ranges aO lG, Kept.ranges aO l9⟩
 refine hK.out _ _ (fun _ => hS) ?_
 clear hK K
 try simp only [Act.put, sA, s0, sS]
 refine RB (i := 10) (v := .agg (RH (raw.take 4) (Ri raw 4 8) (Ri raw 12 4) (Ri raw 16 2) (List.replicate 64 0) raw).toArray) (some 16) rfl rfl (by kernel_rfl) (by kernel_rfl) (by kernel_rfl) (by kernel_rfl) (fun _ _ _ h => h) (Yd rfl _ _ _ _ _ rfl (raw.take 4) (Ri raw 4 8) (Ri raw 12 4) (Ri raw 16 2) raw cl.toArray dl.toArray rfl rfl rfl rfl rfl yC.out OG.out pY HL.out) hS ?_
 try simp only [Act.put, sA, s0, sS]
 obtain ⟨pl, nE⟩ : ∃ pl : Array Value, (RH (raw.take 4) (Ri raw 4 8) (Ri raw 12 4) (Ri raw 16 2) (List.replicate 64 0) raw).toArray = pl := ⟨_, rfl⟩
 have Qv : pl.size = 4167 := by rw [← nE, List.size_toArray]; exact Vz pY List.length_replicate HL.out
 have MV := (show Hid ((RH (raw.take 4) (Ri raw 4 8) (Ri raw 12 4) (Ri raw 16 2) (List.replicate 64 0) raw).toArray = pl) from nE)
 rw [nE]
 clear nE
 refine o1Q 11 (fun K hK => ?_)
 go_simp
 have hP : w.heap.size + 1 ≤ w4.heap.size := by have := aO.size; omega
 have qf : SP (w4.alloc (.cells pl 221)) w4.heap.size (raw.take 4) (Ri raw 4 8) (Ri raw 12 4) (Ri raw 16 2) (Uv (slotsOf raw) (2 * 0)) raw := by
  refine ⟨?_, pY, YS _ _ (SG raw) (by decide), HL.out⟩
  have h := Blk.new w4 pl 221
  rw [← MV.out] at h ⊢
  exact h
 have eA : Same w1 (w4.alloc (.cells pl 221)) := aO.trans (kZ0.alloc _)
 obtain ⟨w5, tR⟩ : ∃ w5, w4.alloc (.cells pl 221) = w5 := ⟨_, rfl⟩
 rw [tR] at qf eA ⊢
 obtain ⟨P, JS⟩ : ∃ P, w4.heap.size = P := ⟨_, rfl⟩
 rw [JS] at qf hP ⊢
 have Cc := (show Hid (SP w5 P (raw.take 4) (Ri raw 4 8) (Ri raw 12 4) (Ri raw 16 2) (Uv (slotsOf raw) (2 * 0)) raw) from qf)
 have fH := hid (bf.out.same eA)
 have dp := hid (aM.out.trans eA)
 have hS : (fun wx : World => wx.rangeAt w.heap.size 0 cl ∧ wx.rangeAt w.heap.size 0 dl) w5 := ⟨Kept.ranges eA lG, Kept.ranges eA l9⟩
 clear tR qf JS
 refine hK.out _ _ (fun _ => hS) ?_
 clear hK K
 try simp only [Act.put, sA, s0, sS]
 refine tk 12 3 hS ?_
 refine Q8 (by kernel_rfl) ?_
 try simp only [Act.put, sA, s0, sS]
 clear hS eA bo eS aO lG l9 nD tX
 go_wp2_with fail
 go_loopw [4, 5, 18] (fun _ _ i wr => ∃ k : Nat, k ≤ 32 ∧ i = .int .i64 k ∧ Hid (SP wr P (raw.take 4) (Ri raw 4 8) (Ri raw 12 4) (Ri raw 16 2) (Uv (slotsOf raw) (2 * k)) raw) ∧ Hid (Blk wr w.heap.size 215 (vals .u8 raw)) ∧ Hid (Same w wr)) (fun _ _ i _ => 32 - (intOf i).toNat)
 case atStart => exact ⟨0, by omega, rfl, Cc, fH, dp⟩
 case round =>
  obtain ⟨k, hk, rfl, H6, kq, dO⟩ := hrel
  by_cases bH : k < 32
  ·have aN : (k : Int) < 32 := by omega
   have fq : (0 : Int) ≤ (k : Int) := by omega
   have HX := (show Hid ((slotsOf raw).getD (2 * k) 0 = Ri raw (20 + 4 * k) 2) from (by rw [Vk _ _ (by omega), show 20 + 2 * (2 * k) = 20 + 4 * k from by omega] : (slotsOf raw).getD (2 * k) 0 = Ri raw (20 + 4 * k) 2))
   have HY := (show Hid ((slotsOf raw).getD (2 * k + 1) 0 = Ri raw (20 + 4 * k + 2) 2) from (by rw [Vk _ _ (by omega), show 20 + 2 * (2 * k + 1) = 20 + 4 * k + 2 from by omega] : (slotsOf raw).getD (2 * k + 1) 0 = Ri raw (20 + 4 * k + 2) 2))
   go_wp2_with fail
   obtain ⟨oo, Hp⟩ : ∃ oo : Nat, 20 + 4 * k = oo := ⟨_, rfl⟩
   have e1 : (20 + (k : Int) * 4) = (oo : Int) := by omega
   rw [e1]
   rw [Hp] at HX HY
   obtain ⟨X, hX⟩ : ∃ X, (slotsOf raw).getD (2 * k) 0 = X := ⟨_, rfl⟩
   obtain ⟨Y, hY⟩ : ∃ Y, (slotsOf raw).getD (2 * k + 1) 0 = Y := ⟨_, rfl⟩
   have I3 := (show Hid ((slotsOf raw).getD (2 * k) 0 = X) from hX)
   have KM := (show Hid ((slotsOf raw).getD (2 * k + 1) 0 = Y) from hY)
   have MQ := (show Hid (Ri raw oo 2 = X) from HX.out.symm.trans hX)
   have Mv := (show Hid (Ri raw (oo + 2) 2 = Y) from HY.out.symm.trans hY)
   clear hX hY HX HY
   have o1 : (oo : Int) + 2 ≤ 4096 := by omega
   have o2 : (0 : Int) ≤ (oo : Int) := by omega
   have o3 : IntKind.i64.wrap ((oo : Int) + 2) = (oo : Int) + 2 := by rw [IntKind.wrap_i64]; omega
   have o4 : (oo : Int) ≤ (oo : Int) + 2 := by omega
   have o5 : ((oo : Int) + 2).toNat = oo + 2 := by omega
   have o6 : oo + 2 - oo = 2 := by omega
   have o7 : oo < 4096 := by omega
   have o8 : ¬ 4096 = oo := by omega
   have p3 : IntKind.i64.wrap ((oo : Int) + 4) = (oo : Int) + 4 := by rw [IntKind.wrap_i64]; omega
   have p1 : (oo : Int) + 4 ≤ 4096 := by omega
   have p4 : (oo : Int) + 2 ≤ (oo : Int) + 4 := by omega
   have p2 : (0 : Int) ≤ (oo : Int) + 2 := by omega
   have p5 : ((oo : Int) + 4).toNat = oo + 4 := by omega
   have p6 : oo + 4 - (oo + 2) = 2 := by omega
   have p7 : oo + 2 < 4096 := by omega
   have p8 : ¬ 4096 = oo + 2 := by omega
   have hS : (fun _ : World => True) wr.drew := by trivial
   refine Q9 (fun _ : World => True) 99 12 rfl (by kernel_rfl) ?_
   refine tk 0 24 hS ?_
   refine tk 1 25 hS ?_
   refine tk 2 26 hS ?_
   refine tk 3 27 hS ?_
   refine tk 4 28 hS ?_
   refine tk 5 29 hS ?_
   refine tk 7 31 hS ?_
   refine tk 8 32 hS ?_
   refine o1Q 6 (fun K hK => ?_)
   go_simp
   have hc := Yc w.heap.size (oo) 2 (4096 - oo) raw wr.drew (kq.out.same kZ0.drew) HB.out HL.out (by omega) (by omega)
   with_reducible refine hc.mono ?_
   clear hc
   rintro e w6 ⟨rfl, aG⟩
   have dG : Same wr w6 := kZ0.drew.trans aG
   rw [MQ.out]
   have rj := hid (H6.out.same dG)
   have yH := hid (kq.out.same dG)
   have iN := hid (dO.out.trans dG)
   clear aG dG
   refine hK.out _ _ (fun _ => trivial) ?_
   clear hK K
   try simp only [Act.put, sA, s0, sS]
   refine tk 9 33 hS ?_
   refine tk 10 34 hS ?_
   have c6 := rj.out.slAt (2 * k) (by omega)
   have f6 := rj.out.blk.frozen (7 + 2 * k)
   rw [show 7 + 2 * k = 7 + k * 2 from by omega] at c6 f6
   refine o1Q 11 (fun K hK => ?_)
   go_simp
   have By := rj.out.slot (2 * k) (by omega) X
   rw [← I3.out, Yb _ _ (SG raw) (by omega), I3.out, show 7 + 2 * k = 7 + k * 2 from by omega] at By
   have gq := Kept.setCell (R := fun b => b = P) (Kept.refl _ w6) (p := ⟨P, 7 + k * 2, none⟩) (.inr rfl) (.int .i64 X)
   obtain ⟨w7, o9⟩ : ∃ w7, w6.setCell ⟨P, 7 + k * 2, none⟩ (.int .i64 X) = w7 := ⟨_, rfl⟩
   rw [o9] at By gq ⊢
   have mY := (show Hid (SP w7 P (raw.take 4) (Ri raw 4 8) (Ri raw 12 4) (Ri raw 16 2) (Uv (slotsOf raw) (2 * k + 1)) raw) from By)
   have jU := hid (yH.out.kept gq (by omega))
   have dd := hid (iN.out.next gq (fun i hi e => by omega))
   clear By gq o9 c6 f6 rj yH iN
   refine hK.out _ _ (fun _ => trivial) ?_
   clear hK K hS
   refine Q8 (by kernel_rfl) ?_
   try simp only [Act.put, sA, s0, sS]
   go_wp2_with fail
   have hS : (fun _ : World => True) w7.drew := by trivial
   refine Q9 (fun _ : World => True) 99 13 rfl (by kernel_rfl) ?_
   refine tk 0 35 hS ?_
   refine tk 1 36 hS ?_
   refine tk 2 37 hS ?_
   refine tk 3 38 hS ?_
   refine tk 4 39 hS ?_
   refine tk 5 40 hS ?_
   refine tk 6 41 hS ?_
   refine tk 8 43 hS ?_
   refine tk 9 44 hS ?_
   refine o1Q 7 (fun K hK => ?_)
   go_simp
   have hc := Yc w.heap.size (oo + 2) 2 (4094 - oo) raw w7.drew (jU.out.same kZ0.drew) HB.out HL.out (by omega) (by omega)
   with_reducible refine hc.mono ?_
   clear hc
   rintro e w8 ⟨rfl, aG⟩
   have dG : Same w7 w8 := kZ0.drew.trans aG
   rw [Mv.out]
   have rz := hid (mY.out.same dG)
   have yS := hid (jU.out.same dG)
   have jK := hid (dd.out.trans dG)
   clear aG dG
   refine hK.out _ _ (fun _ => trivial) ?_
   clear hK K
   try simp only [Act.put, sA, s0, sS]
   refine tk 10 45 hS ?_
   refine tk 11 46 hS ?_
   have c8 := rz.out.slAt (2 * k + 1) (by omega)
   have f8 := rz.out.blk.frozen (7 + (2 * k + 1))
   rw [show 7 + (2 * k + 1) = 7 + k * 2 + 1 from by omega] at c8 f8
   refine o1Q 12 (fun K hK => ?_)
   go_simp
   have BB := rz.out.slot (2 * k + 1) (by omega) Y
   rw [← KM.out, Yb _ _ (SG raw) (by omega), KM.out, show 7 + (2 * k + 1) = 7 + k * 2 + 1 from by omega, show 2 * k + 1 + 1 = 2 * (k + 1) from by omega] at BB
   have fm := Kept.setCell (R := fun b => b = P) (Kept.refl _ w8) (p := ⟨P, 7 + k * 2 + 1, none⟩) (.inr rfl) (.int .i64 Y)
   obtain ⟨w9, I1⟩ : ∃ w9, w8.setCell ⟨P, 7 + k * 2 + 1, none⟩ (.int .i64 Y) = w9 := ⟨_, rfl⟩
   rw [I1] at BB fm ⊢
   have dQ := (show Hid (SP w9 P (raw.take 4) (Ri raw 4 8) (Ri raw 12 4) (Ri raw 16 2) (Uv (slotsOf raw) (2 * (k + 1))) raw) from BB)
   have eG := hid (yS.out.kept fm (by omega))
   have pr := hid (jK.out.next fm (fun i hi e => by omega))
   clear BB fm I1 c8 f8 rz yS jK
   refine hK.out _ _ (fun _ => trivial) ?_
   clear hK K hS
   refine Q8 (by kernel_rfl) ?_
   try simp only [Act.put, sA, s0, sS]
   go_wp2
   go_roundw
   case rel => exact ⟨k + 1, by omega, by go_num, dQ, eG, pr⟩
   case measure => simp [intOf]; omega
  ·obtain rfl : k = 32 := by omega
   go_wp2
   go_ret
   have h := H6.out
   have e : Uv (slotsOf raw) (2 * 32) = slotsOf raw := by simp [Uv, List.take_of_length_le, SG]
   rw [e] at h
   exact ⟨P, rfl, by omega, h, dO.out⟩
theorem Vb (x y : Int) (w : World) : Calls Tryz.prog 183 #[.agg #[.int .i64 x, .int .i64 y]] w fun e w' => e = .returned (.bool (x != 0)) ∧ Same w w' := by
 go_enter Tryz.func183, Tryz.ntmps183
 go_wp2
 go_ret
 exact ⟨rfl, kZ0.alloc _⟩
theorem jad (x y : Int) (w : World) (hx : 0 ≤ x ∧ x ≤ 65535) (hy : 0 ≤ y ∧ y ≤ 65535) : Calls Tryz.prog 184 #[.agg #[.int .i64 x, .int .i64 y]] w fun e w' => e = .returned (.int .i64 (x + y)) ∧ Same w w' := by
 go_enter Tryz.func184, Tryz.ntmps184
 go_wp2
 go_ret
 exact ⟨rfl, kZ0.alloc _⟩
def Sk (x : Int) : Bool := decide (0 ≤ x) && decide (x ≤ 1099511627776)
theorem Xf (x : Int) (w : World) : Calls Tryz.prog 158 #[.int .i64 x] w fun e w' => e = .returned (.bool (Sk x)) ∧ Same w w' := by
 by_cases h : 0 ≤ x
 ·go_enter Tryz.func158, Tryz.ntmps158
  go_wp2
  go_ret
  refine ⟨?_, kZ0⟩
  simp [Sk, h]
 ·have e : Sk x = false := by simp [Sk, h]
  rw [e]
  go_enter Tryz.func158, Tryz.ntmps158
  go_wp2
  go_ret
  exact ⟨rfl, kZ0⟩
def Um (x y x' y' : Int) : Bool := decide (max x x' < min (x + y) (x' + y'))
theorem jbU (x y x' y' : Int) (w : World) (hx : 0 ≤ x ∧ x ≤ 65535) (hy : 0 ≤ y ∧ y ≤ 65535) (zr : 0 ≤ x' ∧ x' ≤ 65535) (EK : 0 ≤ y' ∧ y' ≤ 65535) :
  Calls Tryz.prog 185 #[.agg #[.int .i64 x, .int .i64 y], .agg #[.int .i64 x', .int .i64 y']] w fun e w' => e = .returned (.bool (Um x y x' y')) ∧ Same w w' := by
 go_enter Tryz.func185, Tryz.ntmps185
 go_wp2_with fail
 have cN := (Blk.new w #[.int .i64 x, .int .i64 y] 218).alloc (.cells #[.int .i64 x', .int .i64 y'] 218)
 have dL := Blk.new (w.alloc (.cells #[.int .i64 x, .int .i64 y] 218)) #[.int .i64 x', .int .i64 y'] 218
 have aH : Same w ((w.alloc (.cells #[.int .i64 x, .int .i64 y] 218)).alloc (.cells #[.int .i64 x', .int .i64 y'] 218)) := (kZ0.alloc _).alloc _
 rw [World.size_alloc] at dL
 obtain ⟨w1, fX⟩ : ∃ w1, (w.alloc (.cells #[.int .i64 x, .int .i64 y] 218)).alloc (.cells #[.int .i64 x', .int .i64 y'] 218) = w1 := ⟨_, rfl⟩
 rw [fX] at cN dL aH ⊢
 clear fX
 let Y1 : World → Prop := fun wx : World => wx.cell? ⟨w.heap.size, 0, none⟩ = some (.int .i64 x) ∧ wx.cell? ⟨w.heap.size, 1, none⟩ = some (.int .i64 y) ∧ wx.cell? ⟨w.heap.size + 1, 0, none⟩ = some (.int .i64 x') ∧ wx.cell? ⟨w.heap.size + 1, 1, none⟩ = some (.int .i64 y')
 have bv : ∀ wx, Same w1 wx → Y1 wx := fun wx h => ⟨by rw [(cN.same h).cell]; rfl, by rw [(cN.same h).cell]; rfl, by rw [(dL.same h).cell]; rfl, by rw [(dL.same h).cell]; rfl⟩
 have hS : Y1 w1.drew := by exact bv _ kZ0.drew
 refine Q9 Y1 99 12 rfl (by kernel_rfl) ?_
 refine tk 0 5 hS ?_
 refine tk 1 6 hS ?_
 refine tk 2 7 hS ?_
 refine tk 3 8 hS ?_
 refine tk 4 9 hS ?_
 refine tk 5 10 hS ?_
 refine tk 7 12 hS ?_
 refine o1Q 6 (fun K hK => ?_)
 go_simp
 have hc := jad x y w1.drew hx hy
 with_reducible refine hc.mono ?_
 clear hc
 rintro e w2 ⟨rfl, aG⟩
 have bo : Same w1 w2 := Kept.trans (kZ0.drew) aG
 clear aG
 have hS : Y1 w2 := bv _ bo
 refine hK.out _ _ (fun _ => hS) ?_
 clear hK K
 try simp only [Act.put, sA, s0, sS]
 refine o1Q 8 (fun K hK => ?_)
 go_simp
 have hc := jad x' y' w2 zr EK
 with_reducible refine hc.mono ?_
 clear hc
 rintro e w3 ⟨rfl, aG⟩
 have eS : Same w1 w3 := Kept.trans (bo) aG
 clear aG
 have hS : Y1 w3 := bv _ eS
 refine hK.out _ _ (fun _ => hS) ?_
 clear hK K
 try simp only [Act.put, sA, s0, sS]
 refine tk 9 14 hS ?_
 refine tk 10 15 hS ?_
 refine tk 11 4 hS ?_
 refine Q8 (by kernel_rfl) ?_
 go_wp2
 all_goals
  go_ret
  refine ⟨congrArg (fun b => Ending.returned (.bool b)) (?_ : _ = Um x y x' y'), aH.trans eS⟩
  unfold Um
  first
   | (rw [decide_eq_decide]; omega)
   | (symm; rw [decide_eq_true_eq]; omega)
   | (symm; rw [decide_eq_false_iff_not]; omega)
   | (rw [decide_eq_decide]; repeat (first | omega | split))
end Go.Proofs.YtaojjcnmififoaaGreat
