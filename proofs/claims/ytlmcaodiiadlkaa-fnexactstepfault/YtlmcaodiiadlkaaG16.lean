import Derived.Test.YtlmcaodiiadlkaaStepS
import Derived.Test.YtlmcaodiiadlkaaInts
import Derived.Test.YtlmcaodiiadlkaaG01
import Derived.Laws.ResultCell
namespace Go.Proofs.Ytlmcaodiiadlkaa
set_option maxRecDepth 100000
set_option maxHeartbeats 4000000
set_option linter.unusedVariables false
set_option linter.unusedSimpArgs false
open Go.RowKit
theorem ownFields_1 (t i c : Int) (da : Option Addr) (nd dc : Nat) (ka : Option Addr) (nk kc : Nat) (w : World) : Calls Try.prog 46 #[.agg #[.int .i64 1, .int .i64 t, .int .i64 i, .int .i64 c, .slice da nd dc, .slice ka nk kc]] w fun e w' => e = .returned (.tuple #[.agg #[.int .i64 1, .int .i64 0, .int .i64 0, .int .i64 0, .slice none 0 0, .slice none 0 0], .bool true]) ∧ Same w w' := by
 have hne : ¬ (w.heap.size = w.heap.size + 1 + 1) := by omega
 go_enter Try.func46, Try.ntmps46
 go_wp2
 (try simp only [Exit.inBlock, Exit.then])
 refine bodyPost_ret (v := .tuple #[.agg #[.int .i64 1, .int .i64 0, .int .i64 0, .int .i64 0, .slice none 0 0, .slice none 0 0], .bool true]) ?_ rfl ⟨rfl, (((Kept.refl _ _).alloc _).alloc _).alloc _⟩
 rw [results_cell_tmp rfl]
 go_simp
theorem ownFields_2 (t i c : Int) (da : Option Addr) (nd dc : Nat) (ka : Option Addr) (nk kc : Nat) (w : World) : Calls Try.prog 46 #[.agg #[.int .i64 2, .int .i64 t, .int .i64 i, .int .i64 c, .slice da nd dc, .slice ka nk kc]] w fun e w' => e = .returned (.tuple #[.agg #[.int .i64 2, .int .i64 t, .int .i64 0, .int .i64 0, .slice da nd dc, .slice none 0 0], .bool true]) ∧ Same w w' := by
 have hne : ¬ (w.heap.size = w.heap.size + 1 + 1) := by omega
 go_enter Try.func46, Try.ntmps46
 have HB0 := hid (((Blk.new w #[.int .i64 2, .int .i64 t, .int .i64 i, .int .i64 c, .slice da nd dc, .slice ka nk kc] 50).alloc (.cells #[.int .i64 0, .int .i64 0, .int .i64 0, .int .i64 0, .slice none 0 0, .slice none 0 0] 50)).alloc (.cells #[.int .i64 2, .int .i64 0, .int .i64 0, .int .i64 0, .slice none 0 0, .slice none 0 0] 50))
 have HB1 : Hid (Blk (((w.alloc (.cells #[.int .i64 2, .int .i64 t, .int .i64 i, .int .i64 c, .slice da nd dc, .slice ka nk kc] 50)).alloc (.cells #[.int .i64 0, .int .i64 0, .int .i64 0, .int .i64 0, .slice none 0 0, .slice none 0 0] 50)).alloc (.cells #[.int .i64 2, .int .i64 0, .int .i64 0, .int .i64 0, .slice none 0 0, .slice none 0 0] 50)) (w.heap.size + 1) 50 [.int .i64 0, .int .i64 0, .int .i64 0, .int .i64 0, .slice none 0 0, .slice none 0 0]) := by
  have h := (Blk.new (w.alloc (.cells #[.int .i64 2, .int .i64 t, .int .i64 i, .int .i64 c, .slice da nd dc, .slice ka nk kc] 50)) #[.int .i64 0, .int .i64 0, .int .i64 0, .int .i64 0, .slice none 0 0, .slice none 0 0] 50).alloc (.cells #[.int .i64 2, .int .i64 0, .int .i64 0, .int .i64 0, .slice none 0 0, .slice none 0 0] 50)
  rwa [World.size_alloc] at h
 have HB2 : Hid (Blk (((w.alloc (.cells #[.int .i64 2, .int .i64 t, .int .i64 i, .int .i64 c, .slice da nd dc, .slice ka nk kc] 50)).alloc (.cells #[.int .i64 0, .int .i64 0, .int .i64 0, .int .i64 0, .slice none 0 0, .slice none 0 0] 50)).alloc (.cells #[.int .i64 2, .int .i64 0, .int .i64 0, .int .i64 0, .slice none 0 0, .slice none 0 0] 50)) (w.heap.size + 1 + 1) 50 [.int .i64 2, .int .i64 0, .int .i64 0, .int .i64 0, .slice none 0 0, .slice none 0 0]) := by
  have h := Blk.new ((w.alloc (.cells #[.int .i64 2, .int .i64 t, .int .i64 i, .int .i64 c, .slice da nd dc, .slice ka nk kc] 50)).alloc (.cells #[.int .i64 0, .int .i64 0, .int .i64 0, .int .i64 0, .slice none 0 0, .slice none 0 0] 50)) #[.int .i64 2, .int .i64 0, .int .i64 0, .int .i64 0, .slice none 0 0, .slice none 0 0] 50
  rwa [World.size_alloc, World.size_alloc] at h
 have HK0 : Hid (Same w (((w.alloc (.cells #[.int .i64 2, .int .i64 t, .int .i64 i, .int .i64 c, .slice da nd dc, .slice ka nk kc] 50)).alloc (.cells #[.int .i64 0, .int .i64 0, .int .i64 0, .int .i64 0, .slice none 0 0, .slice none 0 0] 50)).alloc (.cells #[.int .i64 2, .int .i64 0, .int .i64 0, .int .i64 0, .slice none 0 0, .slice none 0 0] 50))) := (((Kept.refl _ _).alloc _).alloc _).alloc _
 go_wp2_with fail
 let Y1 : World → Prop := fun wx : World => wx.cell? ⟨w.heap.size, 1, none⟩ = some (.int .i64 t) ∧ wx.cell? ⟨w.heap.size, 2, none⟩ = some (.int .i64 i) ∧ wx.cell? ⟨w.heap.size, 4, none⟩ = some (.slice da nd dc)
 refine wp_region_V Y1 99 8 rfl (by kernel_rfl) ?_
 generalize hwd : World.drew (((w.alloc (.cells #[.int .i64 2, .int .i64 t, .int .i64 i, .int .i64 c, .slice da nd dc, .slice ka nk kc] 50)).alloc (.cells #[.int .i64 0, .int .i64 0, .int .i64 0, .int .i64 0, .slice none 0 0, .slice none 0 0] 50)).alloc (.cells #[.int .i64 2, .int .i64 0, .int .i64 0, .int .i64 0, .slice none 0 0, .slice none 0 0] 50)) = w3
 have hk : Same (((w.alloc (.cells #[.int .i64 2, .int .i64 t, .int .i64 i, .int .i64 c, .slice da nd dc, .slice ka nk kc] 50)).alloc (.cells #[.int .i64 0, .int .i64 0, .int .i64 0, .int .i64 0, .slice none 0 0, .slice none 0 0] 50)).alloc (.cells #[.int .i64 2, .int .i64 0, .int .i64 0, .int .i64 0, .slice none 0 0, .slice none 0 0] 50)) w3 := by rw [← hwd]; exact (Kept.refl _ _).drew
 clear hwd
 have HK3 := hid (HK0.out.trans hk)
 have HC0 := hid (HB0.out.same hk)
 have HC1 := hid (HB1.out.same hk)
 have HC2 := hid (HB2.out.same hk)
 clear hk HB0 HB1 HB2 HK0
 have hS : Y1 w3 := ⟨HC0.out.cell 1, HC0.out.cell 2, HC0.out.cell 4⟩
 refine tk 0 17 hS ?_
 refine tk 1 18 hS ?_
 refine tk 2 19 hS ?_
 refine tk 3 20 hS ?_
 refine tk 4 21 hS ?_
 have z5 := HC2.out.cell 1
 have fz := HC2.out.frozen
 refine wpAnyV_one (i := 5) (by kernel_rfl) rfl (fun K hK => ?_)
 go_simp
 generalize hwd : (w3.setCell ⟨w.heap.size + 1 + 1, 1, none⟩ (.int .i64 t)) = w45
 have hk : Kept (fun b => b = w.heap.size + 1 + 1) w3 w45 := by rw [← hwd]; exact Kept.setCell (R := fun b => b = w.heap.size + 1 + 1) (Kept.refl _ _) (p := ⟨w.heap.size + 1 + 1, 1, none⟩) (.inr rfl) _
 have HD5 := hid (HC2.out.stored 1 (.int .i64 t))
 rw [hwd] at HD5
 clear hwd z5 fz
 have hS : Y1 w45 := ⟨hk.cellOf hS.1 hne, hk.cellOf hS.2.1 hne, hk.cellOf hS.2.2 hne⟩
 have HK5 := hid (Kept.next HK3.out hk (fun j hj e => by omega))
 have HE5 := hid (HC1.out.kept hk (fun e => by omega))
 clear hk
 refine hK.out _ _ (fun _ => hS) ?_
 clear hK K
 try simp only [Act.put, sA, s0, sS]
 refine tk 6 22 hS ?_
 have z7 := HD5.out.cell 4
 have fz := HD5.out.frozen
 refine wpAnyV_one (i := 7) (by kernel_rfl) rfl (fun K hK => ?_)
 go_simp
 generalize hwd : (w45.setCell ⟨w.heap.size + 1 + 1, 4, none⟩ (.slice da nd dc)) = w47
 have hk : Kept (fun b => b = w.heap.size + 1 + 1) w45 w47 := by rw [← hwd]; exact Kept.setCell (R := fun b => b = w.heap.size + 1 + 1) (Kept.refl _ _) (p := ⟨w.heap.size + 1 + 1, 4, none⟩) (.inr rfl) _
 have HD7 := hid (HD5.out.stored 4 (.slice da nd dc))
 rw [hwd] at HD7
 clear hwd z7 fz
 have hS : Y1 w47 := ⟨hk.cellOf hS.1 hne, hk.cellOf hS.2.1 hne, hk.cellOf hS.2.2 hne⟩
 have HK7 := hid (Kept.next HK5.out hk (fun j hj e => by omega))
 have HE7 := hid (HE5.out.kept hk (fun e => by omega))
 clear hk
 refine hK.out _ _ (fun _ => hS) ?_
 clear hK K
 try simp only [Act.put, sA, s0, sS]
 refine wpAnyV_done (by kernel_rfl) ?_
 clear hS
 have x0 : w47.cell? ⟨w.heap.size + 1 + 1, 0, none⟩ = some (.int .i64 2) := HD7.out.cell 0
 have y0 := HE7.out.cell 0
 have x1 : w47.cell? ⟨w.heap.size + 1 + 1, 1, none⟩ = some (.int .i64 t) := HD7.out.cell 1
 have y1 := HE7.out.cell 1
 have x2 : w47.cell? ⟨w.heap.size + 1 + 1, 2, none⟩ = some (.int .i64 0) := HD7.out.cell 2
 have y2 := HE7.out.cell 2
 have x3 : w47.cell? ⟨w.heap.size + 1 + 1, 3, none⟩ = some (.int .i64 0) := HD7.out.cell 3
 have y3 := HE7.out.cell 3
 have x4 : w47.cell? ⟨w.heap.size + 1 + 1, 4, none⟩ = some (.slice da nd dc) := HD7.out.cell 4
 have y4 := HE7.out.cell 4
 have x5 : w47.cell? ⟨w.heap.size + 1 + 1, 5, none⟩ = some (.slice none 0 0) := HD7.out.cell 5
 have y5 := HE7.out.cell 5
 have fz := HE7.out.frozen
 have hlt := HE7.out.lt
 have hlt2 := HD7.out.lt
 go_wp2
 (try simp only [Exit.inBlock, Exit.then])
 have hkk : Kept (fun b => b = w.heap.size + 1) w47 ((((((w47.setCell ⟨w.heap.size + 1, 0, none⟩ (.int .i64 2)).setCell ⟨w.heap.size + 1, 1, none⟩ (.int .i64 t)).setCell ⟨w.heap.size + 1, 2, none⟩ (.int .i64 0)).setCell ⟨w.heap.size + 1, 3, none⟩ (.int .i64 0)).setCell ⟨w.heap.size + 1, 4, none⟩ (.slice da nd dc)).setCell ⟨w.heap.size + 1, 5, none⟩ (.slice none 0 0)) := (Kept.setCell (R := fun b => b = w.heap.size + 1) (Kept.setCell (R := fun b => b = w.heap.size + 1) (Kept.setCell (R := fun b => b = w.heap.size + 1) (Kept.setCell (R := fun b => b = w.heap.size + 1) (Kept.setCell (R := fun b => b = w.heap.size + 1) (Kept.setCell (R := fun b => b = w.heap.size + 1) (Kept.refl _ _) (p := ⟨w.heap.size + 1, 0, none⟩) (.inr rfl) _) (p := ⟨w.heap.size + 1, 1, none⟩) (.inr rfl) _) (p := ⟨w.heap.size + 1, 2, none⟩) (.inr rfl) _) (p := ⟨w.heap.size + 1, 3, none⟩) (.inr rfl) _) (p := ⟨w.heap.size + 1, 4, none⟩) (.inr rfl) _) (p := ⟨w.heap.size + 1, 5, none⟩) (.inr rfl) _)
 have hbb := ((((((HE7.out.stored 0 (.int .i64 2)).stored 1 (.int .i64 t)).stored 2 (.int .i64 0)).stored 3 (.int .i64 0)).stored 4 (.slice da nd dc)).stored 5 (.slice none 0 0))
 have HKf := hid (Kept.next HK7.out hkk (fun j hj e => by omega))
 generalize ((((((w47.setCell ⟨w.heap.size + 1, 0, none⟩ (.int .i64 2)).setCell ⟨w.heap.size + 1, 1, none⟩ (.int .i64 t)).setCell ⟨w.heap.size + 1, 2, none⟩ (.int .i64 0)).setCell ⟨w.heap.size + 1, 3, none⟩ (.int .i64 0)).setCell ⟨w.heap.size + 1, 4, none⟩ (.slice da nd dc)).setCell ⟨w.heap.size + 1, 5, none⟩ (.slice none 0 0)) = wf at hbb HKf ⊢
 have z0 : wf.cell? ⟨w.heap.size + 1, 0, none⟩ = some (.int .i64 2) := hbb.cell 0
 have z1 : wf.cell? ⟨w.heap.size + 1, 1, none⟩ = some (.int .i64 t) := hbb.cell 1
 have z2 : wf.cell? ⟨w.heap.size + 1, 2, none⟩ = some (.int .i64 0) := hbb.cell 2
 have z3 : wf.cell? ⟨w.heap.size + 1, 3, none⟩ = some (.int .i64 0) := hbb.cell 3
 have z4 : wf.cell? ⟨w.heap.size + 1, 4, none⟩ = some (.slice da nd dc) := hbb.cell 4
 have z5 : wf.cell? ⟨w.heap.size + 1, 5, none⟩ = some (.slice none 0 0) := hbb.cell 5
 refine bodyPost_ret (v := .tuple #[.agg #[.int .i64 2, .int .i64 t, .int .i64 0, .int .i64 0, .slice da nd dc, .slice none 0 0], .bool true]) ?_ rfl ⟨rfl, HKf.out⟩
 rw [results_cell_tmp rfl]
 go_simp
theorem ownFields_3 (t i c : Int) (da : Option Addr) (nd dc : Nat) (ka : Option Addr) (nk kc : Nat) (w : World) : Calls Try.prog 46 #[.agg #[.int .i64 3, .int .i64 t, .int .i64 i, .int .i64 c, .slice da nd dc, .slice ka nk kc]] w fun e w' => e = .returned (.tuple #[.agg #[.int .i64 3, .int .i64 t, .int .i64 i, .int .i64 0, .slice da nd dc, .slice none 0 0], .bool true]) ∧ Same w w' := by
 have hne : ¬ (w.heap.size = w.heap.size + 1 + 1) := by omega
 go_enter Try.func46, Try.ntmps46
 have HB0 := hid (((Blk.new w #[.int .i64 3, .int .i64 t, .int .i64 i, .int .i64 c, .slice da nd dc, .slice ka nk kc] 50).alloc (.cells #[.int .i64 0, .int .i64 0, .int .i64 0, .int .i64 0, .slice none 0 0, .slice none 0 0] 50)).alloc (.cells #[.int .i64 3, .int .i64 0, .int .i64 0, .int .i64 0, .slice none 0 0, .slice none 0 0] 50))
 have HB1 : Hid (Blk (((w.alloc (.cells #[.int .i64 3, .int .i64 t, .int .i64 i, .int .i64 c, .slice da nd dc, .slice ka nk kc] 50)).alloc (.cells #[.int .i64 0, .int .i64 0, .int .i64 0, .int .i64 0, .slice none 0 0, .slice none 0 0] 50)).alloc (.cells #[.int .i64 3, .int .i64 0, .int .i64 0, .int .i64 0, .slice none 0 0, .slice none 0 0] 50)) (w.heap.size + 1) 50 [.int .i64 0, .int .i64 0, .int .i64 0, .int .i64 0, .slice none 0 0, .slice none 0 0]) := by
  have h := (Blk.new (w.alloc (.cells #[.int .i64 3, .int .i64 t, .int .i64 i, .int .i64 c, .slice da nd dc, .slice ka nk kc] 50)) #[.int .i64 0, .int .i64 0, .int .i64 0, .int .i64 0, .slice none 0 0, .slice none 0 0] 50).alloc (.cells #[.int .i64 3, .int .i64 0, .int .i64 0, .int .i64 0, .slice none 0 0, .slice none 0 0] 50)
  rwa [World.size_alloc] at h
 have HB2 : Hid (Blk (((w.alloc (.cells #[.int .i64 3, .int .i64 t, .int .i64 i, .int .i64 c, .slice da nd dc, .slice ka nk kc] 50)).alloc (.cells #[.int .i64 0, .int .i64 0, .int .i64 0, .int .i64 0, .slice none 0 0, .slice none 0 0] 50)).alloc (.cells #[.int .i64 3, .int .i64 0, .int .i64 0, .int .i64 0, .slice none 0 0, .slice none 0 0] 50)) (w.heap.size + 1 + 1) 50 [.int .i64 3, .int .i64 0, .int .i64 0, .int .i64 0, .slice none 0 0, .slice none 0 0]) := by
  have h := Blk.new ((w.alloc (.cells #[.int .i64 3, .int .i64 t, .int .i64 i, .int .i64 c, .slice da nd dc, .slice ka nk kc] 50)).alloc (.cells #[.int .i64 0, .int .i64 0, .int .i64 0, .int .i64 0, .slice none 0 0, .slice none 0 0] 50)) #[.int .i64 3, .int .i64 0, .int .i64 0, .int .i64 0, .slice none 0 0, .slice none 0 0] 50
  rwa [World.size_alloc, World.size_alloc] at h
 have HK0 : Hid (Same w (((w.alloc (.cells #[.int .i64 3, .int .i64 t, .int .i64 i, .int .i64 c, .slice da nd dc, .slice ka nk kc] 50)).alloc (.cells #[.int .i64 0, .int .i64 0, .int .i64 0, .int .i64 0, .slice none 0 0, .slice none 0 0] 50)).alloc (.cells #[.int .i64 3, .int .i64 0, .int .i64 0, .int .i64 0, .slice none 0 0, .slice none 0 0] 50))) := (((Kept.refl _ _).alloc _).alloc _).alloc _
 go_wp2_with fail
 let Y1 : World → Prop := fun wx : World => wx.cell? ⟨w.heap.size, 1, none⟩ = some (.int .i64 t) ∧ wx.cell? ⟨w.heap.size, 2, none⟩ = some (.int .i64 i) ∧ wx.cell? ⟨w.heap.size, 4, none⟩ = some (.slice da nd dc)
 refine wp_region_V Y1 99 12 rfl (by kernel_rfl) ?_
 generalize hwd : World.drew (((w.alloc (.cells #[.int .i64 3, .int .i64 t, .int .i64 i, .int .i64 c, .slice da nd dc, .slice ka nk kc] 50)).alloc (.cells #[.int .i64 0, .int .i64 0, .int .i64 0, .int .i64 0, .slice none 0 0, .slice none 0 0] 50)).alloc (.cells #[.int .i64 3, .int .i64 0, .int .i64 0, .int .i64 0, .slice none 0 0, .slice none 0 0] 50)) = w3
 have hk : Same (((w.alloc (.cells #[.int .i64 3, .int .i64 t, .int .i64 i, .int .i64 c, .slice da nd dc, .slice ka nk kc] 50)).alloc (.cells #[.int .i64 0, .int .i64 0, .int .i64 0, .int .i64 0, .slice none 0 0, .slice none 0 0] 50)).alloc (.cells #[.int .i64 3, .int .i64 0, .int .i64 0, .int .i64 0, .slice none 0 0, .slice none 0 0] 50)) w3 := by rw [← hwd]; exact (Kept.refl _ _).drew
 clear hwd
 have HK3 := hid (HK0.out.trans hk)
 have HC0 := hid (HB0.out.same hk)
 have HC1 := hid (HB1.out.same hk)
 have HC2 := hid (HB2.out.same hk)
 clear hk HB0 HB1 HB2 HK0
 have hS : Y1 w3 := ⟨HC0.out.cell 1, HC0.out.cell 2, HC0.out.cell 4⟩
 refine tk 0 25 hS ?_
 refine tk 1 26 hS ?_
 refine tk 2 27 hS ?_
 refine tk 3 28 hS ?_
 refine tk 4 29 hS ?_
 refine tk 5 30 hS ?_
 refine tk 6 31 hS ?_
 have z7 := HC2.out.cell 1
 have fz := HC2.out.frozen
 refine wpAnyV_one (i := 7) (by kernel_rfl) rfl (fun K hK => ?_)
 go_simp
 generalize hwd : (w3.setCell ⟨w.heap.size + 1 + 1, 1, none⟩ (.int .i64 t)) = w47
 have hk : Kept (fun b => b = w.heap.size + 1 + 1) w3 w47 := by rw [← hwd]; exact Kept.setCell (R := fun b => b = w.heap.size + 1 + 1) (Kept.refl _ _) (p := ⟨w.heap.size + 1 + 1, 1, none⟩) (.inr rfl) _
 have HD7 := hid (HC2.out.stored 1 (.int .i64 t))
 rw [hwd] at HD7
 clear hwd z7 fz
 have hS : Y1 w47 := ⟨hk.cellOf hS.1 hne, hk.cellOf hS.2.1 hne, hk.cellOf hS.2.2 hne⟩
 have HK7 := hid (Kept.next HK3.out hk (fun j hj e => by omega))
 have HE7 := hid (HC1.out.kept hk (fun e => by omega))
 clear hk
 refine hK.out _ _ (fun _ => hS) ?_
 clear hK K
 try simp only [Act.put, sA, s0, sS]
 refine tk 8 32 hS ?_
 have z9 := HD7.out.cell 2
 have fz := HD7.out.frozen
 refine wpAnyV_one (i := 9) (by kernel_rfl) rfl (fun K hK => ?_)
 go_simp
 generalize hwd : (w47.setCell ⟨w.heap.size + 1 + 1, 2, none⟩ (.int .i64 i)) = w49
 have hk : Kept (fun b => b = w.heap.size + 1 + 1) w47 w49 := by rw [← hwd]; exact Kept.setCell (R := fun b => b = w.heap.size + 1 + 1) (Kept.refl _ _) (p := ⟨w.heap.size + 1 + 1, 2, none⟩) (.inr rfl) _
 have HD9 := hid (HD7.out.stored 2 (.int .i64 i))
 rw [hwd] at HD9
 clear hwd z9 fz
 have hS : Y1 w49 := ⟨hk.cellOf hS.1 hne, hk.cellOf hS.2.1 hne, hk.cellOf hS.2.2 hne⟩
 have HK9 := hid (Kept.next HK7.out hk (fun j hj e => by omega))
 have HE9 := hid (HE7.out.kept hk (fun e => by omega))
 clear hk
 refine hK.out _ _ (fun _ => hS) ?_
 clear hK K
 try simp only [Act.put, sA, s0, sS]
 refine tk 10 33 hS ?_
 have z11 := HD9.out.cell 4
 have fz := HD9.out.frozen
 refine wpAnyV_one (i := 11) (by kernel_rfl) rfl (fun K hK => ?_)
 go_simp
 generalize hwd : (w49.setCell ⟨w.heap.size + 1 + 1, 4, none⟩ (.slice da nd dc)) = w411
 have hk : Kept (fun b => b = w.heap.size + 1 + 1) w49 w411 := by rw [← hwd]; exact Kept.setCell (R := fun b => b = w.heap.size + 1 + 1) (Kept.refl _ _) (p := ⟨w.heap.size + 1 + 1, 4, none⟩) (.inr rfl) _
 have HD11 := hid (HD9.out.stored 4 (.slice da nd dc))
 rw [hwd] at HD11
 clear hwd z11 fz
 have hS : Y1 w411 := ⟨hk.cellOf hS.1 hne, hk.cellOf hS.2.1 hne, hk.cellOf hS.2.2 hne⟩
 have HK11 := hid (Kept.next HK9.out hk (fun j hj e => by omega))
 have HE11 := hid (HE9.out.kept hk (fun e => by omega))
 clear hk
 refine hK.out _ _ (fun _ => hS) ?_
 clear hK K
 try simp only [Act.put, sA, s0, sS]
 refine wpAnyV_done (by kernel_rfl) ?_
 clear hS
 have x0 : w411.cell? ⟨w.heap.size + 1 + 1, 0, none⟩ = some (.int .i64 3) := HD11.out.cell 0
 have y0 := HE11.out.cell 0
 have x1 : w411.cell? ⟨w.heap.size + 1 + 1, 1, none⟩ = some (.int .i64 t) := HD11.out.cell 1
 have y1 := HE11.out.cell 1
 have x2 : w411.cell? ⟨w.heap.size + 1 + 1, 2, none⟩ = some (.int .i64 i) := HD11.out.cell 2
 have y2 := HE11.out.cell 2
 have x3 : w411.cell? ⟨w.heap.size + 1 + 1, 3, none⟩ = some (.int .i64 0) := HD11.out.cell 3
 have y3 := HE11.out.cell 3
 have x4 : w411.cell? ⟨w.heap.size + 1 + 1, 4, none⟩ = some (.slice da nd dc) := HD11.out.cell 4
 have y4 := HE11.out.cell 4
 have x5 : w411.cell? ⟨w.heap.size + 1 + 1, 5, none⟩ = some (.slice none 0 0) := HD11.out.cell 5
 have y5 := HE11.out.cell 5
 have fz := HE11.out.frozen
 have hlt := HE11.out.lt
 have hlt2 := HD11.out.lt
 go_wp2
 (try simp only [Exit.inBlock, Exit.then])
 have hkk : Kept (fun b => b = w.heap.size + 1) w411 ((((((w411.setCell ⟨w.heap.size + 1, 0, none⟩ (.int .i64 3)).setCell ⟨w.heap.size + 1, 1, none⟩ (.int .i64 t)).setCell ⟨w.heap.size + 1, 2, none⟩ (.int .i64 i)).setCell ⟨w.heap.size + 1, 3, none⟩ (.int .i64 0)).setCell ⟨w.heap.size + 1, 4, none⟩ (.slice da nd dc)).setCell ⟨w.heap.size + 1, 5, none⟩ (.slice none 0 0)) := (Kept.setCell (R := fun b => b = w.heap.size + 1) (Kept.setCell (R := fun b => b = w.heap.size + 1) (Kept.setCell (R := fun b => b = w.heap.size + 1) (Kept.setCell (R := fun b => b = w.heap.size + 1) (Kept.setCell (R := fun b => b = w.heap.size + 1) (Kept.setCell (R := fun b => b = w.heap.size + 1) (Kept.refl _ _) (p := ⟨w.heap.size + 1, 0, none⟩) (.inr rfl) _) (p := ⟨w.heap.size + 1, 1, none⟩) (.inr rfl) _) (p := ⟨w.heap.size + 1, 2, none⟩) (.inr rfl) _) (p := ⟨w.heap.size + 1, 3, none⟩) (.inr rfl) _) (p := ⟨w.heap.size + 1, 4, none⟩) (.inr rfl) _) (p := ⟨w.heap.size + 1, 5, none⟩) (.inr rfl) _)
 have hbb := ((((((HE11.out.stored 0 (.int .i64 3)).stored 1 (.int .i64 t)).stored 2 (.int .i64 i)).stored 3 (.int .i64 0)).stored 4 (.slice da nd dc)).stored 5 (.slice none 0 0))
 have HKf := hid (Kept.next HK11.out hkk (fun j hj e => by omega))
 generalize ((((((w411.setCell ⟨w.heap.size + 1, 0, none⟩ (.int .i64 3)).setCell ⟨w.heap.size + 1, 1, none⟩ (.int .i64 t)).setCell ⟨w.heap.size + 1, 2, none⟩ (.int .i64 i)).setCell ⟨w.heap.size + 1, 3, none⟩ (.int .i64 0)).setCell ⟨w.heap.size + 1, 4, none⟩ (.slice da nd dc)).setCell ⟨w.heap.size + 1, 5, none⟩ (.slice none 0 0)) = wf at hbb HKf ⊢
 have z0 : wf.cell? ⟨w.heap.size + 1, 0, none⟩ = some (.int .i64 3) := hbb.cell 0
 have z1 : wf.cell? ⟨w.heap.size + 1, 1, none⟩ = some (.int .i64 t) := hbb.cell 1
 have z2 : wf.cell? ⟨w.heap.size + 1, 2, none⟩ = some (.int .i64 i) := hbb.cell 2
 have z3 : wf.cell? ⟨w.heap.size + 1, 3, none⟩ = some (.int .i64 0) := hbb.cell 3
 have z4 : wf.cell? ⟨w.heap.size + 1, 4, none⟩ = some (.slice da nd dc) := hbb.cell 4
 have z5 : wf.cell? ⟨w.heap.size + 1, 5, none⟩ = some (.slice none 0 0) := hbb.cell 5
 refine bodyPost_ret (v := .tuple #[.agg #[.int .i64 3, .int .i64 t, .int .i64 i, .int .i64 0, .slice da nd dc, .slice none 0 0], .bool true]) ?_ rfl ⟨rfl, HKf.out⟩
 rw [results_cell_tmp rfl]
 go_simp
theorem ownFields_4 (t i c : Int) (da : Option Addr) (nd dc : Nat) (ka : Option Addr) (nk kc : Nat) (w : World) : Calls Try.prog 46 #[.agg #[.int .i64 4, .int .i64 t, .int .i64 i, .int .i64 c, .slice da nd dc, .slice ka nk kc]] w fun e w' => e = .returned (.tuple #[.agg #[.int .i64 4, .int .i64 t, .int .i64 i, .int .i64 0, .slice none 0 0, .slice none 0 0], .bool true]) ∧ Same w w' := by
 have hne : ¬ (w.heap.size = w.heap.size + 1 + 1) := by omega
 go_enter Try.func46, Try.ntmps46
 have HB0 := hid (((Blk.new w #[.int .i64 4, .int .i64 t, .int .i64 i, .int .i64 c, .slice da nd dc, .slice ka nk kc] 50).alloc (.cells #[.int .i64 0, .int .i64 0, .int .i64 0, .int .i64 0, .slice none 0 0, .slice none 0 0] 50)).alloc (.cells #[.int .i64 4, .int .i64 0, .int .i64 0, .int .i64 0, .slice none 0 0, .slice none 0 0] 50))
 have HB1 : Hid (Blk (((w.alloc (.cells #[.int .i64 4, .int .i64 t, .int .i64 i, .int .i64 c, .slice da nd dc, .slice ka nk kc] 50)).alloc (.cells #[.int .i64 0, .int .i64 0, .int .i64 0, .int .i64 0, .slice none 0 0, .slice none 0 0] 50)).alloc (.cells #[.int .i64 4, .int .i64 0, .int .i64 0, .int .i64 0, .slice none 0 0, .slice none 0 0] 50)) (w.heap.size + 1) 50 [.int .i64 0, .int .i64 0, .int .i64 0, .int .i64 0, .slice none 0 0, .slice none 0 0]) := by
  have h := (Blk.new (w.alloc (.cells #[.int .i64 4, .int .i64 t, .int .i64 i, .int .i64 c, .slice da nd dc, .slice ka nk kc] 50)) #[.int .i64 0, .int .i64 0, .int .i64 0, .int .i64 0, .slice none 0 0, .slice none 0 0] 50).alloc (.cells #[.int .i64 4, .int .i64 0, .int .i64 0, .int .i64 0, .slice none 0 0, .slice none 0 0] 50)
  rwa [World.size_alloc] at h
 have HB2 : Hid (Blk (((w.alloc (.cells #[.int .i64 4, .int .i64 t, .int .i64 i, .int .i64 c, .slice da nd dc, .slice ka nk kc] 50)).alloc (.cells #[.int .i64 0, .int .i64 0, .int .i64 0, .int .i64 0, .slice none 0 0, .slice none 0 0] 50)).alloc (.cells #[.int .i64 4, .int .i64 0, .int .i64 0, .int .i64 0, .slice none 0 0, .slice none 0 0] 50)) (w.heap.size + 1 + 1) 50 [.int .i64 4, .int .i64 0, .int .i64 0, .int .i64 0, .slice none 0 0, .slice none 0 0]) := by
  have h := Blk.new ((w.alloc (.cells #[.int .i64 4, .int .i64 t, .int .i64 i, .int .i64 c, .slice da nd dc, .slice ka nk kc] 50)).alloc (.cells #[.int .i64 0, .int .i64 0, .int .i64 0, .int .i64 0, .slice none 0 0, .slice none 0 0] 50)) #[.int .i64 4, .int .i64 0, .int .i64 0, .int .i64 0, .slice none 0 0, .slice none 0 0] 50
  rwa [World.size_alloc, World.size_alloc] at h
 have HK0 : Hid (Same w (((w.alloc (.cells #[.int .i64 4, .int .i64 t, .int .i64 i, .int .i64 c, .slice da nd dc, .slice ka nk kc] 50)).alloc (.cells #[.int .i64 0, .int .i64 0, .int .i64 0, .int .i64 0, .slice none 0 0, .slice none 0 0] 50)).alloc (.cells #[.int .i64 4, .int .i64 0, .int .i64 0, .int .i64 0, .slice none 0 0, .slice none 0 0] 50))) := (((Kept.refl _ _).alloc _).alloc _).alloc _
 go_wp2_with fail
 let Y1 : World → Prop := fun wx : World => wx.cell? ⟨w.heap.size, 1, none⟩ = some (.int .i64 t) ∧ wx.cell? ⟨w.heap.size, 2, none⟩ = some (.int .i64 i) ∧ wx.cell? ⟨w.heap.size, 4, none⟩ = some (.slice da nd dc)
 refine wp_region_V Y1 99 8 rfl (by kernel_rfl) ?_
 generalize hwd : World.drew (((w.alloc (.cells #[.int .i64 4, .int .i64 t, .int .i64 i, .int .i64 c, .slice da nd dc, .slice ka nk kc] 50)).alloc (.cells #[.int .i64 0, .int .i64 0, .int .i64 0, .int .i64 0, .slice none 0 0, .slice none 0 0] 50)).alloc (.cells #[.int .i64 4, .int .i64 0, .int .i64 0, .int .i64 0, .slice none 0 0, .slice none 0 0] 50)) = w3
 have hk : Same (((w.alloc (.cells #[.int .i64 4, .int .i64 t, .int .i64 i, .int .i64 c, .slice da nd dc, .slice ka nk kc] 50)).alloc (.cells #[.int .i64 0, .int .i64 0, .int .i64 0, .int .i64 0, .slice none 0 0, .slice none 0 0] 50)).alloc (.cells #[.int .i64 4, .int .i64 0, .int .i64 0, .int .i64 0, .slice none 0 0, .slice none 0 0] 50)) w3 := by rw [← hwd]; exact (Kept.refl _ _).drew
 clear hwd
 have HK3 := hid (HK0.out.trans hk)
 have HC0 := hid (HB0.out.same hk)
 have HC1 := hid (HB1.out.same hk)
 have HC2 := hid (HB2.out.same hk)
 clear hk HB0 HB1 HB2 HK0
 have hS : Y1 w3 := ⟨HC0.out.cell 1, HC0.out.cell 2, HC0.out.cell 4⟩
 refine tk 0 37 hS ?_
 refine tk 1 38 hS ?_
 refine tk 2 39 hS ?_
 refine tk 3 40 hS ?_
 refine tk 4 41 hS ?_
 have z5 := HC2.out.cell 1
 have fz := HC2.out.frozen
 refine wpAnyV_one (i := 5) (by kernel_rfl) rfl (fun K hK => ?_)
 go_simp
 generalize hwd : (w3.setCell ⟨w.heap.size + 1 + 1, 1, none⟩ (.int .i64 t)) = w45
 have hk : Kept (fun b => b = w.heap.size + 1 + 1) w3 w45 := by rw [← hwd]; exact Kept.setCell (R := fun b => b = w.heap.size + 1 + 1) (Kept.refl _ _) (p := ⟨w.heap.size + 1 + 1, 1, none⟩) (.inr rfl) _
 have HD5 := hid (HC2.out.stored 1 (.int .i64 t))
 rw [hwd] at HD5
 clear hwd z5 fz
 have hS : Y1 w45 := ⟨hk.cellOf hS.1 hne, hk.cellOf hS.2.1 hne, hk.cellOf hS.2.2 hne⟩
 have HK5 := hid (Kept.next HK3.out hk (fun j hj e => by omega))
 have HE5 := hid (HC1.out.kept hk (fun e => by omega))
 clear hk
 refine hK.out _ _ (fun _ => hS) ?_
 clear hK K
 try simp only [Act.put, sA, s0, sS]
 refine tk 6 42 hS ?_
 have z7 := HD5.out.cell 2
 have fz := HD5.out.frozen
 refine wpAnyV_one (i := 7) (by kernel_rfl) rfl (fun K hK => ?_)
 go_simp
 generalize hwd : (w45.setCell ⟨w.heap.size + 1 + 1, 2, none⟩ (.int .i64 i)) = w47
 have hk : Kept (fun b => b = w.heap.size + 1 + 1) w45 w47 := by rw [← hwd]; exact Kept.setCell (R := fun b => b = w.heap.size + 1 + 1) (Kept.refl _ _) (p := ⟨w.heap.size + 1 + 1, 2, none⟩) (.inr rfl) _
 have HD7 := hid (HD5.out.stored 2 (.int .i64 i))
 rw [hwd] at HD7
 clear hwd z7 fz
 have hS : Y1 w47 := ⟨hk.cellOf hS.1 hne, hk.cellOf hS.2.1 hne, hk.cellOf hS.2.2 hne⟩
 have HK7 := hid (Kept.next HK5.out hk (fun j hj e => by omega))
 have HE7 := hid (HE5.out.kept hk (fun e => by omega))
 clear hk
 refine hK.out _ _ (fun _ => hS) ?_
 clear hK K
 try simp only [Act.put, sA, s0, sS]
 refine wpAnyV_done (by kernel_rfl) ?_
 clear hS
 have x0 : w47.cell? ⟨w.heap.size + 1 + 1, 0, none⟩ = some (.int .i64 4) := HD7.out.cell 0
 have y0 := HE7.out.cell 0
 have x1 : w47.cell? ⟨w.heap.size + 1 + 1, 1, none⟩ = some (.int .i64 t) := HD7.out.cell 1
 have y1 := HE7.out.cell 1
 have x2 : w47.cell? ⟨w.heap.size + 1 + 1, 2, none⟩ = some (.int .i64 i) := HD7.out.cell 2
 have y2 := HE7.out.cell 2
 have x3 : w47.cell? ⟨w.heap.size + 1 + 1, 3, none⟩ = some (.int .i64 0) := HD7.out.cell 3
 have y3 := HE7.out.cell 3
 have x4 : w47.cell? ⟨w.heap.size + 1 + 1, 4, none⟩ = some (.slice none 0 0) := HD7.out.cell 4
 have y4 := HE7.out.cell 4
 have x5 : w47.cell? ⟨w.heap.size + 1 + 1, 5, none⟩ = some (.slice none 0 0) := HD7.out.cell 5
 have y5 := HE7.out.cell 5
 have fz := HE7.out.frozen
 have hlt := HE7.out.lt
 have hlt2 := HD7.out.lt
 go_wp2
 (try simp only [Exit.inBlock, Exit.then])
 have hkk : Kept (fun b => b = w.heap.size + 1) w47 ((((((w47.setCell ⟨w.heap.size + 1, 0, none⟩ (.int .i64 4)).setCell ⟨w.heap.size + 1, 1, none⟩ (.int .i64 t)).setCell ⟨w.heap.size + 1, 2, none⟩ (.int .i64 i)).setCell ⟨w.heap.size + 1, 3, none⟩ (.int .i64 0)).setCell ⟨w.heap.size + 1, 4, none⟩ (.slice none 0 0)).setCell ⟨w.heap.size + 1, 5, none⟩ (.slice none 0 0)) := (Kept.setCell (R := fun b => b = w.heap.size + 1) (Kept.setCell (R := fun b => b = w.heap.size + 1) (Kept.setCell (R := fun b => b = w.heap.size + 1) (Kept.setCell (R := fun b => b = w.heap.size + 1) (Kept.setCell (R := fun b => b = w.heap.size + 1) (Kept.setCell (R := fun b => b = w.heap.size + 1) (Kept.refl _ _) (p := ⟨w.heap.size + 1, 0, none⟩) (.inr rfl) _) (p := ⟨w.heap.size + 1, 1, none⟩) (.inr rfl) _) (p := ⟨w.heap.size + 1, 2, none⟩) (.inr rfl) _) (p := ⟨w.heap.size + 1, 3, none⟩) (.inr rfl) _) (p := ⟨w.heap.size + 1, 4, none⟩) (.inr rfl) _) (p := ⟨w.heap.size + 1, 5, none⟩) (.inr rfl) _)
 have hbb := ((((((HE7.out.stored 0 (.int .i64 4)).stored 1 (.int .i64 t)).stored 2 (.int .i64 i)).stored 3 (.int .i64 0)).stored 4 (.slice none 0 0)).stored 5 (.slice none 0 0))
 have HKf := hid (Kept.next HK7.out hkk (fun j hj e => by omega))
 generalize ((((((w47.setCell ⟨w.heap.size + 1, 0, none⟩ (.int .i64 4)).setCell ⟨w.heap.size + 1, 1, none⟩ (.int .i64 t)).setCell ⟨w.heap.size + 1, 2, none⟩ (.int .i64 i)).setCell ⟨w.heap.size + 1, 3, none⟩ (.int .i64 0)).setCell ⟨w.heap.size + 1, 4, none⟩ (.slice none 0 0)).setCell ⟨w.heap.size + 1, 5, none⟩ (.slice none 0 0)) = wf at hbb HKf ⊢
 have z0 : wf.cell? ⟨w.heap.size + 1, 0, none⟩ = some (.int .i64 4) := hbb.cell 0
 have z1 : wf.cell? ⟨w.heap.size + 1, 1, none⟩ = some (.int .i64 t) := hbb.cell 1
 have z2 : wf.cell? ⟨w.heap.size + 1, 2, none⟩ = some (.int .i64 i) := hbb.cell 2
 have z3 : wf.cell? ⟨w.heap.size + 1, 3, none⟩ = some (.int .i64 0) := hbb.cell 3
 have z4 : wf.cell? ⟨w.heap.size + 1, 4, none⟩ = some (.slice none 0 0) := hbb.cell 4
 have z5 : wf.cell? ⟨w.heap.size + 1, 5, none⟩ = some (.slice none 0 0) := hbb.cell 5
 refine bodyPost_ret (v := .tuple #[.agg #[.int .i64 4, .int .i64 t, .int .i64 i, .int .i64 0, .slice none 0 0, .slice none 0 0], .bool true]) ?_ rfl ⟨rfl, HKf.out⟩
 rw [results_cell_tmp rfl]
 go_simp
theorem ownFields_5 (t i c : Int) (da : Option Addr) (nd dc : Nat) (ka : Option Addr) (nk kc : Nat) (w : World) : Calls Try.prog 46 #[.agg #[.int .i64 5, .int .i64 t, .int .i64 i, .int .i64 c, .slice da nd dc, .slice ka nk kc]] w fun e w' => e = .returned (.tuple #[.agg #[.int .i64 5, .int .i64 t, .int .i64 i, .int .i64 0, .slice none 0 0, .slice none 0 0], .bool true]) ∧ Same w w' := by
 have hne : ¬ (w.heap.size = w.heap.size + 1 + 1) := by omega
 go_enter Try.func46, Try.ntmps46
 have HB0 := hid (((Blk.new w #[.int .i64 5, .int .i64 t, .int .i64 i, .int .i64 c, .slice da nd dc, .slice ka nk kc] 50).alloc (.cells #[.int .i64 0, .int .i64 0, .int .i64 0, .int .i64 0, .slice none 0 0, .slice none 0 0] 50)).alloc (.cells #[.int .i64 5, .int .i64 0, .int .i64 0, .int .i64 0, .slice none 0 0, .slice none 0 0] 50))
 have HB1 : Hid (Blk (((w.alloc (.cells #[.int .i64 5, .int .i64 t, .int .i64 i, .int .i64 c, .slice da nd dc, .slice ka nk kc] 50)).alloc (.cells #[.int .i64 0, .int .i64 0, .int .i64 0, .int .i64 0, .slice none 0 0, .slice none 0 0] 50)).alloc (.cells #[.int .i64 5, .int .i64 0, .int .i64 0, .int .i64 0, .slice none 0 0, .slice none 0 0] 50)) (w.heap.size + 1) 50 [.int .i64 0, .int .i64 0, .int .i64 0, .int .i64 0, .slice none 0 0, .slice none 0 0]) := by
  have h := (Blk.new (w.alloc (.cells #[.int .i64 5, .int .i64 t, .int .i64 i, .int .i64 c, .slice da nd dc, .slice ka nk kc] 50)) #[.int .i64 0, .int .i64 0, .int .i64 0, .int .i64 0, .slice none 0 0, .slice none 0 0] 50).alloc (.cells #[.int .i64 5, .int .i64 0, .int .i64 0, .int .i64 0, .slice none 0 0, .slice none 0 0] 50)
  rwa [World.size_alloc] at h
 have HB2 : Hid (Blk (((w.alloc (.cells #[.int .i64 5, .int .i64 t, .int .i64 i, .int .i64 c, .slice da nd dc, .slice ka nk kc] 50)).alloc (.cells #[.int .i64 0, .int .i64 0, .int .i64 0, .int .i64 0, .slice none 0 0, .slice none 0 0] 50)).alloc (.cells #[.int .i64 5, .int .i64 0, .int .i64 0, .int .i64 0, .slice none 0 0, .slice none 0 0] 50)) (w.heap.size + 1 + 1) 50 [.int .i64 5, .int .i64 0, .int .i64 0, .int .i64 0, .slice none 0 0, .slice none 0 0]) := by
  have h := Blk.new ((w.alloc (.cells #[.int .i64 5, .int .i64 t, .int .i64 i, .int .i64 c, .slice da nd dc, .slice ka nk kc] 50)).alloc (.cells #[.int .i64 0, .int .i64 0, .int .i64 0, .int .i64 0, .slice none 0 0, .slice none 0 0] 50)) #[.int .i64 5, .int .i64 0, .int .i64 0, .int .i64 0, .slice none 0 0, .slice none 0 0] 50
  rwa [World.size_alloc, World.size_alloc] at h
 have HK0 : Hid (Same w (((w.alloc (.cells #[.int .i64 5, .int .i64 t, .int .i64 i, .int .i64 c, .slice da nd dc, .slice ka nk kc] 50)).alloc (.cells #[.int .i64 0, .int .i64 0, .int .i64 0, .int .i64 0, .slice none 0 0, .slice none 0 0] 50)).alloc (.cells #[.int .i64 5, .int .i64 0, .int .i64 0, .int .i64 0, .slice none 0 0, .slice none 0 0] 50))) := (((Kept.refl _ _).alloc _).alloc _).alloc _
 go_wp2_with fail
 let Y1 : World → Prop := fun wx : World => wx.cell? ⟨w.heap.size, 1, none⟩ = some (.int .i64 t) ∧ wx.cell? ⟨w.heap.size, 2, none⟩ = some (.int .i64 i) ∧ wx.cell? ⟨w.heap.size, 4, none⟩ = some (.slice da nd dc)
 refine wp_region_V Y1 99 8 rfl (by kernel_rfl) ?_
 generalize hwd : World.drew (((w.alloc (.cells #[.int .i64 5, .int .i64 t, .int .i64 i, .int .i64 c, .slice da nd dc, .slice ka nk kc] 50)).alloc (.cells #[.int .i64 0, .int .i64 0, .int .i64 0, .int .i64 0, .slice none 0 0, .slice none 0 0] 50)).alloc (.cells #[.int .i64 5, .int .i64 0, .int .i64 0, .int .i64 0, .slice none 0 0, .slice none 0 0] 50)) = w3
 have hk : Same (((w.alloc (.cells #[.int .i64 5, .int .i64 t, .int .i64 i, .int .i64 c, .slice da nd dc, .slice ka nk kc] 50)).alloc (.cells #[.int .i64 0, .int .i64 0, .int .i64 0, .int .i64 0, .slice none 0 0, .slice none 0 0] 50)).alloc (.cells #[.int .i64 5, .int .i64 0, .int .i64 0, .int .i64 0, .slice none 0 0, .slice none 0 0] 50)) w3 := by rw [← hwd]; exact (Kept.refl _ _).drew
 clear hwd
 have HK3 := hid (HK0.out.trans hk)
 have HC0 := hid (HB0.out.same hk)
 have HC1 := hid (HB1.out.same hk)
 have HC2 := hid (HB2.out.same hk)
 clear hk HB0 HB1 HB2 HK0
 have hS : Y1 w3 := ⟨HC0.out.cell 1, HC0.out.cell 2, HC0.out.cell 4⟩
 refine tk 0 37 hS ?_
 refine tk 1 38 hS ?_
 refine tk 2 39 hS ?_
 refine tk 3 40 hS ?_
 refine tk 4 41 hS ?_
 have z5 := HC2.out.cell 1
 have fz := HC2.out.frozen
 refine wpAnyV_one (i := 5) (by kernel_rfl) rfl (fun K hK => ?_)
 go_simp
 generalize hwd : (w3.setCell ⟨w.heap.size + 1 + 1, 1, none⟩ (.int .i64 t)) = w45
 have hk : Kept (fun b => b = w.heap.size + 1 + 1) w3 w45 := by rw [← hwd]; exact Kept.setCell (R := fun b => b = w.heap.size + 1 + 1) (Kept.refl _ _) (p := ⟨w.heap.size + 1 + 1, 1, none⟩) (.inr rfl) _
 have HD5 := hid (HC2.out.stored 1 (.int .i64 t))
 rw [hwd] at HD5
 clear hwd z5 fz
 have hS : Y1 w45 := ⟨hk.cellOf hS.1 hne, hk.cellOf hS.2.1 hne, hk.cellOf hS.2.2 hne⟩
 have HK5 := hid (Kept.next HK3.out hk (fun j hj e => by omega))
 have HE5 := hid (HC1.out.kept hk (fun e => by omega))
 clear hk
 refine hK.out _ _ (fun _ => hS) ?_
 clear hK K
 try simp only [Act.put, sA, s0, sS]
 refine tk 6 42 hS ?_
 have z7 := HD5.out.cell 2
 have fz := HD5.out.frozen
 refine wpAnyV_one (i := 7) (by kernel_rfl) rfl (fun K hK => ?_)
 go_simp
 generalize hwd : (w45.setCell ⟨w.heap.size + 1 + 1, 2, none⟩ (.int .i64 i)) = w47
 have hk : Kept (fun b => b = w.heap.size + 1 + 1) w45 w47 := by rw [← hwd]; exact Kept.setCell (R := fun b => b = w.heap.size + 1 + 1) (Kept.refl _ _) (p := ⟨w.heap.size + 1 + 1, 2, none⟩) (.inr rfl) _
 have HD7 := hid (HD5.out.stored 2 (.int .i64 i))
 rw [hwd] at HD7
 clear hwd z7 fz
 have hS : Y1 w47 := ⟨hk.cellOf hS.1 hne, hk.cellOf hS.2.1 hne, hk.cellOf hS.2.2 hne⟩
 have HK7 := hid (Kept.next HK5.out hk (fun j hj e => by omega))
 have HE7 := hid (HE5.out.kept hk (fun e => by omega))
 clear hk
 refine hK.out _ _ (fun _ => hS) ?_
 clear hK K
 try simp only [Act.put, sA, s0, sS]
 refine wpAnyV_done (by kernel_rfl) ?_
 clear hS
 have x0 : w47.cell? ⟨w.heap.size + 1 + 1, 0, none⟩ = some (.int .i64 5) := HD7.out.cell 0
 have y0 := HE7.out.cell 0
 have x1 : w47.cell? ⟨w.heap.size + 1 + 1, 1, none⟩ = some (.int .i64 t) := HD7.out.cell 1
 have y1 := HE7.out.cell 1
 have x2 : w47.cell? ⟨w.heap.size + 1 + 1, 2, none⟩ = some (.int .i64 i) := HD7.out.cell 2
 have y2 := HE7.out.cell 2
 have x3 : w47.cell? ⟨w.heap.size + 1 + 1, 3, none⟩ = some (.int .i64 0) := HD7.out.cell 3
 have y3 := HE7.out.cell 3
 have x4 : w47.cell? ⟨w.heap.size + 1 + 1, 4, none⟩ = some (.slice none 0 0) := HD7.out.cell 4
 have y4 := HE7.out.cell 4
 have x5 : w47.cell? ⟨w.heap.size + 1 + 1, 5, none⟩ = some (.slice none 0 0) := HD7.out.cell 5
 have y5 := HE7.out.cell 5
 have fz := HE7.out.frozen
 have hlt := HE7.out.lt
 have hlt2 := HD7.out.lt
 go_wp2
 (try simp only [Exit.inBlock, Exit.then])
 have hkk : Kept (fun b => b = w.heap.size + 1) w47 ((((((w47.setCell ⟨w.heap.size + 1, 0, none⟩ (.int .i64 5)).setCell ⟨w.heap.size + 1, 1, none⟩ (.int .i64 t)).setCell ⟨w.heap.size + 1, 2, none⟩ (.int .i64 i)).setCell ⟨w.heap.size + 1, 3, none⟩ (.int .i64 0)).setCell ⟨w.heap.size + 1, 4, none⟩ (.slice none 0 0)).setCell ⟨w.heap.size + 1, 5, none⟩ (.slice none 0 0)) := (Kept.setCell (R := fun b => b = w.heap.size + 1) (Kept.setCell (R := fun b => b = w.heap.size + 1) (Kept.setCell (R := fun b => b = w.heap.size + 1) (Kept.setCell (R := fun b => b = w.heap.size + 1) (Kept.setCell (R := fun b => b = w.heap.size + 1) (Kept.setCell (R := fun b => b = w.heap.size + 1) (Kept.refl _ _) (p := ⟨w.heap.size + 1, 0, none⟩) (.inr rfl) _) (p := ⟨w.heap.size + 1, 1, none⟩) (.inr rfl) _) (p := ⟨w.heap.size + 1, 2, none⟩) (.inr rfl) _) (p := ⟨w.heap.size + 1, 3, none⟩) (.inr rfl) _) (p := ⟨w.heap.size + 1, 4, none⟩) (.inr rfl) _) (p := ⟨w.heap.size + 1, 5, none⟩) (.inr rfl) _)
 have hbb := ((((((HE7.out.stored 0 (.int .i64 5)).stored 1 (.int .i64 t)).stored 2 (.int .i64 i)).stored 3 (.int .i64 0)).stored 4 (.slice none 0 0)).stored 5 (.slice none 0 0))
 have HKf := hid (Kept.next HK7.out hkk (fun j hj e => by omega))
 generalize ((((((w47.setCell ⟨w.heap.size + 1, 0, none⟩ (.int .i64 5)).setCell ⟨w.heap.size + 1, 1, none⟩ (.int .i64 t)).setCell ⟨w.heap.size + 1, 2, none⟩ (.int .i64 i)).setCell ⟨w.heap.size + 1, 3, none⟩ (.int .i64 0)).setCell ⟨w.heap.size + 1, 4, none⟩ (.slice none 0 0)).setCell ⟨w.heap.size + 1, 5, none⟩ (.slice none 0 0)) = wf at hbb HKf ⊢
 have z0 : wf.cell? ⟨w.heap.size + 1, 0, none⟩ = some (.int .i64 5) := hbb.cell 0
 have z1 : wf.cell? ⟨w.heap.size + 1, 1, none⟩ = some (.int .i64 t) := hbb.cell 1
 have z2 : wf.cell? ⟨w.heap.size + 1, 2, none⟩ = some (.int .i64 i) := hbb.cell 2
 have z3 : wf.cell? ⟨w.heap.size + 1, 3, none⟩ = some (.int .i64 0) := hbb.cell 3
 have z4 : wf.cell? ⟨w.heap.size + 1, 4, none⟩ = some (.slice none 0 0) := hbb.cell 4
 have z5 : wf.cell? ⟨w.heap.size + 1, 5, none⟩ = some (.slice none 0 0) := hbb.cell 5
 refine bodyPost_ret (v := .tuple #[.agg #[.int .i64 5, .int .i64 t, .int .i64 i, .int .i64 0, .slice none 0 0, .slice none 0 0], .bool true]) ?_ rfl ⟨rfl, HKf.out⟩
 rw [results_cell_tmp rfl]
 go_simp
theorem ownFields_6 (t i c : Int) (da : Option Addr) (nd dc : Nat) (ka : Option Addr) (nk kc : Nat) (w : World) : Calls Try.prog 46 #[.agg #[.int .i64 6, .int .i64 t, .int .i64 i, .int .i64 c, .slice da nd dc, .slice ka nk kc]] w fun e w' => e = .returned (.tuple #[.agg #[.int .i64 6, .int .i64 t, .int .i64 0, .int .i64 0, .slice none 0 0, .slice none 0 0], .bool true]) ∧ Same w w' := by
 have hne : ¬ (w.heap.size = w.heap.size + 1 + 1) := by omega
 go_enter Try.func46, Try.ntmps46
 go_wp2
 (try simp only [Exit.inBlock, Exit.then])
 refine bodyPost_ret (v := .tuple #[.agg #[.int .i64 6, .int .i64 t, .int .i64 0, .int .i64 0, .slice none 0 0, .slice none 0 0], .bool true]) ?_ rfl ⟨rfl, (((Kept.refl _ _).alloc _).alloc _).alloc _⟩
 rw [results_cell_tmp rfl]
 go_simp
theorem ownFields_7 (t i c : Int) (da : Option Addr) (nd dc : Nat) (ka : Option Addr) (nk kc : Nat) (w : World) : Calls Try.prog 46 #[.agg #[.int .i64 7, .int .i64 t, .int .i64 i, .int .i64 c, .slice da nd dc, .slice ka nk kc]] w fun e w' => e = .returned (.tuple #[.agg #[.int .i64 7, .int .i64 t, .int .i64 0, .int .i64 0, .slice none 0 0, .slice none 0 0], .bool true]) ∧ Same w w' := by
 have hne : ¬ (w.heap.size = w.heap.size + 1 + 1) := by omega
 go_enter Try.func46, Try.ntmps46
 go_wp2
 (try simp only [Exit.inBlock, Exit.then])
 refine bodyPost_ret (v := .tuple #[.agg #[.int .i64 7, .int .i64 t, .int .i64 0, .int .i64 0, .slice none 0 0, .slice none 0 0], .bool true]) ?_ rfl ⟨rfl, (((Kept.refl _ _).alloc _).alloc _).alloc _⟩
 rw [results_cell_tmp rfl]
 go_simp
theorem ownFields_8 (t i c : Int) (da : Option Addr) (nd dc : Nat) (ka : Option Addr) (nk kc : Nat) (w : World) : Calls Try.prog 46 #[.agg #[.int .i64 8, .int .i64 t, .int .i64 i, .int .i64 c, .slice da nd dc, .slice ka nk kc]] w fun e w' => e = .returned (.tuple #[.agg #[.int .i64 8, .int .i64 0, .int .i64 0, .int .i64 0, .slice none 0 0, .slice none 0 0], .bool true]) ∧ Same w w' := by
 have hne : ¬ (w.heap.size = w.heap.size + 1 + 1) := by omega
 go_enter Try.func46, Try.ntmps46
 go_wp2
 (try simp only [Exit.inBlock, Exit.then])
 refine bodyPost_ret (v := .tuple #[.agg #[.int .i64 8, .int .i64 0, .int .i64 0, .int .i64 0, .slice none 0 0, .slice none 0 0], .bool true]) ?_ rfl ⟨rfl, (((Kept.refl _ _).alloc _).alloc _).alloc _⟩
 rw [results_cell_tmp rfl]
 go_simp
theorem ownFields_9 (t i c : Int) (da : Option Addr) (nd dc : Nat) (ka : Option Addr) (nk kc : Nat) (w : World) : Calls Try.prog 46 #[.agg #[.int .i64 9, .int .i64 t, .int .i64 i, .int .i64 c, .slice da nd dc, .slice ka nk kc]] w fun e w' => e = .returned (.tuple #[.agg #[.int .i64 9, .int .i64 0, .int .i64 0, .int .i64 0, .slice none 0 0, .slice none 0 0], .bool true]) ∧ Same w w' := by
 have hne : ¬ (w.heap.size = w.heap.size + 1 + 1) := by omega
 go_enter Try.func46, Try.ntmps46
 go_wp2
 (try simp only [Exit.inBlock, Exit.then])
 refine bodyPost_ret (v := .tuple #[.agg #[.int .i64 9, .int .i64 0, .int .i64 0, .int .i64 0, .slice none 0 0, .slice none 0 0], .bool true]) ?_ rfl ⟨rfl, (((Kept.refl _ _).alloc _).alloc _).alloc _⟩
 rw [results_cell_tmp rfl]
 go_simp
theorem ownFields_10 (t i c : Int) (da : Option Addr) (nd dc : Nat) (ka : Option Addr) (nk kc : Nat) (w : World) : Calls Try.prog 46 #[.agg #[.int .i64 10, .int .i64 t, .int .i64 i, .int .i64 c, .slice da nd dc, .slice ka nk kc]] w fun e w' => e = .returned (.tuple #[.agg #[.int .i64 10, .int .i64 0, .int .i64 0, .int .i64 0, .slice none 0 0, .slice ka nk kc], .bool true]) ∧ Same w w' := by
 have hne : ¬ (w.heap.size = w.heap.size + 1 + 1) := by omega
 go_enter Try.func46, Try.ntmps46
 go_wp2
 (try simp only [Exit.inBlock, Exit.then])
 refine bodyPost_ret (v := .tuple #[.agg #[.int .i64 10, .int .i64 0, .int .i64 0, .int .i64 0, .slice none 0 0, .slice ka nk kc], .bool true]) ?_ rfl ⟨rfl, (((Kept.refl _ _).alloc _).alloc _).alloc _⟩
 rw [results_cell_tmp rfl]
 go_simp
theorem ownFields_11 (t i c : Int) (da : Option Addr) (nd dc : Nat) (ka : Option Addr) (nk kc : Nat) (w : World) : Calls Try.prog 46 #[.agg #[.int .i64 11, .int .i64 t, .int .i64 i, .int .i64 c, .slice da nd dc, .slice ka nk kc]] w fun e w' => e = .returned (.tuple #[.agg #[.int .i64 11, .int .i64 0, .int .i64 0, .int .i64 c, .slice none 0 0, .slice none 0 0], .bool true]) ∧ Same w w' := by
 have hne : ¬ (w.heap.size = w.heap.size + 1 + 1) := by omega
 go_enter Try.func46, Try.ntmps46
 go_wp2
 (try simp only [Exit.inBlock, Exit.then])
 refine bodyPost_ret (v := .tuple #[.agg #[.int .i64 11, .int .i64 0, .int .i64 0, .int .i64 c, .slice none 0 0, .slice none 0 0], .bool true]) ?_ rfl ⟨rfl, (((Kept.refl _ _).alloc _).alloc _).alloc _⟩
 rw [results_cell_tmp rfl]
 go_simp
theorem FR.own_ints {w : World} {x : FR} (h : OwnL w (x.rows 1)) : Own 0 x.e .i64 w x.v x.bs := by
 have h1 := FR.own_one h
 have h2 : x.n = x.bs.length := by have := FR.own_len h; omega
 rw [h2] at h1
 exact h1
theorem eqInt64SF_own (x y : FR) (w : World) (hn : (x.bs.length : Int) ≤ 1125899906842624) (hd : x.bs = y.bs) (ha : OwnL w (x.rows 1)) (hb : OwnL w (y.rows 1)) :
  Calls Try.prog 18 #[x.v, y.v] w fun e w' => e = .returned (.bool true) ∧ Same w w' := by
 have h1 := FR.own_ints ha
 have h2 := FR.own_ints hb
 rw [← hd] at h2
 refine (eqInt64S_own 0 x.v y.v x.bs w (by omega) h1 h2).mono ?_
 rintro e w' ⟨rfl, n, rfl⟩
 exact ⟨rfl, (Kept.refl _ _).drewN _⟩
theorem szInt64SF_any (a : Option Addr) (n c : Nat) (left : Int) (w : World) (h0 : 0 ≤ left) (h1 : left ≤ 1048576) (hn : n ≤ maxLen) :
  Calls Try.prog 43 #[.slice a n c, .int .i64 left] w fun e w' => ∃ r : Int, e = .returned (.int .i64 r) ∧ ((r = -1 ∧ left < n) ∨ (r = left - n ∧ 0 ≤ r)) ∧ w' = w := by
 unfold maxLen at hn
 by_cases h : left < n
 ·go_enter Try.func43, Try.ntmps43
  go_wp2
  go_ret
  exact ⟨_, rfl, .inl ⟨rfl, h⟩, rfl⟩
 ·go_enter Try.func43, Try.ntmps43
  go_wp2
  go_ret
  exact ⟨_, rfl, .inr ⟨rfl, by omega⟩, rfl⟩
theorem RdF.ints {w : World} {x : FR} (h : RdF 1 w x) (h0 : x.n ≠ 0) : Rd .i64 w x.v x.bs := by
 obtain ⟨h1, h2, h3⟩ := h
 have hl : x.n = x.bs.length := by omega
 rcases h3 with h3 | ⟨b, off, e, hc, hx⟩
 ·exact absurd h3 h0
 ·refine ⟨by omega, .inr ⟨b, off, x.c, ?_, by omega, fun i hi => hx i (by omega)⟩⟩
  simp only [FR.v, e, hl]
theorem Rd.flat {w : World} {v : Value} {bs : List Int} (h : Rd .i64 w v bs) : ∃ a c, v = .slice a bs.length c ∧ RdF 1 w ⟨0, a, bs.length, c, bs⟩ := by
 rcases h.2 with ⟨rfl, a, c, rfl, _⟩ | ⟨b, off, c, rfl, hc, hx⟩
 ·exact ⟨a, c, rfl, Nat.zero_le _, rfl, .inl rfl⟩
 ·exact ⟨_, c, rfl, h.1, (Nat.mul_one _).symm, .inr ⟨b, off, rfl, hc, fun i hi => hx i (by simpa using hi)⟩⟩
theorem toInt64SF_any (x : FR) (w : World) (hn : (x.n : Int) ≤ 1073741824) (hv : RdF 1 w x) :
  Calls Try.prog 45 #[x.v] w fun e w' => ∃ y : FR, e = .returned y.v ∧ y.bs = x.bs ∧ y.n = x.n ∧ (∀ b, FootL (y.rows 1) b → w.heap.size ≤ b) ∧ OwnL w' (y.rows 1) ∧ Same w w' := by
 have hl : x.bs.length = x.n := by have := hv.2.1; omega
 have key : ∀ (e : Ending) (w' : World), (∃ g, e = .returned (.slice (some ⟨g, 0, none⟩) x.bs.length x.bs.length) ∧ w.heap.size ≤ g ∧ Own 0 2 .i64 w' (.slice (some ⟨g, 0, none⟩) x.bs.length x.bs.length) x.bs ∧ Same w w') →
   ∃ y : FR, e = .returned y.v ∧ y.bs = x.bs ∧ y.n = x.n ∧ (∀ b, FootL (y.rows 1) b → w.heap.size ≤ b) ∧ OwnL w' (y.rows 1) ∧ Same w w' := by
  rintro e w' ⟨g, rfl, hg, ho, hk⟩
  refine ⟨⟨2, some ⟨g, 0, none⟩, x.bs.length, x.bs.length, x.bs⟩, rfl, rfl, hl, fun b hb => ?_, OwnL.one ho, hk⟩
  have hb := (FootL_one _ _).1 hb
  simp only [FR.v, Value.ownBlock] at hb
  cases hb
  exact hg
 by_cases h0 : x.n = 0
 ·obtain ⟨xe, xa, xn, xc, bs⟩ := x
  dsimp only [FR.v] at *
  subst h0
  obtain rfl : bs = [] := List.length_eq_zero_iff.1 hl
  refine Calls.mono ?_ key
  obtain ⟨i0, hi, hz0, hz1, hz2⟩ := info_parts Try.infoI64
  clear hv hn key hl
  go_enter Try.func45, Try.ntmps45
  go_wp2_with (at_make; refine wpList_make_full _ rfl (.tmp 6) (.tmp 6) 41 rfl 0 2 i0 (.int .i64 0) 1 Try.underlying41 hi hz0 hz1 .i64 .i64 _ _ 0 rfl rfl (by simp) (by simp) (by simp) (by simp) (Nat.zero_le _) ?_; intro w1 hown1 hgrow1; have HO : Hid (Own 0 2 .i64 w1 (.slice (some ⟨w.heap.size, 0, none⟩) 0 0) []) := own_made (n := 0) (by simpa using hown1); have HK : Hid (Same w w1) := Kept.of_grown hgrow1 (fun k e => by cases e); clear hown1 hgrow1)
  refine wp_loop_rounds 1 ?_
  rw [rounds_succ]
  go_wp2
  go_ret
  exact ⟨w.heap.size, rfl, Nat.le_refl _, HO.out, HK.out⟩
 ·exact (toInt64S_any x.v x.bs w (by omega) (hv.ints h0)).mono key
end Go.Proofs.Ytlmcaodiiadlkaa
