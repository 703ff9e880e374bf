import Derived.Test.YtbilnlgjpchgiaaDoorStepS
import Derived.Laws.ResultCell
namespace Go.Proofs.YtbilnlgjpchgiaaDoor
set_option maxRecDepth 100000
set_option maxHeartbeats 4000000
set_option linter.unusedVariables false
set_option linter.unusedSimpArgs false
open Go.RowKit
theorem ownFields_1 (t i c : Int) (da : Option Addr) (nd dc : Nat) (ka : Option Addr) (nk kc : Nat) (w : World) : Calls Tryd.prog 95 #[.agg #[.int .i64 1, .int .i64 t, .int .i64 i, .int .i64 c, .slice da nd dc, .slice ka nk kc]] w fun e w' => e = .returned (.tuple #[.agg #[.int .i64 1, .int .i64 0, .int .i64 0, .int .i64 0, .slice none 0 0, .slice none 0 0], .bool true]) ∧ Same w w' := by
 have hne : ¬ (w.heap.size = w.heap.size + 1 + 1) := by omega
 go_enter Tryd.func95, Tryd.ntmps95
 go_wp2
 (try simp only [Exit.inBlock, Exit.then])
 refine bodyPost_ret (v := .tuple #[.agg #[.int .i64 1, .int .i64 0, .int .i64 0, .int .i64 0, .slice none 0 0, .slice none 0 0], .bool true]) ?_ rfl ⟨rfl, (((Kept.refl _ _).alloc _).alloc _).alloc _⟩
 rw [results_cell_tmp rfl]
 go_simp
theorem ownFields_2 (t i c : Int) (da : Option Addr) (nd dc : Nat) (ka : Option Addr) (nk kc : Nat) (w : World) : Calls Tryd.prog 95 #[.agg #[.int .i64 2, .int .i64 t, .int .i64 i, .int .i64 c, .slice da nd dc, .slice ka nk kc]] w fun e w' => e = .returned (.tuple #[.agg #[.int .i64 2, .int .i64 t, .int .i64 0, .int .i64 0, .slice da nd dc, .slice none 0 0], .bool true]) ∧ Same w w' := by
 have hne : ¬ (w.heap.size = w.heap.size + 1 + 1) := by omega
 go_enter Tryd.func95, Tryd.ntmps95
 have HB0 := hid (((Blk.new w #[.int .i64 2, .int .i64 t, .int .i64 i, .int .i64 c, .slice da nd dc, .slice ka nk kc] 61).alloc (.cells #[.int .i64 0, .int .i64 0, .int .i64 0, .int .i64 0, .slice none 0 0, .slice none 0 0] 61)).alloc (.cells #[.int .i64 2, .int .i64 0, .int .i64 0, .int .i64 0, .slice none 0 0, .slice none 0 0] 61))
 have HB1 : Hid (Blk (((w.alloc (.cells #[.int .i64 2, .int .i64 t, .int .i64 i, .int .i64 c, .slice da nd dc, .slice ka nk kc] 61)).alloc (.cells #[.int .i64 0, .int .i64 0, .int .i64 0, .int .i64 0, .slice none 0 0, .slice none 0 0] 61)).alloc (.cells #[.int .i64 2, .int .i64 0, .int .i64 0, .int .i64 0, .slice none 0 0, .slice none 0 0] 61)) (w.heap.size + 1) 61 [.int .i64 0, .int .i64 0, .int .i64 0, .int .i64 0, .slice none 0 0, .slice none 0 0]) := by
  have h := (Blk.new (w.alloc (.cells #[.int .i64 2, .int .i64 t, .int .i64 i, .int .i64 c, .slice da nd dc, .slice ka nk kc] 61)) #[.int .i64 0, .int .i64 0, .int .i64 0, .int .i64 0, .slice none 0 0, .slice none 0 0] 61).alloc (.cells #[.int .i64 2, .int .i64 0, .int .i64 0, .int .i64 0, .slice none 0 0, .slice none 0 0] 61)
  rwa [World.size_alloc] at h
 have HB2 : Hid (Blk (((w.alloc (.cells #[.int .i64 2, .int .i64 t, .int .i64 i, .int .i64 c, .slice da nd dc, .slice ka nk kc] 61)).alloc (.cells #[.int .i64 0, .int .i64 0, .int .i64 0, .int .i64 0, .slice none 0 0, .slice none 0 0] 61)).alloc (.cells #[.int .i64 2, .int .i64 0, .int .i64 0, .int .i64 0, .slice none 0 0, .slice none 0 0] 61)) (w.heap.size + 1 + 1) 61 [.int .i64 2, .int .i64 0, .int .i64 0, .int .i64 0, .slice none 0 0, .slice none 0 0]) := by
  have h := Blk.new ((w.alloc (.cells #[.int .i64 2, .int .i64 t, .int .i64 i, .int .i64 c, .slice da nd dc, .slice ka nk kc] 61)).alloc (.cells #[.int .i64 0, .int .i64 0, .int .i64 0, .int .i64 0, .slice none 0 0, .slice none 0 0] 61)) #[.int .i64 2, .int .i64 0, .int .i64 0, .int .i64 0, .slice none 0 0, .slice none 0 0] 61
  rwa [World.size_alloc, World.size_alloc] at h
 have HK0 : Hid (Same w (((w.alloc (.cells #[.int .i64 2, .int .i64 t, .int .i64 i, .int .i64 c, .slice da nd dc, .slice ka nk kc] 61)).alloc (.cells #[.int .i64 0, .int .i64 0, .int .i64 0, .int .i64 0, .slice none 0 0, .slice none 0 0] 61)).alloc (.cells #[.int .i64 2, .int .i64 0, .int .i64 0, .int .i64 0, .slice none 0 0, .slice none 0 0] 61))) := (((Kept.refl _ _).alloc _).alloc _).alloc _
 go_wp2_with fail
 let Y1 : World → Prop := fun wx : World => wx.cell? ⟨w.heap.size, 1, none⟩ = some (.int .i64 t) ∧ wx.cell? ⟨w.heap.size, 2, none⟩ = some (.int .i64 i) ∧ wx.cell? ⟨w.heap.size, 4, none⟩ = some (.slice da nd dc)
 refine wp_region_V Y1 99 8 rfl (by kernel_rfl) ?_
 generalize hwd : World.drew (((w.alloc (.cells #[.int .i64 2, .int .i64 t, .int .i64 i, .int .i64 c, .slice da nd dc, .slice ka nk kc] 61)).alloc (.cells #[.int .i64 0, .int .i64 0, .int .i64 0, .int .i64 0, .slice none 0 0, .slice none 0 0] 61)).alloc (.cells #[.int .i64 2, .int .i64 0, .int .i64 0, .int .i64 0, .slice none 0 0, .slice none 0 0] 61)) = w3
 have hk : Same (((w.alloc (.cells #[.int .i64 2, .int .i64 t, .int .i64 i, .int .i64 c, .slice da nd dc, .slice ka nk kc] 61)).alloc (.cells #[.int .i64 0, .int .i64 0, .int .i64 0, .int .i64 0, .slice none 0 0, .slice none 0 0] 61)).alloc (.cells #[.int .i64 2, .int .i64 0, .int .i64 0, .int .i64 0, .slice none 0 0, .slice none 0 0] 61)) w3 := by rw [← hwd]; exact (Kept.refl _ _).drew
 clear hwd
 have HK3 := hid (HK0.out.trans hk)
 have HC0 := hid (HB0.out.same hk)
 have HC1 := hid (HB1.out.same hk)
 have HC2 := hid (HB2.out.same hk)
 clear hk HB0 HB1 HB2 HK0
 have hS : Y1 w3 := ⟨HC0.out.cell 1, HC0.out.cell 2, HC0.out.cell 4⟩
 refine tk 0 17 hS ?_
 refine tk 1 18 hS ?_
 refine tk 2 19 hS ?_
 refine tk 3 20 hS ?_
 refine tk 4 21 hS ?_
 have z5 := HC2.out.cell 1
 have fz := HC2.out.frozen
 refine wpAnyV_one (i := 5) (by kernel_rfl) rfl (fun K hK => ?_)
 go_simp
 generalize hwd : (w3.setCell ⟨w.heap.size + 1 + 1, 1, none⟩ (.int .i64 t)) = w45
 have hk : Kept (fun b => b = w.heap.size + 1 + 1) w3 w45 := by rw [← hwd]; exact Kept.setCell (R := fun b => b = w.heap.size + 1 + 1) (Kept.refl _ _) (p := ⟨w.heap.size + 1 + 1, 1, none⟩) (.inr rfl) _
 have HD5 := hid (HC2.out.stored 1 (.int .i64 t))
 rw [hwd] at HD5
 clear hwd z5 fz
 have hS : Y1 w45 := ⟨hk.cellOf hS.1 hne, hk.cellOf hS.2.1 hne, hk.cellOf hS.2.2 hne⟩
 have HK5 := hid (Kept.next HK3.out hk (fun j hj e => by omega))
 have HE5 := hid (HC1.out.kept hk (fun e => by omega))
 clear hk
 refine hK.out _ _ (fun _ => hS) ?_
 clear hK K
 try simp only [Act.put, sA, s0, sS]
 refine tk 6 22 hS ?_
 have z7 := HD5.out.cell 4
 have fz := HD5.out.frozen
 refine wpAnyV_one (i := 7) (by kernel_rfl) rfl (fun K hK => ?_)
 go_simp
 generalize hwd : (w45.setCell ⟨w.heap.size + 1 + 1, 4, none⟩ (.slice da nd dc)) = w47
 have hk : Kept (fun b => b = w.heap.size + 1 + 1) w45 w47 := by rw [← hwd]; exact Kept.setCell (R := fun b => b = w.heap.size + 1 + 1) (Kept.refl _ _) (p := ⟨w.heap.size + 1 + 1, 4, none⟩) (.inr rfl) _
 have HD7 := hid (HD5.out.stored 4 (.slice da nd dc))
 rw [hwd] at HD7
 clear hwd z7 fz
 have hS : Y1 w47 := ⟨hk.cellOf hS.1 hne, hk.cellOf hS.2.1 hne, hk.cellOf hS.2.2 hne⟩
 have HK7 := hid (Kept.next HK5.out hk (fun j hj e => by omega))
 have HE7 := hid (HE5.out.kept hk (fun e => by omega))
 clear hk
 refine hK.out _ _ (fun _ => hS) ?_
 clear hK K
 try simp only [Act.put, sA, s0, sS]
 refine wpAnyV_done (by kernel_rfl) ?_
 clear hS
 have x0 : w47.cell? ⟨w.heap.size + 1 + 1, 0, none⟩ = some (.int .i64 2) := HD7.out.cell 0
 have y0 := HE7.out.cell 0
 have x1 : w47.cell? ⟨w.heap.size + 1 + 1, 1, none⟩ = some (.int .i64 t) := HD7.out.cell 1
 have y1 := HE7.out.cell 1
 have x2 : w47.cell? ⟨w.heap.size + 1 + 1, 2, none⟩ = some (.int .i64 0) := HD7.out.cell 2
 have y2 := HE7.out.cell 2
 have x3 : w47.cell? ⟨w.heap.size + 1 + 1, 3, none⟩ = some (.int .i64 0) := HD7.out.cell 3
 have y3 := HE7.out.cell 3
 have x4 : w47.cell? ⟨w.heap.size + 1 + 1, 4, none⟩ = some (.slice da nd dc) := HD7.out.cell 4
 have y4 := HE7.out.cell 4
 have x5 : w47.cell? ⟨w.heap.size + 1 + 1, 5, none⟩ = some (.slice none 0 0) := HD7.out.cell 5
 have y5 := HE7.out.cell 5
 have fz := HE7.out.frozen
 have hlt := HE7.out.lt
 have hlt2 := HD7.out.lt
 go_wp2
 (try simp only [Exit.inBlock, Exit.then])
 have hkk : Kept (fun b => b = w.heap.size + 1) w47 ((((((w47.setCell ⟨w.heap.size + 1, 0, none⟩ (.int .i64 2)).setCell ⟨w.heap.size + 1, 1, none⟩ (.int .i64 t)).setCell ⟨w.heap.size + 1, 2, none⟩ (.int .i64 0)).setCell ⟨w.heap.size + 1, 3, none⟩ (.int .i64 0)).setCell ⟨w.heap.size + 1, 4, none⟩ (.slice da nd dc)).setCell ⟨w.heap.size + 1, 5, none⟩ (.slice none 0 0)) := (Kept.setCell (R := fun b => b = w.heap.size + 1) (Kept.setCell (R := fun b => b = w.heap.size + 1) (Kept.setCell (R := fun b => b = w.heap.size + 1) (Kept.setCell (R := fun b => b = w.heap.size + 1) (Kept.setCell (R := fun b => b = w.heap.size + 1) (Kept.setCell (R := fun b => b = w.heap.size + 1) (Kept.refl _ _) (p := ⟨w.heap.size + 1, 0, none⟩) (.inr rfl) _) (p := ⟨w.heap.size + 1, 1, none⟩) (.inr rfl) _) (p := ⟨w.heap.size + 1, 2, none⟩) (.inr rfl) _) (p := ⟨w.heap.size + 1, 3, none⟩) (.inr rfl) _) (p := ⟨w.heap.size + 1, 4, none⟩) (.inr rfl) _) (p := ⟨w.heap.size + 1, 5, none⟩) (.inr rfl) _)
 have hbb := ((((((HE7.out.stored 0 (.int .i64 2)).stored 1 (.int .i64 t)).stored 2 (.int .i64 0)).stored 3 (.int .i64 0)).stored 4 (.slice da nd dc)).stored 5 (.slice none 0 0))
 have HKf := hid (Kept.next HK7.out hkk (fun j hj e => by omega))
 generalize ((((((w47.setCell ⟨w.heap.size + 1, 0, none⟩ (.int .i64 2)).setCell ⟨w.heap.size + 1, 1, none⟩ (.int .i64 t)).setCell ⟨w.heap.size + 1, 2, none⟩ (.int .i64 0)).setCell ⟨w.heap.size + 1, 3, none⟩ (.int .i64 0)).setCell ⟨w.heap.size + 1, 4, none⟩ (.slice da nd dc)).setCell ⟨w.heap.size + 1, 5, none⟩ (.slice none 0 0)) = wf at hbb HKf ⊢
 have z0 : wf.cell? ⟨w.heap.size + 1, 0, none⟩ = some (.int .i64 2) := hbb.cell 0
 have z1 : wf.cell? ⟨w.heap.size + 1, 1, none⟩ = some (.int .i64 t) := hbb.cell 1
 have z2 : wf.cell? ⟨w.heap.size + 1, 2, none⟩ = some (.int .i64 0) := hbb.cell 2
 have z3 : wf.cell? ⟨w.heap.size + 1, 3, none⟩ = some (.int .i64 0) := hbb.cell 3
 have z4 : wf.cell? ⟨w.heap.size + 1, 4, none⟩ = some (.slice da nd dc) := hbb.cell 4
 have z5 : wf.cell? ⟨w.heap.size + 1, 5, none⟩ = some (.slice none 0 0) := hbb.cell 5
 refine bodyPost_ret (v := .tuple #[.agg #[.int .i64 2, .int .i64 t, .int .i64 0, .int .i64 0, .slice da nd dc, .slice none 0 0], .bool true]) ?_ rfl ⟨rfl, HKf.out⟩
 rw [results_cell_tmp rfl]
 go_simp
theorem ownFields_3 (t i c : Int) (da : Option Addr) (nd dc : Nat) (ka : Option Addr) (nk kc : Nat) (w : World) : Calls Tryd.prog 95 #[.agg #[.int .i64 3, .int .i64 t, .int .i64 i, .int .i64 c, .slice da nd dc, .slice ka nk kc]] w fun e w' => e = .returned (.tuple #[.agg #[.int .i64 3, .int .i64 t, .int .i64 i, .int .i64 0, .slice da nd dc, .slice none 0 0], .bool true]) ∧ Same w w' := by
 have hne : ¬ (w.heap.size = w.heap.size + 1 + 1) := by omega
 go_enter Tryd.func95, Tryd.ntmps95
 have HB0 := hid (((Blk.new w #[.int .i64 3, .int .i64 t, .int .i64 i, .int .i64 c, .slice da nd dc, .slice ka nk kc] 61).alloc (.cells #[.int .i64 0, .int .i64 0, .int .i64 0, .int .i64 0, .slice none 0 0, .slice none 0 0] 61)).alloc (.cells #[.int .i64 3, .int .i64 0, .int .i64 0, .int .i64 0, .slice none 0 0, .slice none 0 0] 61))
 have HB1 : Hid (Blk (((w.alloc (.cells #[.int .i64 3, .int .i64 t, .int .i64 i, .int .i64 c, .slice da nd dc, .slice ka nk kc] 61)).alloc (.cells #[.int .i64 0, .int .i64 0, .int .i64 0, .int .i64 0, .slice none 0 0, .slice none 0 0] 61)).alloc (.cells #[.int .i64 3, .int .i64 0, .int .i64 0, .int .i64 0, .slice none 0 0, .slice none 0 0] 61)) (w.heap.size + 1) 61 [.int .i64 0, .int .i64 0, .int .i64 0, .int .i64 0, .slice none 0 0, .slice none 0 0]) := by
  have h := (Blk.new (w.alloc (.cells #[.int .i64 3, .int .i64 t, .int .i64 i, .int .i64 c, .slice da nd dc, .slice ka nk kc] 61)) #[.int .i64 0, .int .i64 0, .int .i64 0, .int .i64 0, .slice none 0 0, .slice none 0 0] 61).alloc (.cells #[.int .i64 3, .int .i64 0, .int .i64 0, .int .i64 0, .slice none 0 0, .slice none 0 0] 61)
  rwa [World.size_alloc] at h
 have HB2 : Hid (Blk (((w.alloc (.cells #[.int .i64 3, .int .i64 t, .int .i64 i, .int .i64 c, .slice da nd dc, .slice ka nk kc] 61)).alloc (.cells #[.int .i64 0, .int .i64 0, .int .i64 0, .int .i64 0, .slice none 0 0, .slice none 0 0] 61)).alloc (.cells #[.int .i64 3, .int .i64 0, .int .i64 0, .int .i64 0, .slice none 0 0, .slice none 0 0] 61)) (w.heap.size + 1 + 1) 61 [.int .i64 3, .int .i64 0, .int .i64 0, .int .i64 0, .slice none 0 0, .slice none 0 0]) := by
  have h := Blk.new ((w.alloc (.cells #[.int .i64 3, .int .i64 t, .int .i64 i, .int .i64 c, .slice da nd dc, .slice ka nk kc] 61)).alloc (.cells #[.int .i64 0, .int .i64 0, .int .i64 0, .int .i64 0, .slice none 0 0, .slice none 0 0] 61)) #[.int .i64 3, .int .i64 0, .int .i64 0, .int .i64 0, .slice none 0 0, .slice none 0 0] 61
  rwa [World.size_alloc, World.size_alloc] at h
 have HK0 : Hid (Same w (((w.alloc (.cells #[.int .i64 3, .int .i64 t, .int .i64 i, .int .i64 c, .slice da nd dc, .slice ka nk kc] 61)).alloc (.cells #[.int .i64 0, .int .i64 0, .int .i64 0, .int .i64 0, .slice none 0 0, .slice none 0 0] 61)).alloc (.cells #[.int .i64 3, .int .i64 0, .int .i64 0, .int .i64 0, .slice none 0 0, .slice none 0 0] 61))) := (((Kept.refl _ _).alloc _).alloc _).alloc _
 go_wp2_with fail
 let Y1 : World → Prop := fun wx : World => wx.cell? ⟨w.heap.size, 1, none⟩ = some (.int .i64 t) ∧ wx.cell? ⟨w.heap.size, 2, none⟩ = some (.int .i64 i) ∧ wx.cell? ⟨w.heap.size, 4, none⟩ = some (.slice da nd dc)
 refine wp_region_V Y1 99 12 rfl (by kernel_rfl) ?_
 generalize hwd : World.drew (((w.alloc (.cells #[.int .i64 3, .int .i64 t, .int .i64 i, .int .i64 c, .slice da nd dc, .slice ka nk kc] 61)).alloc (.cells #[.int .i64 0, .int .i64 0, .int .i64 0, .int .i64 0, .slice none 0 0, .slice none 0 0] 61)).alloc (.cells #[.int .i64 3, .int .i64 0, .int .i64 0, .int .i64 0, .slice none 0 0, .slice none 0 0] 61)) = w3
 have hk : Same (((w.alloc (.cells #[.int .i64 3, .int .i64 t, .int .i64 i, .int .i64 c, .slice da nd dc, .slice ka nk kc] 61)).alloc (.cells #[.int .i64 0, .int .i64 0, .int .i64 0, .int .i64 0, .slice none 0 0, .slice none 0 0] 61)).alloc (.cells #[.int .i64 3, .int .i64 0, .int .i64 0, .int .i64 0, .slice none 0 0, .slice none 0 0] 61)) w3 := by rw [← hwd]; exact (Kept.refl _ _).drew
 clear hwd
 have HK3 := hid (HK0.out.trans hk)
 have HC0 := hid (HB0.out.same hk)
 have HC1 := hid (HB1.out.same hk)
 have HC2 := hid (HB2.out.same hk)
 clear hk HB0 HB1 HB2 HK0
 have hS : Y1 w3 := ⟨HC0.out.cell 1, HC0.out.cell 2, HC0.out.cell 4⟩
 refine tk 0 25 hS ?_
 refine tk 1 26 hS ?_
 refine tk 2 27 hS ?_
 refine tk 3 28 hS ?_
 refine tk 4 29 hS ?_
 refine tk 5 30 hS ?_
 refine tk 6 31 hS ?_
 have z7 := HC2.out.cell 1
 have fz := HC2.out.frozen
 refine wpAnyV_one (i := 7) (by kernel_rfl) rfl (fun K hK => ?_)
 go_simp
 generalize hwd : (w3.setCell ⟨w.heap.size + 1 + 1, 1, none⟩ (.int .i64 t)) = w47
 have hk : Kept (fun b => b = w.heap.size + 1 + 1) w3 w47 := by rw [← hwd]; exact Kept.setCell (R := fun b => b = w.heap.size + 1 + 1) (Kept.refl _ _) (p := ⟨w.heap.size + 1 + 1, 1, none⟩) (.inr rfl) _
 have HD7 := hid (HC2.out.stored 1 (.int .i64 t))
 rw [hwd] at HD7
 clear hwd z7 fz
 have hS : Y1 w47 := ⟨hk.cellOf hS.1 hne, hk.cellOf hS.2.1 hne, hk.cellOf hS.2.2 hne⟩
 have HK7 := hid (Kept.next HK3.out hk (fun j hj e => by omega))
 have HE7 := hid (HC1.out.kept hk (fun e => by omega))
 clear hk
 refine hK.out _ _ (fun _ => hS) ?_
 clear hK K
 try simp only [Act.put, sA, s0, sS]
 refine tk 8 32 hS ?_
 have z9 := HD7.out.cell 2
 have fz := HD7.out.frozen
 refine wpAnyV_one (i := 9) (by kernel_rfl) rfl (fun K hK => ?_)
 go_simp
 generalize hwd : (w47.setCell ⟨w.heap.size + 1 + 1, 2, none⟩ (.int .i64 i)) = w49
 have hk : Kept (fun b => b = w.heap.size + 1 + 1) w47 w49 := by rw [← hwd]; exact Kept.setCell (R := fun b => b = w.heap.size + 1 + 1) (Kept.refl _ _) (p := ⟨w.heap.size + 1 + 1, 2, none⟩) (.inr rfl) _
 have HD9 := hid (HD7.out.stored 2 (.int .i64 i))
 rw [hwd] at HD9
 clear hwd z9 fz
 have hS : Y1 w49 := ⟨hk.cellOf hS.1 hne, hk.cellOf hS.2.1 hne, hk.cellOf hS.2.2 hne⟩
 have HK9 := hid (Kept.next HK7.out hk (fun j hj e => by omega))
 have HE9 := hid (HE7.out.kept hk (fun e => by omega))
 clear hk
 refine hK.out _ _ (fun _ => hS) ?_
 clear hK K
 try simp only [Act.put, sA, s0, sS]
 refine tk 10 33 hS ?_
 have z11 := HD9.out.cell 4
 have fz := HD9.out.frozen
 refine wpAnyV_one (i := 11) (by kernel_rfl) rfl (fun K hK => ?_)
 go_simp
 generalize hwd : (w49.setCell ⟨w.heap.size + 1 + 1, 4, none⟩ (.slice da nd dc)) = w411
 have hk : Kept (fun b => b = w.heap.size + 1 + 1) w49 w411 := by rw [← hwd]; exact Kept.setCell (R := fun b => b = w.heap.size + 1 + 1) (Kept.refl _ _) (p := ⟨w.heap.size + 1 + 1, 4, none⟩) (.inr rfl) _
 have HD11 := hid (HD9.out.stored 4 (.slice da nd dc))
 rw [hwd] at HD11
 clear hwd z11 fz
 have hS : Y1 w411 := ⟨hk.cellOf hS.1 hne, hk.cellOf hS.2.1 hne, hk.cellOf hS.2.2 hne⟩
 have HK11 := hid (Kept.next HK9.out hk (fun j hj e => by omega))
 have HE11 := hid (HE9.out.kept hk (fun e => by omega))
 clear hk
 refine hK.out _ _ (fun _ => hS) ?_
 clear hK K
 try simp only [Act.put, sA, s0, sS]
 refine wpAnyV_done (by kernel_rfl) ?_
 clear hS
 have x0 : w411.cell? ⟨w.heap.size + 1 + 1, 0, none⟩ = some (.int .i64 3) := HD11.out.cell 0
 have y0 := HE11.out.cell 0
 have x1 : w411.cell? ⟨w.heap.size + 1 + 1, 1, none⟩ = some (.int .i64 t) := HD11.out.cell 1
 have y1 := HE11.out.cell 1
 have x2 : w411.cell? ⟨w.heap.size + 1 + 1, 2, none⟩ = some (.int .i64 i) := HD11.out.cell 2
 have y2 := HE11.out.cell 2
 have x3 : w411.cell? ⟨w.heap.size + 1 + 1, 3, none⟩ = some (.int .i64 0) := HD11.out.cell 3
 have y3 := HE11.out.cell 3
 have x4 : w411.cell? ⟨w.heap.size + 1 + 1, 4, none⟩ = some (.slice da nd dc) := HD11.out.cell 4
 have y4 := HE11.out.cell 4
 have x5 : w411.cell? ⟨w.heap.size + 1 + 1, 5, none⟩ = some (.slice none 0 0) := HD11.out.cell 5
 have y5 := HE11.out.cell 5
 have fz := HE11.out.frozen
 have hlt := HE11.out.lt
 have hlt2 := HD11.out.lt
 go_wp2
 (try simp only [Exit.inBlock, Exit.then])
 have hkk : Kept (fun b => b = w.heap.size + 1) w411 ((((((w411.setCell ⟨w.heap.size + 1, 0, none⟩ (.int .i64 3)).setCell ⟨w.heap.size + 1, 1, none⟩ (.int .i64 t)).setCell ⟨w.heap.size + 1, 2, none⟩ (.int .i64 i)).setCell ⟨w.heap.size + 1, 3, none⟩ (.int .i64 0)).setCell ⟨w.heap.size + 1, 4, none⟩ (.slice da nd dc)).setCell ⟨w.heap.size + 1, 5, none⟩ (.slice none 0 0)) := (Kept.setCell (R := fun b => b = w.heap.size + 1) (Kept.setCell (R := fun b => b = w.heap.size + 1) (Kept.setCell (R := fun b => b = w.heap.size + 1) (Kept.setCell (R := fun b => b = w.heap.size + 1) (Kept.setCell (R := fun b => b = w.heap.size + 1) (Kept.setCell (R := fun b => b = w.heap.size + 1) (Kept.refl _ _) (p := ⟨w.heap.size + 1, 0, none⟩) (.inr rfl) _) (p := ⟨w.heap.size + 1, 1, none⟩) (.inr rfl) _) (p := ⟨w.heap.size + 1, 2, none⟩) (.inr rfl) _) (p := ⟨w.heap.size + 1, 3, none⟩) (.inr rfl) _) (p := ⟨w.heap.size + 1, 4, none⟩) (.inr rfl) _) (p := ⟨w.heap.size + 1, 5, none⟩) (.inr rfl) _)
 have hbb := ((((((HE11.out.stored 0 (.int .i64 3)).stored 1 (.int .i64 t)).stored 2 (.int .i64 i)).stored 3 (.int .i64 0)).stored 4 (.slice da nd dc)).stored 5 (.slice none 0 0))
 have HKf := hid (Kept.next HK11.out hkk (fun j hj e => by omega))
 generalize ((((((w411.setCell ⟨w.heap.size + 1, 0, none⟩ (.int .i64 3)).setCell ⟨w.heap.size + 1, 1, none⟩ (.int .i64 t)).setCell ⟨w.heap.size + 1, 2, none⟩ (.int .i64 i)).setCell ⟨w.heap.size + 1, 3, none⟩ (.int .i64 0)).setCell ⟨w.heap.size + 1, 4, none⟩ (.slice da nd dc)).setCell ⟨w.heap.size + 1, 5, none⟩ (.slice none 0 0)) = wf at hbb HKf ⊢
 have z0 : wf.cell? ⟨w.heap.size + 1, 0, none⟩ = some (.int .i64 3) := hbb.cell 0
 have z1 : wf.cell? ⟨w.heap.size + 1, 1, none⟩ = some (.int .i64 t) := hbb.cell 1
 have z2 : wf.cell? ⟨w.heap.size + 1, 2, none⟩ = some (.int .i64 i) := hbb.cell 2
 have z3 : wf.cell? ⟨w.heap.size + 1, 3, none⟩ = some (.int .i64 0) := hbb.cell 3
 have z4 : wf.cell? ⟨w.heap.size + 1, 4, none⟩ = some (.slice da nd dc) := hbb.cell 4
 have z5 : wf.cell? ⟨w.heap.size + 1, 5, none⟩ = some (.slice none 0 0) := hbb.cell 5
 refine bodyPost_ret (v := .tuple #[.agg #[.int .i64 3, .int .i64 t, .int .i64 i, .int .i64 0, .slice da nd dc, .slice none 0 0], .bool true]) ?_ rfl ⟨rfl, HKf.out⟩
 rw [results_cell_tmp rfl]
 go_simp
theorem ownFields_4 (t i c : Int) (da : Option Addr) (nd dc : Nat) (ka : Option Addr) (nk kc : Nat) (w : World) : Calls Tryd.prog 95 #[.agg #[.int .i64 4, .int .i64 t, .int .i64 i, .int .i64 c, .slice da nd dc, .slice ka nk kc]] w fun e w' => e = .returned (.tuple #[.agg #[.int .i64 4, .int .i64 t, .int .i64 i, .int .i64 0, .slice none 0 0, .slice none 0 0], .bool true]) ∧ Same w w' := by
 have hne : ¬ (w.heap.size = w.heap.size + 1 + 1) := by omega
 go_enter Tryd.func95, Tryd.ntmps95
 have HB0 := hid (((Blk.new w #[.int .i64 4, .int .i64 t, .int .i64 i, .int .i64 c, .slice da nd dc, .slice ka nk kc] 61).alloc (.cells #[.int .i64 0, .int .i64 0, .int .i64 0, .int .i64 0, .slice none 0 0, .slice none 0 0] 61)).alloc (.cells #[.int .i64 4, .int .i64 0, .int .i64 0, .int .i64 0, .slice none 0 0, .slice none 0 0] 61))
 have HB1 : Hid (Blk (((w.alloc (.cells #[.int .i64 4, .int .i64 t, .int .i64 i, .int .i64 c, .slice da nd dc, .slice ka nk kc] 61)).alloc (.cells #[.int .i64 0, .int .i64 0, .int .i64 0, .int .i64 0, .slice none 0 0, .slice none 0 0] 61)).alloc (.cells #[.int .i64 4, .int .i64 0, .int .i64 0, .int .i64 0, .slice none 0 0, .slice none 0 0] 61)) (w.heap.size + 1) 61 [.int .i64 0, .int .i64 0, .int .i64 0, .int .i64 0, .slice none 0 0, .slice none 0 0]) := by
  have h := (Blk.new (w.alloc (.cells #[.int .i64 4, .int .i64 t, .int .i64 i, .int .i64 c, .slice da nd dc, .slice ka nk kc] 61)) #[.int .i64 0, .int .i64 0, .int .i64 0, .int .i64 0, .slice none 0 0, .slice none 0 0] 61).alloc (.cells #[.int .i64 4, .int .i64 0, .int .i64 0, .int .i64 0, .slice none 0 0, .slice none 0 0] 61)
  rwa [World.size_alloc] at h
 have HB2 : Hid (Blk (((w.alloc (.cells #[.int .i64 4, .int .i64 t, .int .i64 i, .int .i64 c, .slice da nd dc, .slice ka nk kc] 61)).alloc (.cells #[.int .i64 0, .int .i64 0, .int .i64 0, .int .i64 0, .slice none 0 0, .slice none 0 0] 61)).alloc (.cells #[.int .i64 4, .int .i64 0, .int .i64 0, .int .i64 0, .slice none 0 0, .slice none 0 0] 61)) (w.heap.size + 1 + 1) 61 [.int .i64 4, .int .i64 0, .int .i64 0, .int .i64 0, .slice none 0 0, .slice none 0 0]) := by
  have h := Blk.new ((w.alloc (.cells #[.int .i64 4, .int .i64 t, .int .i64 i, .int .i64 c, .slice da nd dc, .slice ka nk kc] 61)).alloc (.cells #[.int .i64 0, .int .i64 0, .int .i64 0, .int .i64 0, .slice none 0 0, .slice none 0 0] 61)) #[.int .i64 4, .int .i64 0, .int .i64 0, .int .i64 0, .slice none 0 0, .slice none 0 0] 61
  rwa [World.size_alloc, World.size_alloc] at h
 have HK0 : Hid (Same w (((w.alloc (.cells #[.int .i64 4, .int .i64 t, .int .i64 i, .int .i64 c, .slice da nd dc, .slice ka nk kc] 61)).alloc (.cells #[.int .i64 0, .int .i64 0, .int .i64 0, .int .i64 0, .slice none 0 0, .slice none 0 0] 61)).alloc (.cells #[.int .i64 4, .int .i64 0, .int .i64 0, .int .i64 0, .slice none 0 0, .slice none 0 0] 61))) := (((Kept.refl _ _).alloc _).alloc _).alloc _
 go_wp2_with fail
 let Y1 : World → Prop := fun wx : World => wx.cell? ⟨w.heap.size, 1, none⟩ = some (.int .i64 t) ∧ wx.cell? ⟨w.heap.size, 2, none⟩ = some (.int .i64 i) ∧ wx.cell? ⟨w.heap.size, 4, none⟩ = some (.slice da nd dc)
 refine wp_region_V Y1 99 8 rfl (by kernel_rfl) ?_
 generalize hwd : World.drew (((w.alloc (.cells #[.int .i64 4, .int .i64 t, .int .i64 i, .int .i64 c, .slice da nd dc, .slice ka nk kc] 61)).alloc (.cells #[.int .i64 0, .int .i64 0, .int .i64 0, .int .i64 0, .slice none 0 0, .slice none 0 0] 61)).alloc (.cells #[.int .i64 4, .int .i64 0, .int .i64 0, .int .i64 0, .slice none 0 0, .slice none 0 0] 61)) = w3
 have hk : Same (((w.alloc (.cells #[.int .i64 4, .int .i64 t, .int .i64 i, .int .i64 c, .slice da nd dc, .slice ka nk kc] 61)).alloc (.cells #[.int .i64 0, .int .i64 0, .int .i64 0, .int .i64 0, .slice none 0 0, .slice none 0 0] 61)).alloc (.cells #[.int .i64 4, .int .i64 0, .int .i64 0, .int .i64 0, .slice none 0 0, .slice none 0 0] 61)) w3 := by rw [← hwd]; exact (Kept.refl _ _).drew
 clear hwd
 have HK3 := hid (HK0.out.trans hk)
 have HC0 := hid (HB0.out.same hk)
 have HC1 := hid (HB1.out.same hk)
 have HC2 := hid (HB2.out.same hk)
 clear hk HB0 HB1 HB2 HK0
 have hS : Y1 w3 := ⟨HC0.out.cell 1, HC0.out.cell 2, HC0.out.cell 4⟩
 refine tk 0 37 hS ?_
 refine tk 1 38 hS ?_
 refine tk 2 39 hS ?_
 refine tk 3 40 hS ?_
 refine tk 4 41 hS ?_
 have z5 := HC2.out.cell 1
 have fz := HC2.out.frozen
 refine wpAnyV_one (i := 5) (by kernel_rfl) rfl (fun K hK => ?_)
 go_simp
 generalize hwd : (w3.setCell ⟨w.heap.size + 1 + 1, 1, none⟩ (.int .i64 t)) = w45
 have hk : Kept (fun b => b = w.heap.size + 1 + 1) w3 w45 := by rw [← hwd]; exact Kept.setCell (R := fun b => b = w.heap.size + 1 + 1) (Kept.refl _ _) (p := ⟨w.heap.size + 1 + 1, 1, none⟩) (.inr rfl) _
 have HD5 := hid (HC2.out.stored 1 (.int .i64 t))
 rw [hwd] at HD5
 clear hwd z5 fz
 have hS : Y1 w45 := ⟨hk.cellOf hS.1 hne, hk.cellOf hS.2.1 hne, hk.cellOf hS.2.2 hne⟩
 have HK5 := hid (Kept.next HK3.out hk (fun j hj e => by omega))
 have HE5 := hid (HC1.out.kept hk (fun e => by omega))
 clear hk
 refine hK.out _ _ (fun _ => hS) ?_
 clear hK K
 try simp only [Act.put, sA, s0, sS]
 refine tk 6 42 hS ?_
 have z7 := HD5.out.cell 2
 have fz := HD5.out.frozen
 refine wpAnyV_one (i := 7) (by kernel_rfl) rfl (fun K hK => ?_)
 go_simp
 generalize hwd : (w45.setCell ⟨w.heap.size + 1 + 1, 2, none⟩ (.int .i64 i)) = w47
 have hk : Kept (fun b => b = w.heap.size + 1 + 1) w45 w47 := by rw [← hwd]; exact Kept.setCell (R := fun b => b = w.heap.size + 1 + 1) (Kept.refl _ _) (p := ⟨w.heap.size + 1 + 1, 2, none⟩) (.inr rfl) _
 have HD7 := hid (HD5.out.stored 2 (.int .i64 i))
 rw [hwd] at HD7
 clear hwd z7 fz
 have hS : Y1 w47 := ⟨hk.cellOf hS.1 hne, hk.cellOf hS.2.1 hne, hk.cellOf hS.2.2 hne⟩
 have HK7 := hid (Kept.next HK5.out hk (fun j hj e => by omega))
 have HE7 := hid (HE5.out.kept hk (fun e => by omega))
 clear hk
 refine hK.out _ _ (fun _ => hS) ?_
 clear hK K
 try simp only [Act.put, sA, s0, sS]
 refine wpAnyV_done (by kernel_rfl) ?_
 clear hS
 have x0 : w47.cell? ⟨w.heap.size + 1 + 1, 0, none⟩ = some (.int .i64 4) := HD7.out.cell 0
 have y0 := HE7.out.cell 0
 have x1 : w47.cell? ⟨w.heap.size + 1 + 1, 1, none⟩ = some (.int .i64 t) := HD7.out.cell 1
 have y1 := HE7.out.cell 1
 have x2 : w47.cell? ⟨w.heap.size + 1 + 1, 2, none⟩ = some (.int .i64 i) := HD7.out.cell 2
 have y2 := HE7.out.cell 2
 have x3 : w47.cell? ⟨w.heap.size + 1 + 1, 3, none⟩ = some (.int .i64 0) := HD7.out.cell 3
 have y3 := HE7.out.cell 3
 have x4 : w47.cell? ⟨w.heap.size + 1 + 1, 4, none⟩ = some (.slice none 0 0) := HD7.out.cell 4
 have y4 := HE7.out.cell 4
 have x5 : w47.cell? ⟨w.heap.size + 1 + 1, 5, none⟩ = some (.slice none 0 0) := HD7.out.cell 5
 have y5 := HE7.out.cell 5
 have fz := HE7.out.frozen
 have hlt := HE7.out.lt
 have hlt2 := HD7.out.lt
 go_wp2
 (try simp only [Exit.inBlock, Exit.then])
 have hkk : Kept (fun b => b = w.heap.size + 1) w47 ((((((w47.setCell ⟨w.heap.size + 1, 0, none⟩ (.int .i64 4)).setCell ⟨w.heap.size + 1, 1, none⟩ (.int .i64 t)).setCell ⟨w.heap.size + 1, 2, none⟩ (.int .i64 i)).setCell ⟨w.heap.size + 1, 3, none⟩ (.int .i64 0)).setCell ⟨w.heap.size + 1, 4, none⟩ (.slice none 0 0)).setCell ⟨w.heap.size + 1, 5, none⟩ (.slice none 0 0)) := (Kept.setCell (R := fun b => b = w.heap.size + 1) (Kept.setCell (R := fun b => b = w.heap.size + 1) (Kept.setCell (R := fun b => b = w.heap.size + 1) (Kept.setCell (R := fun b => b = w.heap.size + 1) (Kept.setCell (R := fun b => b = w.heap.size + 1) (Kept.setCell (R := fun b => b = w.heap.size + 1) (Kept.refl _ _) (p := ⟨w.heap.size + 1, 0, none⟩) (.inr rfl) _) (p := ⟨w.heap.size + 1, 1, none⟩) (.inr rfl) _) (p := ⟨w.heap.size + 1, 2, none⟩) (.inr rfl) _) (p := ⟨w.heap.size + 1, 3, none⟩) (.inr rfl) _) (p := ⟨w.heap.size + 1, 4, none⟩) (.inr rfl) _) (p := ⟨w.heap.size + 1, 5, none⟩) (.inr rfl) _)
 have hbb := ((((((HE7.out.stored 0 (.int .i64 4)).stored 1 (.int .i64 t)).stored 2 (.int .i64 i)).stored 3 (.int .i64 0)).stored 4 (.slice none 0 0)).stored 5 (.slice none 0 0))
 have HKf := hid (Kept.next HK7.out hkk (fun j hj e => by omega))
 generalize ((((((w47.setCell ⟨w.heap.size + 1, 0, none⟩ (.int .i64 4)).setCell ⟨w.heap.size + 1, 1, none⟩ (.int .i64 t)).setCell ⟨w.heap.size + 1, 2, none⟩ (.int .i64 i)).setCell ⟨w.heap.size + 1, 3, none⟩ (.int .i64 0)).setCell ⟨w.heap.size + 1, 4, none⟩ (.slice none 0 0)).setCell ⟨w.heap.size + 1, 5, none⟩ (.slice none 0 0)) = wf at hbb HKf ⊢
 have z0 : wf.cell? ⟨w.heap.size + 1, 0, none⟩ = some (.int .i64 4) := hbb.cell 0
 have z1 : wf.cell? ⟨w.heap.size + 1, 1, none⟩ = some (.int .i64 t) := hbb.cell 1
 have z2 : wf.cell? ⟨w.heap.size + 1, 2, none⟩ = some (.int .i64 i) := hbb.cell 2
 have z3 : wf.cell? ⟨w.heap.size + 1, 3, none⟩ = some (.int .i64 0) := hbb.cell 3
 have z4 : wf.cell? ⟨w.heap.size + 1, 4, none⟩ = some (.slice none 0 0) := hbb.cell 4
 have z5 : wf.cell? ⟨w.heap.size + 1, 5, none⟩ = some (.slice none 0 0) := hbb.cell 5
 refine bodyPost_ret (v := .tuple #[.agg #[.int .i64 4, .int .i64 t, .int .i64 i, .int .i64 0, .slice none 0 0, .slice none 0 0], .bool true]) ?_ rfl ⟨rfl, HKf.out⟩
 rw [results_cell_tmp rfl]
 go_simp
theorem ownFields_5 (t i c : Int) (da : Option Addr) (nd dc : Nat) (ka : Option Addr) (nk kc : Nat) (w : World) : Calls Tryd.prog 95 #[.agg #[.int .i64 5, .int .i64 t, .int .i64 i, .int .i64 c, .slice da nd dc, .slice ka nk kc]] w fun e w' => e = .returned (.tuple #[.agg #[.int .i64 5, .int .i64 t, .int .i64 i, .int .i64 0, .slice none 0 0, .slice none 0 0], .bool true]) ∧ Same w w' := by
 have hne : ¬ (w.heap.size = w.heap.size + 1 + 1) := by omega
 go_enter Tryd.func95, Tryd.ntmps95
 have HB0 := hid (((Blk.new w #[.int .i64 5, .int .i64 t, .int .i64 i, .int .i64 c, .slice da nd dc, .slice ka nk kc] 61).alloc (.cells #[.int .i64 0, .int .i64 0, .int .i64 0, .int .i64 0, .slice none 0 0, .slice none 0 0] 61)).alloc (.cells #[.int .i64 5, .int .i64 0, .int .i64 0, .int .i64 0, .slice none 0 0, .slice none 0 0] 61))
 have HB1 : Hid (Blk (((w.alloc (.cells #[.int .i64 5, .int .i64 t, .int .i64 i, .int .i64 c, .slice da nd dc, .slice ka nk kc] 61)).alloc (.cells #[.int .i64 0, .int .i64 0, .int .i64 0, .int .i64 0, .slice none 0 0, .slice none 0 0] 61)).alloc (.cells #[.int .i64 5, .int .i64 0, .int .i64 0, .int .i64 0, .slice none 0 0, .slice none 0 0] 61)) (w.heap.size + 1) 61 [.int .i64 0, .int .i64 0, .int .i64 0, .int .i64 0, .slice none 0 0, .slice none 0 0]) := by
  have h := (Blk.new (w.alloc (.cells #[.int .i64 5, .int .i64 t, .int .i64 i, .int .i64 c, .slice da nd dc, .slice ka nk kc] 61)) #[.int .i64 0, .int .i64 0, .int .i64 0, .int .i64 0, .slice none 0 0, .slice none 0 0] 61).alloc (.cells #[.int .i64 5, .int .i64 0, .int .i64 0, .int .i64 0, .slice none 0 0, .slice none 0 0] 61)
  rwa [World.size_alloc] at h
 have HB2 : Hid (Blk (((w.alloc (.cells #[.int .i64 5, .int .i64 t, .int .i64 i, .int .i64 c, .slice da nd dc, .slice ka nk kc] 61)).alloc (.cells #[.int .i64 0, .int .i64 0, .int .i64 0, .int .i64 0, .slice none 0 0, .slice none 0 0] 61)).alloc (.cells #[.int .i64 5, .int .i64 0, .int .i64 0, .int .i64 0, .slice none 0 0, .slice none 0 0] 61)) (w.heap.size + 1 + 1) 61 [.int .i64 5, .int .i64 0, .int .i64 0, .int .i64 0, .slice none 0 0, .slice none 0 0]) := by
  have h := Blk.new ((w.alloc (.cells #[.int .i64 5, .int .i64 t, .int .i64 i, .int .i64 c, .slice da nd dc, .slice ka nk kc] 61)).alloc (.cells #[.int .i64 0, .int .i64 0, .int .i64 0, .int .i64 0, .slice none 0 0, .slice none 0 0] 61)) #[.int .i64 5, .int .i64 0, .int .i64 0, .int .i64 0, .slice none 0 0, .slice none 0 0] 61
  rwa [World.size_alloc, World.size_alloc] at h
 have HK0 : Hid (Same w (((w.alloc (.cells #[.int .i64 5, .int .i64 t, .int .i64 i, .int .i64 c, .slice da nd dc, .slice ka nk kc] 61)).alloc (.cells #[.int .i64 0, .int .i64 0, .int .i64 0, .int .i64 0, .slice none 0 0, .slice none 0 0] 61)).alloc (.cells #[.int .i64 5, .int .i64 0, .int .i64 0, .int .i64 0, .slice none 0 0, .slice none 0 0] 61))) := (((Kept.refl _ _).alloc _).alloc _).alloc _
 go_wp2_with fail
 let Y1 : World → Prop := fun wx : World => wx.cell? ⟨w.heap.size, 1, none⟩ = some (.int .i64 t) ∧ wx.cell? ⟨w.heap.size, 2, none⟩ = some (.int .i64 i) ∧ wx.cell? ⟨w.heap.size, 4, none⟩ = some (.slice da nd dc)
 refine wp_region_V Y1 99 8 rfl (by kernel_rfl) ?_
 generalize hwd : World.drew (((w.alloc (.cells #[.int .i64 5, .int .i64 t, .int .i64 i, .int .i64 c, .slice da nd dc, .slice ka nk kc] 61)).alloc (.cells #[.int .i64 0, .int .i64 0, .int .i64 0, .int .i64 0, .slice none 0 0, .slice none 0 0] 61)).alloc (.cells #[.int .i64 5, .int .i64 0, .int .i64 0, .int .i64 0, .slice none 0 0, .slice none 0 0] 61)) = w3
 have hk : Same (((w.alloc (.cells #[.int .i64 5, .int .i64 t, .int .i64 i, .int .i64 c, .slice da nd dc, .slice ka nk kc] 61)).alloc (.cells #[.int .i64 0, .int .i64 0, .int .i64 0, .int .i64 0, .slice none 0 0, .slice none 0 0] 61)).alloc (.cells #[.int .i64 5, .int .i64 0, .int .i64 0, .int .i64 0, .slice none 0 0, .slice none 0 0] 61)) w3 := by rw [← hwd]; exact (Kept.refl _ _).drew
 clear hwd
 have HK3 := hid (HK0.out.trans hk)
 have HC0 := hid (HB0.out.same hk)
 have HC1 := hid (HB1.out.same hk)
 have HC2 := hid (HB2.out.same hk)
 clear hk HB0 HB1 HB2 HK0
 have hS : Y1 w3 := ⟨HC0.out.cell 1, HC0.out.cell 2, HC0.out.cell 4⟩
 refine tk 0 37 hS ?_
 refine tk 1 38 hS ?_
 refine tk 2 39 hS ?_
 refine tk 3 40 hS ?_
 refine tk 4 41 hS ?_
 have z5 := HC2.out.cell 1
 have fz := HC2.out.frozen
 refine wpAnyV_one (i := 5) (by kernel_rfl) rfl (fun K hK => ?_)
 go_simp
 generalize hwd : (w3.setCell ⟨w.heap.size + 1 + 1, 1, none⟩ (.int .i64 t)) = w45
 have hk : Kept (fun b => b = w.heap.size + 1 + 1) w3 w45 := by rw [← hwd]; exact Kept.setCell (R := fun b => b = w.heap.size + 1 + 1) (Kept.refl _ _) (p := ⟨w.heap.size + 1 + 1, 1, none⟩) (.inr rfl) _
 have HD5 := hid (HC2.out.stored 1 (.int .i64 t))
 rw [hwd] at HD5
 clear hwd z5 fz
 have hS : Y1 w45 := ⟨hk.cellOf hS.1 hne, hk.cellOf hS.2.1 hne, hk.cellOf hS.2.2 hne⟩
 have HK5 := hid (Kept.next HK3.out hk (fun j hj e => by omega))
 have HE5 := hid (HC1.out.kept hk (fun e => by omega))
 clear hk
 refine hK.out _ _ (fun _ => hS) ?_
 clear hK K
 try simp only [Act.put, sA, s0, sS]
 refine tk 6 42 hS ?_
 have z7 := HD5.out.cell 2
 have fz := HD5.out.frozen
 refine wpAnyV_one (i := 7) (by kernel_rfl) rfl (fun K hK => ?_)
 go_simp
 generalize hwd : (w45.setCell ⟨w.heap.size + 1 + 1, 2, none⟩ (.int .i64 i)) = w47
 have hk : Kept (fun b => b = w.heap.size + 1 + 1) w45 w47 := by rw [← hwd]; exact Kept.setCell (R := fun b => b = w.heap.size + 1 + 1) (Kept.refl _ _) (p := ⟨w.heap.size + 1 + 1, 2, none⟩) (.inr rfl) _
 have HD7 := hid (HD5.out.stored 2 (.int .i64 i))
 rw [hwd] at HD7
 clear hwd z7 fz
 have hS : Y1 w47 := ⟨hk.cellOf hS.1 hne, hk.cellOf hS.2.1 hne, hk.cellOf hS.2.2 hne⟩
 have HK7 := hid (Kept.next HK5.out hk (fun j hj e => by omega))
 have HE7 := hid (HE5.out.kept hk (fun e => by omega))
 clear hk
 refine hK.out _ _ (fun _ => hS) ?_
 clear hK K
 try simp only [Act.put, sA, s0, sS]
 refine wpAnyV_done (by kernel_rfl) ?_
 clear hS
 have x0 : w47.cell? ⟨w.heap.size + 1 + 1, 0, none⟩ = some (.int .i64 5) := HD7.out.cell 0
 have y0 := HE7.out.cell 0
 have x1 : w47.cell? ⟨w.heap.size + 1 + 1, 1, none⟩ = some (.int .i64 t) := HD7.out.cell 1
 have y1 := HE7.out.cell 1
 have x2 : w47.cell? ⟨w.heap.size + 1 + 1, 2, none⟩ = some (.int .i64 i) := HD7.out.cell 2
 have y2 := HE7.out.cell 2
 have x3 : w47.cell? ⟨w.heap.size + 1 + 1, 3, none⟩ = some (.int .i64 0) := HD7.out.cell 3
 have y3 := HE7.out.cell 3
 have x4 : w47.cell? ⟨w.heap.size + 1 + 1, 4, none⟩ = some (.slice none 0 0) := HD7.out.cell 4
 have y4 := HE7.out.cell 4
 have x5 : w47.cell? ⟨w.heap.size + 1 + 1, 5, none⟩ = some (.slice none 0 0) := HD7.out.cell 5
 have y5 := HE7.out.cell 5
 have fz := HE7.out.frozen
 have hlt := HE7.out.lt
 have hlt2 := HD7.out.lt
 go_wp2
 (try simp only [Exit.inBlock, Exit.then])
 have hkk : Kept (fun b => b = w.heap.size + 1) w47 ((((((w47.setCell ⟨w.heap.size + 1, 0, none⟩ (.int .i64 5)).setCell ⟨w.heap.size + 1, 1, none⟩ (.int .i64 t)).setCell ⟨w.heap.size + 1, 2, none⟩ (.int .i64 i)).setCell ⟨w.heap.size + 1, 3, none⟩ (.int .i64 0)).setCell ⟨w.heap.size + 1, 4, none⟩ (.slice none 0 0)).setCell ⟨w.heap.size + 1, 5, none⟩ (.slice none 0 0)) := (Kept.setCell (R := fun b => b = w.heap.size + 1) (Kept.setCell (R := fun b => b = w.heap.size + 1) (Kept.setCell (R := fun b => b = w.heap.size + 1) (Kept.setCell (R := fun b => b = w.heap.size + 1) (Kept.setCell (R := fun b => b = w.heap.size + 1) (Kept.setCell (R := fun b => b = w.heap.size + 1) (Kept.refl _ _) (p := ⟨w.heap.size + 1, 0, none⟩) (.inr rfl) _) (p := ⟨w.heap.size + 1, 1, none⟩) (.inr rfl) _) (p := ⟨w.heap.size + 1, 2, none⟩) (.inr rfl) _) (p := ⟨w.heap.size + 1, 3, none⟩) (.inr rfl) _) (p := ⟨w.heap.size + 1, 4, none⟩) (.inr rfl) _) (p := ⟨w.heap.size + 1, 5, none⟩) (.inr rfl) _)
 have hbb := ((((((HE7.out.stored 0 (.int .i64 5)).stored 1 (.int .i64 t)).stored 2 (.int .i64 i)).stored 3 (.int .i64 0)).stored 4 (.slice none 0 0)).stored 5 (.slice none 0 0))
 have HKf := hid (Kept.next HK7.out hkk (fun j hj e => by omega))
 generalize ((((((w47.setCell ⟨w.heap.size + 1, 0, none⟩ (.int .i64 5)).setCell ⟨w.heap.size + 1, 1, none⟩ (.int .i64 t)).setCell ⟨w.heap.size + 1, 2, none⟩ (.int .i64 i)).setCell ⟨w.heap.size + 1, 3, none⟩ (.int .i64 0)).setCell ⟨w.heap.size + 1, 4, none⟩ (.slice none 0 0)).setCell ⟨w.heap.size + 1, 5, none⟩ (.slice none 0 0)) = wf at hbb HKf ⊢
 have z0 : wf.cell? ⟨w.heap.size + 1, 0, none⟩ = some (.int .i64 5) := hbb.cell 0
 have z1 : wf.cell? ⟨w.heap.size + 1, 1, none⟩ = some (.int .i64 t) := hbb.cell 1
 have z2 : wf.cell? ⟨w.heap.size + 1, 2, none⟩ = some (.int .i64 i) := hbb.cell 2
 have z3 : wf.cell? ⟨w.heap.size + 1, 3, none⟩ = some (.int .i64 0) := hbb.cell 3
 have z4 : wf.cell? ⟨w.heap.size + 1, 4, none⟩ = some (.slice none 0 0) := hbb.cell 4
 have z5 : wf.cell? ⟨w.heap.size + 1, 5, none⟩ = some (.slice none 0 0) := hbb.cell 5
 refine bodyPost_ret (v := .tuple #[.agg #[.int .i64 5, .int .i64 t, .int .i64 i, .int .i64 0, .slice none 0 0, .slice none 0 0], .bool true]) ?_ rfl ⟨rfl, HKf.out⟩
 rw [results_cell_tmp rfl]
 go_simp
theorem ownFields_6 (t i c : Int) (da : Option Addr) (nd dc : Nat) (ka : Option Addr) (nk kc : Nat) (w : World) : Calls Tryd.prog 95 #[.agg #[.int .i64 6, .int .i64 t, .int .i64 i, .int .i64 c, .slice da nd dc, .slice ka nk kc]] w fun e w' => e = .returned (.tuple #[.agg #[.int .i64 6, .int .i64 t, .int .i64 0, .int .i64 0, .slice none 0 0, .slice none 0 0], .bool true]) ∧ Same w w' := by
 have hne : ¬ (w.heap.size = w.heap.size + 1 + 1) := by omega
 go_enter Tryd.func95, Tryd.ntmps95
 go_wp2
 (try simp only [Exit.inBlock, Exit.then])
 refine bodyPost_ret (v := .tuple #[.agg #[.int .i64 6, .int .i64 t, .int .i64 0, .int .i64 0, .slice none 0 0, .slice none 0 0], .bool true]) ?_ rfl ⟨rfl, (((Kept.refl _ _).alloc _).alloc _).alloc _⟩
 rw [results_cell_tmp rfl]
 go_simp
theorem ownFields_7 (t i c : Int) (da : Option Addr) (nd dc : Nat) (ka : Option Addr) (nk kc : Nat) (w : World) : Calls Tryd.prog 95 #[.agg #[.int .i64 7, .int .i64 t, .int .i64 i, .int .i64 c, .slice da nd dc, .slice ka nk kc]] w fun e w' => e = .returned (.tuple #[.agg #[.int .i64 7, .int .i64 t, .int .i64 0, .int .i64 0, .slice none 0 0, .slice none 0 0], .bool true]) ∧ Same w w' := by
 have hne : ¬ (w.heap.size = w.heap.size + 1 + 1) := by omega
 go_enter Tryd.func95, Tryd.ntmps95
 go_wp2
 (try simp only [Exit.inBlock, Exit.then])
 refine bodyPost_ret (v := .tuple #[.agg #[.int .i64 7, .int .i64 t, .int .i64 0, .int .i64 0, .slice none 0 0, .slice none 0 0], .bool true]) ?_ rfl ⟨rfl, (((Kept.refl _ _).alloc _).alloc _).alloc _⟩
 rw [results_cell_tmp rfl]
 go_simp
theorem ownFields_8 (t i c : Int) (da : Option Addr) (nd dc : Nat) (ka : Option Addr) (nk kc : Nat) (w : World) : Calls Tryd.prog 95 #[.agg #[.int .i64 8, .int .i64 t, .int .i64 i, .int .i64 c, .slice da nd dc, .slice ka nk kc]] w fun e w' => e = .returned (.tuple #[.agg #[.int .i64 8, .int .i64 0, .int .i64 0, .int .i64 0, .slice none 0 0, .slice none 0 0], .bool true]) ∧ Same w w' := by
 have hne : ¬ (w.heap.size = w.heap.size + 1 + 1) := by omega
 go_enter Tryd.func95, Tryd.ntmps95
 go_wp2
 (try simp only [Exit.inBlock, Exit.then])
 refine bodyPost_ret (v := .tuple #[.agg #[.int .i64 8, .int .i64 0, .int .i64 0, .int .i64 0, .slice none 0 0, .slice none 0 0], .bool true]) ?_ rfl ⟨rfl, (((Kept.refl _ _).alloc _).alloc _).alloc _⟩
 rw [results_cell_tmp rfl]
 go_simp
theorem ownFields_9 (t i c : Int) (da : Option Addr) (nd dc : Nat) (ka : Option Addr) (nk kc : Nat) (w : World) : Calls Tryd.prog 95 #[.agg #[.int .i64 9, .int .i64 t, .int .i64 i, .int .i64 c, .slice da nd dc, .slice ka nk kc]] w fun e w' => e = .returned (.tuple #[.agg #[.int .i64 9, .int .i64 0, .int .i64 0, .int .i64 0, .slice none 0 0, .slice none 0 0], .bool true]) ∧ Same w w' := by
 have hne : ¬ (w.heap.size = w.heap.size + 1 + 1) := by omega
 go_enter Tryd.func95, Tryd.ntmps95
 go_wp2
 (try simp only [Exit.inBlock, Exit.then])
 refine bodyPost_ret (v := .tuple #[.agg #[.int .i64 9, .int .i64 0, .int .i64 0, .int .i64 0, .slice none 0 0, .slice none 0 0], .bool true]) ?_ rfl ⟨rfl, (((Kept.refl _ _).alloc _).alloc _).alloc _⟩
 rw [results_cell_tmp rfl]
 go_simp
theorem ownFields_10 (t i c : Int) (da : Option Addr) (nd dc : Nat) (ka : Option Addr) (nk kc : Nat) (w : World) : Calls Tryd.prog 95 #[.agg #[.int .i64 10, .int .i64 t, .int .i64 i, .int .i64 c, .slice da nd dc, .slice ka nk kc]] w fun e w' => e = .returned (.tuple #[.agg #[.int .i64 10, .int .i64 0, .int .i64 0, .int .i64 0, .slice none 0 0, .slice ka nk kc], .bool true]) ∧ Same w w' := by
 have hne : ¬ (w.heap.size = w.heap.size + 1 + 1) := by omega
 go_enter Tryd.func95, Tryd.ntmps95
 go_wp2
 (try simp only [Exit.inBlock, Exit.then])
 refine bodyPost_ret (v := .tuple #[.agg #[.int .i64 10, .int .i64 0, .int .i64 0, .int .i64 0, .slice none 0 0, .slice ka nk kc], .bool true]) ?_ rfl ⟨rfl, (((Kept.refl _ _).alloc _).alloc _).alloc _⟩
 rw [results_cell_tmp rfl]
 go_simp
theorem ownFields_11 (t i c : Int) (da : Option Addr) (nd dc : Nat) (ka : Option Addr) (nk kc : Nat) (w : World) : Calls Tryd.prog 95 #[.agg #[.int .i64 11, .int .i64 t, .int .i64 i, .int .i64 c, .slice da nd dc, .slice ka nk kc]] w fun e w' => e = .returned (.tuple #[.agg #[.int .i64 11, .int .i64 0, .int .i64 0, .int .i64 c, .slice none 0 0, .slice none 0 0], .bool true]) ∧ Same w w' := by
 have hne : ¬ (w.heap.size = w.heap.size + 1 + 1) := by omega
 go_enter Tryd.func95, Tryd.ntmps95
 go_wp2
 (try simp only [Exit.inBlock, Exit.then])
 refine bodyPost_ret (v := .tuple #[.agg #[.int .i64 11, .int .i64 0, .int .i64 0, .int .i64 c, .slice none 0 0, .slice none 0 0], .bool true]) ?_ rfl ⟨rfl, (((Kept.refl _ _).alloc _).alloc _).alloc _⟩
 rw [results_cell_tmp rfl]
 go_simp
end Go.Proofs.YtbilnlgjpchgiaaDoor
