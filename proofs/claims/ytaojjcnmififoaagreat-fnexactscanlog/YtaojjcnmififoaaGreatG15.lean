import Derived.Test.YtaojjcnmififoaaGreatG12
import Derived.Test.YtaojjcnmififoaaGreatG11
import Derived.Great.BuildSlice
namespace Go.Proofs.YtaojjcnmififoaaGreat
set_option maxRecDepth 100000
set_option maxHeartbeats 16000000
set_option linter.unusedVariables false
set_option linter.unusedSimpArgs false
open Go.RowKit
theorem XT (txn prev page slot : Int) (bU aU : Bool) (bp bj : Option Addr) (eX bq er bk : Nat) (w : World) (tr : eX ≤ maxLen) (jZ : er ≤ maxLen) :
  Calls Tryz.prog 163 #[.agg #[.int .i64 txn, .int .i64 prev, .int .i64 page, .int .i64 slot, .bool bU, .slice bp eX bq, .bool aU, .slice bj er bk]] w fun e w' => e = .returned (.int .i64 (orF (Rx txn prev) (Rt page slot) (jaf bU aU eX er))) ∧ Same w w' := by
 have h1 := fun wx => Yf bU bp eX bq wx tr
 have h2 := fun wx => Yf aU bj er bk wx jZ
 have b0 := Blk.new w #[.int .i64 txn, .int .i64 prev, .int .i64 page, .int .i64 slot, .bool bU, .slice bp eX bq, .bool aU, .slice bj er bk] 144
 have du : Same w (w.alloc (.cells #[.int .i64 txn, .int .i64 prev, .int .i64 page, .int .i64 slot, .bool bU, .slice bp eX bq, .bool aU, .slice bj er bk] 144)) := kZ0.alloc _
 unfold jaf
 have O9 : ∀ (v : Int) (w1 : World) (hk : Same (w.alloc (.cells #[.int .i64 txn, .int .i64 prev, .int .i64 page, .int .i64 slot, .bool bU, .slice bp eX bq, .bool aU, .slice bj er bk] 144)) w1), True := fun _ _ _ => trivial
 cases e1 : Rj bU eX with
 | false =>
  rw [e1] at h1
  simp only [Bool.false_and, Bool.false_eq_true, if_false]
  clear h2
  go_enter Tryz.func163, Tryz.ntmps163
  go_wp2_with (go_at_call 166; refine (h1 _).mono ?_; rintro e w1 ⟨rfl, aH⟩; have l5 : w1.cell? ⟨w.heap.size, 0, none⟩ = some (.int .i64 txn) := (b0.same aH).cell 0; have mf : w1.cell? ⟨w.heap.size, 1, none⟩ = some (.int .i64 prev) := (b0.same aH).cell 1; have jT : w1.cell? ⟨w.heap.size, 2, none⟩ = some (.int .i64 page) := (b0.same aH).cell 2; have jO : w1.cell? ⟨w.heap.size, 3, none⟩ = some (.int .i64 slot) := (b0.same aH).cell 3; have jQ : w1.cell? ⟨w.heap.size, 4, none⟩ = some (.bool bU) := (b0.same aH).cell 4; have lX : w1.cell? ⟨w.heap.size, 5, none⟩ = some (.slice bp eX bq) := (b0.same aH).cell 5; have lK : w1.cell? ⟨w.heap.size, 6, none⟩ = some (.bool aU) := (b0.same aH).cell 6; have r5 : w1.cell? ⟨w.heap.size, 7, none⟩ = some (.slice bj er bk) := (b0.same aH).cell 7)
  have eg := b0.same aH
  let Y4 : World → Prop := fun wx : World => wx.cell? ⟨w.heap.size, 0, none⟩ = some (.int .i64 txn) ∧ wx.cell? ⟨w.heap.size, 1, none⟩ = some (.int .i64 prev) ∧ wx.cell? ⟨w.heap.size, 2, none⟩ = some (.int .i64 page) ∧ wx.cell? ⟨w.heap.size, 3, none⟩ = some (.int .i64 slot) ∧ wx.cell? ⟨w.heap.size, 4, none⟩ = some (.bool bU) ∧ wx.cell? ⟨w.heap.size, 5, none⟩ = some (.slice bp eX bq) ∧ wx.cell? ⟨w.heap.size, 6, none⟩ = some (.bool aU) ∧ wx.cell? ⟨w.heap.size, 7, none⟩ = some (.slice bj er bk)
  have bv : ∀ wx, Same w1 wx → Y4 wx := fun wx h => ⟨(eg.same h).cell 0, (eg.same h).cell 1, (eg.same h).cell 2, (eg.same h).cell 3, (eg.same h).cell 4, (eg.same h).cell 5, (eg.same h).cell 6, (eg.same h).cell 7⟩
  have hS : Y4 w1.drew := by exact bv _ kZ0.drew
  refine Q9 Y4 9 10 rfl (by kernel_rfl) ?_
  refine tk 0 26 hS ?_
  refine tk 1 27 hS ?_
  refine tk 3 29 hS ?_
  refine tk 4 30 hS ?_
  refine tk 6 32 hS ?_
  refine o1Q 2 (fun K hK => ?_)
  go_simp
  have hc := RY txn prev (w1.drew)
  with_reducible refine hc.mono ?_
  clear hc
  rintro e wa ⟨rfl, aG⟩
  have fe : Same w1 wa := Kept.trans (kZ0.drew) aG
  clear aG
  have hS : Y4 wa := bv _ fe
  refine hK.out _ _ (fun _ => hS) ?_
  clear hK K
  try simp only [Act.put, sA, s0, sS]
  refine o1Q 5 (fun K hK => ?_)
  go_simp
  have hc := Sl page slot wa
  with_reducible refine hc.mono ?_
  clear hc
  rintro e wb ⟨rfl, aG⟩
  have fi : Same w1 wb := Kept.trans (fe) aG
  clear aG
  have hS : Y4 wb := bv _ fi
  refine hK.out _ _ (fun _ => hS) ?_
  clear hK K
  try simp only [Act.put, sA, s0, sS]
  refine o1Q 7 (fun K hK => ?_)
  go_simp
  have bz := Blk.new wb #[.int .i64 (Rx txn prev), .int .i64 (Rt page slot), .int .i64 6] 2
  have iX : Same w1 (wb.alloc (.cells #[.int .i64 (Rx txn prev), .int .i64 (Rt page slot), .int .i64 6] 2)) := fi.alloc _
  have hS : Y4 _ := bv _ iX
  refine hK.out _ _ (fun _ => hS) ?_
  clear hK K
  try simp only [Act.put, sA, s0, sS]
  refine o1Q 8 (fun K hK => ?_)
  go_simp
  have hc := TV 0 (Rx txn prev) (Rt page slot) 6 wb.heap.size (wb.alloc (.cells #[.int .i64 (Rx txn prev), .int .i64 (Rt page slot), .int .i64 6] 2)) (bz.cell 0) (bz.cell 1) (bz.cell 2)
  with_reducible refine hc.mono ?_
  clear hc
  rintro e wc ⟨rfl, aG⟩
  have fj : Same w1 wc := Kept.trans (iX) aG
  clear aG
  have hS : Y4 wc := bv _ fj
  refine hK.out _ _ (fun _ => hS) ?_
  clear hK K
  try simp only [Act.put, sA, s0, sS]
  refine o1Q 9 (fun K hK => ?_)
  go_simp
  refine hK.out _ _ (fun h => absurd rfl h) ?_
  clear hK K
  refine Q8 (by kernel_rfl) ?_
  try simp only [Act.put, sA, s0, sS]
  go_wp2
  go_ret
  exact ⟨rfl, (du.trans aH).trans fj⟩
 | true =>
  rw [e1] at h1
  cases e2 : Rj aU er with
  | false =>
   rw [e2] at h2
   simp only [Bool.true_and, Bool.false_and, Bool.false_eq_true, if_false]
   go_enter Tryz.func163, Tryz.ntmps163
   go_wp2_with fail
   refine (h1 _).mono ?_
   rintro e w0 ⟨rfl, aH⟩
   have jj := (b0.same aH).c0
   have jr := (b0.same aH).c1
   have jA := (b0.same aH).c2
   have ji := (b0.same aH).c3
   have jx := (b0.same aH).c4
   have jb := (b0.same aH).c5
   have jB := (b0.same aH).c6
   have lP := (b0.same aH).c7
   go_wp2_with fail
   refine (h2 _).mono ?_
   rintro e w1 ⟨rfl, aN⟩
   have aH := aH.trans aN
   clear jj jr jA ji jx jb jB lP
   have l5 := (b0.same aH).c0
   have mf := (b0.same aH).c1
   have jT := (b0.same aH).c2
   have jO := (b0.same aH).c3
   have jQ := (b0.same aH).c4
   have lX := (b0.same aH).c5
   have lK := (b0.same aH).c6
   have r5 := (b0.same aH).c7
   go_wp2_with fail
   have eg := b0.same aH
   let Y5 : World → Prop := fun wx : World => wx.cell? ⟨w.heap.size, 0, none⟩ = some (.int .i64 txn) ∧ wx.cell? ⟨w.heap.size, 1, none⟩ = some (.int .i64 prev) ∧ wx.cell? ⟨w.heap.size, 2, none⟩ = some (.int .i64 page) ∧ wx.cell? ⟨w.heap.size, 3, none⟩ = some (.int .i64 slot) ∧ wx.cell? ⟨w.heap.size, 4, none⟩ = some (.bool bU) ∧ wx.cell? ⟨w.heap.size, 5, none⟩ = some (.slice bp eX bq) ∧ wx.cell? ⟨w.heap.size, 6, none⟩ = some (.bool aU) ∧ wx.cell? ⟨w.heap.size, 7, none⟩ = some (.slice bj er bk)
   have bv : ∀ wx, Same w1 wx → Y5 wx := fun wx h => ⟨(eg.same h).cell 0, (eg.same h).cell 1, (eg.same h).cell 2, (eg.same h).cell 3, (eg.same h).cell 4, (eg.same h).cell 5, (eg.same h).cell 6, (eg.same h).cell 7⟩
   have hS : Y5 w1.drew := by exact bv _ kZ0.drew
   refine Q9 Y5 9 10 rfl (by kernel_rfl) ?_
   refine tk 0 26 hS ?_
   refine tk 1 27 hS ?_
   refine tk 3 29 hS ?_
   refine tk 4 30 hS ?_
   refine tk 6 32 hS ?_
   refine o1Q 2 (fun K hK => ?_)
   go_simp
   have hc := RY txn prev (w1.drew)
   with_reducible refine hc.mono ?_
   clear hc
   rintro e wa ⟨rfl, aG⟩
   have fe : Same w1 wa := Kept.trans (kZ0.drew) aG
   clear aG
   have hS : Y5 wa := bv _ fe
   refine hK.out _ _ (fun _ => hS) ?_
   clear hK K
   try simp only [Act.put, sA, s0, sS]
   refine o1Q 5 (fun K hK => ?_)
   go_simp
   have hc := Sl page slot wa
   with_reducible refine hc.mono ?_
   clear hc
   rintro e wb ⟨rfl, aG⟩
   have fi : Same w1 wb := Kept.trans (fe) aG
   clear aG
   have hS : Y5 wb := bv _ fi
   refine hK.out _ _ (fun _ => hS) ?_
   clear hK K
   try simp only [Act.put, sA, s0, sS]
   refine o1Q 7 (fun K hK => ?_)
   go_simp
   have bz := Blk.new wb #[.int .i64 (Rx txn prev), .int .i64 (Rt page slot), .int .i64 6] 2
   have iX : Same w1 (wb.alloc (.cells #[.int .i64 (Rx txn prev), .int .i64 (Rt page slot), .int .i64 6] 2)) := fi.alloc _
   have hS : Y5 _ := bv _ iX
   refine hK.out _ _ (fun _ => hS) ?_
   clear hK K
   try simp only [Act.put, sA, s0, sS]
   refine o1Q 8 (fun K hK => ?_)
   go_simp
   have hc := TV 0 (Rx txn prev) (Rt page slot) 6 wb.heap.size (wb.alloc (.cells #[.int .i64 (Rx txn prev), .int .i64 (Rt page slot), .int .i64 6] 2)) (bz.cell 0) (bz.cell 1) (bz.cell 2)
   with_reducible refine hc.mono ?_
   clear hc
   rintro e wc ⟨rfl, aG⟩
   have fj : Same w1 wc := Kept.trans (iX) aG
   clear aG
   have hS : Y5 wc := bv _ fj
   refine hK.out _ _ (fun _ => hS) ?_
   clear hK K
   try simp only [Act.put, sA, s0, sS]
   refine o1Q 9 (fun K hK => ?_)
   go_simp
   refine hK.out _ _ (fun h => absurd rfl h) ?_
   clear hK K
   refine Q8 (by kernel_rfl) ?_
   try simp only [Act.put, sA, s0, sS]
   go_wp2
   go_ret
   exact ⟨rfl, (du.trans aH).trans fj⟩
  | true =>
   rw [e2] at h2
   cases bU with
   | true =>
    simp only [Bool.true_and, Bool.true_or, if_true]
    go_enter Tryz.func163, Tryz.ntmps163
    go_wp2_with fail
    refine (h1 _).mono ?_
    rintro e w0 ⟨rfl, aH⟩
    have jj := (b0.same aH).c0
    have jr := (b0.same aH).c1
    have jA := (b0.same aH).c2
    have ji := (b0.same aH).c3
    have jx := (b0.same aH).c4
    have jb := (b0.same aH).c5
    have jB := (b0.same aH).c6
    have lP := (b0.same aH).c7
    go_wp2_with fail
    refine (h2 _).mono ?_
    rintro e w1 ⟨rfl, aN⟩
    have aH := aH.trans aN
    clear jj jr jA ji jx jb jB lP
    have l5 := (b0.same aH).c0
    have mf := (b0.same aH).c1
    have jT := (b0.same aH).c2
    have jO := (b0.same aH).c3
    have jQ := (b0.same aH).c4
    have lX := (b0.same aH).c5
    have lK := (b0.same aH).c6
    have r5 := (b0.same aH).c7
    go_wp2_with fail
    have eg := b0.same aH
    let Y3 : World → Prop := fun wx : World => wx.cell? ⟨w.heap.size, 0, none⟩ = some (.int .i64 txn) ∧ wx.cell? ⟨w.heap.size, 1, none⟩ = some (.int .i64 prev) ∧ wx.cell? ⟨w.heap.size, 2, none⟩ = some (.int .i64 page) ∧ wx.cell? ⟨w.heap.size, 3, none⟩ = some (.int .i64 slot) ∧ wx.cell? ⟨w.heap.size, 4, none⟩ = some (.bool true) ∧ wx.cell? ⟨w.heap.size, 5, none⟩ = some (.slice bp eX bq) ∧ wx.cell? ⟨w.heap.size, 6, none⟩ = some (.bool aU) ∧ wx.cell? ⟨w.heap.size, 7, none⟩ = some (.slice bj er bk)
    have bv : ∀ wx, Same w1 wx → Y3 wx := fun wx h => ⟨(eg.same h).cell 0, (eg.same h).cell 1, (eg.same h).cell 2, (eg.same h).cell 3, (eg.same h).cell 4, (eg.same h).cell 5, (eg.same h).cell 6, (eg.same h).cell 7⟩
    have hS : Y3 w1.drew := by exact bv _ kZ0.drew
    refine Q9 Y3 9 10 rfl (by kernel_rfl) ?_
    refine tk 0 26 hS ?_
    refine tk 1 27 hS ?_
    refine tk 3 29 hS ?_
    refine tk 4 30 hS ?_
    refine tk 6 32 hS ?_
    refine o1Q 2 (fun K hK => ?_)
    go_simp
    have hc := RY txn prev (w1.drew)
    with_reducible refine hc.mono ?_
    clear hc
    rintro e wa ⟨rfl, aG⟩
    have fe : Same w1 wa := Kept.trans (kZ0.drew) aG
    clear aG
    have hS : Y3 wa := bv _ fe
    refine hK.out _ _ (fun _ => hS) ?_
    clear hK K
    try simp only [Act.put, sA, s0, sS]
    refine o1Q 5 (fun K hK => ?_)
    go_simp
    have hc := Sl page slot wa
    with_reducible refine hc.mono ?_
    clear hc
    rintro e wb ⟨rfl, aG⟩
    have fi : Same w1 wb := Kept.trans (fe) aG
    clear aG
    have hS : Y3 wb := bv _ fi
    refine hK.out _ _ (fun _ => hS) ?_
    clear hK K
    try simp only [Act.put, sA, s0, sS]
    refine o1Q 7 (fun K hK => ?_)
    go_simp
    have bz := Blk.new wb #[.int .i64 (Rx txn prev), .int .i64 (Rt page slot), .int .i64 0] 2
    have iX : Same w1 (wb.alloc (.cells #[.int .i64 (Rx txn prev), .int .i64 (Rt page slot), .int .i64 0] 2)) := fi.alloc _
    have hS : Y3 _ := bv _ iX
    refine hK.out _ _ (fun _ => hS) ?_
    clear hK K
    try simp only [Act.put, sA, s0, sS]
    refine o1Q 8 (fun K hK => ?_)
    go_simp
    have hc := TV 0 (Rx txn prev) (Rt page slot) 0 wb.heap.size (wb.alloc (.cells #[.int .i64 (Rx txn prev), .int .i64 (Rt page slot), .int .i64 0] 2)) (bz.cell 0) (bz.cell 1) (bz.cell 2)
    with_reducible refine hc.mono ?_
    clear hc
    rintro e wc ⟨rfl, aG⟩
    have fj : Same w1 wc := Kept.trans (iX) aG
    clear aG
    have hS : Y3 wc := bv _ fj
    refine hK.out _ _ (fun _ => hS) ?_
    clear hK K
    try simp only [Act.put, sA, s0, sS]
    refine o1Q 9 (fun K hK => ?_)
    go_simp
    refine hK.out _ _ (fun h => absurd rfl h) ?_
    clear hK K
    refine Q8 (by kernel_rfl) ?_
    try simp only [Act.put, sA, s0, sS]
    go_wp2
    go_ret
    exact ⟨rfl, (du.trans aH).trans fj⟩
   | false =>
    cases aU with
    | true =>
     simp only [Bool.true_and, Bool.or_true, if_true]
     go_enter Tryz.func163, Tryz.ntmps163
     go_wp2_with fail
     refine (h1 _).mono ?_
     rintro e w0 ⟨rfl, aH⟩
     have jj := (b0.same aH).c0
     have jr := (b0.same aH).c1
     have jA := (b0.same aH).c2
     have ji := (b0.same aH).c3
     have jx := (b0.same aH).c4
     have jb := (b0.same aH).c5
     have jB := (b0.same aH).c6
     have lP := (b0.same aH).c7
     go_wp2_with fail
     refine (h2 _).mono ?_
     rintro e w1 ⟨rfl, aN⟩
     have aH := aH.trans aN
     clear jj jr jA ji jx jb jB lP
     have l5 := (b0.same aH).c0
     have mf := (b0.same aH).c1
     have jT := (b0.same aH).c2
     have jO := (b0.same aH).c3
     have jQ := (b0.same aH).c4
     have lX := (b0.same aH).c5
     have lK := (b0.same aH).c6
     have r5 := (b0.same aH).c7
     go_wp2_with fail
     have eg := b0.same aH
     let Y2 : World → Prop := fun wx : World => wx.cell? ⟨w.heap.size, 0, none⟩ = some (.int .i64 txn) ∧ wx.cell? ⟨w.heap.size, 1, none⟩ = some (.int .i64 prev) ∧ wx.cell? ⟨w.heap.size, 2, none⟩ = some (.int .i64 page) ∧ wx.cell? ⟨w.heap.size, 3, none⟩ = some (.int .i64 slot) ∧ wx.cell? ⟨w.heap.size, 4, none⟩ = some (.bool false) ∧ wx.cell? ⟨w.heap.size, 5, none⟩ = some (.slice bp eX bq) ∧ wx.cell? ⟨w.heap.size, 6, none⟩ = some (.bool true) ∧ wx.cell? ⟨w.heap.size, 7, none⟩ = some (.slice bj er bk)
     have bv : ∀ wx, Same w1 wx → Y2 wx := fun wx h => ⟨(eg.same h).cell 0, (eg.same h).cell 1, (eg.same h).cell 2, (eg.same h).cell 3, (eg.same h).cell 4, (eg.same h).cell 5, (eg.same h).cell 6, (eg.same h).cell 7⟩
     have hS : Y2 w1.drew := by exact bv _ kZ0.drew
     refine Q9 Y2 9 10 rfl (by kernel_rfl) ?_
     refine tk 0 26 hS ?_
     refine tk 1 27 hS ?_
     refine tk 3 29 hS ?_
     refine tk 4 30 hS ?_
     refine tk 6 32 hS ?_
     refine o1Q 2 (fun K hK => ?_)
     go_simp
     have hc := RY txn prev (w1.drew)
     with_reducible refine hc.mono ?_
     clear hc
     rintro e wa ⟨rfl, aG⟩
     have fe : Same w1 wa := Kept.trans (kZ0.drew) aG
     clear aG
     have hS : Y2 wa := bv _ fe
     refine hK.out _ _ (fun _ => hS) ?_
     clear hK K
     try simp only [Act.put, sA, s0, sS]
     refine o1Q 5 (fun K hK => ?_)
     go_simp
     have hc := Sl page slot wa
     with_reducible refine hc.mono ?_
     clear hc
     rintro e wb ⟨rfl, aG⟩
     have fi : Same w1 wb := Kept.trans (fe) aG
     clear aG
     have hS : Y2 wb := bv _ fi
     refine hK.out _ _ (fun _ => hS) ?_
     clear hK K
     try simp only [Act.put, sA, s0, sS]
     refine o1Q 7 (fun K hK => ?_)
     go_simp
     have bz := Blk.new wb #[.int .i64 (Rx txn prev), .int .i64 (Rt page slot), .int .i64 0] 2
     have iX : Same w1 (wb.alloc (.cells #[.int .i64 (Rx txn prev), .int .i64 (Rt page slot), .int .i64 0] 2)) := fi.alloc _
     have hS : Y2 _ := bv _ iX
     refine hK.out _ _ (fun _ => hS) ?_
     clear hK K
     try simp only [Act.put, sA, s0, sS]
     refine o1Q 8 (fun K hK => ?_)
     go_simp
     have hc := TV 0 (Rx txn prev) (Rt page slot) 0 wb.heap.size (wb.alloc (.cells #[.int .i64 (Rx txn prev), .int .i64 (Rt page slot), .int .i64 0] 2)) (bz.cell 0) (bz.cell 1) (bz.cell 2)
     with_reducible refine hc.mono ?_
     clear hc
     rintro e wc ⟨rfl, aG⟩
     have fj : Same w1 wc := Kept.trans (iX) aG
     clear aG
     have hS : Y2 wc := bv _ fj
     refine hK.out _ _ (fun _ => hS) ?_
     clear hK K
     try simp only [Act.put, sA, s0, sS]
     refine o1Q 9 (fun K hK => ?_)
     go_simp
     refine hK.out _ _ (fun h => absurd rfl h) ?_
     clear hK K
     refine Q8 (by kernel_rfl) ?_
     try simp only [Act.put, sA, s0, sS]
     go_wp2
     go_ret
     exact ⟨rfl, (du.trans aH).trans fj⟩
    | false =>
     simp only [Bool.true_and, Bool.or_false, Bool.false_eq_true, if_false]
     go_enter Tryz.func163, Tryz.ntmps163
     go_wp2_with fail
     refine (h1 _).mono ?_
     rintro e w0 ⟨rfl, aH⟩
     have jj := (b0.same aH).c0
     have jr := (b0.same aH).c1
     have jA := (b0.same aH).c2
     have ji := (b0.same aH).c3
     have jx := (b0.same aH).c4
     have jb := (b0.same aH).c5
     have jB := (b0.same aH).c6
     have lP := (b0.same aH).c7
     go_wp2_with fail
     refine (h2 _).mono ?_
     rintro e w1 ⟨rfl, aN⟩
     have aH := aH.trans aN
     clear jj jr jA ji jx jb jB lP
     have l5 := (b0.same aH).c0
     have mf := (b0.same aH).c1
     have jT := (b0.same aH).c2
     have jO := (b0.same aH).c3
     have jQ := (b0.same aH).c4
     have lX := (b0.same aH).c5
     have lK := (b0.same aH).c6
     have r5 := (b0.same aH).c7
     go_wp2_with fail
     have eg := b0.same aH
     let Y1 : World → Prop := fun wx : World => wx.cell? ⟨w.heap.size, 0, none⟩ = some (.int .i64 txn) ∧ wx.cell? ⟨w.heap.size, 1, none⟩ = some (.int .i64 prev) ∧ wx.cell? ⟨w.heap.size, 2, none⟩ = some (.int .i64 page) ∧ wx.cell? ⟨w.heap.size, 3, none⟩ = some (.int .i64 slot) ∧ wx.cell? ⟨w.heap.size, 4, none⟩ = some (.bool false) ∧ wx.cell? ⟨w.heap.size, 5, none⟩ = some (.slice bp eX bq) ∧ wx.cell? ⟨w.heap.size, 6, none⟩ = some (.bool false) ∧ wx.cell? ⟨w.heap.size, 7, none⟩ = some (.slice bj er bk)
     have bv : ∀ wx, Same w1 wx → Y1 wx := fun wx h => ⟨(eg.same h).cell 0, (eg.same h).cell 1, (eg.same h).cell 2, (eg.same h).cell 3, (eg.same h).cell 4, (eg.same h).cell 5, (eg.same h).cell 6, (eg.same h).cell 7⟩
     have hS : Y1 w1.drew := by exact bv _ kZ0.drew
     refine Q9 Y1 9 10 rfl (by kernel_rfl) ?_
     refine tk 0 26 hS ?_
     refine tk 1 27 hS ?_
     refine tk 3 29 hS ?_
     refine tk 4 30 hS ?_
     refine tk 6 32 hS ?_
     refine o1Q 2 (fun K hK => ?_)
     go_simp
     have hc := RY txn prev (w1.drew)
     with_reducible refine hc.mono ?_
     clear hc
     rintro e wa ⟨rfl, aG⟩
     have fe : Same w1 wa := Kept.trans (kZ0.drew) aG
     clear aG
     have hS : Y1 wa := bv _ fe
     refine hK.out _ _ (fun _ => hS) ?_
     clear hK K
     try simp only [Act.put, sA, s0, sS]
     refine o1Q 5 (fun K hK => ?_)
     go_simp
     have hc := Sl page slot wa
     with_reducible refine hc.mono ?_
     clear hc
     rintro e wb ⟨rfl, aG⟩
     have fi : Same w1 wb := Kept.trans (fe) aG
     clear aG
     have hS : Y1 wb := bv _ fi
     refine hK.out _ _ (fun _ => hS) ?_
     clear hK K
     try simp only [Act.put, sA, s0, sS]
     refine o1Q 7 (fun K hK => ?_)
     go_simp
     have bz := Blk.new wb #[.int .i64 (Rx txn prev), .int .i64 (Rt page slot), .int .i64 6] 2
     have iX : Same w1 (wb.alloc (.cells #[.int .i64 (Rx txn prev), .int .i64 (Rt page slot), .int .i64 6] 2)) := fi.alloc _
     have hS : Y1 _ := bv _ iX
     refine hK.out _ _ (fun _ => hS) ?_
     clear hK K
     try simp only [Act.put, sA, s0, sS]
     refine o1Q 8 (fun K hK => ?_)
     go_simp
     have hc := TV 0 (Rx txn prev) (Rt page slot) 6 wb.heap.size (wb.alloc (.cells #[.int .i64 (Rx txn prev), .int .i64 (Rt page slot), .int .i64 6] 2)) (bz.cell 0) (bz.cell 1) (bz.cell 2)
     with_reducible refine hc.mono ?_
     clear hc
     rintro e wc ⟨rfl, aG⟩
     have fj : Same w1 wc := Kept.trans (iX) aG
     clear aG
     have hS : Y1 wc := bv _ fj
     refine hK.out _ _ (fun _ => hS) ?_
     clear hK K
     try simp only [Act.put, sA, s0, sS]
     refine o1Q 9 (fun K hK => ?_)
     go_simp
     refine hK.out _ _ (fun h => absurd rfl h) ?_
     clear hK K
     refine Q8 (by kernel_rfl) ?_
     try simp only [Act.put, sA, s0, sS]
     go_wp2
     go_ret
     exact ⟨rfl, (du.trans aH).trans fj⟩
theorem YX (v : Value) (raw : List Int) (number : Int) (w : World) (hB : IsB raw) (hn : raw.length ≤ 1099511627776) (hv : Rd .u8 w v raw) :
  Calls Tryz.prog 177 #[v, .int .i64 number] w fun e w' => e = .returned (.int .i64 (Rn raw number)) ∧ Same w w' := by
 obtain ⟨a, c, rfl⟩ := hv.form
 by_cases hl : raw.length = 4096
 ·have hR : Rn raw number = UG (raw.take 4) (Ri raw 4 8) (Ri raw 12 4) (Ri raw 16 2) (slotsOf raw) raw number := by unfold Rn; rw [if_neg (by simp [hl])]
  obtain ⟨b, off, rfl, hc⟩ := rd_some hv (by omega)
  have JO := jdz hv (by omega)
  have hI : (Tryz.prog.info? 215).map (·.size) = some (vals .u8 raw).length := by rw [Rb, hl]; exact Va
  have hT := YT raw w hB hl
  have xX := Vd raw hB 12 4 (by decide) (by decide) (by omega)
  have ky := Vd raw hB 16 2 (by decide) (by decide) (by omega)
  have hF := fun P wx (h : SP wx P (raw.take 4) (Ri raw 4 8) (Ri raw 12 4) (Ri raw 16 2) (slotsOf raw) raw) => jcN P (raw.take 4) (Ri raw 4 8) (Ri raw 12 4) (Ri raw 16 2) (slotsOf raw) raw number wx h (V4 raw hB hl) ⟨xX.1, by omega⟩ ⟨ky.1, by omega⟩
  rw [hR, hl]
  obtain ⟨F, zi⟩ : ∃ F, UG (raw.take 4) (Ri raw 4 8) (Ri raw 12 4) (Ri raw 16 2) (slotsOf raw) raw number = F := ⟨_, rfl⟩
  rw [zi] at hF ⊢
  obtain ⟨cs, hC⟩ : ∃ cs : List Value, vals .u8 raw = cs := ⟨_, rfl⟩
  rw [hC] at hT JO hI
  have pz := jbR
  clear hC hv hB hn hR hl zi xX ky
  go_enter Tryz.func177, Tryz.ntmps177
  go_wp2_with (first
   | (go_at_call 178; refine hT.mono ?_; rintro e w1 ⟨P, rfl, hP, qf, aH⟩)
   | (go_at_call 179; refine (hF P _ qf).mono ?_; rintro e w2 ⟨rfl, aN⟩)
   | (refine wpList_load_mid rfl 215 _ rfl b off rfl cs _ JO Tryz.underlying215 rfl hI ?_))
  go_ret
  exact ⟨rfl, aH.trans aN⟩
 ·have hR : Rn raw number = 1 := by unfold Rn; rw [if_pos hl]
  rw [hR]
  have Dz : ¬ (raw.length : Int) = 4096 := by omega
  clear hv hB
  go_enter Tryz.func177, Tryz.ntmps177
  go_wp2
  go_ret
  exact ⟨rfl, kZ0⟩
end Go.Proofs.YtaojjcnmififoaaGreat
