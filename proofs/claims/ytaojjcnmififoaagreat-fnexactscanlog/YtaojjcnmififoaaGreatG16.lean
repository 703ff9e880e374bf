import Derived.Test.YtaojjcnmififoaaGreatG15
import Derived.Test.YtaojjcnmififoaaGreatInOrder
import Derived.Test.YtaojjcnmififoaaGreatG07
import Derived.Test.YtaojjcnmififoaaGreatG01
namespace Go.Proofs.YtaojjcnmififoaaGreat
set_option maxRecDepth 100000
set_option maxHeartbeats 16000000
set_option linter.unusedVariables false
set_option linter.unusedSimpArgs false
open Go.RowKit
theorem YZ (txn prev page slot : Int) (aU : Bool) (bj : Option Addr) (er bk : Nat) (uN : Int) (w : World) (jZ : er ≤ maxLen) :
  Calls Tryz.prog 169 #[.agg #[.int .i64 txn, .int .i64 prev, .int .i64 page, .int .i64 slot, .bool aU, .slice bj er bk, .int .i64 uN]] w fun e w' => e = .returned (.int .i64 (orF (Rx txn prev) (Rt page slot) (jag aU er uN))) ∧ Same w w' := by
 have h1 := fun wx => Yf aU bj er bk wx jZ
 have h2 := fun wx => Xf uN wx
 have b0 := Blk.new w #[.int .i64 txn, .int .i64 prev, .int .i64 page, .int .i64 slot, .bool aU, .slice bj er bk, .int .i64 uN] 146
 have du : Same w (w.alloc (.cells #[.int .i64 txn, .int .i64 prev, .int .i64 page, .int .i64 slot, .bool aU, .slice bj er bk, .int .i64 uN] 146)) := kZ0.alloc _
 unfold jag
 cases e1 : Rj aU er with
 | false =>
  rw [e1] at h1
  simp only [if_true]
  go_enter Tryz.func169, Tryz.ntmps169
  go_wp2_with fail
  refine (h1 _).mono ?_
  rintro e w1 ⟨rfl, aH⟩
  have l5 := (b0.same aH).c0
  have mf := (b0.same aH).c1
  have jT := (b0.same aH).c2
  have jO := (b0.same aH).c3
  have jQ := (b0.same aH).c4
  have lX := (b0.same aH).c5
  have lK := (b0.same aH).c6
  go_wp2_with fail
  have eg := b0.same aH
  let Y1 : World → Prop := fun wx : World => wx.cell? ⟨w.heap.size, 0, none⟩ = some (.int .i64 txn) ∧ wx.cell? ⟨w.heap.size, 1, none⟩ = some (.int .i64 prev) ∧ wx.cell? ⟨w.heap.size, 2, none⟩ = some (.int .i64 page) ∧ wx.cell? ⟨w.heap.size, 3, none⟩ = some (.int .i64 slot) ∧ wx.cell? ⟨w.heap.size, 4, none⟩ = some (.bool aU) ∧ wx.cell? ⟨w.heap.size, 5, none⟩ = some (.slice bj er bk) ∧ wx.cell? ⟨w.heap.size, 6, none⟩ = some (.int .i64 uN)
  have bv : ∀ wx, Same w1 wx → Y1 wx := fun wx h => ⟨(eg.same h).cell 0, (eg.same h).cell 1, (eg.same h).cell 2, (eg.same h).cell 3, (eg.same h).cell 4, (eg.same h).cell 5, (eg.same h).cell 6⟩
  have hS : Y1 w1.drew := by exact bv _ kZ0.drew
  refine Q9 Y1 9 10 rfl (by kernel_rfl) ?_
  refine tk 0 14 hS ?_
  refine tk 1 15 hS ?_
  refine tk 3 17 hS ?_
  refine tk 4 18 hS ?_
  refine tk 6 20 hS ?_
  refine o1Q 2 (fun K hK => ?_)
  go_simp
  have hc := RY txn prev (w1.drew)
  with_reducible refine hc.mono ?_
  clear hc
  rintro e wa ⟨rfl, aG⟩
  have fe : Same w1 wa := Kept.trans (kZ0.drew) aG
  clear aG
  have hS : Y1 wa := bv _ fe
  refine hK.out _ _ (fun _ => hS) ?_
  clear hK K
  try simp only [Act.put, sA, s0, sS]
  refine o1Q 5 (fun K hK => ?_)
  go_simp
  have hc := Sl page slot wa
  with_reducible refine hc.mono ?_
  clear hc
  rintro e wb ⟨rfl, aG⟩
  have fi : Same w1 wb := Kept.trans (fe) aG
  clear aG
  have hS : Y1 wb := bv _ fi
  refine hK.out _ _ (fun _ => hS) ?_
  clear hK K
  try simp only [Act.put, sA, s0, sS]
  refine o1Q 7 (fun K hK => ?_)
  go_simp
  have bz := Blk.new wb #[.int .i64 (Rx txn prev), .int .i64 (Rt page slot), .int .i64 6] 2
  have iX : Same w1 (wb.alloc (.cells #[.int .i64 (Rx txn prev), .int .i64 (Rt page slot), .int .i64 6] 2)) := fi.alloc _
  have hS : Y1 _ := bv _ iX
  refine hK.out _ _ (fun _ => hS) ?_
  clear hK K
  try simp only [Act.put, sA, s0, sS]
  refine o1Q 8 (fun K hK => ?_)
  go_simp
  have hc := TV 0 (Rx txn prev) (Rt page slot) 6 wb.heap.size (wb.alloc (.cells #[.int .i64 (Rx txn prev), .int .i64 (Rt page slot), .int .i64 6] 2)) (bz.cell 0) (bz.cell 1) (bz.cell 2)
  with_reducible refine hc.mono ?_
  clear hc
  rintro e wc ⟨rfl, aG⟩
  have fj : Same w1 wc := Kept.trans (iX) aG
  clear aG
  have hS : Y1 wc := bv _ fj
  refine hK.out _ _ (fun _ => hS) ?_
  clear hK K
  try simp only [Act.put, sA, s0, sS]
  refine o1Q 9 (fun K hK => ?_)
  go_simp
  refine hK.out _ _ (fun h => absurd rfl h) ?_
  clear hK K
  refine Q8 (by kernel_rfl) ?_
  try simp only [Act.put, sA, s0, sS]
  go_wp2
  go_ret
  exact ⟨rfl, (du.trans aH).trans fj⟩
 | true =>
  rw [e1] at h1
  cases e2 : Sk uN with
  | false =>
   rw [e2] at h2
   simp only [Bool.true_eq_false, if_false, if_true]
   go_enter Tryz.func169, Tryz.ntmps169
   go_wp2_with fail
   refine (h1 _).mono ?_
   rintro e w0 ⟨rfl, aH⟩
   have jj := (b0.same aH).c0
   have jr := (b0.same aH).c1
   have jA := (b0.same aH).c2
   have ji := (b0.same aH).c3
   have jx := (b0.same aH).c4
   have jb := (b0.same aH).c5
   have jB := (b0.same aH).c6
   go_wp2_with fail
   refine (h2 _).mono ?_
   rintro e w1 ⟨rfl, aN⟩
   have aH := aH.trans aN
   clear jj jr jA ji jx jb jB
   have l5 := (b0.same aH).c0
   have mf := (b0.same aH).c1
   have jT := (b0.same aH).c2
   have jO := (b0.same aH).c3
   have jQ := (b0.same aH).c4
   have lX := (b0.same aH).c5
   have lK := (b0.same aH).c6
   go_wp2_with fail
   have eg := b0.same aH
   let Y2 : World → Prop := fun wx : World => wx.cell? ⟨w.heap.size, 0, none⟩ = some (.int .i64 txn) ∧ wx.cell? ⟨w.heap.size, 1, none⟩ = some (.int .i64 prev) ∧ wx.cell? ⟨w.heap.size, 2, none⟩ = some (.int .i64 page) ∧ wx.cell? ⟨w.heap.size, 3, none⟩ = some (.int .i64 slot) ∧ wx.cell? ⟨w.heap.size, 4, none⟩ = some (.bool aU) ∧ wx.cell? ⟨w.heap.size, 5, none⟩ = some (.slice bj er bk) ∧ wx.cell? ⟨w.heap.size, 6, none⟩ = some (.int .i64 uN)
   have bv : ∀ wx, Same w1 wx → Y2 wx := fun wx h => ⟨(eg.same h).cell 0, (eg.same h).cell 1, (eg.same h).cell 2, (eg.same h).cell 3, (eg.same h).cell 4, (eg.same h).cell 5, (eg.same h).cell 6⟩
   have hS : Y2 w1.drew := by exact bv _ kZ0.drew
   refine Q9 Y2 9 10 rfl (by kernel_rfl) ?_
   refine tk 0 14 hS ?_
   refine tk 1 15 hS ?_
   refine tk 3 17 hS ?_
   refine tk 4 18 hS ?_
   refine tk 6 20 hS ?_
   refine o1Q 2 (fun K hK => ?_)
   go_simp
   have hc := RY txn prev (w1.drew)
   with_reducible refine hc.mono ?_
   clear hc
   rintro e wa ⟨rfl, aG⟩
   have fe : Same w1 wa := Kept.trans (kZ0.drew) aG
   clear aG
   have hS : Y2 wa := bv _ fe
   refine hK.out _ _ (fun _ => hS) ?_
   clear hK K
   try simp only [Act.put, sA, s0, sS]
   refine o1Q 5 (fun K hK => ?_)
   go_simp
   have hc := Sl page slot wa
   with_reducible refine hc.mono ?_
   clear hc
   rintro e wb ⟨rfl, aG⟩
   have fi : Same w1 wb := Kept.trans (fe) aG
   clear aG
   have hS : Y2 wb := bv _ fi
   refine hK.out _ _ (fun _ => hS) ?_
   clear hK K
   try simp only [Act.put, sA, s0, sS]
   refine o1Q 7 (fun K hK => ?_)
   go_simp
   have bz := Blk.new wb #[.int .i64 (Rx txn prev), .int .i64 (Rt page slot), .int .i64 7] 2
   have iX : Same w1 (wb.alloc (.cells #[.int .i64 (Rx txn prev), .int .i64 (Rt page slot), .int .i64 7] 2)) := fi.alloc _
   have hS : Y2 _ := bv _ iX
   refine hK.out _ _ (fun _ => hS) ?_
   clear hK K
   try simp only [Act.put, sA, s0, sS]
   refine o1Q 8 (fun K hK => ?_)
   go_simp
   have hc := TV 0 (Rx txn prev) (Rt page slot) 7 wb.heap.size (wb.alloc (.cells #[.int .i64 (Rx txn prev), .int .i64 (Rt page slot), .int .i64 7] 2)) (bz.cell 0) (bz.cell 1) (bz.cell 2)
   with_reducible refine hc.mono ?_
   clear hc
   rintro e wc ⟨rfl, aG⟩
   have fj : Same w1 wc := Kept.trans (iX) aG
   clear aG
   have hS : Y2 wc := bv _ fj
   refine hK.out _ _ (fun _ => hS) ?_
   clear hK K
   try simp only [Act.put, sA, s0, sS]
   refine o1Q 9 (fun K hK => ?_)
   go_simp
   refine hK.out _ _ (fun h => absurd rfl h) ?_
   clear hK K
   refine Q8 (by kernel_rfl) ?_
   try simp only [Act.put, sA, s0, sS]
   go_wp2
   go_ret
   exact ⟨rfl, (du.trans aH).trans fj⟩
  | true =>
   rw [e2] at h2
   simp only [Bool.true_eq_false, if_false]
   go_enter Tryz.func169, Tryz.ntmps169
   go_wp2_with fail
   refine (h1 _).mono ?_
   rintro e w0 ⟨rfl, aH⟩
   have jj := (b0.same aH).c0
   have jr := (b0.same aH).c1
   have jA := (b0.same aH).c2
   have ji := (b0.same aH).c3
   have jx := (b0.same aH).c4
   have jb := (b0.same aH).c5
   have jB := (b0.same aH).c6
   go_wp2_with fail
   refine (h2 _).mono ?_
   rintro e w1 ⟨rfl, aN⟩
   have aH := aH.trans aN
   clear jj jr jA ji jx jb jB
   have l5 := (b0.same aH).c0
   have mf := (b0.same aH).c1
   have jT := (b0.same aH).c2
   have jO := (b0.same aH).c3
   have jQ := (b0.same aH).c4
   have lX := (b0.same aH).c5
   have lK := (b0.same aH).c6
   go_wp2_with fail
   have eg := b0.same aH
   let Y3 : World → Prop := fun wx : World => wx.cell? ⟨w.heap.size, 0, none⟩ = some (.int .i64 txn) ∧ wx.cell? ⟨w.heap.size, 1, none⟩ = some (.int .i64 prev) ∧ wx.cell? ⟨w.heap.size, 2, none⟩ = some (.int .i64 page) ∧ wx.cell? ⟨w.heap.size, 3, none⟩ = some (.int .i64 slot) ∧ wx.cell? ⟨w.heap.size, 4, none⟩ = some (.bool aU) ∧ wx.cell? ⟨w.heap.size, 5, none⟩ = some (.slice bj er bk) ∧ wx.cell? ⟨w.heap.size, 6, none⟩ = some (.int .i64 uN)
   have bv : ∀ wx, Same w1 wx → Y3 wx := fun wx h => ⟨(eg.same h).cell 0, (eg.same h).cell 1, (eg.same h).cell 2, (eg.same h).cell 3, (eg.same h).cell 4, (eg.same h).cell 5, (eg.same h).cell 6⟩
   have hS : Y3 w1.drew := by exact bv _ kZ0.drew
   refine Q9 Y3 9 10 rfl (by kernel_rfl) ?_
   refine tk 0 14 hS ?_
   refine tk 1 15 hS ?_
   refine tk 3 17 hS ?_
   refine tk 4 18 hS ?_
   refine tk 6 20 hS ?_
   refine o1Q 2 (fun K hK => ?_)
   go_simp
   have hc := RY txn prev (w1.drew)
   with_reducible refine hc.mono ?_
   clear hc
   rintro e wa ⟨rfl, aG⟩
   have fe : Same w1 wa := Kept.trans (kZ0.drew) aG
   clear aG
   have hS : Y3 wa := bv _ fe
   refine hK.out _ _ (fun _ => hS) ?_
   clear hK K
   try simp only [Act.put, sA, s0, sS]
   refine o1Q 5 (fun K hK => ?_)
   go_simp
   have hc := Sl page slot wa
   with_reducible refine hc.mono ?_
   clear hc
   rintro e wb ⟨rfl, aG⟩
   have fi : Same w1 wb := Kept.trans (fe) aG
   clear aG
   have hS : Y3 wb := bv _ fi
   refine hK.out _ _ (fun _ => hS) ?_
   clear hK K
   try simp only [Act.put, sA, s0, sS]
   refine o1Q 7 (fun K hK => ?_)
   go_simp
   have bz := Blk.new wb #[.int .i64 (Rx txn prev), .int .i64 (Rt page slot), .int .i64 0] 2
   have iX : Same w1 (wb.alloc (.cells #[.int .i64 (Rx txn prev), .int .i64 (Rt page slot), .int .i64 0] 2)) := fi.alloc _
   have hS : Y3 _ := bv _ iX
   refine hK.out _ _ (fun _ => hS) ?_
   clear hK K
   try simp only [Act.put, sA, s0, sS]
   refine o1Q 8 (fun K hK => ?_)
   go_simp
   have hc := TV 0 (Rx txn prev) (Rt page slot) 0 wb.heap.size (wb.alloc (.cells #[.int .i64 (Rx txn prev), .int .i64 (Rt page slot), .int .i64 0] 2)) (bz.cell 0) (bz.cell 1) (bz.cell 2)
   with_reducible refine hc.mono ?_
   clear hc
   rintro e wc ⟨rfl, aG⟩
   have fj : Same w1 wc := Kept.trans (iX) aG
   clear aG
   have hS : Y3 wc := bv _ fj
   refine hK.out _ _ (fun _ => hS) ?_
   clear hK K
   try simp only [Act.put, sA, s0, sS]
   refine o1Q 9 (fun K hK => ?_)
   go_simp
   refine hK.out _ _ (fun h => absurd rfl h) ?_
   clear hK K
   refine Q8 (by kernel_rfl) ?_
   try simp only [Act.put, sA, s0, sS]
   go_wp2
   go_ret
   exact ⟨rfl, (du.trans aH).trans fj⟩
def jb1 (page : Int) (im : List Int) : Int := if SN page = false then 5 else if Rn im page ≠ 0 then 9 else 0
theorem Yg (page : Int) (bw : Option Addr) (bD : Nat) (im : List Int) (w : World) (hB : IsB im) (hn : im.length ≤ 1099511627776) (hv : Rd .u8 w (.slice bw im.length bD) im) :
  Calls Tryz.prog 176 #[.agg #[.int .i64 0, .int .i64 0, .int .i64 page, .slice bw im.length bD]] w fun e w' => e = .returned (.int .i64 (jb1 page im)) ∧ Same w w' := by
 have h1 := fun wx => Wm page wx
 have b0 := Blk.new w #[.int .i64 0, .int .i64 0, .int .i64 page, .slice bw im.length bD] 158
 have du : Same w (w.alloc (.cells #[.int .i64 0, .int .i64 0, .int .i64 page, .slice bw im.length bD] 158)) := kZ0.alloc _
 have h2 := fun wx (h : Same w wx) => YX (.slice bw im.length bD) im page wx hB hn (hv.same h)
 unfold jb1
 clear hv hB hn
 cases e1 : SN page with
 | false =>
  rw [e1] at h1
  simp only [if_true]
  go_enter Tryz.func176, Tryz.ntmps176
  go_wp2_with (go_at_call 160; refine (h1 _).mono ?_; rintro e w1 ⟨rfl, aH⟩)
  go_ret
  exact ⟨rfl, du.trans aH⟩
 | true =>
  rw [e1] at h1
  simp only [Bool.true_eq_false, if_false]
  generalize Rn im page = F at *
  by_cases hF : F = 0
  ·subst hF
   simp only [ne_eq, not_true_eq_false, if_false]
   go_enter Tryz.func176, Tryz.ntmps176
   go_wp2_with (first
    | (go_at_call 160; refine (h1 _).mono ?_; rintro e w1 ⟨rfl, aH⟩; have c2 : w1.cell? ⟨w.heap.size, 2, none⟩ = some (.int .i64 page) := (b0.same aH).cell 2; have c3 : w1.cell? ⟨w.heap.size, 3, none⟩ = some (.slice bw im.length bD) := (b0.same aH).cell 3; have ma := h2 w1 (du.trans aH))
    | (go_at_call 177; refine ma.mono ?_; rintro e w2 ⟨rfl, aN⟩))
   go_ret
   exact ⟨rfl, (du.trans aH).trans aN⟩
  ·rw [if_pos hF]
   go_enter Tryz.func176, Tryz.ntmps176
   go_wp2_with (first
    | (go_at_call 160; refine (h1 _).mono ?_; rintro e w1 ⟨rfl, aH⟩; have c2 : w1.cell? ⟨w.heap.size, 2, none⟩ = some (.int .i64 page) := (b0.same aH).cell 2; have c3 : w1.cell? ⟨w.heap.size, 3, none⟩ = some (.slice bw im.length bD) := (b0.same aH).cell 3; have ma := h2 w1 (du.trans aH))
    | (go_at_call 177; refine ma.mono ?_; rintro e w2 ⟨rfl, aN⟩))
   go_ret
   exact ⟨rfl, (du.trans aH).trans aN⟩
def jb2 (nT : Int) (tx : List Int) (tn : Nat) (dy : List Int) (dn : Nat) : Int := if (decide (1 ≤ nT) && decide (nT ≤ 2147483648) && RL tx tn && RA dy dn) = true then 0 else 8
theorem XU (nT : Int) (tx dy : FR) (w : World) (hv : RdF 4 w tx) (wL : RdF 2 w dy) :
  Calls Tryz.prog 172 #[.agg #[.int .i64 0, .int .i64 0, .int .i64 nT, tx.v, dy.v]] w fun e w' => e = .returned (.int .i64 (jb2 nT tx.bs tx.n dy.bs dy.n)) ∧ Same w w' := by
 have h1 := fun wx (h : Same w wx) => jd5 tx wx (hv.same h)
 have h2 := fun wx (h : Same w wx) => jdb dy wx (wL.same h)
 obtain ⟨Ll, nK, txn, jv, fv⟩ := tx
 obtain ⟨Oz, nP, dyn, kj, gD⟩ := dy
 dsimp only [FR.v] at *
 have b0 := Blk.new w #[.int .i64 0, .int .i64 0, .int .i64 nT, .slice nK txn jv, .slice nP dyn kj] 155
 have du : Same w (w.alloc (.cells #[.int .i64 0, .int .i64 0, .int .i64 nT, .slice nK txn jv, .slice nP dyn kj] 155)) := kZ0.alloc _
 unfold jb2
 generalize RL fv txn = A at *
 generalize RA gD dyn = B at *
 clear hv wL
 by_cases kr : nT < 1
 ·rw [decide_eq_false (show ¬ (1 ≤ nT) from by omega)]
  simp only [Bool.false_and, Bool.false_eq_true, if_false]
  go_enter Tryz.func172, Tryz.ntmps172
  go_wp2
  go_ret
  exact ⟨rfl, du⟩
 by_cases ku : 2147483648 < nT
 ·rw [decide_eq_false (show ¬ (nT ≤ 2147483648) from by omega)]
  simp only [Bool.false_and, Bool.and_false, Bool.false_eq_true, if_false]
  go_enter Tryz.func172, Tryz.ntmps172
  go_wp2
  go_ret
  exact ⟨rfl, du⟩
 rw [decide_eq_true (show 1 ≤ nT from by omega), decide_eq_true (show nT ≤ 2147483648 from by omega)]
 cases A with
 | false =>
  simp only [Bool.false_and, Bool.and_false, Bool.false_eq_true, if_false]
  go_enter Tryz.func172, Tryz.ntmps172
  go_wp2_with (go_at_call 173; refine (h1 _ du).mono ?_; rintro e w1 ⟨rfl, aH⟩; have jT : w1.cell? ⟨w.heap.size, 2, none⟩ = some (.int .i64 nT) := (b0.same aH).cell 2; have jO : w1.cell? ⟨w.heap.size, 3, none⟩ = some (.slice nK txn jv) := (b0.same aH).cell 3; have jQ : w1.cell? ⟨w.heap.size, 4, none⟩ = some (.slice nP dyn kj) := (b0.same aH).cell 4)
  go_ret
  exact ⟨rfl, du.trans aH⟩
 | true =>
  cases B with
  | false =>
   simp only [Bool.and_self, Bool.and_false, Bool.false_eq_true, if_false]
   go_enter Tryz.func172, Tryz.ntmps172
   go_wp2_with (first
    | (go_at_call 173; refine (h1 _ du).mono ?_; rintro e w1 ⟨rfl, aH⟩; have jT : w1.cell? ⟨w.heap.size, 2, none⟩ = some (.int .i64 nT) := (b0.same aH).cell 2; have jO : w1.cell? ⟨w.heap.size, 3, none⟩ = some (.slice nK txn jv) := (b0.same aH).cell 3; have jQ : w1.cell? ⟨w.heap.size, 4, none⟩ = some (.slice nP dyn kj) := (b0.same aH).cell 4; have ma := h2 w1 (du.trans aH))
    | (go_at_call 174; refine ma.mono ?_; rintro e w2 ⟨rfl, aN⟩))
   go_ret
   exact ⟨rfl, (du.trans aH).trans aN⟩
  | true =>
   simp only [Bool.and_self, if_true]
   go_enter Tryz.func172, Tryz.ntmps172
   go_wp2_with (first
    | (go_at_call 173; refine (h1 _ du).mono ?_; rintro e w1 ⟨rfl, aH⟩; have jT : w1.cell? ⟨w.heap.size, 2, none⟩ = some (.int .i64 nT) := (b0.same aH).cell 2; have jO : w1.cell? ⟨w.heap.size, 3, none⟩ = some (.slice nK txn jv) := (b0.same aH).cell 3; have jQ : w1.cell? ⟨w.heap.size, 4, none⟩ = some (.slice nP dyn kj) := (b0.same aH).cell 4; have ma := h2 w1 (du.trans aH))
    | (go_at_call 174; refine ma.mono ?_; rintro e w2 ⟨rfl, aN⟩))
   go_ret
   exact ⟨rfl, (du.trans aH).trans aN⟩
theorem Yh (w : World) : Calls Tryz.prog 170 #[.agg #[.int .i64 0, .int .i64 0]] w fun e w' => e = .returned (.int .i64 0) ∧ Same w w' := by
 go_enter Tryz.func170, Tryz.ntmps170
 go_wp2
 go_ret
 exact ⟨rfl, by first | exact kZ0 | exact kZ0.alloc _⟩
end Go.Proofs.YtaojjcnmififoaaGreat
