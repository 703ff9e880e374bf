import Derived.Test.YtapdfgkbhaoelaaGreatDoorKindFault
import Derived.Test.YtapdfgkbhaoelaaGreatDoorG08
namespace Go.Proofs.YtapdfgkbhaoelaaGreatDoor
set_option maxRecDepth 100000
set_option maxHeartbeats 16000000
set_option linter.unusedVariables false
set_option linter.unusedSimpArgs false
open Go.RowKit
theorem XB (txn prev page slot : Int) (aU : Bool) (ao : Option Addr) (bq al : Nat) (uN : Int) (w : World) (rB : bq ≤ maxLen) :
  Calls Tryz.prog 168 #[.agg #[Q1 txn, Q1 prev, Q1 page, Q1 slot, .bool aU, .slice ao bq al, Q1 uN]] w fun e w' => e = .returned (Q1 (orF (PO txn prev) (Px page slot) (Zy aU bq uN))) ∧ Same w w' := by
 have h1 := fun wx => WS aU ao bq al wx rB;have h2 := fun wx => Vh uN wx;have b0 := Blk.new w #[Q1 txn, Q1 prev, Q1 page, Q1 slot, .bool aU, .slice ao bq al, Q1 uN] 106;have aW : Same w (w.alloc (.cells #[Q1 txn, Q1 prev, Q1 page, Q1 slot, .bool aU, .slice ao bq al, Q1 uN] 106)) := kZ0.alloc _;unfold Zy
 cases e1 : QN aU bq with
 | false =>
  rw [e1] at h1;simp only [if_true]
  go_enter Tryz.func168, Tryz.ntmps168
  go_wp2_with fail
  refine (h1 _).mono ?_;rintro e w1 ⟨rfl, ah⟩;have km := (b0.same ah).c0;have kw := (b0.same ah).c1;have iw := (b0.same ah).c2;have gX := (b0.same ah).c3;have ij := (b0.same ah).c4;have jN := (b0.same ah).c5;have jV := (b0.same ah).c6
  go_wp2_with fail
  have bk := b0.same ah
  let Y1 : World → Prop := fun wx => D0 wx w.heap.size 0 (Q1 txn) ∧ D0 wx w.heap.size 1 (Q1 prev) ∧ D0 wx w.heap.size 2 (Q1 page) ∧ D0 wx w.heap.size 3 (Q1 slot) ∧ D0 wx w.heap.size 4 (.bool aU) ∧ D0 wx w.heap.size 5 (.slice ao bq al) ∧ D0 wx w.heap.size 6 (Q1 uN)
  have aR : ∀ wx, Same w1 wx → Y1 wx := fun wx h => ⟨(bk.same h).cell 0, (bk.same h).cell 1, (bk.same h).cell 2, (bk.same h).cell 3, (bk.same h).cell 4, (bk.same h).cell 5, (bk.same h).cell 6⟩
  have hS : Y1 w1.drew := by exact aR _ kZ0.drew
  refine O0 Y1 9 10 ?_;refine tk 0 14 hS ?_;refine tk 1 15 hS ?_;refine tk 3 17 hS ?_;refine tk 4 18 hS ?_;refine tk 6 20 hS ?_;refine o1Q 2 (fun K hK => ?_);go_simp;have hc := P5 txn prev (w1.drew)
  with_reducible refine hc.mono ?_
  clear hc;rintro e wa ⟨rfl, ai⟩;have dh : Same w1 wa := Kept.trans (kZ0.drew) ai;clear ai;have hS : Y1 wa := aR _ dh;refine hK.out _ _ (fun _ => hS) ?_;clear hK K
  try simp only [Sp]
  refine o1Q 5 (fun K hK => ?_);go_simp;have hc := Qj page slot wa
  with_reducible refine hc.mono ?_
  clear hc;rintro e wb ⟨rfl, ai⟩;have cY : Same w1 wb := Kept.trans (dh) ai;clear ai;have hS : Y1 wb := aR _ cY;refine hK.out _ _ (fun _ => hS) ?_;clear hK K
  try simp only [Sp]
  refine o1Q 7 (fun K hK => ?_);go_simp;have bz := Blk.new wb #[Q1 (PO txn prev), Q1 (Px page slot), Q1 6] 2;have eD : Same w1 (wb.alloc (.cells #[Q1 (PO txn prev), Q1 (Px page slot), Q1 6] 2)) := cY.alloc _;have hS : Y1 _ := aR _ eD;refine hK.out _ _ (fun _ => hS) ?_;clear hK K
  try simp only [Sp]
  refine o1Q 8 (fun K hK => ?_);go_simp;have hc := Ry 0 (PO txn prev) (Px page slot) 6 wb.heap.size (wb.alloc (.cells #[Q1 (PO txn prev), Q1 (Px page slot), Q1 6] 2)) (bz.cell 0) (bz.cell 1) (bz.cell 2)
  with_reducible refine hc.mono ?_
  clear hc;rintro e wc ⟨rfl, ai⟩;have dj : Same w1 wc := Kept.trans (eD) ai;clear ai;have hS : Y1 wc := aR _ dj;refine hK.out _ _ (fun _ => hS) ?_;clear hK K
  try simp only [Sp]
  refine o1Q 9 (fun K hK => ?_);go_simp;refine hK.out _ _ (fun h => absurd rfl h) ?_;clear hK K;refine OZ ?_
  try simp only [Sp]
  go_wp2;go_ret;exact ⟨rfl, (aW.trans ah).trans dj⟩
 | true =>
  rw [e1] at h1
  cases e2 : QM uN with
  | false =>
   rw [e2] at h2;simp only [Bool.true_eq_false, if_false, if_true]
   go_enter Tryz.func168, Tryz.ntmps168
   go_wp2_with fail
   refine (h1 _).mono ?_;rintro e w0 ⟨rfl, ah⟩;have gv := (b0.same ah).c0;have gK := (b0.same ah).c1;have gB := (b0.same ah).c2;have gJ := (b0.same ah).c3;have gS := (b0.same ah).c4;have gI := (b0.same ah).c5;have gO := (b0.same ah).c6
   go_wp2_with fail
   refine (h2 _).mono ?_;rintro e w1 ⟨rfl, aj⟩;have ah := ah.trans aj;clear gv gK gB gJ gS gI gO;have km := (b0.same ah).c0;have kw := (b0.same ah).c1;have iw := (b0.same ah).c2;have gX := (b0.same ah).c3;have ij := (b0.same ah).c4;have jN := (b0.same ah).c5;have jV := (b0.same ah).c6
   go_wp2_with fail
   have bk := b0.same ah
   let Y2 : World → Prop := fun wx => D0 wx w.heap.size 0 (Q1 txn) ∧ D0 wx w.heap.size 1 (Q1 prev) ∧ D0 wx w.heap.size 2 (Q1 page) ∧ D0 wx w.heap.size 3 (Q1 slot) ∧ D0 wx w.heap.size 4 (.bool aU) ∧ D0 wx w.heap.size 5 (.slice ao bq al) ∧ D0 wx w.heap.size 6 (Q1 uN)
   have aR : ∀ wx, Same w1 wx → Y2 wx := fun wx h => ⟨(bk.same h).cell 0, (bk.same h).cell 1, (bk.same h).cell 2, (bk.same h).cell 3, (bk.same h).cell 4, (bk.same h).cell 5, (bk.same h).cell 6⟩
   have hS : Y2 w1.drew := by exact aR _ kZ0.drew
   refine O0 Y2 9 10 ?_;refine tk 0 14 hS ?_;refine tk 1 15 hS ?_;refine tk 3 17 hS ?_;refine tk 4 18 hS ?_;refine tk 6 20 hS ?_;refine o1Q 2 (fun K hK => ?_);go_simp;have hc := P5 txn prev (w1.drew)
   with_reducible refine hc.mono ?_
   clear hc;rintro e wa ⟨rfl, ai⟩;have dh : Same w1 wa := Kept.trans (kZ0.drew) ai;clear ai;have hS : Y2 wa := aR _ dh;refine hK.out _ _ (fun _ => hS) ?_;clear hK K
   try simp only [Sp]
   refine o1Q 5 (fun K hK => ?_);go_simp;have hc := Qj page slot wa
   with_reducible refine hc.mono ?_
   clear hc;rintro e wb ⟨rfl, ai⟩;have cY : Same w1 wb := Kept.trans (dh) ai;clear ai;have hS : Y2 wb := aR _ cY;refine hK.out _ _ (fun _ => hS) ?_;clear hK K
   try simp only [Sp]
   refine o1Q 7 (fun K hK => ?_);go_simp;have bz := Blk.new wb #[Q1 (PO txn prev), Q1 (Px page slot), Q1 7] 2;have eD : Same w1 (wb.alloc (.cells #[Q1 (PO txn prev), Q1 (Px page slot), Q1 7] 2)) := cY.alloc _;have hS : Y2 _ := aR _ eD;refine hK.out _ _ (fun _ => hS) ?_;clear hK K
   try simp only [Sp]
   refine o1Q 8 (fun K hK => ?_);go_simp;have hc := Ry 0 (PO txn prev) (Px page slot) 7 wb.heap.size (wb.alloc (.cells #[Q1 (PO txn prev), Q1 (Px page slot), Q1 7] 2)) (bz.cell 0) (bz.cell 1) (bz.cell 2)
   with_reducible refine hc.mono ?_
   clear hc;rintro e wc ⟨rfl, ai⟩;have dj : Same w1 wc := Kept.trans (eD) ai;clear ai;have hS : Y2 wc := aR _ dj;refine hK.out _ _ (fun _ => hS) ?_;clear hK K
   try simp only [Sp]
   refine o1Q 9 (fun K hK => ?_);go_simp;refine hK.out _ _ (fun h => absurd rfl h) ?_;clear hK K;refine OZ ?_
   try simp only [Sp]
   go_wp2;go_ret;exact ⟨rfl, (aW.trans ah).trans dj⟩
  | true =>
   rw [e2] at h2;simp only [Bool.true_eq_false, if_false]
   go_enter Tryz.func168, Tryz.ntmps168
   go_wp2_with fail
   refine (h1 _).mono ?_;rintro e w0 ⟨rfl, ah⟩;have gv := (b0.same ah).c0;have gK := (b0.same ah).c1;have gB := (b0.same ah).c2;have gJ := (b0.same ah).c3;have gS := (b0.same ah).c4;have gI := (b0.same ah).c5;have gO := (b0.same ah).c6
   go_wp2_with fail
   refine (h2 _).mono ?_;rintro e w1 ⟨rfl, aj⟩;have ah := ah.trans aj;clear gv gK gB gJ gS gI gO;have km := (b0.same ah).c0;have kw := (b0.same ah).c1;have iw := (b0.same ah).c2;have gX := (b0.same ah).c3;have ij := (b0.same ah).c4;have jN := (b0.same ah).c5;have jV := (b0.same ah).c6
   go_wp2_with fail
   have bk := b0.same ah
   let Y3 : World → Prop := fun wx => D0 wx w.heap.size 0 (Q1 txn) ∧ D0 wx w.heap.size 1 (Q1 prev) ∧ D0 wx w.heap.size 2 (Q1 page) ∧ D0 wx w.heap.size 3 (Q1 slot) ∧ D0 wx w.heap.size 4 (.bool aU) ∧ D0 wx w.heap.size 5 (.slice ao bq al) ∧ D0 wx w.heap.size 6 (Q1 uN)
   have aR : ∀ wx, Same w1 wx → Y3 wx := fun wx h => ⟨(bk.same h).cell 0, (bk.same h).cell 1, (bk.same h).cell 2, (bk.same h).cell 3, (bk.same h).cell 4, (bk.same h).cell 5, (bk.same h).cell 6⟩
   have hS : Y3 w1.drew := by exact aR _ kZ0.drew
   refine O0 Y3 9 10 ?_;refine tk 0 14 hS ?_;refine tk 1 15 hS ?_;refine tk 3 17 hS ?_;refine tk 4 18 hS ?_;refine tk 6 20 hS ?_;refine o1Q 2 (fun K hK => ?_);go_simp;have hc := P5 txn prev (w1.drew)
   with_reducible refine hc.mono ?_
   clear hc;rintro e wa ⟨rfl, ai⟩;have dh : Same w1 wa := Kept.trans (kZ0.drew) ai;clear ai;have hS : Y3 wa := aR _ dh;refine hK.out _ _ (fun _ => hS) ?_;clear hK K
   try simp only [Sp]
   refine o1Q 5 (fun K hK => ?_);go_simp;have hc := Qj page slot wa
   with_reducible refine hc.mono ?_
   clear hc;rintro e wb ⟨rfl, ai⟩;have cY : Same w1 wb := Kept.trans (dh) ai;clear ai;have hS : Y3 wb := aR _ cY;refine hK.out _ _ (fun _ => hS) ?_;clear hK K
   try simp only [Sp]
   refine o1Q 7 (fun K hK => ?_);go_simp;have bz := Blk.new wb #[Q1 (PO txn prev), Q1 (Px page slot), Q1 0] 2;have eD : Same w1 (wb.alloc (.cells #[Q1 (PO txn prev), Q1 (Px page slot), Q1 0] 2)) := cY.alloc _;have hS : Y3 _ := aR _ eD;refine hK.out _ _ (fun _ => hS) ?_;clear hK K
   try simp only [Sp]
   refine o1Q 8 (fun K hK => ?_);go_simp;have hc := Ry 0 (PO txn prev) (Px page slot) 0 wb.heap.size (wb.alloc (.cells #[Q1 (PO txn prev), Q1 (Px page slot), Q1 0] 2)) (bz.cell 0) (bz.cell 1) (bz.cell 2)
   with_reducible refine hc.mono ?_
   clear hc;rintro e wc ⟨rfl, ai⟩;have dj : Same w1 wc := Kept.trans (eD) ai;clear ai;have hS : Y3 wc := aR _ dj;refine hK.out _ _ (fun _ => hS) ?_;clear hK K
   try simp only [Sp]
   refine o1Q 9 (fun K hK => ?_);go_simp;refine hK.out _ _ (fun h => absurd rfl h) ?_;clear hK K;refine OZ ?_
   try simp only [Sp]
   go_wp2;go_ret;exact ⟨rfl, (aW.trans ah).trans dj⟩
def jbC (page : Int) (im : List Int) : Int := if Rm page = false then 5 else if Pm im page ≠ 0 then 9 else 0
theorem WU (page : Int) (aF : Option Addr) (aD : Nat) (im : List Int) (w : World) (hB : IsB im) (hn : im.length ≤ 1099511627776) (hv : Rd .u8 w (.slice aF im.length aD) im) :
  Calls Tryz.prog 175 #[.agg #[Q1 0, Q1 0, Q1 page, .slice aF im.length aD]] w fun e w' => e = .returned (Q1 (jbC page im)) ∧ Same w w' := by
 have h1 := fun wx => UF page wx;have b0 := Blk.new w #[Q1 0, Q1 0, Q1 page, .slice aF im.length aD] 115;have aW : Same w (w.alloc (.cells #[Q1 0, Q1 0, Q1 page, .slice aF im.length aD] 115)) := kZ0.alloc _;have h2 := fun wx (h : Same w wx) => XA (.slice aF im.length aD) im page wx hB hn (hv.same h);unfold jbC;clear hv hB hn
 cases e1 : Rm page with
 | false =>
  rw [e1] at h1;simp only [if_true]
  go_enter Tryz.func175, Tryz.ntmps175
  go_wp2_with (go_at_call 159; refine (h1 _).mono ?_; rintro e w1 ⟨rfl, ah⟩)
  go_ret;exact ⟨rfl, aW.trans ah⟩
 | true =>
  rw [e1] at h1;simp only [Bool.true_eq_false, if_false];generalize Pm im page = F at *
  by_cases hF : F = 0
  ·subst hF
   simp only [ne_eq, not_true_eq_false, if_false]
   go_enter Tryz.func175, Tryz.ntmps175
   go_wp2_with (first
    | (go_at_call 159; refine (h1 _).mono ?_; rintro e w1 ⟨rfl, ah⟩; have c2 : w1.cell? ⟨w.heap.size, 2, none⟩ = some (Q1 page) := (b0.same ah).cell 2; have c3 : w1.cell? ⟨w.heap.size, 3, none⟩ = some (.slice aF im.length aD) := (b0.same ah).cell 3; have kq := h2 w1 (aW.trans ah))
    | (go_at_call 176; refine kq.mono ?_; rintro e w2 ⟨rfl, aj⟩))
   go_ret;exact ⟨rfl, (aW.trans ah).trans aj⟩
  ·rw [if_pos hF]
   go_enter Tryz.func175, Tryz.ntmps175
   go_wp2_with (first
    | (go_at_call 159; refine (h1 _).mono ?_; rintro e w1 ⟨rfl, ah⟩; have c2 : w1.cell? ⟨w.heap.size, 2, none⟩ = some (Q1 page) := (b0.same ah).cell 2; have c3 : w1.cell? ⟨w.heap.size, 3, none⟩ = some (.slice aF im.length aD) := (b0.same ah).cell 3; have kq := h2 w1 (aW.trans ah))
    | (go_at_call 176; refine kq.mono ?_; rintro e w2 ⟨rfl, aj⟩))
   go_ret;exact ⟨rfl, (aW.trans ah).trans aj⟩
def jbD (nT : Int) (tx : List Int) (tn : Nat) (dy : List Int) (dn : Nat) : Int := if (decide (1 ≤ nT) && decide (nT ≤ 2147483648) && PY tx tn && PE dy dn) = true then 0 else 8
theorem VR (nT : Int) (tx dy : FR) (w : World) (hv : RdF 4 w tx) (lQ : RdF 2 w dy) :
  Calls Tryz.prog 171 #[.agg #[Q1 0, Q1 0, Q1 nT, tx.v, dy.v]] w fun e w' => e = .returned (Q1 (jbD nT tx.bs tx.n dy.bs dy.n)) ∧ Same w w' := by
 have h1 := fun wx (h : Same w wx) => jcG tx wx (hv.same h);have h2 := fun wx (h : Same w wx) => jbB dy wx (lQ.same h);obtain ⟨J8, mg, txn, li, eN⟩ := tx;obtain ⟨KS, lV, dyn, lD, gk⟩ := dy;dsimp only [FR.v] at *;have b0 := Blk.new w #[Q1 0, Q1 0, Q1 nT, .slice mg txn li, .slice lV dyn lD] 113;have aW : Same w (w.alloc (.cells #[Q1 0, Q1 0, Q1 nT, .slice mg txn li, .slice lV dyn lD] 113)) := kZ0.alloc _;unfold jbD;generalize PY eN txn = A at *;generalize PE gk dyn = B at *;clear hv lQ
 by_cases lY : nT < 1
 ·rw [decide_eq_false (show ¬ (1 ≤ nT) from by omega)]
  simp only [Bool.false_and, Bool.false_eq_true, if_false]
  go_enter Tryz.func171, Tryz.ntmps171
  go_wp2;go_ret;exact ⟨rfl, aW⟩
 by_cases lP : 2147483648 < nT
 ·rw [decide_eq_false (show ¬ (nT ≤ 2147483648) from by omega)]
  simp only [Bool.false_and, Bool.and_false, Bool.false_eq_true, if_false]
  go_enter Tryz.func171, Tryz.ntmps171
  go_wp2;go_ret;exact ⟨rfl, aW⟩
 rw [decide_eq_true (show 1 ≤ nT from by omega), decide_eq_true (show nT ≤ 2147483648 from by omega)]
 cases A with
 | false =>
  simp only [Bool.false_and, Bool.and_false, Bool.false_eq_true, if_false]
  go_enter Tryz.func171, Tryz.ntmps171
  go_wp2_with (go_at_call 172; refine (h1 _ aW).mono ?_; rintro e w1 ⟨rfl, ah⟩; have iw : w1.cell? ⟨w.heap.size, 2, none⟩ = some (Q1 nT) := (b0.same ah).cell 2; have gX : w1.cell? ⟨w.heap.size, 3, none⟩ = some (.slice mg txn li) := (b0.same ah).cell 3; have ij : w1.cell? ⟨w.heap.size, 4, none⟩ = some (.slice lV dyn lD) := (b0.same ah).cell 4)
  go_ret;exact ⟨rfl, aW.trans ah⟩
 | true =>
  cases B with
  | false =>
   simp only [Bool.and_self, Bool.and_false, Bool.false_eq_true, if_false]
   go_enter Tryz.func171, Tryz.ntmps171
   go_wp2_with (first
    | (go_at_call 172; refine (h1 _ aW).mono ?_; rintro e w1 ⟨rfl, ah⟩; have iw : w1.cell? ⟨w.heap.size, 2, none⟩ = some (Q1 nT) := (b0.same ah).cell 2; have gX : w1.cell? ⟨w.heap.size, 3, none⟩ = some (.slice mg txn li) := (b0.same ah).cell 3; have ij : w1.cell? ⟨w.heap.size, 4, none⟩ = some (.slice lV dyn lD) := (b0.same ah).cell 4; have kq := h2 w1 (aW.trans ah))
    | (go_at_call 173; refine kq.mono ?_; rintro e w2 ⟨rfl, aj⟩))
   go_ret;exact ⟨rfl, (aW.trans ah).trans aj⟩
  | true =>
   simp only [Bool.and_self, if_true]
   go_enter Tryz.func171, Tryz.ntmps171
   go_wp2_with (first
    | (go_at_call 172; refine (h1 _ aW).mono ?_; rintro e w1 ⟨rfl, ah⟩; have iw : w1.cell? ⟨w.heap.size, 2, none⟩ = some (Q1 nT) := (b0.same ah).cell 2; have gX : w1.cell? ⟨w.heap.size, 3, none⟩ = some (.slice mg txn li) := (b0.same ah).cell 3; have ij : w1.cell? ⟨w.heap.size, 4, none⟩ = some (.slice lV dyn lD) := (b0.same ah).cell 4; have kq := h2 w1 (aW.trans ah))
    | (go_at_call 173; refine kq.mono ?_; rintro e w2 ⟨rfl, aj⟩))
   go_ret;exact ⟨rfl, (aW.trans ah).trans aj⟩
theorem WV (w : World) : Calls Tryz.prog 169 #[.agg #[Q1 0, Q1 0]] w fun e w' => e = .returned (Q1 0) ∧ Same w w' := by
 go_enter Tryz.func169, Tryz.ntmps169
 go_wp2;go_ret;exact ⟨rfl, by first | exact kZ0 | exact kZ0.alloc _⟩
theorem YF (txn : Int) (prev : Int) (page : Int) (slot : Int) (bU : Bool) (ax : Option Addr) (cj ay : Nat) (aU : Bool) (ao : Option Addr) (bq al : Nat) (uN : Int) (nT : Int) (aJ : Option Addr) (ak aK : Nat) (aM : Option Addr) (aw aH : Nat) (aF : Option Addr) (cV aD : Nat) (w : World) : Calls Tryz.prog 27 #[.agg #[Q1 1, Q1 txn, Q1 prev, Q1 page, Q1 slot, .bool bU, .slice ax cj ay, .bool aU, .slice ao bq al, Q1 uN, Q1 nT, .slice aJ ak aK, .slice aM aw aH, .slice aF cV aD]] w fun e w' => e = .returned (.iface 104 (.agg #[Q1 txn, Q1 prev, Q1 page, Q1 slot, .bool bU, .slice ax cj ay, .bool aU, .slice ao bq al])) ∧ Same w w' := by
 go_enter Tryz.func27, Tryz.ntmps27
 go_wp2;go_ret;exact ⟨rfl, by repeat (first | exact kZ0 | refine Kept.alloc ?_ _)⟩
theorem YG (txn : Int) (prev : Int) (page : Int) (slot : Int) (bU : Bool) (ax : Option Addr) (cj ay : Nat) (aU : Bool) (ao : Option Addr) (bq al : Nat) (uN : Int) (nT : Int) (aJ : Option Addr) (ak aK : Nat) (aM : Option Addr) (aw aH : Nat) (aF : Option Addr) (cV aD : Nat) (w : World) : Calls Tryz.prog 27 #[.agg #[Q1 2, Q1 txn, Q1 prev, Q1 page, Q1 slot, .bool bU, .slice ax cj ay, .bool aU, .slice ao bq al, Q1 uN, Q1 nT, .slice aJ ak aK, .slice aM aw aH, .slice aF cV aD]] w fun e w' => e = .returned (.iface 106 (.agg #[Q1 txn, Q1 prev, Q1 page, Q1 slot, .bool aU, .slice ao bq al, Q1 uN])) ∧ Same w w' := by
 go_enter Tryz.func27, Tryz.ntmps27
 go_wp2;go_ret;exact ⟨rfl, by repeat (first | exact kZ0 | refine Kept.alloc ?_ _)⟩
theorem YH (txn : Int) (prev : Int) (page : Int) (slot : Int) (bU : Bool) (ax : Option Addr) (cj ay : Nat) (aU : Bool) (ao : Option Addr) (bq al : Nat) (uN : Int) (nT : Int) (aJ : Option Addr) (ak aK : Nat) (aM : Option Addr) (aw aH : Nat) (aF : Option Addr) (cV aD : Nat) (w : World) : Calls Tryz.prog 27 #[.agg #[Q1 3, Q1 txn, Q1 prev, Q1 page, Q1 slot, .bool bU, .slice ax cj ay, .bool aU, .slice ao bq al, Q1 uN, Q1 nT, .slice aJ ak aK, .slice aM aw aH, .slice aF cV aD]] w fun e w' => e = .returned (.iface 108 (.agg #[Q1 txn, Q1 prev])) ∧ Same w w' := by
 go_enter Tryz.func27, Tryz.ntmps27
 go_wp2;go_ret;exact ⟨rfl, by repeat (first | exact kZ0 | refine Kept.alloc ?_ _)⟩
theorem YI (txn : Int) (prev : Int) (page : Int) (slot : Int) (bU : Bool) (ax : Option Addr) (cj ay : Nat) (aU : Bool) (ao : Option Addr) (bq al : Nat) (uN : Int) (nT : Int) (aJ : Option Addr) (ak aK : Nat) (aM : Option Addr) (aw aH : Nat) (aF : Option Addr) (cV aD : Nat) (w : World) : Calls Tryz.prog 27 #[.agg #[Q1 4, Q1 txn, Q1 prev, Q1 page, Q1 slot, .bool bU, .slice ax cj ay, .bool aU, .slice ao bq al, Q1 uN, Q1 nT, .slice aJ ak aK, .slice aM aw aH, .slice aF cV aD]] w fun e w' => e = .returned (.iface 109 (.agg #[Q1 txn, Q1 prev])) ∧ Same w w' := by
 go_enter Tryz.func27, Tryz.ntmps27
 go_wp2;go_ret;exact ⟨rfl, by repeat (first | exact kZ0 | refine Kept.alloc ?_ _)⟩
theorem YJ (txn : Int) (prev : Int) (page : Int) (slot : Int) (bU : Bool) (ax : Option Addr) (cj ay : Nat) (aU : Bool) (ao : Option Addr) (bq al : Nat) (uN : Int) (nT : Int) (aJ : Option Addr) (ak aK : Nat) (aM : Option Addr) (aw aH : Nat) (aF : Option Addr) (cV aD : Nat) (w : World) : Calls Tryz.prog 27 #[.agg #[Q1 5, Q1 txn, Q1 prev, Q1 page, Q1 slot, .bool bU, .slice ax cj ay, .bool aU, .slice ao bq al, Q1 uN, Q1 nT, .slice aJ ak aK, .slice aM aw aH, .slice aF cV aD]] w fun e w' => e = .returned (.iface 110 (.agg #[Q1 txn, Q1 prev])) ∧ Same w w' := by
 go_enter Tryz.func27, Tryz.ntmps27
 go_wp2;go_ret;exact ⟨rfl, by repeat (first | exact kZ0 | refine Kept.alloc ?_ _)⟩
theorem YK (txn : Int) (prev : Int) (page : Int) (slot : Int) (bU : Bool) (ax : Option Addr) (cj ay : Nat) (aU : Bool) (ao : Option Addr) (bq al : Nat) (uN : Int) (nT : Int) (aJ : Option Addr) (ak aK : Nat) (aM : Option Addr) (aw aH : Nat) (aF : Option Addr) (cV aD : Nat) (w : World) : Calls Tryz.prog 27 #[.agg #[Q1 6, Q1 txn, Q1 prev, Q1 page, Q1 slot, .bool bU, .slice ax cj ay, .bool aU, .slice ao bq al, Q1 uN, Q1 nT, .slice aJ ak aK, .slice aM aw aH, .slice aF cV aD]] w fun e w' => e = .returned (.iface 111 (.agg #[Q1 0, Q1 0])) ∧ Same w w' := by
 go_enter Tryz.func27, Tryz.ntmps27
 go_wp2;go_ret;exact ⟨rfl, by repeat (first | exact kZ0 | refine Kept.alloc ?_ _)⟩
theorem YL (txn : Int) (prev : Int) (page : Int) (slot : Int) (bU : Bool) (ax : Option Addr) (cj ay : Nat) (aU : Bool) (ao : Option Addr) (bq al : Nat) (uN : Int) (nT : Int) (aJ : Option Addr) (ak aK : Nat) (aM : Option Addr) (aw aH : Nat) (aF : Option Addr) (cV aD : Nat) (w : World) : Calls Tryz.prog 27 #[.agg #[Q1 7, Q1 txn, Q1 prev, Q1 page, Q1 slot, .bool bU, .slice ax cj ay, .bool aU, .slice ao bq al, Q1 uN, Q1 nT, .slice aJ ak aK, .slice aM aw aH, .slice aF cV aD]] w fun e w' => e = .returned (.iface 113 (.agg #[Q1 0, Q1 0, Q1 nT, .slice aJ ak aK, .slice aM aw aH])) ∧ Same w w' := by
 go_enter Tryz.func27, Tryz.ntmps27
 go_wp2;go_ret;exact ⟨rfl, by repeat (first | exact kZ0 | refine Kept.alloc ?_ _)⟩
theorem YM (txn : Int) (prev : Int) (page : Int) (slot : Int) (bU : Bool) (ax : Option Addr) (cj ay : Nat) (aU : Bool) (ao : Option Addr) (bq al : Nat) (uN : Int) (nT : Int) (aJ : Option Addr) (ak aK : Nat) (aM : Option Addr) (aw aH : Nat) (aF : Option Addr) (cV aD : Nat) (w : World) : Calls Tryz.prog 27 #[.agg #[Q1 8, Q1 txn, Q1 prev, Q1 page, Q1 slot, .bool bU, .slice ax cj ay, .bool aU, .slice ao bq al, Q1 uN, Q1 nT, .slice aJ ak aK, .slice aM aw aH, .slice aF cV aD]] w fun e w' => e = .returned (.iface 115 (.agg #[Q1 0, Q1 0, Q1 page, .slice aF cV aD])) ∧ Same w w' := by
 go_enter Tryz.func27, Tryz.ntmps27
 go_wp2;go_ret;exact ⟨rfl, by repeat (first | exact kZ0 | refine Kept.alloc ?_ _)⟩
theorem YN (kind : Int) (txn : Int) (prev : Int) (page : Int) (slot : Int) (bU : Bool) (ax : Option Addr) (cj ay : Nat) (aU : Bool) (ao : Option Addr) (bq al : Nat) (uN : Int) (nT : Int) (aJ : Option Addr) (ak aK : Nat) (aM : Option Addr) (aw aH : Nat) (aF : Option Addr) (cV aD : Nat) (w : World) (h1 : ¬ kind = 1) (h2 : ¬ kind = 2) (h3 : ¬ kind = 3) (h4 : ¬ kind = 4) (h5 : ¬ kind = 5) (h6 : ¬ kind = 6) (h7 : ¬ kind = 7) (h8 : ¬ kind = 8) : Calls Tryz.prog 27 #[.agg #[Q1 kind, Q1 txn, Q1 prev, Q1 page, Q1 slot, .bool bU, .slice ax cj ay, .bool aU, .slice ao bq al, Q1 uN, Q1 nT, .slice aJ ak aK, .slice aM aw aH, .slice aF cV aD]] w fun e w' => e = .returned .nilIface ∧ Same w w' := by
 go_enter Tryz.func27, Tryz.ntmps27
 go_wp2;go_ret;exact ⟨rfl, by repeat (first | exact kZ0 | refine Kept.alloc ?_ _)⟩
section
variable {P : Program} {md : Region.Mode} {bf : Array Oper} {Q : Exit → Act → World → Prop} {S : World → Prop} {s : Nat}
theorem tkC (i : Nat) {o : Oper} {fuel : Nat} {listed : Array Bool} {a a' : Act} {w w7 : World} {v : Value} {f : Nat} {args : Array Value}
  (kc : ∀ wx, Calls P f args wx fun e w' => e = .returned v ∧ Same wx w') (aR : ∀ wx, Same w7 wx → S wx) (hq : Same w7 w)
  (h : ∀ wq, Same w7 wq → S wq → QA P md bf Q S s fuel (listed.setIfInBounds i true) a' wq)
  (hr : Region.ready md bf listed = [i] := by kernel_rfl) (ho : bf[i]? = some o := by rfl) (hg : Region.wanted o (yielded bf a.tmps) = true := by rfl)
  (hc : (∀ wx, Calls P f args wx fun e w' => e = .returned v ∧ Same wx w') → ∀ K' : Act → World → Prop, (∀ wq, Same w wq → K' a' wq) → Oper.wp P o a w K' Q := by
   intro kk K' hK; go_simp; with_reducible refine (kk _).mono ?_; rintro e wq ⟨rfl, ai⟩; exact hK _ ai) : QA P md bf Q S s (fuel + 1) listed a w := by
 refine OV hr ho (fun K' hK => ?_);rw [if_pos hg];exact hc kc K' (fun wq ai => hK.out _ _ (fun _ => aR _ (hq.trans ai)) (h wq (hq.trans ai) (aR _ (hq.trans ai))))
end
end Go.Proofs.YtapdfgkbhaoelaaGreatDoor
