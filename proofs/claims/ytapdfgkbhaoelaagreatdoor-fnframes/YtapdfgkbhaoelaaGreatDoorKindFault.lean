import Derived.Test.YtapdfgkbhaoelaaGreatDoorG06
namespace Go.Proofs.YtapdfgkbhaoelaaGreatDoor
set_option maxRecDepth 100000
set_option maxHeartbeats 16000000
set_option linter.unusedVariables false
set_option linter.unusedSimpArgs false
open Go.RowKit
theorem VX (txn prev page slot : Int) (bU aU : Bool) (ax ao : Option Addr) (cj ay bq al : Nat) (w : World) (mK : cj ≤ maxLen) (rB : bq ≤ maxLen) :
  Calls Tryz.prog 162 #[.agg #[Q1 txn, Q1 prev, Q1 page, Q1 slot, .bool bU, .slice ax cj ay, .bool aU, .slice ao bq al]] w fun e w' => e = .returned (Q1 (orF (PO txn prev) (Px page slot) (Zx bU aU cj bq))) ∧ Same w w' := by
 have h1 := fun wx => WS bU ax cj ay wx mK;have h2 := fun wx => WS aU ao bq al wx rB;have b0 := Blk.new w #[Q1 txn, Q1 prev, Q1 page, Q1 slot, .bool bU, .slice ax cj ay, .bool aU, .slice ao bq al] 104;have aW : Same w (w.alloc (.cells #[Q1 txn, Q1 prev, Q1 page, Q1 slot, .bool bU, .slice ax cj ay, .bool aU, .slice ao bq al] 104)) := kZ0.alloc _;unfold Zx;have zH : ∀ (v : Int) (w1 : World) (hk : Same (w.alloc (.cells #[Q1 txn, Q1 prev, Q1 page, Q1 slot, .bool bU, .slice ax cj ay, .bool aU, .slice ao bq al] 104)) w1), True := fun _ _ _ => trivial
 cases e1 : QN bU cj with
 | false =>
  rw [e1] at h1;simp only [Bool.false_and, Bool.false_eq_true, if_false];clear h2
  go_enter Tryz.func162, Tryz.ntmps162
  go_wp2_with (go_at_call 165; refine (h1 _).mono ?_; rintro e w1 ⟨rfl, ah⟩; have km : w1.cell? ⟨w.heap.size, 0, none⟩ = some (Q1 txn) := (b0.same ah).cell 0; have kw : w1.cell? ⟨w.heap.size, 1, none⟩ = some (Q1 prev) := (b0.same ah).cell 1; have iw : w1.cell? ⟨w.heap.size, 2, none⟩ = some (Q1 page) := (b0.same ah).cell 2; have gX : w1.cell? ⟨w.heap.size, 3, none⟩ = some (Q1 slot) := (b0.same ah).cell 3; have ij : w1.cell? ⟨w.heap.size, 4, none⟩ = some (.bool bU) := (b0.same ah).cell 4; have jN : w1.cell? ⟨w.heap.size, 5, none⟩ = some (.slice ax cj ay) := (b0.same ah).cell 5; have jV : w1.cell? ⟨w.heap.size, 6, none⟩ = some (.bool aU) := (b0.same ah).cell 6; have pU : w1.cell? ⟨w.heap.size, 7, none⟩ = some (.slice ao bq al) := (b0.same ah).cell 7)
  have bk := b0.same ah
  let Y4 : World → Prop := fun wx => D0 wx w.heap.size 0 (Q1 txn) ∧ D0 wx w.heap.size 1 (Q1 prev) ∧ D0 wx w.heap.size 2 (Q1 page) ∧ D0 wx w.heap.size 3 (Q1 slot) ∧ D0 wx w.heap.size 4 (.bool bU) ∧ D0 wx w.heap.size 5 (.slice ax cj ay) ∧ D0 wx w.heap.size 6 (.bool aU) ∧ D0 wx w.heap.size 7 (.slice ao bq al)
  have aR : ∀ wx, Same w1 wx → Y4 wx := fun wx h => ⟨(bk.same h).cell 0, (bk.same h).cell 1, (bk.same h).cell 2, (bk.same h).cell 3, (bk.same h).cell 4, (bk.same h).cell 5, (bk.same h).cell 6, (bk.same h).cell 7⟩
  have hS : Y4 w1.drew := by exact aR _ kZ0.drew
  refine O0 Y4 9 10 ?_;refine tk 0 26 hS ?_;refine tk 1 27 hS ?_;refine tk 3 29 hS ?_;refine tk 4 30 hS ?_;refine tk 6 32 hS ?_;refine o1Q 2 (fun K hK => ?_);go_simp;have hc := P5 txn prev (w1.drew)
  with_reducible refine hc.mono ?_
  clear hc;rintro e wa ⟨rfl, ai⟩;have dh : Same w1 wa := Kept.trans (kZ0.drew) ai;clear ai;have hS : Y4 wa := aR _ dh;refine hK.out _ _ (fun _ => hS) ?_;clear hK K
  try simp only [Sp]
  refine o1Q 5 (fun K hK => ?_);go_simp;have hc := Qj page slot wa
  with_reducible refine hc.mono ?_
  clear hc;rintro e wb ⟨rfl, ai⟩;have cY : Same w1 wb := Kept.trans (dh) ai;clear ai;have hS : Y4 wb := aR _ cY;refine hK.out _ _ (fun _ => hS) ?_;clear hK K
  try simp only [Sp]
  refine o1Q 7 (fun K hK => ?_);go_simp;have bz := Blk.new wb #[Q1 (PO txn prev), Q1 (Px page slot), Q1 6] 2;have eD : Same w1 (wb.alloc (.cells #[Q1 (PO txn prev), Q1 (Px page slot), Q1 6] 2)) := cY.alloc _;have hS : Y4 _ := aR _ eD;refine hK.out _ _ (fun _ => hS) ?_;clear hK K
  try simp only [Sp]
  refine o1Q 8 (fun K hK => ?_);go_simp;have hc := Ry 0 (PO txn prev) (Px page slot) 6 wb.heap.size (wb.alloc (.cells #[Q1 (PO txn prev), Q1 (Px page slot), Q1 6] 2)) (bz.cell 0) (bz.cell 1) (bz.cell 2)
  with_reducible refine hc.mono ?_
  clear hc;rintro e wc ⟨rfl, ai⟩;have dj : Same w1 wc := Kept.trans (eD) ai;clear ai;have hS : Y4 wc := aR _ dj;refine hK.out _ _ (fun _ => hS) ?_;clear hK K
  try simp only [Sp]
  refine o1Q 9 (fun K hK => ?_);go_simp;refine hK.out _ _ (fun h => absurd rfl h) ?_;clear hK K;refine OZ ?_
  try simp only [Sp]
  go_wp2;go_ret;exact ⟨rfl, (aW.trans ah).trans dj⟩
 | true =>
  rw [e1] at h1
  cases e2 : QN aU bq with
  | false =>
   rw [e2] at h2;simp only [Bool.true_and, Bool.false_and, Bool.false_eq_true, if_false]
   go_enter Tryz.func162, Tryz.ntmps162
   go_wp2_with fail
   refine (h1 _).mono ?_;rintro e w0 ⟨rfl, ah⟩;have gv := (b0.same ah).c0;have gK := (b0.same ah).c1;have gB := (b0.same ah).c2;have gJ := (b0.same ah).c3;have gS := (b0.same ah).c4;have gI := (b0.same ah).c5;have gO := (b0.same ah).c6;have jZ := (b0.same ah).c7
   go_wp2_with fail
   refine (h2 _).mono ?_;rintro e w1 ⟨rfl, aj⟩;have ah := ah.trans aj;clear gv gK gB gJ gS gI gO jZ;have km := (b0.same ah).c0;have kw := (b0.same ah).c1;have iw := (b0.same ah).c2;have gX := (b0.same ah).c3;have ij := (b0.same ah).c4;have jN := (b0.same ah).c5;have jV := (b0.same ah).c6;have pU := (b0.same ah).c7
   go_wp2_with fail
   have bk := b0.same ah
   let Y5 : World → Prop := fun wx => D0 wx w.heap.size 0 (Q1 txn) ∧ D0 wx w.heap.size 1 (Q1 prev) ∧ D0 wx w.heap.size 2 (Q1 page) ∧ D0 wx w.heap.size 3 (Q1 slot) ∧ D0 wx w.heap.size 4 (.bool bU) ∧ D0 wx w.heap.size 5 (.slice ax cj ay) ∧ D0 wx w.heap.size 6 (.bool aU) ∧ D0 wx w.heap.size 7 (.slice ao bq al)
   have aR : ∀ wx, Same w1 wx → Y5 wx := fun wx h => ⟨(bk.same h).cell 0, (bk.same h).cell 1, (bk.same h).cell 2, (bk.same h).cell 3, (bk.same h).cell 4, (bk.same h).cell 5, (bk.same h).cell 6, (bk.same h).cell 7⟩
   have hS : Y5 w1.drew := by exact aR _ kZ0.drew
   refine O0 Y5 9 10 ?_;refine tk 0 26 hS ?_;refine tk 1 27 hS ?_;refine tk 3 29 hS ?_;refine tk 4 30 hS ?_;refine tk 6 32 hS ?_;refine o1Q 2 (fun K hK => ?_);go_simp;have hc := P5 txn prev (w1.drew)
   with_reducible refine hc.mono ?_
   clear hc;rintro e wa ⟨rfl, ai⟩;have dh : Same w1 wa := Kept.trans (kZ0.drew) ai;clear ai;have hS : Y5 wa := aR _ dh;refine hK.out _ _ (fun _ => hS) ?_;clear hK K
   try simp only [Sp]
   refine o1Q 5 (fun K hK => ?_);go_simp;have hc := Qj page slot wa
   with_reducible refine hc.mono ?_
   clear hc;rintro e wb ⟨rfl, ai⟩;have cY : Same w1 wb := Kept.trans (dh) ai;clear ai;have hS : Y5 wb := aR _ cY;refine hK.out _ _ (fun _ => hS) ?_;clear hK K
   try simp only [Sp]
   refine o1Q 7 (fun K hK => ?_);go_simp;have bz := Blk.new wb #[Q1 (PO txn prev), Q1 (Px page slot), Q1 6] 2;have eD : Same w1 (wb.alloc (.cells #[Q1 (PO txn prev), Q1 (Px page slot), Q1 6] 2)) := cY.alloc _;have hS : Y5 _ := aR _ eD;refine hK.out _ _ (fun _ => hS) ?_;clear hK K
   try simp only [Sp]
   refine o1Q 8 (fun K hK => ?_);go_simp;have hc := Ry 0 (PO txn prev) (Px page slot) 6 wb.heap.size (wb.alloc (.cells #[Q1 (PO txn prev), Q1 (Px page slot), Q1 6] 2)) (bz.cell 0) (bz.cell 1) (bz.cell 2)
   with_reducible refine hc.mono ?_
   clear hc;rintro e wc ⟨rfl, ai⟩;have dj : Same w1 wc := Kept.trans (eD) ai;clear ai;have hS : Y5 wc := aR _ dj;refine hK.out _ _ (fun _ => hS) ?_;clear hK K
   try simp only [Sp]
   refine o1Q 9 (fun K hK => ?_);go_simp;refine hK.out _ _ (fun h => absurd rfl h) ?_;clear hK K;refine OZ ?_
   try simp only [Sp]
   go_wp2;go_ret;exact ⟨rfl, (aW.trans ah).trans dj⟩
  | true =>
   rw [e2] at h2
   cases bU with
   | true =>
    simp only [Bool.true_and, Bool.true_or, if_true]
    go_enter Tryz.func162, Tryz.ntmps162
    go_wp2_with fail
    refine (h1 _).mono ?_;rintro e w0 ⟨rfl, ah⟩;have gv := (b0.same ah).c0;have gK := (b0.same ah).c1;have gB := (b0.same ah).c2;have gJ := (b0.same ah).c3;have gS := (b0.same ah).c4;have gI := (b0.same ah).c5;have gO := (b0.same ah).c6;have jZ := (b0.same ah).c7
    go_wp2_with fail
    refine (h2 _).mono ?_;rintro e w1 ⟨rfl, aj⟩;have ah := ah.trans aj;clear gv gK gB gJ gS gI gO jZ;have km := (b0.same ah).c0;have kw := (b0.same ah).c1;have iw := (b0.same ah).c2;have gX := (b0.same ah).c3;have ij := (b0.same ah).c4;have jN := (b0.same ah).c5;have jV := (b0.same ah).c6;have pU := (b0.same ah).c7
    go_wp2_with fail
    have bk := b0.same ah
    let Y3 : World → Prop := fun wx => D0 wx w.heap.size 0 (Q1 txn) ∧ D0 wx w.heap.size 1 (Q1 prev) ∧ D0 wx w.heap.size 2 (Q1 page) ∧ D0 wx w.heap.size 3 (Q1 slot) ∧ D0 wx w.heap.size 4 (.bool true) ∧ D0 wx w.heap.size 5 (.slice ax cj ay) ∧ D0 wx w.heap.size 6 (.bool aU) ∧ D0 wx w.heap.size 7 (.slice ao bq al)
    have aR : ∀ wx, Same w1 wx → Y3 wx := fun wx h => ⟨(bk.same h).cell 0, (bk.same h).cell 1, (bk.same h).cell 2, (bk.same h).cell 3, (bk.same h).cell 4, (bk.same h).cell 5, (bk.same h).cell 6, (bk.same h).cell 7⟩
    have hS : Y3 w1.drew := by exact aR _ kZ0.drew
    refine O0 Y3 9 10 ?_;refine tk 0 26 hS ?_;refine tk 1 27 hS ?_;refine tk 3 29 hS ?_;refine tk 4 30 hS ?_;refine tk 6 32 hS ?_;refine o1Q 2 (fun K hK => ?_);go_simp;have hc := P5 txn prev (w1.drew)
    with_reducible refine hc.mono ?_
    clear hc;rintro e wa ⟨rfl, ai⟩;have dh : Same w1 wa := Kept.trans (kZ0.drew) ai;clear ai;have hS : Y3 wa := aR _ dh;refine hK.out _ _ (fun _ => hS) ?_;clear hK K
    try simp only [Sp]
    refine o1Q 5 (fun K hK => ?_);go_simp;have hc := Qj page slot wa
    with_reducible refine hc.mono ?_
    clear hc;rintro e wb ⟨rfl, ai⟩;have cY : Same w1 wb := Kept.trans (dh) ai;clear ai;have hS : Y3 wb := aR _ cY;refine hK.out _ _ (fun _ => hS) ?_;clear hK K
    try simp only [Sp]
    refine o1Q 7 (fun K hK => ?_);go_simp;have bz := Blk.new wb #[Q1 (PO txn prev), Q1 (Px page slot), Q1 0] 2;have eD : Same w1 (wb.alloc (.cells #[Q1 (PO txn prev), Q1 (Px page slot), Q1 0] 2)) := cY.alloc _;have hS : Y3 _ := aR _ eD;refine hK.out _ _ (fun _ => hS) ?_;clear hK K
    try simp only [Sp]
    refine o1Q 8 (fun K hK => ?_);go_simp;have hc := Ry 0 (PO txn prev) (Px page slot) 0 wb.heap.size (wb.alloc (.cells #[Q1 (PO txn prev), Q1 (Px page slot), Q1 0] 2)) (bz.cell 0) (bz.cell 1) (bz.cell 2)
    with_reducible refine hc.mono ?_
    clear hc;rintro e wc ⟨rfl, ai⟩;have dj : Same w1 wc := Kept.trans (eD) ai;clear ai;have hS : Y3 wc := aR _ dj;refine hK.out _ _ (fun _ => hS) ?_;clear hK K
    try simp only [Sp]
    refine o1Q 9 (fun K hK => ?_);go_simp;refine hK.out _ _ (fun h => absurd rfl h) ?_;clear hK K;refine OZ ?_
    try simp only [Sp]
    go_wp2;go_ret;exact ⟨rfl, (aW.trans ah).trans dj⟩
   | false =>
    cases aU with
    | true =>
     simp only [Bool.true_and, Bool.or_true, if_true]
     go_enter Tryz.func162, Tryz.ntmps162
     go_wp2_with fail
     refine (h1 _).mono ?_;rintro e w0 ⟨rfl, ah⟩;have gv := (b0.same ah).c0;have gK := (b0.same ah).c1;have gB := (b0.same ah).c2;have gJ := (b0.same ah).c3;have gS := (b0.same ah).c4;have gI := (b0.same ah).c5;have gO := (b0.same ah).c6;have jZ := (b0.same ah).c7
     go_wp2_with fail
     refine (h2 _).mono ?_;rintro e w1 ⟨rfl, aj⟩;have ah := ah.trans aj;clear gv gK gB gJ gS gI gO jZ;have km := (b0.same ah).c0;have kw := (b0.same ah).c1;have iw := (b0.same ah).c2;have gX := (b0.same ah).c3;have ij := (b0.same ah).c4;have jN := (b0.same ah).c5;have jV := (b0.same ah).c6;have pU := (b0.same ah).c7
     go_wp2_with fail
     have bk := b0.same ah
     let Y2 : World → Prop := fun wx => D0 wx w.heap.size 0 (Q1 txn) ∧ D0 wx w.heap.size 1 (Q1 prev) ∧ D0 wx w.heap.size 2 (Q1 page) ∧ D0 wx w.heap.size 3 (Q1 slot) ∧ D0 wx w.heap.size 4 (.bool false) ∧ D0 wx w.heap.size 5 (.slice ax cj ay) ∧ D0 wx w.heap.size 6 (.bool true) ∧ D0 wx w.heap.size 7 (.slice ao bq al)
     have aR : ∀ wx, Same w1 wx → Y2 wx := fun wx h => ⟨(bk.same h).cell 0, (bk.same h).cell 1, (bk.same h).cell 2, (bk.same h).cell 3, (bk.same h).cell 4, (bk.same h).cell 5, (bk.same h).cell 6, (bk.same h).cell 7⟩
     have hS : Y2 w1.drew := by exact aR _ kZ0.drew
     refine O0 Y2 9 10 ?_;refine tk 0 26 hS ?_;refine tk 1 27 hS ?_;refine tk 3 29 hS ?_;refine tk 4 30 hS ?_;refine tk 6 32 hS ?_;refine o1Q 2 (fun K hK => ?_);go_simp;have hc := P5 txn prev (w1.drew)
     with_reducible refine hc.mono ?_
     clear hc;rintro e wa ⟨rfl, ai⟩;have dh : Same w1 wa := Kept.trans (kZ0.drew) ai;clear ai;have hS : Y2 wa := aR _ dh;refine hK.out _ _ (fun _ => hS) ?_;clear hK K
     try simp only [Sp]
     refine o1Q 5 (fun K hK => ?_);go_simp;have hc := Qj page slot wa
     with_reducible refine hc.mono ?_
     clear hc;rintro e wb ⟨rfl, ai⟩;have cY : Same w1 wb := Kept.trans (dh) ai;clear ai;have hS : Y2 wb := aR _ cY;refine hK.out _ _ (fun _ => hS) ?_;clear hK K
     try simp only [Sp]
     refine o1Q 7 (fun K hK => ?_);go_simp;have bz := Blk.new wb #[Q1 (PO txn prev), Q1 (Px page slot), Q1 0] 2;have eD : Same w1 (wb.alloc (.cells #[Q1 (PO txn prev), Q1 (Px page slot), Q1 0] 2)) := cY.alloc _;have hS : Y2 _ := aR _ eD;refine hK.out _ _ (fun _ => hS) ?_;clear hK K
     try simp only [Sp]
     refine o1Q 8 (fun K hK => ?_);go_simp;have hc := Ry 0 (PO txn prev) (Px page slot) 0 wb.heap.size (wb.alloc (.cells #[Q1 (PO txn prev), Q1 (Px page slot), Q1 0] 2)) (bz.cell 0) (bz.cell 1) (bz.cell 2)
     with_reducible refine hc.mono ?_
     clear hc;rintro e wc ⟨rfl, ai⟩;have dj : Same w1 wc := Kept.trans (eD) ai;clear ai;have hS : Y2 wc := aR _ dj;refine hK.out _ _ (fun _ => hS) ?_;clear hK K
     try simp only [Sp]
     refine o1Q 9 (fun K hK => ?_);go_simp;refine hK.out _ _ (fun h => absurd rfl h) ?_;clear hK K;refine OZ ?_
     try simp only [Sp]
     go_wp2;go_ret;exact ⟨rfl, (aW.trans ah).trans dj⟩
    | false =>
     simp only [Bool.true_and, Bool.or_false, Bool.false_eq_true, if_false]
     go_enter Tryz.func162, Tryz.ntmps162
     go_wp2_with fail
     refine (h1 _).mono ?_;rintro e w0 ⟨rfl, ah⟩;have gv := (b0.same ah).c0;have gK := (b0.same ah).c1;have gB := (b0.same ah).c2;have gJ := (b0.same ah).c3;have gS := (b0.same ah).c4;have gI := (b0.same ah).c5;have gO := (b0.same ah).c6;have jZ := (b0.same ah).c7
     go_wp2_with fail
     refine (h2 _).mono ?_;rintro e w1 ⟨rfl, aj⟩;have ah := ah.trans aj;clear gv gK gB gJ gS gI gO jZ;have km := (b0.same ah).c0;have kw := (b0.same ah).c1;have iw := (b0.same ah).c2;have gX := (b0.same ah).c3;have ij := (b0.same ah).c4;have jN := (b0.same ah).c5;have jV := (b0.same ah).c6;have pU := (b0.same ah).c7
     go_wp2_with fail
     have bk := b0.same ah
     let Y1 : World → Prop := fun wx => D0 wx w.heap.size 0 (Q1 txn) ∧ D0 wx w.heap.size 1 (Q1 prev) ∧ D0 wx w.heap.size 2 (Q1 page) ∧ D0 wx w.heap.size 3 (Q1 slot) ∧ D0 wx w.heap.size 4 (.bool false) ∧ D0 wx w.heap.size 5 (.slice ax cj ay) ∧ D0 wx w.heap.size 6 (.bool false) ∧ D0 wx w.heap.size 7 (.slice ao bq al)
     have aR : ∀ wx, Same w1 wx → Y1 wx := fun wx h => ⟨(bk.same h).cell 0, (bk.same h).cell 1, (bk.same h).cell 2, (bk.same h).cell 3, (bk.same h).cell 4, (bk.same h).cell 5, (bk.same h).cell 6, (bk.same h).cell 7⟩
     have hS : Y1 w1.drew := by exact aR _ kZ0.drew
     refine O0 Y1 9 10 ?_;refine tk 0 26 hS ?_;refine tk 1 27 hS ?_;refine tk 3 29 hS ?_;refine tk 4 30 hS ?_;refine tk 6 32 hS ?_;refine o1Q 2 (fun K hK => ?_);go_simp;have hc := P5 txn prev (w1.drew)
     with_reducible refine hc.mono ?_
     clear hc;rintro e wa ⟨rfl, ai⟩;have dh : Same w1 wa := Kept.trans (kZ0.drew) ai;clear ai;have hS : Y1 wa := aR _ dh;refine hK.out _ _ (fun _ => hS) ?_;clear hK K
     try simp only [Sp]
     refine o1Q 5 (fun K hK => ?_);go_simp;have hc := Qj page slot wa
     with_reducible refine hc.mono ?_
     clear hc;rintro e wb ⟨rfl, ai⟩;have cY : Same w1 wb := Kept.trans (dh) ai;clear ai;have hS : Y1 wb := aR _ cY;refine hK.out _ _ (fun _ => hS) ?_;clear hK K
     try simp only [Sp]
     refine o1Q 7 (fun K hK => ?_);go_simp;have bz := Blk.new wb #[Q1 (PO txn prev), Q1 (Px page slot), Q1 6] 2;have eD : Same w1 (wb.alloc (.cells #[Q1 (PO txn prev), Q1 (Px page slot), Q1 6] 2)) := cY.alloc _;have hS : Y1 _ := aR _ eD;refine hK.out _ _ (fun _ => hS) ?_;clear hK K
     try simp only [Sp]
     refine o1Q 8 (fun K hK => ?_);go_simp;have hc := Ry 0 (PO txn prev) (Px page slot) 6 wb.heap.size (wb.alloc (.cells #[Q1 (PO txn prev), Q1 (Px page slot), Q1 6] 2)) (bz.cell 0) (bz.cell 1) (bz.cell 2)
     with_reducible refine hc.mono ?_
     clear hc;rintro e wc ⟨rfl, ai⟩;have dj : Same w1 wc := Kept.trans (eD) ai;clear ai;have hS : Y1 wc := aR _ dj;refine hK.out _ _ (fun _ => hS) ?_;clear hK K
     try simp only [Sp]
     refine o1Q 9 (fun K hK => ?_);go_simp;refine hK.out _ _ (fun h => absurd rfl h) ?_;clear hK K;refine OZ ?_
     try simp only [Sp]
     go_wp2;go_ret;exact ⟨rfl, (aW.trans ah).trans dj⟩
end Go.Proofs.YtapdfgkbhaoelaaGreatDoor
