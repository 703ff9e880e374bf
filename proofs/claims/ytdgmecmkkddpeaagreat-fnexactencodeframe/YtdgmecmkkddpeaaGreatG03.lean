import Derived.Test.YtdgmecmkkddpeaaGreatTyLogRecord
namespace Go.Proofs.YtdgmecmkkddpeaaGreat
set_option maxRecDepth 100000
set_option maxHeartbeats 16000000
set_option linter.unusedVariables false
set_option linter.unusedSimpArgs false
open Go.RowKit
theorem recS_1 (txn : Int) (prev : Int) (page : Int) (slot : Int) (beforeu : Bool) (beforea : Option Addr) (beforen beforec : Nat) (afteru : Bool) (aftera : Option Addr) (aftern afterc : Nat) (uN : Int) (nT : Int) (txnsa : Option Addr) (txnsn txnsc : Nat) (dirtya : Option Addr) (dirtyn dirtyc : Nat) (imagea : Option Addr) (imagen imagec : Nat) (w : World) (EX b1 b2 b3 b4 b5 b6 : Bool) (PF : Int) (hkind : ∀ wx, Same w wx → Calls Tryz.prog 18 #[.int .i64 1, .int .i64 1, .int .i64 8] wx fun e w' => e = .returned (.bool true) ∧ Same wx w') (hex : ∀ wx, Same w wx → Calls Tryz.prog 37 #[.agg #[.int .i64 1, .int .i64 txn, .int .i64 prev, .int .i64 page, .int .i64 slot, .bool beforeu, .slice beforea beforen beforec, .bool afteru, .slice aftera aftern afterc, .int .i64 uN, .int .i64 nT, .slice txnsa txnsn txnsc, .slice dirtya dirtyn dirtyc, .slice imagea imagen imagec]] wx fun e w' => e = .returned (.bool EX) ∧ Same wx w') (htxn : ∀ wx, Same w wx → Calls Tryz.prog 18 #[.int .i64 txn, .int .i64 1, .int .i64 2147483647] wx fun e w' => e = .returned (.bool b1) ∧ Same wx w') (hprev : ∀ wx, Same w wx → Calls Tryz.prog 18 #[.int .i64 prev, .int .i64 0, .int .i64 1099511627776] wx fun e w' => e = .returned (.bool b2) ∧ Same wx w') (hpage : ∀ wx, Same w wx → Calls Tryz.prog 18 #[.int .i64 page, .int .i64 0, .int .i64 15] wx fun e w' => e = .returned (.bool b3) ∧ Same wx w') (hslot : ∀ wx, Same w wx → Calls Tryz.prog 18 #[.int .i64 slot, .int .i64 0, .int .i64 31] wx fun e w' => e = .returned (.bool b4) ∧ Same wx w') (hbef : ∀ wx, Same w wx → Calls Tryz.prog 38 #[.agg #[.bool beforeu, .slice beforea beforen beforec]] wx fun e w' => e = .returned (.bool b5) ∧ Same wx w') (haft : ∀ wx, Same w wx → Calls Tryz.prog 38 #[.agg #[.bool afteru, .slice aftera aftern afterc]] wx fun e w' => e = .returned (.bool b6) ∧ Same wx w') :
  Calls Tryz.prog 17 #[.agg #[.int .i64 1, .int .i64 txn, .int .i64 prev, .int .i64 page, .int .i64 slot, .bool beforeu, .slice beforea beforen beforec, .bool afteru, .slice aftera aftern afterc, .int .i64 uN, .int .i64 nT, .slice txnsa txnsn txnsc, .slice dirtya dirtyn dirtyc, .slice imagea imagen imagec]] w fun e w' => e = .returned (.int .i64 (if EX = true then 2 else (if b1 = false then 3 else (if b2 = false then 4 else (if b3 = false then 5 else (if b4 = false then 5 else (if b5 = false then 6 else (if b6 = false then 6 else (if (beforeu || afteru) = false then 6 else (0)))))))))) ∧ Same w w' := by
 obtain ⟨HK0, HB0⟩ := new1 w [.int .i64 1, .int .i64 txn, .int .i64 prev, .int .i64 page, .int .i64 slot, .bool beforeu, .slice beforea beforen beforec, .bool afteru, .slice aftera aftern afterc, .int .i64 uN, .int .i64 nT, .slice txnsa txnsn txnsc, .slice dirtya dirtyn dirtyc, .slice imagea imagen imagec] 35
 go_enter Tryz.func17, Tryz.ntmps17
 go_wp2_with fail
 refine (hkind _ HK0.out).mono ?_
 rintro e w1 ⟨rfl, hk⟩
 have HK1 := hid (HK0.out.trans hk)
 have HB1 := hid (HB0.out.same hk)
 clear hk HK0 HB0
 obtain ⟨d0, d1, d2, d3, d4, d5, d6, d7, d8, d9, d10, d11, d12, d13⟩ := HB1.out.all14
 go_wp2_with fail
 refine (hex _ HK1.out).mono ?_
 rintro e w2 ⟨rfl, hk⟩
 clear d0 d1 d2 d3 d4 d5 d6 d7 d8 d9 d10 d11 d12 d13
 have HK2 := hid (HK1.out.trans hk)
 have HB2 := hid (HB1.out.same hk)
 clear hk HK1 HB1
 obtain ⟨d0, d1, d2, d3, d4, d5, d6, d7, d8, d9, d10, d11, d12, d13⟩ := HB2.out.all14
 cases EX with
 | true =>
  go_wp2
  go_ret
  exact ⟨by first | rfl | simp, HK2.out⟩
 | false =>
  go_wp2_with fail
  refine (htxn _ HK2.out).mono ?_
  rintro e w3 ⟨rfl, hk⟩
  clear d0 d1 d2 d3 d4 d5 d6 d7 d8 d9 d10 d11 d12 d13
  have HK3 := hid (HK2.out.trans hk)
  have HB3 := hid (HB2.out.same hk)
  clear hk HK2 HB2
  obtain ⟨d0, d1, d2, d3, d4, d5, d6, d7, d8, d9, d10, d11, d12, d13⟩ := HB3.out.all14
  cases b1 with
  | false =>
   go_wp2
   go_ret
   exact ⟨by first | rfl | simp, HK3.out⟩
  | true =>
   go_wp2_with fail
   refine (hprev _ HK3.out).mono ?_
   rintro e w4 ⟨rfl, hk⟩
   clear d0 d1 d2 d3 d4 d5 d6 d7 d8 d9 d10 d11 d12 d13
   have HK4 := hid (HK3.out.trans hk)
   have HB4 := hid (HB3.out.same hk)
   clear hk HK3 HB3
   obtain ⟨d0, d1, d2, d3, d4, d5, d6, d7, d8, d9, d10, d11, d12, d13⟩ := HB4.out.all14
   cases b2 with
   | false =>
    go_wp2
    go_ret
    exact ⟨by first | rfl | simp, HK4.out⟩
   | true =>
    go_wp2_with fail
    refine (hpage _ HK4.out).mono ?_
    rintro e w5 ⟨rfl, hk⟩
    clear d0 d1 d2 d3 d4 d5 d6 d7 d8 d9 d10 d11 d12 d13
    have HK5 := hid (HK4.out.trans hk)
    have HB5 := hid (HB4.out.same hk)
    clear hk HK4 HB4
    obtain ⟨d0, d1, d2, d3, d4, d5, d6, d7, d8, d9, d10, d11, d12, d13⟩ := HB5.out.all14
    cases b3 with
    | false =>
     go_wp2
     go_ret
     exact ⟨by first | rfl | simp, HK5.out⟩
    | true =>
     go_wp2_with fail
     refine (hslot _ HK5.out).mono ?_
     rintro e w6 ⟨rfl, hk⟩
     clear d0 d1 d2 d3 d4 d5 d6 d7 d8 d9 d10 d11 d12 d13
     have HK6 := hid (HK5.out.trans hk)
     have HB6 := hid (HB5.out.same hk)
     clear hk HK5 HB5
     obtain ⟨d0, d1, d2, d3, d4, d5, d6, d7, d8, d9, d10, d11, d12, d13⟩ := HB6.out.all14
     cases b4 with
     | false =>
      go_wp2
      go_ret
      exact ⟨by first | rfl | simp, HK6.out⟩
     | true =>
      go_wp2_with fail
      refine (hbef _ HK6.out).mono ?_
      rintro e w7 ⟨rfl, hk⟩
      clear d0 d1 d2 d3 d4 d5 d6 d7 d8 d9 d10 d11 d12 d13
      have HK7 := hid (HK6.out.trans hk)
      have HB7 := hid (HB6.out.same hk)
      clear hk HK6 HB6
      obtain ⟨d0, d1, d2, d3, d4, d5, d6, d7, d8, d9, d10, d11, d12, d13⟩ := HB7.out.all14
      cases b5 with
      | false =>
       go_wp2
       go_ret
       exact ⟨by first | rfl | simp, HK7.out⟩
      | true =>
       go_wp2_with fail
       refine (haft _ HK7.out).mono ?_
       rintro e w8 ⟨rfl, hk⟩
       clear d0 d1 d2 d3 d4 d5 d6 d7 d8 d9 d10 d11 d12 d13
       have HK8 := hid (HK7.out.trans hk)
       have HB8 := hid (HB7.out.same hk)
       clear hk HK7 HB7
       obtain ⟨d0, d1, d2, d3, d4, d5, d6, d7, d8, d9, d10, d11, d12, d13⟩ := HB8.out.all14
       cases b6 with
       | false =>
        go_wp2
        go_ret
        exact ⟨by first | rfl | simp, HK8.out⟩
       | true =>
        cases beforeu with
        | false =>
         cases afteru with
         | false =>
          go_wp2
          go_ret
          exact ⟨rfl, HK8.out⟩
         | true =>
          go_wp2
          go_ret
          exact ⟨rfl, HK8.out⟩
        | true =>
         go_wp2
         go_ret
         exact ⟨rfl, HK8.out⟩
theorem recS_2 (txn : Int) (prev : Int) (page : Int) (slot : Int) (beforeu : Bool) (beforea : Option Addr) (beforen beforec : Nat) (afteru : Bool) (aftera : Option Addr) (aftern afterc : Nat) (uN : Int) (nT : Int) (txnsa : Option Addr) (txnsn txnsc : Nat) (dirtya : Option Addr) (dirtyn dirtyc : Nat) (imagea : Option Addr) (imagen imagec : Nat) (w : World) (EX b1 b2 b3 b4 b5 b6 b7 : Bool) (PF : Int) (hkind : ∀ wx, Same w wx → Calls Tryz.prog 18 #[.int .i64 2, .int .i64 1, .int .i64 8] wx fun e w' => e = .returned (.bool true) ∧ Same wx w') (hex : ∀ wx, Same w wx → Calls Tryz.prog 37 #[.agg #[.int .i64 2, .int .i64 txn, .int .i64 prev, .int .i64 page, .int .i64 slot, .bool beforeu, .slice beforea beforen beforec, .bool afteru, .slice aftera aftern afterc, .int .i64 uN, .int .i64 nT, .slice txnsa txnsn txnsc, .slice dirtya dirtyn dirtyc, .slice imagea imagen imagec]] wx fun e w' => e = .returned (.bool EX) ∧ Same wx w') (htxn : ∀ wx, Same w wx → Calls Tryz.prog 18 #[.int .i64 txn, .int .i64 1, .int .i64 2147483647] wx fun e w' => e = .returned (.bool b1) ∧ Same wx w') (hprev : ∀ wx, Same w wx → Calls Tryz.prog 18 #[.int .i64 prev, .int .i64 0, .int .i64 1099511627776] wx fun e w' => e = .returned (.bool b2) ∧ Same wx w') (hpage : ∀ wx, Same w wx → Calls Tryz.prog 18 #[.int .i64 page, .int .i64 0, .int .i64 15] wx fun e w' => e = .returned (.bool b3) ∧ Same wx w') (hslot : ∀ wx, Same w wx → Calls Tryz.prog 18 #[.int .i64 slot, .int .i64 0, .int .i64 31] wx fun e w' => e = .returned (.bool b4) ∧ Same wx w') (hbef : ∀ wx, Same w wx → Calls Tryz.prog 38 #[.agg #[.bool beforeu, .slice beforea beforen beforec]] wx fun e w' => e = .returned (.bool b5) ∧ Same wx w') (haft : ∀ wx, Same w wx → Calls Tryz.prog 38 #[.agg #[.bool afteru, .slice aftera aftern afterc]] wx fun e w' => e = .returned (.bool b6) ∧ Same wx w') (hund : ∀ wx, Same w wx → Calls Tryz.prog 18 #[.int .i64 uN, .int .i64 0, .int .i64 1099511627776] wx fun e w' => e = .returned (.bool b7) ∧ Same wx w') :
  Calls Tryz.prog 17 #[.agg #[.int .i64 2, .int .i64 txn, .int .i64 prev, .int .i64 page, .int .i64 slot, .bool beforeu, .slice beforea beforen beforec, .bool afteru, .slice aftera aftern afterc, .int .i64 uN, .int .i64 nT, .slice txnsa txnsn txnsc, .slice dirtya dirtyn dirtyc, .slice imagea imagen imagec]] w fun e w' => e = .returned (.int .i64 (if EX = true then 2 else (if b1 = false then 3 else (if b2 = false then 4 else (if b3 = false then 5 else (if b4 = false then 5 else (if b5 = false then 6 else (if b6 = false then 6 else (if b7 = false then 7 else (0)))))))))) ∧ Same w w' := by
 obtain ⟨HK0, HB0⟩ := new1 w [.int .i64 2, .int .i64 txn, .int .i64 prev, .int .i64 page, .int .i64 slot, .bool beforeu, .slice beforea beforen beforec, .bool afteru, .slice aftera aftern afterc, .int .i64 uN, .int .i64 nT, .slice txnsa txnsn txnsc, .slice dirtya dirtyn dirtyc, .slice imagea imagen imagec] 35
 go_enter Tryz.func17, Tryz.ntmps17
 go_wp2_with fail
 refine (hkind _ HK0.out).mono ?_
 rintro e w1 ⟨rfl, hk⟩
 have HK1 := hid (HK0.out.trans hk)
 have HB1 := hid (HB0.out.same hk)
 clear hk HK0 HB0
 obtain ⟨d0, d1, d2, d3, d4, d5, d6, d7, d8, d9, d10, d11, d12, d13⟩ := HB1.out.all14
 go_wp2_with fail
 refine (hex _ HK1.out).mono ?_
 rintro e w2 ⟨rfl, hk⟩
 clear d0 d1 d2 d3 d4 d5 d6 d7 d8 d9 d10 d11 d12 d13
 have HK2 := hid (HK1.out.trans hk)
 have HB2 := hid (HB1.out.same hk)
 clear hk HK1 HB1
 obtain ⟨d0, d1, d2, d3, d4, d5, d6, d7, d8, d9, d10, d11, d12, d13⟩ := HB2.out.all14
 cases EX with
 | true =>
  go_wp2
  go_ret
  exact ⟨by first | rfl | simp, HK2.out⟩
 | false =>
  go_wp2_with fail
  refine (htxn _ HK2.out).mono ?_
  rintro e w3 ⟨rfl, hk⟩
  clear d0 d1 d2 d3 d4 d5 d6 d7 d8 d9 d10 d11 d12 d13
  have HK3 := hid (HK2.out.trans hk)
  have HB3 := hid (HB2.out.same hk)
  clear hk HK2 HB2
  obtain ⟨d0, d1, d2, d3, d4, d5, d6, d7, d8, d9, d10, d11, d12, d13⟩ := HB3.out.all14
  cases b1 with
  | false =>
   go_wp2
   go_ret
   exact ⟨by first | rfl | simp, HK3.out⟩
  | true =>
   go_wp2_with fail
   refine (hprev _ HK3.out).mono ?_
   rintro e w4 ⟨rfl, hk⟩
   clear d0 d1 d2 d3 d4 d5 d6 d7 d8 d9 d10 d11 d12 d13
   have HK4 := hid (HK3.out.trans hk)
   have HB4 := hid (HB3.out.same hk)
   clear hk HK3 HB3
   obtain ⟨d0, d1, d2, d3, d4, d5, d6, d7, d8, d9, d10, d11, d12, d13⟩ := HB4.out.all14
   cases b2 with
   | false =>
    go_wp2
    go_ret
    exact ⟨by first | rfl | simp, HK4.out⟩
   | true =>
    go_wp2_with fail
    refine (hpage _ HK4.out).mono ?_
    rintro e w5 ⟨rfl, hk⟩
    clear d0 d1 d2 d3 d4 d5 d6 d7 d8 d9 d10 d11 d12 d13
    have HK5 := hid (HK4.out.trans hk)
    have HB5 := hid (HB4.out.same hk)
    clear hk HK4 HB4
    obtain ⟨d0, d1, d2, d3, d4, d5, d6, d7, d8, d9, d10, d11, d12, d13⟩ := HB5.out.all14
    cases b3 with
    | false =>
     go_wp2
     go_ret
     exact ⟨by first | rfl | simp, HK5.out⟩
    | true =>
     go_wp2_with fail
     refine (hslot _ HK5.out).mono ?_
     rintro e w6 ⟨rfl, hk⟩
     clear d0 d1 d2 d3 d4 d5 d6 d7 d8 d9 d10 d11 d12 d13
     have HK6 := hid (HK5.out.trans hk)
     have HB6 := hid (HB5.out.same hk)
     clear hk HK5 HB5
     obtain ⟨d0, d1, d2, d3, d4, d5, d6, d7, d8, d9, d10, d11, d12, d13⟩ := HB6.out.all14
     cases b4 with
     | false =>
      go_wp2
      go_ret
      exact ⟨by first | rfl | simp, HK6.out⟩
     | true =>
      go_wp2_with fail
      refine (hbef _ HK6.out).mono ?_
      rintro e w7 ⟨rfl, hk⟩
      clear d0 d1 d2 d3 d4 d5 d6 d7 d8 d9 d10 d11 d12 d13
      have HK7 := hid (HK6.out.trans hk)
      have HB7 := hid (HB6.out.same hk)
      clear hk HK6 HB6
      obtain ⟨d0, d1, d2, d3, d4, d5, d6, d7, d8, d9, d10, d11, d12, d13⟩ := HB7.out.all14
      cases b5 with
      | false =>
       go_wp2
       go_ret
       exact ⟨by first | rfl | simp, HK7.out⟩
      | true =>
       go_wp2_with fail
       refine (haft _ HK7.out).mono ?_
       rintro e w8 ⟨rfl, hk⟩
       clear d0 d1 d2 d3 d4 d5 d6 d7 d8 d9 d10 d11 d12 d13
       have HK8 := hid (HK7.out.trans hk)
       have HB8 := hid (HB7.out.same hk)
       clear hk HK7 HB7
       obtain ⟨d0, d1, d2, d3, d4, d5, d6, d7, d8, d9, d10, d11, d12, d13⟩ := HB8.out.all14
       cases b6 with
       | false =>
        go_wp2
        go_ret
        exact ⟨by first | rfl | simp, HK8.out⟩
       | true =>
        go_wp2_with fail
        refine (hund _ HK8.out).mono ?_
        rintro e w9 ⟨rfl, hk⟩
        clear d0 d1 d2 d3 d4 d5 d6 d7 d8 d9 d10 d11 d12 d13
        have HK9 := hid (HK8.out.trans hk)
        have HB9 := hid (HB8.out.same hk)
        clear hk HK8 HB8
        obtain ⟨d0, d1, d2, d3, d4, d5, d6, d7, d8, d9, d10, d11, d12, d13⟩ := HB9.out.all14
        cases b7 with
        | false =>
         go_wp2
         go_ret
         exact ⟨by first | rfl | simp, HK9.out⟩
        | true =>
         go_wp2
         go_ret
         exact ⟨by first | rfl | simp, HK9.out⟩
theorem recS_3 (txn : Int) (prev : Int) (page : Int) (slot : Int) (beforeu : Bool) (beforea : Option Addr) (beforen beforec : Nat) (afteru : Bool) (aftera : Option Addr) (aftern afterc : Nat) (uN : Int) (nT : Int) (txnsa : Option Addr) (txnsn txnsc : Nat) (dirtya : Option Addr) (dirtyn dirtyc : Nat) (imagea : Option Addr) (imagen imagec : Nat) (w : World) (EX b1 b2 b5 b6 : Bool) (PF : Int) (hkind : ∀ wx, Same w wx → Calls Tryz.prog 18 #[.int .i64 3, .int .i64 1, .int .i64 8] wx fun e w' => e = .returned (.bool true) ∧ Same wx w') (hex : ∀ wx, Same w wx → Calls Tryz.prog 37 #[.agg #[.int .i64 3, .int .i64 txn, .int .i64 prev, .int .i64 page, .int .i64 slot, .bool beforeu, .slice beforea beforen beforec, .bool afteru, .slice aftera aftern afterc, .int .i64 uN, .int .i64 nT, .slice txnsa txnsn txnsc, .slice dirtya dirtyn dirtyc, .slice imagea imagen imagec]] wx fun e w' => e = .returned (.bool EX) ∧ Same wx w') (htxn : ∀ wx, Same w wx → Calls Tryz.prog 18 #[.int .i64 txn, .int .i64 1, .int .i64 2147483647] wx fun e w' => e = .returned (.bool b1) ∧ Same wx w') (hprev : ∀ wx, Same w wx → Calls Tryz.prog 18 #[.int .i64 prev, .int .i64 0, .int .i64 1099511627776] wx fun e w' => e = .returned (.bool b2) ∧ Same wx w') (hbef : ∀ wx, Same w wx → Calls Tryz.prog 38 #[.agg #[.bool beforeu, .slice beforea beforen beforec]] wx fun e w' => e = .returned (.bool b5) ∧ Same wx w') (haft : ∀ wx, Same w wx → Calls Tryz.prog 38 #[.agg #[.bool afteru, .slice aftera aftern afterc]] wx fun e w' => e = .returned (.bool b6) ∧ Same wx w') :
  Calls Tryz.prog 17 #[.agg #[.int .i64 3, .int .i64 txn, .int .i64 prev, .int .i64 page, .int .i64 slot, .bool beforeu, .slice beforea beforen beforec, .bool afteru, .slice aftera aftern afterc, .int .i64 uN, .int .i64 nT, .slice txnsa txnsn txnsc, .slice dirtya dirtyn dirtyc, .slice imagea imagen imagec]] w fun e w' => e = .returned (.int .i64 (if EX = true then 2 else (if b1 = false then 3 else (if b2 = false then 4 else (if b5 = false then 6 else (if b6 = false then 6 else (0))))))) ∧ Same w w' := by
 obtain ⟨HK0, HB0⟩ := new1 w [.int .i64 3, .int .i64 txn, .int .i64 prev, .int .i64 page, .int .i64 slot, .bool beforeu, .slice beforea beforen beforec, .bool afteru, .slice aftera aftern afterc, .int .i64 uN, .int .i64 nT, .slice txnsa txnsn txnsc, .slice dirtya dirtyn dirtyc, .slice imagea imagen imagec] 35
 go_enter Tryz.func17, Tryz.ntmps17
 go_wp2_with fail
 refine (hkind _ HK0.out).mono ?_
 rintro e w1 ⟨rfl, hk⟩
 have HK1 := hid (HK0.out.trans hk)
 have HB1 := hid (HB0.out.same hk)
 clear hk HK0 HB0
 obtain ⟨d0, d1, d2, d3, d4, d5, d6, d7, d8, d9, d10, d11, d12, d13⟩ := HB1.out.all14
 go_wp2_with fail
 refine (hex _ HK1.out).mono ?_
 rintro e w2 ⟨rfl, hk⟩
 clear d0 d1 d2 d3 d4 d5 d6 d7 d8 d9 d10 d11 d12 d13
 have HK2 := hid (HK1.out.trans hk)
 have HB2 := hid (HB1.out.same hk)
 clear hk HK1 HB1
 obtain ⟨d0, d1, d2, d3, d4, d5, d6, d7, d8, d9, d10, d11, d12, d13⟩ := HB2.out.all14
 cases EX with
 | true =>
  go_wp2
  go_ret
  exact ⟨by first | rfl | simp, HK2.out⟩
 | false =>
  go_wp2_with fail
  refine (htxn _ HK2.out).mono ?_
  rintro e w3 ⟨rfl, hk⟩
  clear d0 d1 d2 d3 d4 d5 d6 d7 d8 d9 d10 d11 d12 d13
  have HK3 := hid (HK2.out.trans hk)
  have HB3 := hid (HB2.out.same hk)
  clear hk HK2 HB2
  obtain ⟨d0, d1, d2, d3, d4, d5, d6, d7, d8, d9, d10, d11, d12, d13⟩ := HB3.out.all14
  cases b1 with
  | false =>
   go_wp2
   go_ret
   exact ⟨by first | rfl | simp, HK3.out⟩
  | true =>
   go_wp2_with fail
   refine (hprev _ HK3.out).mono ?_
   rintro e w4 ⟨rfl, hk⟩
   clear d0 d1 d2 d3 d4 d5 d6 d7 d8 d9 d10 d11 d12 d13
   have HK4 := hid (HK3.out.trans hk)
   have HB4 := hid (HB3.out.same hk)
   clear hk HK3 HB3
   obtain ⟨d0, d1, d2, d3, d4, d5, d6, d7, d8, d9, d10, d11, d12, d13⟩ := HB4.out.all14
   cases b2 with
   | false =>
    go_wp2
    go_ret
    exact ⟨by first | rfl | simp, HK4.out⟩
   | true =>
    go_wp2_with fail
    refine (hbef _ HK4.out).mono ?_
    rintro e w5 ⟨rfl, hk⟩
    clear d0 d1 d2 d3 d4 d5 d6 d7 d8 d9 d10 d11 d12 d13
    have HK5 := hid (HK4.out.trans hk)
    have HB5 := hid (HB4.out.same hk)
    clear hk HK4 HB4
    obtain ⟨d0, d1, d2, d3, d4, d5, d6, d7, d8, d9, d10, d11, d12, d13⟩ := HB5.out.all14
    cases b5 with
    | false =>
     go_wp2
     go_ret
     exact ⟨by first | rfl | simp, HK5.out⟩
    | true =>
     go_wp2_with fail
     refine (haft _ HK5.out).mono ?_
     rintro e w6 ⟨rfl, hk⟩
     clear d0 d1 d2 d3 d4 d5 d6 d7 d8 d9 d10 d11 d12 d13
     have HK6 := hid (HK5.out.trans hk)
     have HB6 := hid (HB5.out.same hk)
     clear hk HK5 HB5
     obtain ⟨d0, d1, d2, d3, d4, d5, d6, d7, d8, d9, d10, d11, d12, d13⟩ := HB6.out.all14
     cases b6 with
     | false =>
      go_wp2
      go_ret
      exact ⟨by first | rfl | simp, HK6.out⟩
     | true =>
      go_wp2
      go_ret
      exact ⟨by first | rfl | simp, HK6.out⟩
theorem recS_4 (txn : Int) (prev : Int) (page : Int) (slot : Int) (beforeu : Bool) (beforea : Option Addr) (beforen beforec : Nat) (afteru : Bool) (aftera : Option Addr) (aftern afterc : Nat) (uN : Int) (nT : Int) (txnsa : Option Addr) (txnsn txnsc : Nat) (dirtya : Option Addr) (dirtyn dirtyc : Nat) (imagea : Option Addr) (imagen imagec : Nat) (w : World) (EX b1 b2 b5 b6 : Bool) (PF : Int) (hkind : ∀ wx, Same w wx → Calls Tryz.prog 18 #[.int .i64 4, .int .i64 1, .int .i64 8] wx fun e w' => e = .returned (.bool true) ∧ Same wx w') (hex : ∀ wx, Same w wx → Calls Tryz.prog 37 #[.agg #[.int .i64 4, .int .i64 txn, .int .i64 prev, .int .i64 page, .int .i64 slot, .bool beforeu, .slice beforea beforen beforec, .bool afteru, .slice aftera aftern afterc, .int .i64 uN, .int .i64 nT, .slice txnsa txnsn txnsc, .slice dirtya dirtyn dirtyc, .slice imagea imagen imagec]] wx fun e w' => e = .returned (.bool EX) ∧ Same wx w') (htxn : ∀ wx, Same w wx → Calls Tryz.prog 18 #[.int .i64 txn, .int .i64 1, .int .i64 2147483647] wx fun e w' => e = .returned (.bool b1) ∧ Same wx w') (hprev : ∀ wx, Same w wx → Calls Tryz.prog 18 #[.int .i64 prev, .int .i64 0, .int .i64 1099511627776] wx fun e w' => e = .returned (.bool b2) ∧ Same wx w') (hbef : ∀ wx, Same w wx → Calls Tryz.prog 38 #[.agg #[.bool beforeu, .slice beforea beforen beforec]] wx fun e w' => e = .returned (.bool b5) ∧ Same wx w') (haft : ∀ wx, Same w wx → Calls Tryz.prog 38 #[.agg #[.bool afteru, .slice aftera aftern afterc]] wx fun e w' => e = .returned (.bool b6) ∧ Same wx w') :
  Calls Tryz.prog 17 #[.agg #[.int .i64 4, .int .i64 txn, .int .i64 prev, .int .i64 page, .int .i64 slot, .bool beforeu, .slice beforea beforen beforec, .bool afteru, .slice aftera aftern afterc, .int .i64 uN, .int .i64 nT, .slice txnsa txnsn txnsc, .slice dirtya dirtyn dirtyc, .slice imagea imagen imagec]] w fun e w' => e = .returned (.int .i64 (if EX = true then 2 else (if b1 = false then 3 else (if b2 = false then 4 else (if b5 = false then 6 else (if b6 = false then 6 else (0))))))) ∧ Same w w' := by
 obtain ⟨HK0, HB0⟩ := new1 w [.int .i64 4, .int .i64 txn, .int .i64 prev, .int .i64 page, .int .i64 slot, .bool beforeu, .slice beforea beforen beforec, .bool afteru, .slice aftera aftern afterc, .int .i64 uN, .int .i64 nT, .slice txnsa txnsn txnsc, .slice dirtya dirtyn dirtyc, .slice imagea imagen imagec] 35
 go_enter Tryz.func17, Tryz.ntmps17
 go_wp2_with fail
 refine (hkind _ HK0.out).mono ?_
 rintro e w1 ⟨rfl, hk⟩
 have HK1 := hid (HK0.out.trans hk)
 have HB1 := hid (HB0.out.same hk)
 clear hk HK0 HB0
 obtain ⟨d0, d1, d2, d3, d4, d5, d6, d7, d8, d9, d10, d11, d12, d13⟩ := HB1.out.all14
 go_wp2_with fail
 refine (hex _ HK1.out).mono ?_
 rintro e w2 ⟨rfl, hk⟩
 clear d0 d1 d2 d3 d4 d5 d6 d7 d8 d9 d10 d11 d12 d13
 have HK2 := hid (HK1.out.trans hk)
 have HB2 := hid (HB1.out.same hk)
 clear hk HK1 HB1
 obtain ⟨d0, d1, d2, d3, d4, d5, d6, d7, d8, d9, d10, d11, d12, d13⟩ := HB2.out.all14
 cases EX with
 | true =>
  go_wp2
  go_ret
  exact ⟨by first | rfl | simp, HK2.out⟩
 | false =>
  go_wp2_with fail
  refine (htxn _ HK2.out).mono ?_
  rintro e w3 ⟨rfl, hk⟩
  clear d0 d1 d2 d3 d4 d5 d6 d7 d8 d9 d10 d11 d12 d13
  have HK3 := hid (HK2.out.trans hk)
  have HB3 := hid (HB2.out.same hk)
  clear hk HK2 HB2
  obtain ⟨d0, d1, d2, d3, d4, d5, d6, d7, d8, d9, d10, d11, d12, d13⟩ := HB3.out.all14
  cases b1 with
  | false =>
   go_wp2
   go_ret
   exact ⟨by first | rfl | simp, HK3.out⟩
  | true =>
   go_wp2_with fail
   refine (hprev _ HK3.out).mono ?_
   rintro e w4 ⟨rfl, hk⟩
   clear d0 d1 d2 d3 d4 d5 d6 d7 d8 d9 d10 d11 d12 d13
   have HK4 := hid (HK3.out.trans hk)
   have HB4 := hid (HB3.out.same hk)
   clear hk HK3 HB3
   obtain ⟨d0, d1, d2, d3, d4, d5, d6, d7, d8, d9, d10, d11, d12, d13⟩ := HB4.out.all14
   cases b2 with
   | false =>
    go_wp2
    go_ret
    exact ⟨by first | rfl | simp, HK4.out⟩
   | true =>
    go_wp2_with fail
    refine (hbef _ HK4.out).mono ?_
    rintro e w5 ⟨rfl, hk⟩
    clear d0 d1 d2 d3 d4 d5 d6 d7 d8 d9 d10 d11 d12 d13
    have HK5 := hid (HK4.out.trans hk)
    have HB5 := hid (HB4.out.same hk)
    clear hk HK4 HB4
    obtain ⟨d0, d1, d2, d3, d4, d5, d6, d7, d8, d9, d10, d11, d12, d13⟩ := HB5.out.all14
    cases b5 with
    | false =>
     go_wp2
     go_ret
     exact ⟨by first | rfl | simp, HK5.out⟩
    | true =>
     go_wp2_with fail
     refine (haft _ HK5.out).mono ?_
     rintro e w6 ⟨rfl, hk⟩
     clear d0 d1 d2 d3 d4 d5 d6 d7 d8 d9 d10 d11 d12 d13
     have HK6 := hid (HK5.out.trans hk)
     have HB6 := hid (HB5.out.same hk)
     clear hk HK5 HB5
     obtain ⟨d0, d1, d2, d3, d4, d5, d6, d7, d8, d9, d10, d11, d12, d13⟩ := HB6.out.all14
     cases b6 with
     | false =>
      go_wp2
      go_ret
      exact ⟨by first | rfl | simp, HK6.out⟩
     | true =>
      go_wp2
      go_ret
      exact ⟨by first | rfl | simp, HK6.out⟩
theorem recS_5 (txn : Int) (prev : Int) (page : Int) (slot : Int) (beforeu : Bool) (beforea : Option Addr) (beforen beforec : Nat) (afteru : Bool) (aftera : Option Addr) (aftern afterc : Nat) (uN : Int) (nT : Int) (txnsa : Option Addr) (txnsn txnsc : Nat) (dirtya : Option Addr) (dirtyn dirtyc : Nat) (imagea : Option Addr) (imagen imagec : Nat) (w : World) (EX b1 b2 b5 b6 : Bool) (PF : Int) (hkind : ∀ wx, Same w wx → Calls Tryz.prog 18 #[.int .i64 5, .int .i64 1, .int .i64 8] wx fun e w' => e = .returned (.bool true) ∧ Same wx w') (hex : ∀ wx, Same w wx → Calls Tryz.prog 37 #[.agg #[.int .i64 5, .int .i64 txn, .int .i64 prev, .int .i64 page, .int .i64 slot, .bool beforeu, .slice beforea beforen beforec, .bool afteru, .slice aftera aftern afterc, .int .i64 uN, .int .i64 nT, .slice txnsa txnsn txnsc, .slice dirtya dirtyn dirtyc, .slice imagea imagen imagec]] wx fun e w' => e = .returned (.bool EX) ∧ Same wx w') (htxn : ∀ wx, Same w wx → Calls Tryz.prog 18 #[.int .i64 txn, .int .i64 1, .int .i64 2147483647] wx fun e w' => e = .returned (.bool b1) ∧ Same wx w') (hprev : ∀ wx, Same w wx → Calls Tryz.prog 18 #[.int .i64 prev, .int .i64 0, .int .i64 1099511627776] wx fun e w' => e = .returned (.bool b2) ∧ Same wx w') (hbef : ∀ wx, Same w wx → Calls Tryz.prog 38 #[.agg #[.bool beforeu, .slice beforea beforen beforec]] wx fun e w' => e = .returned (.bool b5) ∧ Same wx w') (haft : ∀ wx, Same w wx → Calls Tryz.prog 38 #[.agg #[.bool afteru, .slice aftera aftern afterc]] wx fun e w' => e = .returned (.bool b6) ∧ Same wx w') :
  Calls Tryz.prog 17 #[.agg #[.int .i64 5, .int .i64 txn, .int .i64 prev, .int .i64 page, .int .i64 slot, .bool beforeu, .slice beforea beforen beforec, .bool afteru, .slice aftera aftern afterc, .int .i64 uN, .int .i64 nT, .slice txnsa txnsn txnsc, .slice dirtya dirtyn dirtyc, .slice imagea imagen imagec]] w fun e w' => e = .returned (.int .i64 (if EX = true then 2 else (if b1 = false then 3 else (if b2 = false then 4 else (if b5 = false then 6 else (if b6 = false then 6 else (0))))))) ∧ Same w w' := by
 obtain ⟨HK0, HB0⟩ := new1 w [.int .i64 5, .int .i64 txn, .int .i64 prev, .int .i64 page, .int .i64 slot, .bool beforeu, .slice beforea beforen beforec, .bool afteru, .slice aftera aftern afterc, .int .i64 uN, .int .i64 nT, .slice txnsa txnsn txnsc, .slice dirtya dirtyn dirtyc, .slice imagea imagen imagec] 35
 go_enter Tryz.func17, Tryz.ntmps17
 go_wp2_with fail
 refine (hkind _ HK0.out).mono ?_
 rintro e w1 ⟨rfl, hk⟩
 have HK1 := hid (HK0.out.trans hk)
 have HB1 := hid (HB0.out.same hk)
 clear hk HK0 HB0
 obtain ⟨d0, d1, d2, d3, d4, d5, d6, d7, d8, d9, d10, d11, d12, d13⟩ := HB1.out.all14
 go_wp2_with fail
 refine (hex _ HK1.out).mono ?_
 rintro e w2 ⟨rfl, hk⟩
 clear d0 d1 d2 d3 d4 d5 d6 d7 d8 d9 d10 d11 d12 d13
 have HK2 := hid (HK1.out.trans hk)
 have HB2 := hid (HB1.out.same hk)
 clear hk HK1 HB1
 obtain ⟨d0, d1, d2, d3, d4, d5, d6, d7, d8, d9, d10, d11, d12, d13⟩ := HB2.out.all14
 cases EX with
 | true =>
  go_wp2
  go_ret
  exact ⟨by first | rfl | simp, HK2.out⟩
 | false =>
  go_wp2_with fail
  refine (htxn _ HK2.out).mono ?_
  rintro e w3 ⟨rfl, hk⟩
  clear d0 d1 d2 d3 d4 d5 d6 d7 d8 d9 d10 d11 d12 d13
  have HK3 := hid (HK2.out.trans hk)
  have HB3 := hid (HB2.out.same hk)
  clear hk HK2 HB2
  obtain ⟨d0, d1, d2, d3, d4, d5, d6, d7, d8, d9, d10, d11, d12, d13⟩ := HB3.out.all14
  cases b1 with
  | false =>
   go_wp2
   go_ret
   exact ⟨by first | rfl | simp, HK3.out⟩
  | true =>
   go_wp2_with fail
   refine (hprev _ HK3.out).mono ?_
   rintro e w4 ⟨rfl, hk⟩
   clear d0 d1 d2 d3 d4 d5 d6 d7 d8 d9 d10 d11 d12 d13
   have HK4 := hid (HK3.out.trans hk)
   have HB4 := hid (HB3.out.same hk)
   clear hk HK3 HB3
   obtain ⟨d0, d1, d2, d3, d4, d5, d6, d7, d8, d9, d10, d11, d12, d13⟩ := HB4.out.all14
   cases b2 with
   | false =>
    go_wp2
    go_ret
    exact ⟨by first | rfl | simp, HK4.out⟩
   | true =>
    go_wp2_with fail
    refine (hbef _ HK4.out).mono ?_
    rintro e w5 ⟨rfl, hk⟩
    clear d0 d1 d2 d3 d4 d5 d6 d7 d8 d9 d10 d11 d12 d13
    have HK5 := hid (HK4.out.trans hk)
    have HB5 := hid (HB4.out.same hk)
    clear hk HK4 HB4
    obtain ⟨d0, d1, d2, d3, d4, d5, d6, d7, d8, d9, d10, d11, d12, d13⟩ := HB5.out.all14
    cases b5 with
    | false =>
     go_wp2
     go_ret
     exact ⟨by first | rfl | simp, HK5.out⟩
    | true =>
     go_wp2_with fail
     refine (haft _ HK5.out).mono ?_
     rintro e w6 ⟨rfl, hk⟩
     clear d0 d1 d2 d3 d4 d5 d6 d7 d8 d9 d10 d11 d12 d13
     have HK6 := hid (HK5.out.trans hk)
     have HB6 := hid (HB5.out.same hk)
     clear hk HK5 HB5
     obtain ⟨d0, d1, d2, d3, d4, d5, d6, d7, d8, d9, d10, d11, d12, d13⟩ := HB6.out.all14
     cases b6 with
     | false =>
      go_wp2
      go_ret
      exact ⟨by first | rfl | simp, HK6.out⟩
     | true =>
      go_wp2
      go_ret
      exact ⟨by first | rfl | simp, HK6.out⟩
theorem recS_6 (txn : Int) (prev : Int) (page : Int) (slot : Int) (beforeu : Bool) (beforea : Option Addr) (beforen beforec : Nat) (afteru : Bool) (aftera : Option Addr) (aftern afterc : Nat) (uN : Int) (nT : Int) (txnsa : Option Addr) (txnsn txnsc : Nat) (dirtya : Option Addr) (dirtyn dirtyc : Nat) (imagea : Option Addr) (imagen imagec : Nat) (w : World) (EX b2 b5 b6 : Bool) (PF : Int) (hkind : ∀ wx, Same w wx → Calls Tryz.prog 18 #[.int .i64 6, .int .i64 1, .int .i64 8] wx fun e w' => e = .returned (.bool true) ∧ Same wx w') (hex : ∀ wx, Same w wx → Calls Tryz.prog 37 #[.agg #[.int .i64 6, .int .i64 txn, .int .i64 prev, .int .i64 page, .int .i64 slot, .bool beforeu, .slice beforea beforen beforec, .bool afteru, .slice aftera aftern afterc, .int .i64 uN, .int .i64 nT, .slice txnsa txnsn txnsc, .slice dirtya dirtyn dirtyc, .slice imagea imagen imagec]] wx fun e w' => e = .returned (.bool EX) ∧ Same wx w') (hprev : ∀ wx, Same w wx → Calls Tryz.prog 18 #[.int .i64 prev, .int .i64 0, .int .i64 1099511627776] wx fun e w' => e = .returned (.bool b2) ∧ Same wx w') (hbef : ∀ wx, Same w wx → Calls Tryz.prog 38 #[.agg #[.bool beforeu, .slice beforea beforen beforec]] wx fun e w' => e = .returned (.bool b5) ∧ Same wx w') (haft : ∀ wx, Same w wx → Calls Tryz.prog 38 #[.agg #[.bool afteru, .slice aftera aftern afterc]] wx fun e w' => e = .returned (.bool b6) ∧ Same wx w') :
  Calls Tryz.prog 17 #[.agg #[.int .i64 6, .int .i64 txn, .int .i64 prev, .int .i64 page, .int .i64 slot, .bool beforeu, .slice beforea beforen beforec, .bool afteru, .slice aftera aftern afterc, .int .i64 uN, .int .i64 nT, .slice txnsa txnsn txnsc, .slice dirtya dirtyn dirtyc, .slice imagea imagen imagec]] w fun e w' => e = .returned (.int .i64 (if EX = true then 2 else (if b2 = false then 4 else (if b5 = false then 6 else (if b6 = false then 6 else (0)))))) ∧ Same w w' := by
 obtain ⟨HK0, HB0⟩ := new1 w [.int .i64 6, .int .i64 txn, .int .i64 prev, .int .i64 page, .int .i64 slot, .bool beforeu, .slice beforea beforen beforec, .bool afteru, .slice aftera aftern afterc, .int .i64 uN, .int .i64 nT, .slice txnsa txnsn txnsc, .slice dirtya dirtyn dirtyc, .slice imagea imagen imagec] 35
 go_enter Tryz.func17, Tryz.ntmps17
 go_wp2_with fail
 refine (hkind _ HK0.out).mono ?_
 rintro e w1 ⟨rfl, hk⟩
 have HK1 := hid (HK0.out.trans hk)
 have HB1 := hid (HB0.out.same hk)
 clear hk HK0 HB0
 obtain ⟨d0, d1, d2, d3, d4, d5, d6, d7, d8, d9, d10, d11, d12, d13⟩ := HB1.out.all14
 go_wp2_with fail
 refine (hex _ HK1.out).mono ?_
 rintro e w2 ⟨rfl, hk⟩
 clear d0 d1 d2 d3 d4 d5 d6 d7 d8 d9 d10 d11 d12 d13
 have HK2 := hid (HK1.out.trans hk)
 have HB2 := hid (HB1.out.same hk)
 clear hk HK1 HB1
 obtain ⟨d0, d1, d2, d3, d4, d5, d6, d7, d8, d9, d10, d11, d12, d13⟩ := HB2.out.all14
 cases EX with
 | true =>
  go_wp2
  go_ret
  exact ⟨by first | rfl | simp, HK2.out⟩
 | false =>
  go_wp2_with fail
  refine (hprev _ HK2.out).mono ?_
  rintro e w3 ⟨rfl, hk⟩
  clear d0 d1 d2 d3 d4 d5 d6 d7 d8 d9 d10 d11 d12 d13
  have HK3 := hid (HK2.out.trans hk)
  have HB3 := hid (HB2.out.same hk)
  clear hk HK2 HB2
  obtain ⟨d0, d1, d2, d3, d4, d5, d6, d7, d8, d9, d10, d11, d12, d13⟩ := HB3.out.all14
  cases b2 with
  | false =>
   go_wp2
   go_ret
   exact ⟨by first | rfl | simp, HK3.out⟩
  | true =>
   go_wp2_with fail
   refine (hbef _ HK3.out).mono ?_
   rintro e w4 ⟨rfl, hk⟩
   clear d0 d1 d2 d3 d4 d5 d6 d7 d8 d9 d10 d11 d12 d13
   have HK4 := hid (HK3.out.trans hk)
   have HB4 := hid (HB3.out.same hk)
   clear hk HK3 HB3
   obtain ⟨d0, d1, d2, d3, d4, d5, d6, d7, d8, d9, d10, d11, d12, d13⟩ := HB4.out.all14
   cases b5 with
   | false =>
    go_wp2
    go_ret
    exact ⟨by first | rfl | simp, HK4.out⟩
   | true =>
    go_wp2_with fail
    refine (haft _ HK4.out).mono ?_
    rintro e w5 ⟨rfl, hk⟩
    clear d0 d1 d2 d3 d4 d5 d6 d7 d8 d9 d10 d11 d12 d13
    have HK5 := hid (HK4.out.trans hk)
    have HB5 := hid (HB4.out.same hk)
    clear hk HK4 HB4
    obtain ⟨d0, d1, d2, d3, d4, d5, d6, d7, d8, d9, d10, d11, d12, d13⟩ := HB5.out.all14
    cases b6 with
    | false =>
     go_wp2
     go_ret
     exact ⟨by first | rfl | simp, HK5.out⟩
    | true =>
     go_wp2
     go_ret
     exact ⟨by first | rfl | simp, HK5.out⟩
theorem recS_7 (txn : Int) (prev : Int) (page : Int) (slot : Int) (beforeu : Bool) (beforea : Option Addr) (beforen beforec : Nat) (afteru : Bool) (aftera : Option Addr) (aftern afterc : Nat) (uN : Int) (nT : Int) (txnsa : Option Addr) (txnsn txnsc : Nat) (dirtya : Option Addr) (dirtyn dirtyc : Nat) (imagea : Option Addr) (imagen imagec : Nat) (w : World) (EX b2 b5 b6 b8 : Bool) (PF : Int) (hkind : ∀ wx, Same w wx → Calls Tryz.prog 18 #[.int .i64 7, .int .i64 1, .int .i64 8] wx fun e w' => e = .returned (.bool true) ∧ Same wx w') (hex : ∀ wx, Same w wx → Calls Tryz.prog 37 #[.agg #[.int .i64 7, .int .i64 txn, .int .i64 prev, .int .i64 page, .int .i64 slot, .bool beforeu, .slice beforea beforen beforec, .bool afteru, .slice aftera aftern afterc, .int .i64 uN, .int .i64 nT, .slice txnsa txnsn txnsc, .slice dirtya dirtyn dirtyc, .slice imagea imagen imagec]] wx fun e w' => e = .returned (.bool EX) ∧ Same wx w') (hprev : ∀ wx, Same w wx → Calls Tryz.prog 18 #[.int .i64 prev, .int .i64 0, .int .i64 1099511627776] wx fun e w' => e = .returned (.bool b2) ∧ Same wx w') (hbef : ∀ wx, Same w wx → Calls Tryz.prog 38 #[.agg #[.bool beforeu, .slice beforea beforen beforec]] wx fun e w' => e = .returned (.bool b5) ∧ Same wx w') (haft : ∀ wx, Same w wx → Calls Tryz.prog 38 #[.agg #[.bool afteru, .slice aftera aftern afterc]] wx fun e w' => e = .returned (.bool b6) ∧ Same wx w') (htab : ∀ wx, Same w wx → Calls Tryz.prog 39 #[.agg #[.int .i64 7, .int .i64 txn, .int .i64 prev, .int .i64 page, .int .i64 slot, .bool beforeu, .slice beforea beforen beforec, .bool afteru, .slice aftera aftern afterc, .int .i64 uN, .int .i64 nT, .slice txnsa txnsn txnsc, .slice dirtya dirtyn dirtyc, .slice imagea imagen imagec]] wx fun e w' => e = .returned (.bool b8) ∧ Same wx w') :
  Calls Tryz.prog 17 #[.agg #[.int .i64 7, .int .i64 txn, .int .i64 prev, .int .i64 page, .int .i64 slot, .bool beforeu, .slice beforea beforen beforec, .bool afteru, .slice aftera aftern afterc, .int .i64 uN, .int .i64 nT, .slice txnsa txnsn txnsc, .slice dirtya dirtyn dirtyc, .slice imagea imagen imagec]] w fun e w' => e = .returned (.int .i64 (if EX = true then 2 else (if b2 = false then 4 else (if b5 = false then 6 else (if b6 = false then 6 else (if b8 = false then 8 else (0))))))) ∧ Same w w' := by
 obtain ⟨HK0, HB0⟩ := new1 w [.int .i64 7, .int .i64 txn, .int .i64 prev, .int .i64 page, .int .i64 slot, .bool beforeu, .slice beforea beforen beforec, .bool afteru, .slice aftera aftern afterc, .int .i64 uN, .int .i64 nT, .slice txnsa txnsn txnsc, .slice dirtya dirtyn dirtyc, .slice imagea imagen imagec] 35
 go_enter Tryz.func17, Tryz.ntmps17
 go_wp2_with fail
 refine (hkind _ HK0.out).mono ?_
 rintro e w1 ⟨rfl, hk⟩
 have HK1 := hid (HK0.out.trans hk)
 have HB1 := hid (HB0.out.same hk)
 clear hk HK0 HB0
 obtain ⟨d0, d1, d2, d3, d4, d5, d6, d7, d8, d9, d10, d11, d12, d13⟩ := HB1.out.all14
 go_wp2_with fail
 refine (hex _ HK1.out).mono ?_
 rintro e w2 ⟨rfl, hk⟩
 clear d0 d1 d2 d3 d4 d5 d6 d7 d8 d9 d10 d11 d12 d13
 have HK2 := hid (HK1.out.trans hk)
 have HB2 := hid (HB1.out.same hk)
 clear hk HK1 HB1
 obtain ⟨d0, d1, d2, d3, d4, d5, d6, d7, d8, d9, d10, d11, d12, d13⟩ := HB2.out.all14
 cases EX with
 | true =>
  go_wp2
  go_ret
  exact ⟨by first | rfl | simp, HK2.out⟩
 | false =>
  go_wp2_with fail
  refine (hprev _ HK2.out).mono ?_
  rintro e w3 ⟨rfl, hk⟩
  clear d0 d1 d2 d3 d4 d5 d6 d7 d8 d9 d10 d11 d12 d13
  have HK3 := hid (HK2.out.trans hk)
  have HB3 := hid (HB2.out.same hk)
  clear hk HK2 HB2
  obtain ⟨d0, d1, d2, d3, d4, d5, d6, d7, d8, d9, d10, d11, d12, d13⟩ := HB3.out.all14
  cases b2 with
  | false =>
   go_wp2
   go_ret
   exact ⟨by first | rfl | simp, HK3.out⟩
  | true =>
   go_wp2_with fail
   refine (hbef _ HK3.out).mono ?_
   rintro e w4 ⟨rfl, hk⟩
   clear d0 d1 d2 d3 d4 d5 d6 d7 d8 d9 d10 d11 d12 d13
   have HK4 := hid (HK3.out.trans hk)
   have HB4 := hid (HB3.out.same hk)
   clear hk HK3 HB3
   obtain ⟨d0, d1, d2, d3, d4, d5, d6, d7, d8, d9, d10, d11, d12, d13⟩ := HB4.out.all14
   cases b5 with
   | false =>
    go_wp2
    go_ret
    exact ⟨by first | rfl | simp, HK4.out⟩
   | true =>
    go_wp2_with fail
    refine (haft _ HK4.out).mono ?_
    rintro e w5 ⟨rfl, hk⟩
    clear d0 d1 d2 d3 d4 d5 d6 d7 d8 d9 d10 d11 d12 d13
    have HK5 := hid (HK4.out.trans hk)
    have HB5 := hid (HB4.out.same hk)
    clear hk HK4 HB4
    obtain ⟨d0, d1, d2, d3, d4, d5, d6, d7, d8, d9, d10, d11, d12, d13⟩ := HB5.out.all14
    cases b6 with
    | false =>
     go_wp2
     go_ret
     exact ⟨by first | rfl | simp, HK5.out⟩
    | true =>
     go_wp2_with fail
     refine (htab _ HK5.out).mono ?_
     rintro e w6 ⟨rfl, hk⟩
     clear d0 d1 d2 d3 d4 d5 d6 d7 d8 d9 d10 d11 d12 d13
     have HK6 := hid (HK5.out.trans hk)
     have HB6 := hid (HB5.out.same hk)
     clear hk HK5 HB5
     obtain ⟨d0, d1, d2, d3, d4, d5, d6, d7, d8, d9, d10, d11, d12, d13⟩ := HB6.out.all14
     cases b8 with
     | false =>
      go_wp2
      go_ret
      exact ⟨by first | rfl | simp, HK6.out⟩
     | true =>
      go_wp2
      go_ret
      exact ⟨by first | rfl | simp, HK6.out⟩
theorem recS_8 (txn : Int) (prev : Int) (page : Int) (slot : Int) (beforeu : Bool) (beforea : Option Addr) (beforen beforec : Nat) (afteru : Bool) (aftera : Option Addr) (aftern afterc : Nat) (uN : Int) (nT : Int) (txnsa : Option Addr) (txnsn txnsc : Nat) (dirtya : Option Addr) (dirtyn dirtyc : Nat) (imagea : Option Addr) (imagen imagec : Nat) (w : World) (EX b2 b3 b5 b6 : Bool) (PF : Int) (hkind : ∀ wx, Same w wx → Calls Tryz.prog 18 #[.int .i64 8, .int .i64 1, .int .i64 8] wx fun e w' => e = .returned (.bool true) ∧ Same wx w') (hex : ∀ wx, Same w wx → Calls Tryz.prog 37 #[.agg #[.int .i64 8, .int .i64 txn, .int .i64 prev, .int .i64 page, .int .i64 slot, .bool beforeu, .slice beforea beforen beforec, .bool afteru, .slice aftera aftern afterc, .int .i64 uN, .int .i64 nT, .slice txnsa txnsn txnsc, .slice dirtya dirtyn dirtyc, .slice imagea imagen imagec]] wx fun e w' => e = .returned (.bool EX) ∧ Same wx w') (hprev : ∀ wx, Same w wx → Calls Tryz.prog 18 #[.int .i64 prev, .int .i64 0, .int .i64 1099511627776] wx fun e w' => e = .returned (.bool b2) ∧ Same wx w') (hpage : ∀ wx, Same w wx → Calls Tryz.prog 18 #[.int .i64 page, .int .i64 0, .int .i64 15] wx fun e w' => e = .returned (.bool b3) ∧ Same wx w') (hbef : ∀ wx, Same w wx → Calls Tryz.prog 38 #[.agg #[.bool beforeu, .slice beforea beforen beforec]] wx fun e w' => e = .returned (.bool b5) ∧ Same wx w') (haft : ∀ wx, Same w wx → Calls Tryz.prog 38 #[.agg #[.bool afteru, .slice aftera aftern afterc]] wx fun e w' => e = .returned (.bool b6) ∧ Same wx w') (hpf : ∀ wx, Same w wx → Calls Tryz.prog 40 #[.slice imagea imagen imagec, .int .i64 page] wx fun e w' => e = .returned (.int .i64 PF) ∧ Same wx w') :
  Calls Tryz.prog 17 #[.agg #[.int .i64 8, .int .i64 txn, .int .i64 prev, .int .i64 page, .int .i64 slot, .bool beforeu, .slice beforea beforen beforec, .bool afteru, .slice aftera aftern afterc, .int .i64 uN, .int .i64 nT, .slice txnsa txnsn txnsc, .slice dirtya dirtyn dirtyc, .slice imagea imagen imagec]] w fun e w' => e = .returned (.int .i64 (if EX = true then 2 else (if b2 = false then 4 else (if b3 = false then 5 else (if b5 = false then 6 else (if b6 = false then 6 else (if PF ≠ 0 then 9 else (0)))))))) ∧ Same w w' := by
 obtain ⟨HK0, HB0⟩ := new1 w [.int .i64 8, .int .i64 txn, .int .i64 prev, .int .i64 page, .int .i64 slot, .bool beforeu, .slice beforea beforen beforec, .bool afteru, .slice aftera aftern afterc, .int .i64 uN, .int .i64 nT, .slice txnsa txnsn txnsc, .slice dirtya dirtyn dirtyc, .slice imagea imagen imagec] 35
 go_enter Tryz.func17, Tryz.ntmps17
 go_wp2_with fail
 refine (hkind _ HK0.out).mono ?_
 rintro e w1 ⟨rfl, hk⟩
 have HK1 := hid (HK0.out.trans hk)
 have HB1 := hid (HB0.out.same hk)
 clear hk HK0 HB0
 obtain ⟨d0, d1, d2, d3, d4, d5, d6, d7, d8, d9, d10, d11, d12, d13⟩ := HB1.out.all14
 go_wp2_with fail
 refine (hex _ HK1.out).mono ?_
 rintro e w2 ⟨rfl, hk⟩
 clear d0 d1 d2 d3 d4 d5 d6 d7 d8 d9 d10 d11 d12 d13
 have HK2 := hid (HK1.out.trans hk)
 have HB2 := hid (HB1.out.same hk)
 clear hk HK1 HB1
 obtain ⟨d0, d1, d2, d3, d4, d5, d6, d7, d8, d9, d10, d11, d12, d13⟩ := HB2.out.all14
 cases EX with
 | true =>
  go_wp2
  go_ret
  exact ⟨by first | rfl | simp, HK2.out⟩
 | false =>
  go_wp2_with fail
  refine (hprev _ HK2.out).mono ?_
  rintro e w3 ⟨rfl, hk⟩
  clear d0 d1 d2 d3 d4 d5 d6 d7 d8 d9 d10 d11 d12 d13
  have HK3 := hid (HK2.out.trans hk)
  have HB3 := hid (HB2.out.same hk)
  clear hk HK2 HB2
  obtain ⟨d0, d1, d2, d3, d4, d5, d6, d7, d8, d9, d10, d11, d12, d13⟩ := HB3.out.all14
  cases b2 with
  | false =>
   go_wp2
   go_ret
   exact ⟨by first | rfl | simp, HK3.out⟩
  | true =>
   go_wp2_with fail
   refine (hpage _ HK3.out).mono ?_
   rintro e w4 ⟨rfl, hk⟩
   clear d0 d1 d2 d3 d4 d5 d6 d7 d8 d9 d10 d11 d12 d13
   have HK4 := hid (HK3.out.trans hk)
   have HB4 := hid (HB3.out.same hk)
   clear hk HK3 HB3
   obtain ⟨d0, d1, d2, d3, d4, d5, d6, d7, d8, d9, d10, d11, d12, d13⟩ := HB4.out.all14
   cases b3 with
   | false =>
    go_wp2
    go_ret
    exact ⟨by first | rfl | simp, HK4.out⟩
   | true =>
    go_wp2_with fail
    refine (hbef _ HK4.out).mono ?_
    rintro e w5 ⟨rfl, hk⟩
    clear d0 d1 d2 d3 d4 d5 d6 d7 d8 d9 d10 d11 d12 d13
    have HK5 := hid (HK4.out.trans hk)
    have HB5 := hid (HB4.out.same hk)
    clear hk HK4 HB4
    obtain ⟨d0, d1, d2, d3, d4, d5, d6, d7, d8, d9, d10, d11, d12, d13⟩ := HB5.out.all14
    cases b5 with
    | false =>
     go_wp2
     go_ret
     exact ⟨by first | rfl | simp, HK5.out⟩
    | true =>
     go_wp2_with fail
     refine (haft _ HK5.out).mono ?_
     rintro e w6 ⟨rfl, hk⟩
     clear d0 d1 d2 d3 d4 d5 d6 d7 d8 d9 d10 d11 d12 d13
     have HK6 := hid (HK5.out.trans hk)
     have HB6 := hid (HB5.out.same hk)
     clear hk HK5 HB5
     obtain ⟨d0, d1, d2, d3, d4, d5, d6, d7, d8, d9, d10, d11, d12, d13⟩ := HB6.out.all14
     cases b6 with
     | false =>
      go_wp2
      go_ret
      exact ⟨by first | rfl | simp, HK6.out⟩
     | true =>
      go_wp2_with fail
      refine (hpf _ HK6.out).mono ?_
      rintro e w7 ⟨rfl, hk⟩
      clear d0 d1 d2 d3 d4 d5 d6 d7 d8 d9 d10 d11 d12 d13
      have HK7 := hid (HK6.out.trans hk)
      have HB7 := hid (HB6.out.same hk)
      clear hk HK6 HB6
      obtain ⟨d0, d1, d2, d3, d4, d5, d6, d7, d8, d9, d10, d11, d12, d13⟩ := HB7.out.all14
      by_cases hz : PF = 0
      ·subst hz
       go_wp2
       go_ret
       exact ⟨rfl, HK7.out⟩
      ·go_wp2
       go_ret
       exact ⟨by simp [hz], HK7.out⟩
end Go.Proofs.YtdgmecmkkddpeaaGreat
