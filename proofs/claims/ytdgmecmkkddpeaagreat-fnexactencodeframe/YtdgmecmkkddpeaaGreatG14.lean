import Derived.Test.YtdgmecmkkddpeaaGreatG05
import Derived.Test.YtdgmecmkkddpeaaGreatTyLogRecord
namespace Go.Proofs.YtdgmecmkkddpeaaGreat
set_option maxRecDepth 100000
set_option maxHeartbeats 16000000
set_option linter.unusedVariables false
set_option linter.unusedSimpArgs false
open Go.RowKit
theorem sameSlots_any (x y : StPageRecord) (w : World) (hbx : IsB x.data.bs) (hby : IsB y.data.bs) (hx : StPageRecord.rd w x) (hy : StPageRecord.rd w y) :
  Calls Tryz.prog 62 #[x.val, y.val] w fun e w' => e = .returned (.bool (x.used == y.used && decide (x.data.bs = y.data.bs))) ∧ Same w w' := by
 obtain ⟨xu, ⟨xe, xa, xc, xb⟩⟩ := x
 obtain ⟨yu, ⟨ye, ya, yc, yb⟩⟩ := y
 dsimp only [StPageRecord.val, BS.v, StPageRecord.rd] at *
 by_cases hu : xu = yu
 ·subst hu
  have hE : (xu == xu && decide (xb = yb)) = decide (xb = yb) := by simp
  rw [hE]
  have hc := bytesEq_any (.slice xa xb.length xc) (.slice ya yb.length yc) xb yb ((w.alloc (.cells #[.bool xu, .slice xa xb.length xc] 31)).alloc (.cells #[.bool xu, .slice ya yb.length yc] 31)) hbx hby (hx.same (((Kept.refl _ _).alloc _).alloc _)) (hy.same (((Kept.refl _ _).alloc _).alloc _))
  generalize decide (xb = yb) = B at *
  clear hE hx hy hbx hby
  go_enter Tryz.func62, Tryz.ntmps62
  go_wp2_with (go_at_call 65; refine hc.mono ?_; rintro e w1 ⟨rfl, hk1⟩)
  go_ret
  exact ⟨rfl, (((Kept.refl _ _).alloc _).alloc _).trans hk1⟩
 ·have hE : (xu == yu && decide (xb = yb)) = false := by simp [hu]
  rw [hE]
  clear hE hx hy hbx hby
  cases xu <;> cases yu <;> first | exact absurd rfl hu | skip
  all_goals
   go_enter Tryz.func62, Tryz.ntmps62
   go_wp2
   go_ret
   exact ⟨rfl, ((Kept.refl _ _).alloc _).alloc _⟩
theorem sameRecords_1 (xkind : Int) (xtxn : Int) (xprev : Int) (xpage : Int) (xslot : Int) (xbeforeu : Bool) (xbeforea : Option Addr) (xbeforen xbeforec : Nat) (xafteru : Bool) (xaftera : Option Addr) (xaftern xafterc : Nat) (xuN : Int) (xnT : Int) (xtxnsa : Option Addr) (xtxnsn xtxnsc : Nat) (xdirtya : Option Addr) (xdirtyn xdirtyc : Nat) (ximagea : Option Addr) (ximagen ximagec : Nat) (ykind : Int) (ytxn : Int) (yprev : Int) (ypage : Int) (yslot : Int) (ybeforeu : Bool) (ybeforea : Option Addr) (ybeforen ybeforec : Nat) (yafteru : Bool) (yaftera : Option Addr) (yaftern yafterc : Nat) (yuN : Int) (ynT : Int) (ytxnsa : Option Addr) (ytxnsn ytxnsc : Nat) (ydirtya : Option Addr) (ydirtyn ydirtyc : Nat) (yimagea : Option Addr) (yimagen yimagec : Nat) (w : World) (ekind : xkind = ykind) (etxn : ¬ xtxn = ytxn) :
  Calls Tryz.prog 56 #[.agg #[.int .i64 xkind, .int .i64 xtxn, .int .i64 xprev, .int .i64 xpage, .int .i64 xslot, .bool xbeforeu, .slice xbeforea xbeforen xbeforec, .bool xafteru, .slice xaftera xaftern xafterc, .int .i64 xuN, .int .i64 xnT, .slice xtxnsa xtxnsn xtxnsc, .slice xdirtya xdirtyn xdirtyc, .slice ximagea ximagen ximagec], .agg #[.int .i64 ykind, .int .i64 ytxn, .int .i64 yprev, .int .i64 ypage, .int .i64 yslot, .bool ybeforeu, .slice ybeforea ybeforen ybeforec, .bool yafteru, .slice yaftera yaftern yafterc, .int .i64 yuN, .int .i64 ynT, .slice ytxnsa ytxnsn ytxnsc, .slice ydirtya ydirtyn ydirtyc, .slice yimagea yimagen yimagec]] w fun e w' => e = .returned (.bool false) ∧ Same w w' := by
 subst ekind
 obtain ⟨HK0, HA0, HB0⟩ := new2 w [.int .i64 xkind, .int .i64 xtxn, .int .i64 xprev, .int .i64 xpage, .int .i64 xslot, .bool xbeforeu, .slice xbeforea xbeforen xbeforec, .bool xafteru, .slice xaftera xaftern xafterc, .int .i64 xuN, .int .i64 xnT, .slice xtxnsa xtxnsn xtxnsc, .slice xdirtya xdirtyn xdirtyc, .slice ximagea ximagen ximagec] 35 [.int .i64 xkind, .int .i64 ytxn, .int .i64 yprev, .int .i64 ypage, .int .i64 yslot, .bool ybeforeu, .slice ybeforea ybeforen ybeforec, .bool yafteru, .slice yaftera yaftern yafterc, .int .i64 yuN, .int .i64 ynT, .slice ytxnsa ytxnsn ytxnsc, .slice ydirtya ydirtyn ydirtyc, .slice yimagea yimagen yimagec] 35
 go_enter Tryz.func56, Tryz.ntmps56
 go_wp2
 go_ret
 exact ⟨rfl, HK0.out⟩
theorem sameRecords_2 (xkind : Int) (xtxn : Int) (xprev : Int) (xpage : Int) (xslot : Int) (xbeforeu : Bool) (xbeforea : Option Addr) (xbeforen xbeforec : Nat) (xafteru : Bool) (xaftera : Option Addr) (xaftern xafterc : Nat) (xuN : Int) (xnT : Int) (xtxnsa : Option Addr) (xtxnsn xtxnsc : Nat) (xdirtya : Option Addr) (xdirtyn xdirtyc : Nat) (ximagea : Option Addr) (ximagen ximagec : Nat) (ykind : Int) (ytxn : Int) (yprev : Int) (ypage : Int) (yslot : Int) (ybeforeu : Bool) (ybeforea : Option Addr) (ybeforen ybeforec : Nat) (yafteru : Bool) (yaftera : Option Addr) (yaftern yafterc : Nat) (yuN : Int) (ynT : Int) (ytxnsa : Option Addr) (ytxnsn ytxnsc : Nat) (ydirtya : Option Addr) (ydirtyn ydirtyc : Nat) (yimagea : Option Addr) (yimagen yimagec : Nat) (w : World) (ekind : xkind = ykind) (etxn : xtxn = ytxn) (eprev : ¬ xprev = yprev) :
  Calls Tryz.prog 56 #[.agg #[.int .i64 xkind, .int .i64 xtxn, .int .i64 xprev, .int .i64 xpage, .int .i64 xslot, .bool xbeforeu, .slice xbeforea xbeforen xbeforec, .bool xafteru, .slice xaftera xaftern xafterc, .int .i64 xuN, .int .i64 xnT, .slice xtxnsa xtxnsn xtxnsc, .slice xdirtya xdirtyn xdirtyc, .slice ximagea ximagen ximagec], .agg #[.int .i64 ykind, .int .i64 ytxn, .int .i64 yprev, .int .i64 ypage, .int .i64 yslot, .bool ybeforeu, .slice ybeforea ybeforen ybeforec, .bool yafteru, .slice yaftera yaftern yafterc, .int .i64 yuN, .int .i64 ynT, .slice ytxnsa ytxnsn ytxnsc, .slice ydirtya ydirtyn ydirtyc, .slice yimagea yimagen yimagec]] w fun e w' => e = .returned (.bool false) ∧ Same w w' := by
 subst ekind
 subst etxn
 obtain ⟨HK0, HA0, HB0⟩ := new2 w [.int .i64 xkind, .int .i64 xtxn, .int .i64 xprev, .int .i64 xpage, .int .i64 xslot, .bool xbeforeu, .slice xbeforea xbeforen xbeforec, .bool xafteru, .slice xaftera xaftern xafterc, .int .i64 xuN, .int .i64 xnT, .slice xtxnsa xtxnsn xtxnsc, .slice xdirtya xdirtyn xdirtyc, .slice ximagea ximagen ximagec] 35 [.int .i64 xkind, .int .i64 xtxn, .int .i64 yprev, .int .i64 ypage, .int .i64 yslot, .bool ybeforeu, .slice ybeforea ybeforen ybeforec, .bool yafteru, .slice yaftera yaftern yafterc, .int .i64 yuN, .int .i64 ynT, .slice ytxnsa ytxnsn ytxnsc, .slice ydirtya ydirtyn ydirtyc, .slice yimagea yimagen yimagec] 35
 go_enter Tryz.func56, Tryz.ntmps56
 go_wp2
 go_ret
 exact ⟨rfl, HK0.out⟩
theorem sameRecords_3 (xkind : Int) (xtxn : Int) (xprev : Int) (xpage : Int) (xslot : Int) (xbeforeu : Bool) (xbeforea : Option Addr) (xbeforen xbeforec : Nat) (xafteru : Bool) (xaftera : Option Addr) (xaftern xafterc : Nat) (xuN : Int) (xnT : Int) (xtxnsa : Option Addr) (xtxnsn xtxnsc : Nat) (xdirtya : Option Addr) (xdirtyn xdirtyc : Nat) (ximagea : Option Addr) (ximagen ximagec : Nat) (ykind : Int) (ytxn : Int) (yprev : Int) (ypage : Int) (yslot : Int) (ybeforeu : Bool) (ybeforea : Option Addr) (ybeforen ybeforec : Nat) (yafteru : Bool) (yaftera : Option Addr) (yaftern yafterc : Nat) (yuN : Int) (ynT : Int) (ytxnsa : Option Addr) (ytxnsn ytxnsc : Nat) (ydirtya : Option Addr) (ydirtyn ydirtyc : Nat) (yimagea : Option Addr) (yimagen yimagec : Nat) (w : World) (ekind : xkind = ykind) (etxn : xtxn = ytxn) (eprev : xprev = yprev) (epage : ¬ xpage = ypage) :
  Calls Tryz.prog 56 #[.agg #[.int .i64 xkind, .int .i64 xtxn, .int .i64 xprev, .int .i64 xpage, .int .i64 xslot, .bool xbeforeu, .slice xbeforea xbeforen xbeforec, .bool xafteru, .slice xaftera xaftern xafterc, .int .i64 xuN, .int .i64 xnT, .slice xtxnsa xtxnsn xtxnsc, .slice xdirtya xdirtyn xdirtyc, .slice ximagea ximagen ximagec], .agg #[.int .i64 ykind, .int .i64 ytxn, .int .i64 yprev, .int .i64 ypage, .int .i64 yslot, .bool ybeforeu, .slice ybeforea ybeforen ybeforec, .bool yafteru, .slice yaftera yaftern yafterc, .int .i64 yuN, .int .i64 ynT, .slice ytxnsa ytxnsn ytxnsc, .slice ydirtya ydirtyn ydirtyc, .slice yimagea yimagen yimagec]] w fun e w' => e = .returned (.bool false) ∧ Same w w' := by
 subst ekind
 subst etxn
 subst eprev
 obtain ⟨HK0, HA0, HB0⟩ := new2 w [.int .i64 xkind, .int .i64 xtxn, .int .i64 xprev, .int .i64 xpage, .int .i64 xslot, .bool xbeforeu, .slice xbeforea xbeforen xbeforec, .bool xafteru, .slice xaftera xaftern xafterc, .int .i64 xuN, .int .i64 xnT, .slice xtxnsa xtxnsn xtxnsc, .slice xdirtya xdirtyn xdirtyc, .slice ximagea ximagen ximagec] 35 [.int .i64 xkind, .int .i64 xtxn, .int .i64 xprev, .int .i64 ypage, .int .i64 yslot, .bool ybeforeu, .slice ybeforea ybeforen ybeforec, .bool yafteru, .slice yaftera yaftern yafterc, .int .i64 yuN, .int .i64 ynT, .slice ytxnsa ytxnsn ytxnsc, .slice ydirtya ydirtyn ydirtyc, .slice yimagea yimagen yimagec] 35
 go_enter Tryz.func56, Tryz.ntmps56
 go_wp2
 go_ret
 exact ⟨rfl, HK0.out⟩
theorem sameRecords_4 (xkind : Int) (xtxn : Int) (xprev : Int) (xpage : Int) (xslot : Int) (xbeforeu : Bool) (xbeforea : Option Addr) (xbeforen xbeforec : Nat) (xafteru : Bool) (xaftera : Option Addr) (xaftern xafterc : Nat) (xuN : Int) (xnT : Int) (xtxnsa : Option Addr) (xtxnsn xtxnsc : Nat) (xdirtya : Option Addr) (xdirtyn xdirtyc : Nat) (ximagea : Option Addr) (ximagen ximagec : Nat) (ykind : Int) (ytxn : Int) (yprev : Int) (ypage : Int) (yslot : Int) (ybeforeu : Bool) (ybeforea : Option Addr) (ybeforen ybeforec : Nat) (yafteru : Bool) (yaftera : Option Addr) (yaftern yafterc : Nat) (yuN : Int) (ynT : Int) (ytxnsa : Option Addr) (ytxnsn ytxnsc : Nat) (ydirtya : Option Addr) (ydirtyn ydirtyc : Nat) (yimagea : Option Addr) (yimagen yimagec : Nat) (w : World) (ekind : xkind = ykind) (etxn : xtxn = ytxn) (eprev : xprev = yprev) (epage : xpage = ypage) (eslot : ¬ xslot = yslot) :
  Calls Tryz.prog 56 #[.agg #[.int .i64 xkind, .int .i64 xtxn, .int .i64 xprev, .int .i64 xpage, .int .i64 xslot, .bool xbeforeu, .slice xbeforea xbeforen xbeforec, .bool xafteru, .slice xaftera xaftern xafterc, .int .i64 xuN, .int .i64 xnT, .slice xtxnsa xtxnsn xtxnsc, .slice xdirtya xdirtyn xdirtyc, .slice ximagea ximagen ximagec], .agg #[.int .i64 ykind, .int .i64 ytxn, .int .i64 yprev, .int .i64 ypage, .int .i64 yslot, .bool ybeforeu, .slice ybeforea ybeforen ybeforec, .bool yafteru, .slice yaftera yaftern yafterc, .int .i64 yuN, .int .i64 ynT, .slice ytxnsa ytxnsn ytxnsc, .slice ydirtya ydirtyn ydirtyc, .slice yimagea yimagen yimagec]] w fun e w' => e = .returned (.bool false) ∧ Same w w' := by
 subst ekind
 subst etxn
 subst eprev
 subst epage
 obtain ⟨HK0, HA0, HB0⟩ := new2 w [.int .i64 xkind, .int .i64 xtxn, .int .i64 xprev, .int .i64 xpage, .int .i64 xslot, .bool xbeforeu, .slice xbeforea xbeforen xbeforec, .bool xafteru, .slice xaftera xaftern xafterc, .int .i64 xuN, .int .i64 xnT, .slice xtxnsa xtxnsn xtxnsc, .slice xdirtya xdirtyn xdirtyc, .slice ximagea ximagen ximagec] 35 [.int .i64 xkind, .int .i64 xtxn, .int .i64 xprev, .int .i64 xpage, .int .i64 yslot, .bool ybeforeu, .slice ybeforea ybeforen ybeforec, .bool yafteru, .slice yaftera yaftern yafterc, .int .i64 yuN, .int .i64 ynT, .slice ytxnsa ytxnsn ytxnsc, .slice ydirtya ydirtyn ydirtyc, .slice yimagea yimagen yimagec] 35
 go_enter Tryz.func56, Tryz.ntmps56
 go_wp2
 go_ret
 exact ⟨rfl, HK0.out⟩
theorem sameRecords_5 (xkind : Int) (xtxn : Int) (xprev : Int) (xpage : Int) (xslot : Int) (xbeforeu : Bool) (xbeforea : Option Addr) (xbeforen xbeforec : Nat) (xafteru : Bool) (xaftera : Option Addr) (xaftern xafterc : Nat) (xuN : Int) (xnT : Int) (xtxnsa : Option Addr) (xtxnsn xtxnsc : Nat) (xdirtya : Option Addr) (xdirtyn xdirtyc : Nat) (ximagea : Option Addr) (ximagen ximagec : Nat) (ykind : Int) (ytxn : Int) (yprev : Int) (ypage : Int) (yslot : Int) (ybeforeu : Bool) (ybeforea : Option Addr) (ybeforen ybeforec : Nat) (yafteru : Bool) (yaftera : Option Addr) (yaftern yafterc : Nat) (yuN : Int) (ynT : Int) (ytxnsa : Option Addr) (ytxnsn ytxnsc : Nat) (ydirtya : Option Addr) (ydirtyn ydirtyc : Nat) (yimagea : Option Addr) (yimagen yimagec : Nat) (w : World) (ekind : xkind = ykind) (etxn : xtxn = ytxn) (eprev : xprev = yprev) (epage : xpage = ypage) (eslot : xslot = yslot) (hbefore : ∀ wx, Same w wx → Calls Tryz.prog 62 #[.agg #[.bool xbeforeu, .slice xbeforea xbeforen xbeforec], .agg #[.bool ybeforeu, .slice ybeforea ybeforen ybeforec]] wx fun e w' => e = .returned (.bool false) ∧ Same wx w') :
  Calls Tryz.prog 56 #[.agg #[.int .i64 xkind, .int .i64 xtxn, .int .i64 xprev, .int .i64 xpage, .int .i64 xslot, .bool xbeforeu, .slice xbeforea xbeforen xbeforec, .bool xafteru, .slice xaftera xaftern xafterc, .int .i64 xuN, .int .i64 xnT, .slice xtxnsa xtxnsn xtxnsc, .slice xdirtya xdirtyn xdirtyc, .slice ximagea ximagen ximagec], .agg #[.int .i64 ykind, .int .i64 ytxn, .int .i64 yprev, .int .i64 ypage, .int .i64 yslot, .bool ybeforeu, .slice ybeforea ybeforen ybeforec, .bool yafteru, .slice yaftera yaftern yafterc, .int .i64 yuN, .int .i64 ynT, .slice ytxnsa ytxnsn ytxnsc, .slice ydirtya ydirtyn ydirtyc, .slice yimagea yimagen yimagec]] w fun e w' => e = .returned (.bool false) ∧ Same w w' := by
 subst ekind
 subst etxn
 subst eprev
 subst epage
 subst eslot
 obtain ⟨HK0, HA0, HB0⟩ := new2 w [.int .i64 xkind, .int .i64 xtxn, .int .i64 xprev, .int .i64 xpage, .int .i64 xslot, .bool xbeforeu, .slice xbeforea xbeforen xbeforec, .bool xafteru, .slice xaftera xaftern xafterc, .int .i64 xuN, .int .i64 xnT, .slice xtxnsa xtxnsn xtxnsc, .slice xdirtya xdirtyn xdirtyc, .slice ximagea ximagen ximagec] 35 [.int .i64 xkind, .int .i64 xtxn, .int .i64 xprev, .int .i64 xpage, .int .i64 xslot, .bool ybeforeu, .slice ybeforea ybeforen ybeforec, .bool yafteru, .slice yaftera yaftern yafterc, .int .i64 yuN, .int .i64 ynT, .slice ytxnsa ytxnsn ytxnsc, .slice ydirtya ydirtyn ydirtyc, .slice yimagea yimagen yimagec] 35
 go_enter Tryz.func56, Tryz.ntmps56
 go_wp2_with fail
 refine (hbefore _ HK0.out).mono ?_
 rintro e w1 ⟨rfl, hk⟩
 have HK1 := hid (HK0.out.trans hk)
 have HA1 := hid (HA0.out.same hk)
 have HB1 := hid (HB0.out.same hk)
 clear hk HK0 HA0 HB0
 have dA1_7 := HA1.out.c7
 have dA1_8 := HA1.out.c8
 have dA1_9 := HA1.out.c9
 have dA1_10 := HA1.out.c10
 have dA1_11 := HA1.out.c11
 have dA1_12 := HA1.out.c12
 have dA1_13 := HA1.out.c13
 have dB1_7 := HB1.out.c7
 have dB1_8 := HB1.out.c8
 have dB1_9 := HB1.out.c9
 have dB1_10 := HB1.out.c10
 have dB1_11 := HB1.out.c11
 have dB1_12 := HB1.out.c12
 have dB1_13 := HB1.out.c13
 go_wp2
 go_ret
 exact ⟨rfl, HK1.out⟩
theorem sameRecords_6 (xkind : Int) (xtxn : Int) (xprev : Int) (xpage : Int) (xslot : Int) (xbeforeu : Bool) (xbeforea : Option Addr) (xbeforen xbeforec : Nat) (xafteru : Bool) (xaftera : Option Addr) (xaftern xafterc : Nat) (xuN : Int) (xnT : Int) (xtxnsa : Option Addr) (xtxnsn xtxnsc : Nat) (xdirtya : Option Addr) (xdirtyn xdirtyc : Nat) (ximagea : Option Addr) (ximagen ximagec : Nat) (ykind : Int) (ytxn : Int) (yprev : Int) (ypage : Int) (yslot : Int) (ybeforeu : Bool) (ybeforea : Option Addr) (ybeforen ybeforec : Nat) (yafteru : Bool) (yaftera : Option Addr) (yaftern yafterc : Nat) (yuN : Int) (ynT : Int) (ytxnsa : Option Addr) (ytxnsn ytxnsc : Nat) (ydirtya : Option Addr) (ydirtyn ydirtyc : Nat) (yimagea : Option Addr) (yimagen yimagec : Nat) (w : World) (ekind : xkind = ykind) (etxn : xtxn = ytxn) (eprev : xprev = yprev) (epage : xpage = ypage) (eslot : xslot = yslot) (hbefore : ∀ wx, Same w wx → Calls Tryz.prog 62 #[.agg #[.bool xbeforeu, .slice xbeforea xbeforen xbeforec], .agg #[.bool ybeforeu, .slice ybeforea ybeforen ybeforec]] wx fun e w' => e = .returned (.bool true) ∧ Same wx w') (hafter : ∀ wx, Same w wx → Calls Tryz.prog 62 #[.agg #[.bool xafteru, .slice xaftera xaftern xafterc], .agg #[.bool yafteru, .slice yaftera yaftern yafterc]] wx fun e w' => e = .returned (.bool false) ∧ Same wx w') :
  Calls Tryz.prog 56 #[.agg #[.int .i64 xkind, .int .i64 xtxn, .int .i64 xprev, .int .i64 xpage, .int .i64 xslot, .bool xbeforeu, .slice xbeforea xbeforen xbeforec, .bool xafteru, .slice xaftera xaftern xafterc, .int .i64 xuN, .int .i64 xnT, .slice xtxnsa xtxnsn xtxnsc, .slice xdirtya xdirtyn xdirtyc, .slice ximagea ximagen ximagec], .agg #[.int .i64 ykind, .int .i64 ytxn, .int .i64 yprev, .int .i64 ypage, .int .i64 yslot, .bool ybeforeu, .slice ybeforea ybeforen ybeforec, .bool yafteru, .slice yaftera yaftern yafterc, .int .i64 yuN, .int .i64 ynT, .slice ytxnsa ytxnsn ytxnsc, .slice ydirtya ydirtyn ydirtyc, .slice yimagea yimagen yimagec]] w fun e w' => e = .returned (.bool false) ∧ Same w w' := by
 subst ekind
 subst etxn
 subst eprev
 subst epage
 subst eslot
 obtain ⟨HK0, HA0, HB0⟩ := new2 w [.int .i64 xkind, .int .i64 xtxn, .int .i64 xprev, .int .i64 xpage, .int .i64 xslot, .bool xbeforeu, .slice xbeforea xbeforen xbeforec, .bool xafteru, .slice xaftera xaftern xafterc, .int .i64 xuN, .int .i64 xnT, .slice xtxnsa xtxnsn xtxnsc, .slice xdirtya xdirtyn xdirtyc, .slice ximagea ximagen ximagec] 35 [.int .i64 xkind, .int .i64 xtxn, .int .i64 xprev, .int .i64 xpage, .int .i64 xslot, .bool ybeforeu, .slice ybeforea ybeforen ybeforec, .bool yafteru, .slice yaftera yaftern yafterc, .int .i64 yuN, .int .i64 ynT, .slice ytxnsa ytxnsn ytxnsc, .slice ydirtya ydirtyn ydirtyc, .slice yimagea yimagen yimagec] 35
 go_enter Tryz.func56, Tryz.ntmps56
 go_wp2_with fail
 refine (hbefore _ HK0.out).mono ?_
 rintro e w1 ⟨rfl, hk⟩
 have HK1 := hid (HK0.out.trans hk)
 have HA1 := hid (HA0.out.same hk)
 have HB1 := hid (HB0.out.same hk)
 clear hk HK0 HA0 HB0
 have dA1_7 := HA1.out.c7
 have dA1_8 := HA1.out.c8
 have dA1_9 := HA1.out.c9
 have dA1_10 := HA1.out.c10
 have dA1_11 := HA1.out.c11
 have dA1_12 := HA1.out.c12
 have dA1_13 := HA1.out.c13
 have dB1_7 := HB1.out.c7
 have dB1_8 := HB1.out.c8
 have dB1_9 := HB1.out.c9
 have dB1_10 := HB1.out.c10
 have dB1_11 := HB1.out.c11
 have dB1_12 := HB1.out.c12
 have dB1_13 := HB1.out.c13
 go_wp2_with fail
 refine (hafter _ HK1.out).mono ?_
 rintro e w2 ⟨rfl, hk⟩
 have HK2 := hid (HK1.out.trans hk)
 have HA2 := hid (HA1.out.same hk)
 have HB2 := hid (HB1.out.same hk)
 clear hk HK1 HA1 HB1
 have dA2_9 := HA2.out.c9
 have dA2_10 := HA2.out.c10
 have dA2_11 := HA2.out.c11
 have dA2_12 := HA2.out.c12
 have dA2_13 := HA2.out.c13
 have dB2_9 := HB2.out.c9
 have dB2_10 := HB2.out.c10
 have dB2_11 := HB2.out.c11
 have dB2_12 := HB2.out.c12
 have dB2_13 := HB2.out.c13
 go_wp2
 go_ret
 exact ⟨rfl, HK2.out⟩
theorem sameRecords_7 (xkind : Int) (xtxn : Int) (xprev : Int) (xpage : Int) (xslot : Int) (xbeforeu : Bool) (xbeforea : Option Addr) (xbeforen xbeforec : Nat) (xafteru : Bool) (xaftera : Option Addr) (xaftern xafterc : Nat) (xuN : Int) (xnT : Int) (xtxnsa : Option Addr) (xtxnsn xtxnsc : Nat) (xdirtya : Option Addr) (xdirtyn xdirtyc : Nat) (ximagea : Option Addr) (ximagen ximagec : Nat) (ykind : Int) (ytxn : Int) (yprev : Int) (ypage : Int) (yslot : Int) (ybeforeu : Bool) (ybeforea : Option Addr) (ybeforen ybeforec : Nat) (yafteru : Bool) (yaftera : Option Addr) (yaftern yafterc : Nat) (yuN : Int) (ynT : Int) (ytxnsa : Option Addr) (ytxnsn ytxnsc : Nat) (ydirtya : Option Addr) (ydirtyn ydirtyc : Nat) (yimagea : Option Addr) (yimagen yimagec : Nat) (w : World) (ekind : xkind = ykind) (etxn : xtxn = ytxn) (eprev : xprev = yprev) (epage : xpage = ypage) (eslot : xslot = yslot) (euN : ¬ xuN = yuN) (hbefore : ∀ wx, Same w wx → Calls Tryz.prog 62 #[.agg #[.bool xbeforeu, .slice xbeforea xbeforen xbeforec], .agg #[.bool ybeforeu, .slice ybeforea ybeforen ybeforec]] wx fun e w' => e = .returned (.bool true) ∧ Same wx w') (hafter : ∀ wx, Same w wx → Calls Tryz.prog 62 #[.agg #[.bool xafteru, .slice xaftera xaftern xafterc], .agg #[.bool yafteru, .slice yaftera yaftern yafterc]] wx fun e w' => e = .returned (.bool true) ∧ Same wx w') :
  Calls Tryz.prog 56 #[.agg #[.int .i64 xkind, .int .i64 xtxn, .int .i64 xprev, .int .i64 xpage, .int .i64 xslot, .bool xbeforeu, .slice xbeforea xbeforen xbeforec, .bool xafteru, .slice xaftera xaftern xafterc, .int .i64 xuN, .int .i64 xnT, .slice xtxnsa xtxnsn xtxnsc, .slice xdirtya xdirtyn xdirtyc, .slice ximagea ximagen ximagec], .agg #[.int .i64 ykind, .int .i64 ytxn, .int .i64 yprev, .int .i64 ypage, .int .i64 yslot, .bool ybeforeu, .slice ybeforea ybeforen ybeforec, .bool yafteru, .slice yaftera yaftern yafterc, .int .i64 yuN, .int .i64 ynT, .slice ytxnsa ytxnsn ytxnsc, .slice ydirtya ydirtyn ydirtyc, .slice yimagea yimagen yimagec]] w fun e w' => e = .returned (.bool false) ∧ Same w w' := by
 subst ekind
 subst etxn
 subst eprev
 subst epage
 subst eslot
 obtain ⟨HK0, HA0, HB0⟩ := new2 w [.int .i64 xkind, .int .i64 xtxn, .int .i64 xprev, .int .i64 xpage, .int .i64 xslot, .bool xbeforeu, .slice xbeforea xbeforen xbeforec, .bool xafteru, .slice xaftera xaftern xafterc, .int .i64 xuN, .int .i64 xnT, .slice xtxnsa xtxnsn xtxnsc, .slice xdirtya xdirtyn xdirtyc, .slice ximagea ximagen ximagec] 35 [.int .i64 xkind, .int .i64 xtxn, .int .i64 xprev, .int .i64 xpage, .int .i64 xslot, .bool ybeforeu, .slice ybeforea ybeforen ybeforec, .bool yafteru, .slice yaftera yaftern yafterc, .int .i64 yuN, .int .i64 ynT, .slice ytxnsa ytxnsn ytxnsc, .slice ydirtya ydirtyn ydirtyc, .slice yimagea yimagen yimagec] 35
 go_enter Tryz.func56, Tryz.ntmps56
 go_wp2_with fail
 refine (hbefore _ HK0.out).mono ?_
 rintro e w1 ⟨rfl, hk⟩
 have HK1 := hid (HK0.out.trans hk)
 have HA1 := hid (HA0.out.same hk)
 have HB1 := hid (HB0.out.same hk)
 clear hk HK0 HA0 HB0
 have dA1_7 := HA1.out.c7
 have dA1_8 := HA1.out.c8
 have dA1_9 := HA1.out.c9
 have dA1_10 := HA1.out.c10
 have dA1_11 := HA1.out.c11
 have dA1_12 := HA1.out.c12
 have dA1_13 := HA1.out.c13
 have dB1_7 := HB1.out.c7
 have dB1_8 := HB1.out.c8
 have dB1_9 := HB1.out.c9
 have dB1_10 := HB1.out.c10
 have dB1_11 := HB1.out.c11
 have dB1_12 := HB1.out.c12
 have dB1_13 := HB1.out.c13
 go_wp2_with fail
 refine (hafter _ HK1.out).mono ?_
 rintro e w2 ⟨rfl, hk⟩
 have HK2 := hid (HK1.out.trans hk)
 have HA2 := hid (HA1.out.same hk)
 have HB2 := hid (HB1.out.same hk)
 clear hk HK1 HA1 HB1
 have dA2_9 := HA2.out.c9
 have dA2_10 := HA2.out.c10
 have dA2_11 := HA2.out.c11
 have dA2_12 := HA2.out.c12
 have dA2_13 := HA2.out.c13
 have dB2_9 := HB2.out.c9
 have dB2_10 := HB2.out.c10
 have dB2_11 := HB2.out.c11
 have dB2_12 := HB2.out.c12
 have dB2_13 := HB2.out.c13
 go_wp2
 go_ret
 exact ⟨rfl, HK2.out⟩
theorem sameRecords_8 (xkind : Int) (xtxn : Int) (xprev : Int) (xpage : Int) (xslot : Int) (xbeforeu : Bool) (xbeforea : Option Addr) (xbeforen xbeforec : Nat) (xafteru : Bool) (xaftera : Option Addr) (xaftern xafterc : Nat) (xuN : Int) (xnT : Int) (xtxnsa : Option Addr) (xtxnsn xtxnsc : Nat) (xdirtya : Option Addr) (xdirtyn xdirtyc : Nat) (ximagea : Option Addr) (ximagen ximagec : Nat) (ykind : Int) (ytxn : Int) (yprev : Int) (ypage : Int) (yslot : Int) (ybeforeu : Bool) (ybeforea : Option Addr) (ybeforen ybeforec : Nat) (yafteru : Bool) (yaftera : Option Addr) (yaftern yafterc : Nat) (yuN : Int) (ynT : Int) (ytxnsa : Option Addr) (ytxnsn ytxnsc : Nat) (ydirtya : Option Addr) (ydirtyn ydirtyc : Nat) (yimagea : Option Addr) (yimagen yimagec : Nat) (w : World) (ekind : xkind = ykind) (etxn : xtxn = ytxn) (eprev : xprev = yprev) (epage : xpage = ypage) (eslot : xslot = yslot) (euN : xuN = yuN) (enT : ¬ xnT = ynT) (hbefore : ∀ wx, Same w wx → Calls Tryz.prog 62 #[.agg #[.bool xbeforeu, .slice xbeforea xbeforen xbeforec], .agg #[.bool ybeforeu, .slice ybeforea ybeforen ybeforec]] wx fun e w' => e = .returned (.bool true) ∧ Same wx w') (hafter : ∀ wx, Same w wx → Calls Tryz.prog 62 #[.agg #[.bool xafteru, .slice xaftera xaftern xafterc], .agg #[.bool yafteru, .slice yaftera yaftern yafterc]] wx fun e w' => e = .returned (.bool true) ∧ Same wx w') :
  Calls Tryz.prog 56 #[.agg #[.int .i64 xkind, .int .i64 xtxn, .int .i64 xprev, .int .i64 xpage, .int .i64 xslot, .bool xbeforeu, .slice xbeforea xbeforen xbeforec, .bool xafteru, .slice xaftera xaftern xafterc, .int .i64 xuN, .int .i64 xnT, .slice xtxnsa xtxnsn xtxnsc, .slice xdirtya xdirtyn xdirtyc, .slice ximagea ximagen ximagec], .agg #[.int .i64 ykind, .int .i64 ytxn, .int .i64 yprev, .int .i64 ypage, .int .i64 yslot, .bool ybeforeu, .slice ybeforea ybeforen ybeforec, .bool yafteru, .slice yaftera yaftern yafterc, .int .i64 yuN, .int .i64 ynT, .slice ytxnsa ytxnsn ytxnsc, .slice ydirtya ydirtyn ydirtyc, .slice yimagea yimagen yimagec]] w fun e w' => e = .returned (.bool false) ∧ Same w w' := by
 subst ekind
 subst etxn
 subst eprev
 subst epage
 subst eslot
 subst euN
 obtain ⟨HK0, HA0, HB0⟩ := new2 w [.int .i64 xkind, .int .i64 xtxn, .int .i64 xprev, .int .i64 xpage, .int .i64 xslot, .bool xbeforeu, .slice xbeforea xbeforen xbeforec, .bool xafteru, .slice xaftera xaftern xafterc, .int .i64 xuN, .int .i64 xnT, .slice xtxnsa xtxnsn xtxnsc, .slice xdirtya xdirtyn xdirtyc, .slice ximagea ximagen ximagec] 35 [.int .i64 xkind, .int .i64 xtxn, .int .i64 xprev, .int .i64 xpage, .int .i64 xslot, .bool ybeforeu, .slice ybeforea ybeforen ybeforec, .bool yafteru, .slice yaftera yaftern yafterc, .int .i64 xuN, .int .i64 ynT, .slice ytxnsa ytxnsn ytxnsc, .slice ydirtya ydirtyn ydirtyc, .slice yimagea yimagen yimagec] 35
 go_enter Tryz.func56, Tryz.ntmps56
 go_wp2_with fail
 refine (hbefore _ HK0.out).mono ?_
 rintro e w1 ⟨rfl, hk⟩
 have HK1 := hid (HK0.out.trans hk)
 have HA1 := hid (HA0.out.same hk)
 have HB1 := hid (HB0.out.same hk)
 clear hk HK0 HA0 HB0
 have dA1_7 := HA1.out.c7
 have dA1_8 := HA1.out.c8
 have dA1_9 := HA1.out.c9
 have dA1_10 := HA1.out.c10
 have dA1_11 := HA1.out.c11
 have dA1_12 := HA1.out.c12
 have dA1_13 := HA1.out.c13
 have dB1_7 := HB1.out.c7
 have dB1_8 := HB1.out.c8
 have dB1_9 := HB1.out.c9
 have dB1_10 := HB1.out.c10
 have dB1_11 := HB1.out.c11
 have dB1_12 := HB1.out.c12
 have dB1_13 := HB1.out.c13
 go_wp2_with fail
 refine (hafter _ HK1.out).mono ?_
 rintro e w2 ⟨rfl, hk⟩
 have HK2 := hid (HK1.out.trans hk)
 have HA2 := hid (HA1.out.same hk)
 have HB2 := hid (HB1.out.same hk)
 clear hk HK1 HA1 HB1
 have dA2_9 := HA2.out.c9
 have dA2_10 := HA2.out.c10
 have dA2_11 := HA2.out.c11
 have dA2_12 := HA2.out.c12
 have dA2_13 := HA2.out.c13
 have dB2_9 := HB2.out.c9
 have dB2_10 := HB2.out.c10
 have dB2_11 := HB2.out.c11
 have dB2_12 := HB2.out.c12
 have dB2_13 := HB2.out.c13
 go_wp2
 go_ret
 exact ⟨rfl, HK2.out⟩
theorem sameRecords_9 (xkind : Int) (xtxn : Int) (xprev : Int) (xpage : Int) (xslot : Int) (xbeforeu : Bool) (xbeforea : Option Addr) (xbeforen xbeforec : Nat) (xafteru : Bool) (xaftera : Option Addr) (xaftern xafterc : Nat) (xuN : Int) (xnT : Int) (xtxnsa : Option Addr) (xtxnsn xtxnsc : Nat) (xdirtya : Option Addr) (xdirtyn xdirtyc : Nat) (ximagea : Option Addr) (ximagen ximagec : Nat) (ykind : Int) (ytxn : Int) (yprev : Int) (ypage : Int) (yslot : Int) (ybeforeu : Bool) (ybeforea : Option Addr) (ybeforen ybeforec : Nat) (yafteru : Bool) (yaftera : Option Addr) (yaftern yafterc : Nat) (yuN : Int) (ynT : Int) (ytxnsa : Option Addr) (ytxnsn ytxnsc : Nat) (ydirtya : Option Addr) (ydirtyn ydirtyc : Nat) (yimagea : Option Addr) (yimagen yimagec : Nat) (w : World) (ekind : xkind = ykind) (etxn : xtxn = ytxn) (eprev : xprev = yprev) (epage : xpage = ypage) (eslot : xslot = yslot) (euN : xuN = yuN) (enT : xnT = ynT) (hbefore : ∀ wx, Same w wx → Calls Tryz.prog 62 #[.agg #[.bool xbeforeu, .slice xbeforea xbeforen xbeforec], .agg #[.bool ybeforeu, .slice ybeforea ybeforen ybeforec]] wx fun e w' => e = .returned (.bool true) ∧ Same wx w') (hafter : ∀ wx, Same w wx → Calls Tryz.prog 62 #[.agg #[.bool xafteru, .slice xaftera xaftern xafterc], .agg #[.bool yafteru, .slice yaftera yaftern yafterc]] wx fun e w' => e = .returned (.bool true) ∧ Same wx w') (htxns : ∀ wx, Same w wx → Calls Tryz.prog 63 #[.slice xtxnsa xtxnsn xtxnsc, .slice ytxnsa ytxnsn ytxnsc] wx fun e w' => e = .returned (.bool false) ∧ Same wx w') :
  Calls Tryz.prog 56 #[.agg #[.int .i64 xkind, .int .i64 xtxn, .int .i64 xprev, .int .i64 xpage, .int .i64 xslot, .bool xbeforeu, .slice xbeforea xbeforen xbeforec, .bool xafteru, .slice xaftera xaftern xafterc, .int .i64 xuN, .int .i64 xnT, .slice xtxnsa xtxnsn xtxnsc, .slice xdirtya xdirtyn xdirtyc, .slice ximagea ximagen ximagec], .agg #[.int .i64 ykind, .int .i64 ytxn, .int .i64 yprev, .int .i64 ypage, .int .i64 yslot, .bool ybeforeu, .slice ybeforea ybeforen ybeforec, .bool yafteru, .slice yaftera yaftern yafterc, .int .i64 yuN, .int .i64 ynT, .slice ytxnsa ytxnsn ytxnsc, .slice ydirtya ydirtyn ydirtyc, .slice yimagea yimagen yimagec]] w fun e w' => e = .returned (.bool false) ∧ Same w w' := by
 subst ekind
 subst etxn
 subst eprev
 subst epage
 subst eslot
 subst euN
 subst enT
 obtain ⟨HK0, HA0, HB0⟩ := new2 w [.int .i64 xkind, .int .i64 xtxn, .int .i64 xprev, .int .i64 xpage, .int .i64 xslot, .bool xbeforeu, .slice xbeforea xbeforen xbeforec, .bool xafteru, .slice xaftera xaftern xafterc, .int .i64 xuN, .int .i64 xnT, .slice xtxnsa xtxnsn xtxnsc, .slice xdirtya xdirtyn xdirtyc, .slice ximagea ximagen ximagec] 35 [.int .i64 xkind, .int .i64 xtxn, .int .i64 xprev, .int .i64 xpage, .int .i64 xslot, .bool ybeforeu, .slice ybeforea ybeforen ybeforec, .bool yafteru, .slice yaftera yaftern yafterc, .int .i64 xuN, .int .i64 xnT, .slice ytxnsa ytxnsn ytxnsc, .slice ydirtya ydirtyn ydirtyc, .slice yimagea yimagen yimagec] 35
 go_enter Tryz.func56, Tryz.ntmps56
 go_wp2_with fail
 refine (hbefore _ HK0.out).mono ?_
 rintro e w1 ⟨rfl, hk⟩
 have HK1 := hid (HK0.out.trans hk)
 have HA1 := hid (HA0.out.same hk)
 have HB1 := hid (HB0.out.same hk)
 clear hk HK0 HA0 HB0
 have dA1_7 := HA1.out.c7
 have dA1_8 := HA1.out.c8
 have dA1_9 := HA1.out.c9
 have dA1_10 := HA1.out.c10
 have dA1_11 := HA1.out.c11
 have dA1_12 := HA1.out.c12
 have dA1_13 := HA1.out.c13
 have dB1_7 := HB1.out.c7
 have dB1_8 := HB1.out.c8
 have dB1_9 := HB1.out.c9
 have dB1_10 := HB1.out.c10
 have dB1_11 := HB1.out.c11
 have dB1_12 := HB1.out.c12
 have dB1_13 := HB1.out.c13
 go_wp2_with fail
 refine (hafter _ HK1.out).mono ?_
 rintro e w2 ⟨rfl, hk⟩
 have HK2 := hid (HK1.out.trans hk)
 have HA2 := hid (HA1.out.same hk)
 have HB2 := hid (HB1.out.same hk)
 clear hk HK1 HA1 HB1
 have dA2_9 := HA2.out.c9
 have dA2_10 := HA2.out.c10
 have dA2_11 := HA2.out.c11
 have dA2_12 := HA2.out.c12
 have dA2_13 := HA2.out.c13
 have dB2_9 := HB2.out.c9
 have dB2_10 := HB2.out.c10
 have dB2_11 := HB2.out.c11
 have dB2_12 := HB2.out.c12
 have dB2_13 := HB2.out.c13
 go_wp2_with fail
 refine (htxns _ HK2.out).mono ?_
 rintro e w3 ⟨rfl, hk⟩
 have HK3 := hid (HK2.out.trans hk)
 have HA3 := hid (HA2.out.same hk)
 have HB3 := hid (HB2.out.same hk)
 clear hk HK2 HA2 HB2
 have dA3_12 := HA3.out.c12
 have dA3_13 := HA3.out.c13
 have dB3_12 := HB3.out.c12
 have dB3_13 := HB3.out.c13
 go_wp2
 go_ret
 exact ⟨rfl, HK3.out⟩
theorem sameRecords_10 (xkind : Int) (xtxn : Int) (xprev : Int) (xpage : Int) (xslot : Int) (xbeforeu : Bool) (xbeforea : Option Addr) (xbeforen xbeforec : Nat) (xafteru : Bool) (xaftera : Option Addr) (xaftern xafterc : Nat) (xuN : Int) (xnT : Int) (xtxnsa : Option Addr) (xtxnsn xtxnsc : Nat) (xdirtya : Option Addr) (xdirtyn xdirtyc : Nat) (ximagea : Option Addr) (ximagen ximagec : Nat) (ykind : Int) (ytxn : Int) (yprev : Int) (ypage : Int) (yslot : Int) (ybeforeu : Bool) (ybeforea : Option Addr) (ybeforen ybeforec : Nat) (yafteru : Bool) (yaftera : Option Addr) (yaftern yafterc : Nat) (yuN : Int) (ynT : Int) (ytxnsa : Option Addr) (ytxnsn ytxnsc : Nat) (ydirtya : Option Addr) (ydirtyn ydirtyc : Nat) (yimagea : Option Addr) (yimagen yimagec : Nat) (w : World) (ekind : xkind = ykind) (etxn : xtxn = ytxn) (eprev : xprev = yprev) (epage : xpage = ypage) (eslot : xslot = yslot) (euN : xuN = yuN) (enT : xnT = ynT) (hbefore : ∀ wx, Same w wx → Calls Tryz.prog 62 #[.agg #[.bool xbeforeu, .slice xbeforea xbeforen xbeforec], .agg #[.bool ybeforeu, .slice ybeforea ybeforen ybeforec]] wx fun e w' => e = .returned (.bool true) ∧ Same wx w') (hafter : ∀ wx, Same w wx → Calls Tryz.prog 62 #[.agg #[.bool xafteru, .slice xaftera xaftern xafterc], .agg #[.bool yafteru, .slice yaftera yaftern yafterc]] wx fun e w' => e = .returned (.bool true) ∧ Same wx w') (htxns : ∀ wx, Same w wx → Calls Tryz.prog 63 #[.slice xtxnsa xtxnsn xtxnsc, .slice ytxnsa ytxnsn ytxnsc] wx fun e w' => e = .returned (.bool true) ∧ Same wx w') (hdirty : ∀ wx, Same w wx → Calls Tryz.prog 64 #[.slice xdirtya xdirtyn xdirtyc, .slice ydirtya ydirtyn ydirtyc] wx fun e w' => e = .returned (.bool false) ∧ Same wx w') :
  Calls Tryz.prog 56 #[.agg #[.int .i64 xkind, .int .i64 xtxn, .int .i64 xprev, .int .i64 xpage, .int .i64 xslot, .bool xbeforeu, .slice xbeforea xbeforen xbeforec, .bool xafteru, .slice xaftera xaftern xafterc, .int .i64 xuN, .int .i64 xnT, .slice xtxnsa xtxnsn xtxnsc, .slice xdirtya xdirtyn xdirtyc, .slice ximagea ximagen ximagec], .agg #[.int .i64 ykind, .int .i64 ytxn, .int .i64 yprev, .int .i64 ypage, .int .i64 yslot, .bool ybeforeu, .slice ybeforea ybeforen ybeforec, .bool yafteru, .slice yaftera yaftern yafterc, .int .i64 yuN, .int .i64 ynT, .slice ytxnsa ytxnsn ytxnsc, .slice ydirtya ydirtyn ydirtyc, .slice yimagea yimagen yimagec]] w fun e w' => e = .returned (.bool false) ∧ Same w w' := by
 subst ekind
 subst etxn
 subst eprev
 subst epage
 subst eslot
 subst euN
 subst enT
 obtain ⟨HK0, HA0, HB0⟩ := new2 w [.int .i64 xkind, .int .i64 xtxn, .int .i64 xprev, .int .i64 xpage, .int .i64 xslot, .bool xbeforeu, .slice xbeforea xbeforen xbeforec, .bool xafteru, .slice xaftera xaftern xafterc, .int .i64 xuN, .int .i64 xnT, .slice xtxnsa xtxnsn xtxnsc, .slice xdirtya xdirtyn xdirtyc, .slice ximagea ximagen ximagec] 35 [.int .i64 xkind, .int .i64 xtxn, .int .i64 xprev, .int .i64 xpage, .int .i64 xslot, .bool ybeforeu, .slice ybeforea ybeforen ybeforec, .bool yafteru, .slice yaftera yaftern yafterc, .int .i64 xuN, .int .i64 xnT, .slice ytxnsa ytxnsn ytxnsc, .slice ydirtya ydirtyn ydirtyc, .slice yimagea yimagen yimagec] 35
 go_enter Tryz.func56, Tryz.ntmps56
 go_wp2_with fail
 refine (hbefore _ HK0.out).mono ?_
 rintro e w1 ⟨rfl, hk⟩
 have HK1 := hid (HK0.out.trans hk)
 have HA1 := hid (HA0.out.same hk)
 have HB1 := hid (HB0.out.same hk)
 clear hk HK0 HA0 HB0
 have dA1_7 := HA1.out.c7
 have dA1_8 := HA1.out.c8
 have dA1_9 := HA1.out.c9
 have dA1_10 := HA1.out.c10
 have dA1_11 := HA1.out.c11
 have dA1_12 := HA1.out.c12
 have dA1_13 := HA1.out.c13
 have dB1_7 := HB1.out.c7
 have dB1_8 := HB1.out.c8
 have dB1_9 := HB1.out.c9
 have dB1_10 := HB1.out.c10
 have dB1_11 := HB1.out.c11
 have dB1_12 := HB1.out.c12
 have dB1_13 := HB1.out.c13
 go_wp2_with fail
 refine (hafter _ HK1.out).mono ?_
 rintro e w2 ⟨rfl, hk⟩
 have HK2 := hid (HK1.out.trans hk)
 have HA2 := hid (HA1.out.same hk)
 have HB2 := hid (HB1.out.same hk)
 clear hk HK1 HA1 HB1
 have dA2_9 := HA2.out.c9
 have dA2_10 := HA2.out.c10
 have dA2_11 := HA2.out.c11
 have dA2_12 := HA2.out.c12
 have dA2_13 := HA2.out.c13
 have dB2_9 := HB2.out.c9
 have dB2_10 := HB2.out.c10
 have dB2_11 := HB2.out.c11
 have dB2_12 := HB2.out.c12
 have dB2_13 := HB2.out.c13
 go_wp2_with fail
 refine (htxns _ HK2.out).mono ?_
 rintro e w3 ⟨rfl, hk⟩
 have HK3 := hid (HK2.out.trans hk)
 have HA3 := hid (HA2.out.same hk)
 have HB3 := hid (HB2.out.same hk)
 clear hk HK2 HA2 HB2
 have dA3_12 := HA3.out.c12
 have dA3_13 := HA3.out.c13
 have dB3_12 := HB3.out.c12
 have dB3_13 := HB3.out.c13
 go_wp2_with fail
 refine (hdirty _ HK3.out).mono ?_
 rintro e w4 ⟨rfl, hk⟩
 have HK4 := hid (HK3.out.trans hk)
 have HA4 := hid (HA3.out.same hk)
 have HB4 := hid (HB3.out.same hk)
 clear hk HK3 HA3 HB3
 have dA4_13 := HA4.out.c13
 have dB4_13 := HB4.out.c13
 go_wp2
 go_ret
 exact ⟨rfl, HK4.out⟩
theorem sameRecords_11 (xkind : Int) (xtxn : Int) (xprev : Int) (xpage : Int) (xslot : Int) (xbeforeu : Bool) (xbeforea : Option Addr) (xbeforen xbeforec : Nat) (xafteru : Bool) (xaftera : Option Addr) (xaftern xafterc : Nat) (xuN : Int) (xnT : Int) (xtxnsa : Option Addr) (xtxnsn xtxnsc : Nat) (xdirtya : Option Addr) (xdirtyn xdirtyc : Nat) (ximagea : Option Addr) (ximagen ximagec : Nat) (ykind : Int) (ytxn : Int) (yprev : Int) (ypage : Int) (yslot : Int) (ybeforeu : Bool) (ybeforea : Option Addr) (ybeforen ybeforec : Nat) (yafteru : Bool) (yaftera : Option Addr) (yaftern yafterc : Nat) (yuN : Int) (ynT : Int) (ytxnsa : Option Addr) (ytxnsn ytxnsc : Nat) (ydirtya : Option Addr) (ydirtyn ydirtyc : Nat) (yimagea : Option Addr) (yimagen yimagec : Nat) (w : World) (ekind : xkind = ykind) (etxn : xtxn = ytxn) (eprev : xprev = yprev) (epage : xpage = ypage) (eslot : xslot = yslot) (euN : xuN = yuN) (enT : xnT = ynT) (hbefore : ∀ wx, Same w wx → Calls Tryz.prog 62 #[.agg #[.bool xbeforeu, .slice xbeforea xbeforen xbeforec], .agg #[.bool ybeforeu, .slice ybeforea ybeforen ybeforec]] wx fun e w' => e = .returned (.bool true) ∧ Same wx w') (hafter : ∀ wx, Same w wx → Calls Tryz.prog 62 #[.agg #[.bool xafteru, .slice xaftera xaftern xafterc], .agg #[.bool yafteru, .slice yaftera yaftern yafterc]] wx fun e w' => e = .returned (.bool true) ∧ Same wx w') (htxns : ∀ wx, Same w wx → Calls Tryz.prog 63 #[.slice xtxnsa xtxnsn xtxnsc, .slice ytxnsa ytxnsn ytxnsc] wx fun e w' => e = .returned (.bool true) ∧ Same wx w') (hdirty : ∀ wx, Same w wx → Calls Tryz.prog 64 #[.slice xdirtya xdirtyn xdirtyc, .slice ydirtya ydirtyn ydirtyc] wx fun e w' => e = .returned (.bool true) ∧ Same wx w') (himage : ∀ wx, Same w wx → Calls Tryz.prog 65 #[.slice ximagea ximagen ximagec, .slice yimagea yimagen yimagec] wx fun e w' => e = .returned (.bool false) ∧ Same wx w') :
  Calls Tryz.prog 56 #[.agg #[.int .i64 xkind, .int .i64 xtxn, .int .i64 xprev, .int .i64 xpage, .int .i64 xslot, .bool xbeforeu, .slice xbeforea xbeforen xbeforec, .bool xafteru, .slice xaftera xaftern xafterc, .int .i64 xuN, .int .i64 xnT, .slice xtxnsa xtxnsn xtxnsc, .slice xdirtya xdirtyn xdirtyc, .slice ximagea ximagen ximagec], .agg #[.int .i64 ykind, .int .i64 ytxn, .int .i64 yprev, .int .i64 ypage, .int .i64 yslot, .bool ybeforeu, .slice ybeforea ybeforen ybeforec, .bool yafteru, .slice yaftera yaftern yafterc, .int .i64 yuN, .int .i64 ynT, .slice ytxnsa ytxnsn ytxnsc, .slice ydirtya ydirtyn ydirtyc, .slice yimagea yimagen yimagec]] w fun e w' => e = .returned (.bool false) ∧ Same w w' := by
 subst ekind
 subst etxn
 subst eprev
 subst epage
 subst eslot
 subst euN
 subst enT
 obtain ⟨HK0, HA0, HB0⟩ := new2 w [.int .i64 xkind, .int .i64 xtxn, .int .i64 xprev, .int .i64 xpage, .int .i64 xslot, .bool xbeforeu, .slice xbeforea xbeforen xbeforec, .bool xafteru, .slice xaftera xaftern xafterc, .int .i64 xuN, .int .i64 xnT, .slice xtxnsa xtxnsn xtxnsc, .slice xdirtya xdirtyn xdirtyc, .slice ximagea ximagen ximagec] 35 [.int .i64 xkind, .int .i64 xtxn, .int .i64 xprev, .int .i64 xpage, .int .i64 xslot, .bool ybeforeu, .slice ybeforea ybeforen ybeforec, .bool yafteru, .slice yaftera yaftern yafterc, .int .i64 xuN, .int .i64 xnT, .slice ytxnsa ytxnsn ytxnsc, .slice ydirtya ydirtyn ydirtyc, .slice yimagea yimagen yimagec] 35
 go_enter Tryz.func56, Tryz.ntmps56
 go_wp2_with fail
 refine (hbefore _ HK0.out).mono ?_
 rintro e w1 ⟨rfl, hk⟩
 have HK1 := hid (HK0.out.trans hk)
 have HA1 := hid (HA0.out.same hk)
 have HB1 := hid (HB0.out.same hk)
 clear hk HK0 HA0 HB0
 have dA1_7 := HA1.out.c7
 have dA1_8 := HA1.out.c8
 have dA1_9 := HA1.out.c9
 have dA1_10 := HA1.out.c10
 have dA1_11 := HA1.out.c11
 have dA1_12 := HA1.out.c12
 have dA1_13 := HA1.out.c13
 have dB1_7 := HB1.out.c7
 have dB1_8 := HB1.out.c8
 have dB1_9 := HB1.out.c9
 have dB1_10 := HB1.out.c10
 have dB1_11 := HB1.out.c11
 have dB1_12 := HB1.out.c12
 have dB1_13 := HB1.out.c13
 go_wp2_with fail
 refine (hafter _ HK1.out).mono ?_
 rintro e w2 ⟨rfl, hk⟩
 have HK2 := hid (HK1.out.trans hk)
 have HA2 := hid (HA1.out.same hk)
 have HB2 := hid (HB1.out.same hk)
 clear hk HK1 HA1 HB1
 have dA2_9 := HA2.out.c9
 have dA2_10 := HA2.out.c10
 have dA2_11 := HA2.out.c11
 have dA2_12 := HA2.out.c12
 have dA2_13 := HA2.out.c13
 have dB2_9 := HB2.out.c9
 have dB2_10 := HB2.out.c10
 have dB2_11 := HB2.out.c11
 have dB2_12 := HB2.out.c12
 have dB2_13 := HB2.out.c13
 go_wp2_with fail
 refine (htxns _ HK2.out).mono ?_
 rintro e w3 ⟨rfl, hk⟩
 have HK3 := hid (HK2.out.trans hk)
 have HA3 := hid (HA2.out.same hk)
 have HB3 := hid (HB2.out.same hk)
 clear hk HK2 HA2 HB2
 have dA3_12 := HA3.out.c12
 have dA3_13 := HA3.out.c13
 have dB3_12 := HB3.out.c12
 have dB3_13 := HB3.out.c13
 go_wp2_with fail
 refine (hdirty _ HK3.out).mono ?_
 rintro e w4 ⟨rfl, hk⟩
 have HK4 := hid (HK3.out.trans hk)
 have HA4 := hid (HA3.out.same hk)
 have HB4 := hid (HB3.out.same hk)
 clear hk HK3 HA3 HB3
 have dA4_13 := HA4.out.c13
 have dB4_13 := HB4.out.c13
 go_wp2_with fail
 refine (himage _ HK4.out).mono ?_
 rintro e w5 ⟨rfl, hk⟩
 have HK5 := hid (HK4.out.trans hk)
 have HA5 := hid (HA4.out.same hk)
 have HB5 := hid (HB4.out.same hk)
 clear hk HK4 HA4 HB4
 go_wp2
 go_ret
 exact ⟨rfl, HK5.out⟩
theorem sameRecords_12 (xkind : Int) (xtxn : Int) (xprev : Int) (xpage : Int) (xslot : Int) (xbeforeu : Bool) (xbeforea : Option Addr) (xbeforen xbeforec : Nat) (xafteru : Bool) (xaftera : Option Addr) (xaftern xafterc : Nat) (xuN : Int) (xnT : Int) (xtxnsa : Option Addr) (xtxnsn xtxnsc : Nat) (xdirtya : Option Addr) (xdirtyn xdirtyc : Nat) (ximagea : Option Addr) (ximagen ximagec : Nat) (ykind : Int) (ytxn : Int) (yprev : Int) (ypage : Int) (yslot : Int) (ybeforeu : Bool) (ybeforea : Option Addr) (ybeforen ybeforec : Nat) (yafteru : Bool) (yaftera : Option Addr) (yaftern yafterc : Nat) (yuN : Int) (ynT : Int) (ytxnsa : Option Addr) (ytxnsn ytxnsc : Nat) (ydirtya : Option Addr) (ydirtyn ydirtyc : Nat) (yimagea : Option Addr) (yimagen yimagec : Nat) (w : World) (ekind : xkind = ykind) (etxn : xtxn = ytxn) (eprev : xprev = yprev) (epage : xpage = ypage) (eslot : xslot = yslot) (euN : xuN = yuN) (enT : xnT = ynT) (hbefore : ∀ wx, Same w wx → Calls Tryz.prog 62 #[.agg #[.bool xbeforeu, .slice xbeforea xbeforen xbeforec], .agg #[.bool ybeforeu, .slice ybeforea ybeforen ybeforec]] wx fun e w' => e = .returned (.bool true) ∧ Same wx w') (hafter : ∀ wx, Same w wx → Calls Tryz.prog 62 #[.agg #[.bool xafteru, .slice xaftera xaftern xafterc], .agg #[.bool yafteru, .slice yaftera yaftern yafterc]] wx fun e w' => e = .returned (.bool true) ∧ Same wx w') (htxns : ∀ wx, Same w wx → Calls Tryz.prog 63 #[.slice xtxnsa xtxnsn xtxnsc, .slice ytxnsa ytxnsn ytxnsc] wx fun e w' => e = .returned (.bool true) ∧ Same wx w') (hdirty : ∀ wx, Same w wx → Calls Tryz.prog 64 #[.slice xdirtya xdirtyn xdirtyc, .slice ydirtya ydirtyn ydirtyc] wx fun e w' => e = .returned (.bool true) ∧ Same wx w') (himage : ∀ wx, Same w wx → Calls Tryz.prog 65 #[.slice ximagea ximagen ximagec, .slice yimagea yimagen yimagec] wx fun e w' => e = .returned (.bool true) ∧ Same wx w') :
  Calls Tryz.prog 56 #[.agg #[.int .i64 xkind, .int .i64 xtxn, .int .i64 xprev, .int .i64 xpage, .int .i64 xslot, .bool xbeforeu, .slice xbeforea xbeforen xbeforec, .bool xafteru, .slice xaftera xaftern xafterc, .int .i64 xuN, .int .i64 xnT, .slice xtxnsa xtxnsn xtxnsc, .slice xdirtya xdirtyn xdirtyc, .slice ximagea ximagen ximagec], .agg #[.int .i64 ykind, .int .i64 ytxn, .int .i64 yprev, .int .i64 ypage, .int .i64 yslot, .bool ybeforeu, .slice ybeforea ybeforen ybeforec, .bool yafteru, .slice yaftera yaftern yafterc, .int .i64 yuN, .int .i64 ynT, .slice ytxnsa ytxnsn ytxnsc, .slice ydirtya ydirtyn ydirtyc, .slice yimagea yimagen yimagec]] w fun e w' => e = .returned (.bool true) ∧ Same w w' := by
 subst ekind
 subst etxn
 subst eprev
 subst epage
 subst eslot
 subst euN
 subst enT
 obtain ⟨HK0, HA0, HB0⟩ := new2 w [.int .i64 xkind, .int .i64 xtxn, .int .i64 xprev, .int .i64 xpage, .int .i64 xslot, .bool xbeforeu, .slice xbeforea xbeforen xbeforec, .bool xafteru, .slice xaftera xaftern xafterc, .int .i64 xuN, .int .i64 xnT, .slice xtxnsa xtxnsn xtxnsc, .slice xdirtya xdirtyn xdirtyc, .slice ximagea ximagen ximagec] 35 [.int .i64 xkind, .int .i64 xtxn, .int .i64 xprev, .int .i64 xpage, .int .i64 xslot, .bool ybeforeu, .slice ybeforea ybeforen ybeforec, .bool yafteru, .slice yaftera yaftern yafterc, .int .i64 xuN, .int .i64 xnT, .slice ytxnsa ytxnsn ytxnsc, .slice ydirtya ydirtyn ydirtyc, .slice yimagea yimagen yimagec] 35
 go_enter Tryz.func56, Tryz.ntmps56
 go_wp2_with fail
 refine (hbefore _ HK0.out).mono ?_
 rintro e w1 ⟨rfl, hk⟩
 have HK1 := hid (HK0.out.trans hk)
 have HA1 := hid (HA0.out.same hk)
 have HB1 := hid (HB0.out.same hk)
 clear hk HK0 HA0 HB0
 have dA1_7 := HA1.out.c7
 have dA1_8 := HA1.out.c8
 have dA1_9 := HA1.out.c9
 have dA1_10 := HA1.out.c10
 have dA1_11 := HA1.out.c11
 have dA1_12 := HA1.out.c12
 have dA1_13 := HA1.out.c13
 have dB1_7 := HB1.out.c7
 have dB1_8 := HB1.out.c8
 have dB1_9 := HB1.out.c9
 have dB1_10 := HB1.out.c10
 have dB1_11 := HB1.out.c11
 have dB1_12 := HB1.out.c12
 have dB1_13 := HB1.out.c13
 go_wp2_with fail
 refine (hafter _ HK1.out).mono ?_
 rintro e w2 ⟨rfl, hk⟩
 have HK2 := hid (HK1.out.trans hk)
 have HA2 := hid (HA1.out.same hk)
 have HB2 := hid (HB1.out.same hk)
 clear hk HK1 HA1 HB1
 have dA2_9 := HA2.out.c9
 have dA2_10 := HA2.out.c10
 have dA2_11 := HA2.out.c11
 have dA2_12 := HA2.out.c12
 have dA2_13 := HA2.out.c13
 have dB2_9 := HB2.out.c9
 have dB2_10 := HB2.out.c10
 have dB2_11 := HB2.out.c11
 have dB2_12 := HB2.out.c12
 have dB2_13 := HB2.out.c13
 go_wp2_with fail
 refine (htxns _ HK2.out).mono ?_
 rintro e w3 ⟨rfl, hk⟩
 have HK3 := hid (HK2.out.trans hk)
 have HA3 := hid (HA2.out.same hk)
 have HB3 := hid (HB2.out.same hk)
 clear hk HK2 HA2 HB2
 have dA3_12 := HA3.out.c12
 have dA3_13 := HA3.out.c13
 have dB3_12 := HB3.out.c12
 have dB3_13 := HB3.out.c13
 go_wp2_with fail
 refine (hdirty _ HK3.out).mono ?_
 rintro e w4 ⟨rfl, hk⟩
 have HK4 := hid (HK3.out.trans hk)
 have HA4 := hid (HA3.out.same hk)
 have HB4 := hid (HB3.out.same hk)
 clear hk HK3 HA3 HB3
 have dA4_13 := HA4.out.c13
 have dB4_13 := HB4.out.c13
 go_wp2_with fail
 refine (himage _ HK4.out).mono ?_
 rintro e w5 ⟨rfl, hk⟩
 have HK5 := hid (HK4.out.trans hk)
 have HA5 := hid (HA4.out.same hk)
 have HB5 := hid (HB4.out.same hk)
 clear hk HK4 HA4 HB4
 go_wp2
 go_ret
 exact ⟨rfl, HK5.out⟩
theorem typeRecord_1 (txn : Int) (prev : Int) (page : Int) (slot : Int) (bU : Bool) (bDa : Option Addr) (bDn bDc : Nat) (aU : Bool) (aDa : Option Addr) (aDn aDc : Nat) (uN : Int) (nT : Int) (tXa : Option Addr) (tXn tXc : Nat) (dYa : Option Addr) (dYn dYc : Nat) (iMa : Option Addr) (iMn iMc : Nat) (w : World) : Calls Tryz.prog 47 #[.agg #[.int .i64 1, .int .i64 txn, .int .i64 prev, .int .i64 page, .int .i64 slot, .bool bU, .slice bDa bDn bDc, .bool aU, .slice aDa aDn aDc, .int .i64 uN, .int .i64 nT, .slice tXa tXn tXc, .slice dYa dYn dYc, .slice iMa iMn iMc]] w fun e w' => e = .returned (.iface 96 (.agg #[.int .i64 txn, .int .i64 prev, .int .i64 page, .int .i64 slot, .bool bU, .slice bDa bDn bDc, .bool aU, .slice aDa aDn aDc])) ∧ Same w w' := by
 go_enter Tryz.func47, Tryz.ntmps47
 go_wp2
 go_ret
 exact ⟨rfl, by repeat (first | exact Kept.refl _ _ | refine Kept.alloc ?_ _)⟩
theorem typeRecord_2 (txn : Int) (prev : Int) (page : Int) (slot : Int) (bU : Bool) (bDa : Option Addr) (bDn bDc : Nat) (aU : Bool) (aDa : Option Addr) (aDn aDc : Nat) (uN : Int) (nT : Int) (tXa : Option Addr) (tXn tXc : Nat) (dYa : Option Addr) (dYn dYc : Nat) (iMa : Option Addr) (iMn iMc : Nat) (w : World) : Calls Tryz.prog 47 #[.agg #[.int .i64 2, .int .i64 txn, .int .i64 prev, .int .i64 page, .int .i64 slot, .bool bU, .slice bDa bDn bDc, .bool aU, .slice aDa aDn aDc, .int .i64 uN, .int .i64 nT, .slice tXa tXn tXc, .slice dYa dYn dYc, .slice iMa iMn iMc]] w fun e w' => e = .returned (.iface 98 (.agg #[.int .i64 txn, .int .i64 prev, .int .i64 page, .int .i64 slot, .bool aU, .slice aDa aDn aDc, .int .i64 uN])) ∧ Same w w' := by
 go_enter Tryz.func47, Tryz.ntmps47
 go_wp2
 go_ret
 exact ⟨rfl, by repeat (first | exact Kept.refl _ _ | refine Kept.alloc ?_ _)⟩
theorem typeRecord_3 (txn : Int) (prev : Int) (page : Int) (slot : Int) (bU : Bool) (bDa : Option Addr) (bDn bDc : Nat) (aU : Bool) (aDa : Option Addr) (aDn aDc : Nat) (uN : Int) (nT : Int) (tXa : Option Addr) (tXn tXc : Nat) (dYa : Option Addr) (dYn dYc : Nat) (iMa : Option Addr) (iMn iMc : Nat) (w : World) : Calls Tryz.prog 47 #[.agg #[.int .i64 3, .int .i64 txn, .int .i64 prev, .int .i64 page, .int .i64 slot, .bool bU, .slice bDa bDn bDc, .bool aU, .slice aDa aDn aDc, .int .i64 uN, .int .i64 nT, .slice tXa tXn tXc, .slice dYa dYn dYc, .slice iMa iMn iMc]] w fun e w' => e = .returned (.iface 100 (.agg #[.int .i64 txn, .int .i64 prev])) ∧ Same w w' := by
 go_enter Tryz.func47, Tryz.ntmps47
 go_wp2
 go_ret
 exact ⟨rfl, by repeat (first | exact Kept.refl _ _ | refine Kept.alloc ?_ _)⟩
theorem typeRecord_4 (txn : Int) (prev : Int) (page : Int) (slot : Int) (bU : Bool) (bDa : Option Addr) (bDn bDc : Nat) (aU : Bool) (aDa : Option Addr) (aDn aDc : Nat) (uN : Int) (nT : Int) (tXa : Option Addr) (tXn tXc : Nat) (dYa : Option Addr) (dYn dYc : Nat) (iMa : Option Addr) (iMn iMc : Nat) (w : World) : Calls Tryz.prog 47 #[.agg #[.int .i64 4, .int .i64 txn, .int .i64 prev, .int .i64 page, .int .i64 slot, .bool bU, .slice bDa bDn bDc, .bool aU, .slice aDa aDn aDc, .int .i64 uN, .int .i64 nT, .slice tXa tXn tXc, .slice dYa dYn dYc, .slice iMa iMn iMc]] w fun e w' => e = .returned (.iface 101 (.agg #[.int .i64 txn, .int .i64 prev])) ∧ Same w w' := by
 go_enter Tryz.func47, Tryz.ntmps47
 go_wp2
 go_ret
 exact ⟨rfl, by repeat (first | exact Kept.refl _ _ | refine Kept.alloc ?_ _)⟩
theorem typeRecord_5 (txn : Int) (prev : Int) (page : Int) (slot : Int) (bU : Bool) (bDa : Option Addr) (bDn bDc : Nat) (aU : Bool) (aDa : Option Addr) (aDn aDc : Nat) (uN : Int) (nT : Int) (tXa : Option Addr) (tXn tXc : Nat) (dYa : Option Addr) (dYn dYc : Nat) (iMa : Option Addr) (iMn iMc : Nat) (w : World) : Calls Tryz.prog 47 #[.agg #[.int .i64 5, .int .i64 txn, .int .i64 prev, .int .i64 page, .int .i64 slot, .bool bU, .slice bDa bDn bDc, .bool aU, .slice aDa aDn aDc, .int .i64 uN, .int .i64 nT, .slice tXa tXn tXc, .slice dYa dYn dYc, .slice iMa iMn iMc]] w fun e w' => e = .returned (.iface 102 (.agg #[.int .i64 txn, .int .i64 prev])) ∧ Same w w' := by
 go_enter Tryz.func47, Tryz.ntmps47
 go_wp2
 go_ret
 exact ⟨rfl, by repeat (first | exact Kept.refl _ _ | refine Kept.alloc ?_ _)⟩
theorem typeRecord_6 (txn : Int) (prev : Int) (page : Int) (slot : Int) (bU : Bool) (bDa : Option Addr) (bDn bDc : Nat) (aU : Bool) (aDa : Option Addr) (aDn aDc : Nat) (uN : Int) (nT : Int) (tXa : Option Addr) (tXn tXc : Nat) (dYa : Option Addr) (dYn dYc : Nat) (iMa : Option Addr) (iMn iMc : Nat) (w : World) : Calls Tryz.prog 47 #[.agg #[.int .i64 6, .int .i64 txn, .int .i64 prev, .int .i64 page, .int .i64 slot, .bool bU, .slice bDa bDn bDc, .bool aU, .slice aDa aDn aDc, .int .i64 uN, .int .i64 nT, .slice tXa tXn tXc, .slice dYa dYn dYc, .slice iMa iMn iMc]] w fun e w' => e = .returned (.iface 103 (.agg #[.int .i64 0, .int .i64 0])) ∧ Same w w' := by
 go_enter Tryz.func47, Tryz.ntmps47
 go_wp2
 go_ret
 exact ⟨rfl, by repeat (first | exact Kept.refl _ _ | refine Kept.alloc ?_ _)⟩
theorem typeRecord_7 (txn : Int) (prev : Int) (page : Int) (slot : Int) (bU : Bool) (bDa : Option Addr) (bDn bDc : Nat) (aU : Bool) (aDa : Option Addr) (aDn aDc : Nat) (uN : Int) (nT : Int) (tXa : Option Addr) (tXn tXc : Nat) (dYa : Option Addr) (dYn dYc : Nat) (iMa : Option Addr) (iMn iMc : Nat) (w : World) : Calls Tryz.prog 47 #[.agg #[.int .i64 7, .int .i64 txn, .int .i64 prev, .int .i64 page, .int .i64 slot, .bool bU, .slice bDa bDn bDc, .bool aU, .slice aDa aDn aDc, .int .i64 uN, .int .i64 nT, .slice tXa tXn tXc, .slice dYa dYn dYc, .slice iMa iMn iMc]] w fun e w' => e = .returned (.iface 105 (.agg #[.int .i64 0, .int .i64 0, .int .i64 nT, .slice tXa tXn tXc, .slice dYa dYn dYc])) ∧ Same w w' := by
 go_enter Tryz.func47, Tryz.ntmps47
 go_wp2
 go_ret
 exact ⟨rfl, by repeat (first | exact Kept.refl _ _ | refine Kept.alloc ?_ _)⟩
theorem typeRecord_8 (txn : Int) (prev : Int) (page : Int) (slot : Int) (bU : Bool) (bDa : Option Addr) (bDn bDc : Nat) (aU : Bool) (aDa : Option Addr) (aDn aDc : Nat) (uN : Int) (nT : Int) (tXa : Option Addr) (tXn tXc : Nat) (dYa : Option Addr) (dYn dYc : Nat) (iMa : Option Addr) (iMn iMc : Nat) (w : World) : Calls Tryz.prog 47 #[.agg #[.int .i64 8, .int .i64 txn, .int .i64 prev, .int .i64 page, .int .i64 slot, .bool bU, .slice bDa bDn bDc, .bool aU, .slice aDa aDn aDc, .int .i64 uN, .int .i64 nT, .slice tXa tXn tXc, .slice dYa dYn dYc, .slice iMa iMn iMc]] w fun e w' => e = .returned (.iface 107 (.agg #[.int .i64 0, .int .i64 0, .int .i64 page, .slice iMa iMn iMc])) ∧ Same w w' := by
 go_enter Tryz.func47, Tryz.ntmps47
 go_wp2
 go_ret
 exact ⟨rfl, by repeat (first | exact Kept.refl _ _ | refine Kept.alloc ?_ _)⟩
theorem typeRecord_0 (kind : Int) (txn : Int) (prev : Int) (page : Int) (slot : Int) (bU : Bool) (bDa : Option Addr) (bDn bDc : Nat) (aU : Bool) (aDa : Option Addr) (aDn aDc : Nat) (uN : Int) (nT : Int) (tXa : Option Addr) (tXn tXc : Nat) (dYa : Option Addr) (dYn dYc : Nat) (iMa : Option Addr) (iMn iMc : Nat) (w : World) (h1 : ¬ kind = 1) (h2 : ¬ kind = 2) (h3 : ¬ kind = 3) (h4 : ¬ kind = 4) (h5 : ¬ kind = 5) (h6 : ¬ kind = 6) (h7 : ¬ kind = 7) (h8 : ¬ kind = 8) : Calls Tryz.prog 47 #[.agg #[.int .i64 kind, .int .i64 txn, .int .i64 prev, .int .i64 page, .int .i64 slot, .bool bU, .slice bDa bDn bDc, .bool aU, .slice aDa aDn aDc, .int .i64 uN, .int .i64 nT, .slice tXa tXn tXc, .slice dYa dYn dYc, .slice iMa iMn iMc]] w fun e w' => e = .returned .nilIface ∧ Same w w' := by
 go_enter Tryz.func47, Tryz.ntmps47
 go_wp2
 go_ret
 exact ⟨rfl, by repeat (first | exact Kept.refl _ _ | refine Kept.alloc ?_ _)⟩
end Go.Proofs.YtdgmecmkkddpeaaGreat
