import Derived.Test.YtepdakgfioffgaaGreatG13
import Derived.Test.YtepdakgfioffgaaGreatG00
import Derived.Test.YtepdakgfioffgaaGreatG01
import Derived.Deep.RegionWith
import Derived.Deep.DeepMust
namespace Go.Proofs.YtepdakgfioffgaaGreat
set_option maxRecDepth 100000
set_option maxHeartbeats 8000000
set_option linter.unusedVariables false
set_option linter.unusedSimpArgs false
open Go.RowKit
def flat2 : List (Int × Int) → List Int
 | [] => []
 | q :: r => q.1 :: q.2 :: flat2 r
theorem flat2_length : ∀ ls : List (Int × Int), (flat2 ls).length = ls.length * 2
 | [] => rfl
 | q :: r => by simp only [flat2, List.length_cons, flat2_length r]; omega
theorem flat2_append : ∀ xs ys : List (Int × Int), flat2 (xs ++ ys) = flat2 xs ++ flat2 ys
 | [], ys => rfl
 | q :: r, ys => by simp only [List.cons_append, flat2, flat2_append r ys]
theorem flat2_at : ∀ (ls : List (Int × Int)) (k : Nat), k < ls.length → (flat2 ls).getD (k * 2) 0 = (ls.getD k (0, 0)).1 ∧ (flat2 ls).getD (k * 2 + 1) 0 = (ls.getD k (0, 0)).2
 | [], k, h => by simp at h
 | q :: r, 0, h => by simp [flat2]
 | q :: r, k + 1, h => by
  have := flat2_at r k (by simpa using h)
  rw [show (k + 1) * 2 = k * 2 + 1 + 1 from by omega]
  simpa [flat2] using this
theorem RdF.at {m : Nat} {w : World} {e : TypeId} {b off n c : Nat} {bs : List Int} (h : RdF m w ⟨e, some ⟨b, off, none⟩, n, c, bs⟩) (i : Nat) (hi : i < n * m) : w.cell? ⟨b, off + i, none⟩ = some (.int .i64 (bs.getD i 0)) := by
 rcases h.2.2 with h0 | ⟨b', yy, he, mj, hc⟩
 ·dsimp only at h0; subst h0; simp at hi
 ·dsimp only at he hc
  injection he with he
  injection he with e1 e2
  subst e1 e2
  exact hc i hi
theorem RdF.duo {w : World} {e : TypeId} {b off n c : Nat} {ls : List (Int × Int)} (h : RdF 2 w ⟨e, some ⟨b, off, none⟩, n, c, flat2 ls⟩) (hl : ls.length = n) (k : Nat) (hk : k < ls.length) (x y : Int) (hx : ls.getD k (0, 0) = (x, y)) :
  w.cell? ⟨b, off + k * 2, none⟩ = some (.int .i64 x) ∧ w.cell? ⟨b, off + k * 2 + 1, none⟩ = some (.int .i64 y) := by
 have h2 := flat2_at ls k hk
 rw [hx] at h2
 exact ⟨by rw [h.at (k * 2) (by omega), h2.1], by rw [Nat.add_assoc, h.at (k * 2 + 1) (by omega), h2.2]⟩
theorem getD_kD {ls : List (Int × Int)} {k : Nat} (h : k < ls.length) : ls.getD k (0, 0) = ls[k] := by rw [List.getD_eq_getElem?_getD, List.getElem?_eq_getElem h]; rfl
theorem has_kD {ls : List (Int × Int)} {e : Int × Int} (k : Nat) (hk : k < ls.length) (h : kD (ls.getD k (0, 0)) = kD e) : addD e ls = ls := by
 unfold addD
 rw [if_pos]
 cases hg : getK kD (kD e) ls with
 | some x => rfl
 | none => rw [getD_kD hk] at h; exact absurd h (getK_none.1 hg _ (List.getElem_mem hk))
theorem hasnt_kD {ls : List (Int × Int)} {e : Int × Int} (h : ∀ i, i < ls.length → kD (ls.getD i (0, 0)) ≠ kD e) : addD e ls = insK kD e ls := by
 have hg : getK kD (kD e) ls = none := getK_none.2 fun x hx => by
  obtain ⟨i, hi, rfl⟩ := List.getElem_of_mem hx
  have := h i hi
  rwa [getD_kD hi] at this
 unfold addD
 rw [if_neg]
 rw [hg]
 simp
theorem specAddDirty_any (a : Option Addr) (n c : Nat) (ls : List (Int × Int)) (e0 e1 : Int) (w : World) (hl : ls.length = n) (h : OwQ 2 60 w a n c (flat2 ls)) (hn : n ≤ 1000000) :
  Calls Tryz.prog 21 #[.slice a n c, .agg #[.int .i64 e0, .int .i64 e1]] w fun e w' => ∃ a' n' c', e = .returned (.slice a' n' c') ∧ OwQ 2 60 w' a' n' c' (flat2 (addD (e0, e1) ls)) ∧ (∀ b, (Value.slice a' n' c').ownBlock = some b → (Value.slice a n c).ownBlock = some b ∨ w.heap.size ≤ b) ∧ Same w w' := by
 obtain ⟨i4, pZ, lj, lq, lf⟩ := info_parts Tryz.infoDirtyEntry
 have kA := (show ∀ (wr : World) (oa : Option Addr) (on oc : Nat) (out : List (Int × Int)) (q : Int × Int), on ≤ 2000000 → AzL 2 60 (w.heap.size + 1) w wr oa on oc (flat2 out) → ∃ a' c' w', (Builtin.append_ #[27, 27] 27 #[.slice oa on oc, .slice (some ⟨wr.heap.size, 0, none⟩) 1 1]).run Tryz.prog (wr.alloc (.cells #[.int .i64 q.1, .int .i64 q.2] 60)) = .ok (.slice a' (on + 1) c') w' ∧ AzL 2 60 (w.heap.size + 1) w w' a' (on + 1) c' (flat2 (out ++ [q])) ∧ Kept (fun b => (w.heap.size + 1) ≤ b) wr w' from fun wr oa on oc out q Ch h => by
  obtain ⟨a', c', w', h1, h2, h3⟩ := AzL.app Tryz.underlying27 pZ lj lq lf rfl (by omega) (by omega) h [q.1, q.2] rfl (by omega)
  refine ⟨a', c', w', h1, ?_, h3⟩
  rw [flat2_append]
  exact h2)
 have KA := hid kA
 clear kA pZ lj lq lf
 have vy : Same w ((w.alloc (.cells #[.int .i64 e0, .int .i64 e1] 60)).alloc (.cells #[] 60)) := (sameA w [.int .i64 e0, .int .i64 e1] 60).alloc _
 have bY : Blk ((w.alloc (.cells #[.int .i64 e0, .int .i64 e1] 60)).alloc (.cells #[] 60)) w.heap.size 60 [.int .i64 e0, .int .i64 e1] := (Blk.newL w [.int .i64 e0, .int .i64 e1] 60).same ((Kept.refl _ _).alloc _)
 have xC : OwQ 2 60 ((w.alloc (.cells #[.int .i64 e0, .int .i64 e1] 60)).alloc (.cells #[] 60)) (some ⟨w.heap.size + 1, 0, none⟩) 0 0 (flat2 []) := by
  have h := empty4 (w.alloc (.cells #[.int .i64 e0, .int .i64 e1] 60)) 60 2
  rw [World.size_alloc] at h
  exact h
 have j9 : ((w.alloc (.cells #[.int .i64 e0, .int .i64 e1] 60)).alloc (.cells #[] 60)).heap.size = w.heap.size + 1 + 1 := by simp only [World.size_alloc]
 have cv := hid bY
 clear bY
 have qL := hid (show AzL 2 60 (w.heap.size + 1) w ((w.alloc (.cells #[.int .i64 e0, .int .i64 e1] 60)).alloc (.cells #[] 60)) (some ⟨w.heap.size + 1, 0, none⟩) 0 0 (flat2 []) from ⟨xC, fun b hb => (by have h : w.heap.size + 1 = b := (by simpa [Value.ownBlock] using hb); omega), vy, by omega, by omega⟩)
 have HO := hid h
 have HR := hid h.rd
 have HL := hid hl
 clear xC vy j9 h hl
 go_enter Tryz.func21, Tryz.ntmps21
 go_wp2_with fail
 generalize hW0 : ((w.alloc (.cells #[.int .i64 e0, .int .i64 e1] 60)).alloc (.cells #[] 60)) = W0 at *
 clear hW0
 go_loopw [7] (fun i wr => ∃ j : Nat, j ≤ n ∧ i = .int .i64 j ∧ Hid (∀ i, i < j → kD (ls.getD i (0, 0)) ≠ kD (e0, e1)) ∧ Hid (Same W0 wr)) (fun i _ => n - (intOf i).toNat)
 case atStart => exact ⟨0, by omega, rfl, fun i hi => by omega, Kept.refl _ _⟩
 case round =>
  obtain ⟨j, hj, rfl, HN, HW⟩ := hrel
  by_cases dh : j < n
  ·have mT : j < ls.length := by rw [HL.out]; exact dh
   obtain ⟨x, y, hx⟩ : ∃ x y, ls.getD j (0, 0) = (x, y) := ⟨_, _, rfl⟩
   obtain ⟨b, off, ea, _⟩ := HR.out.someQ (by dsimp only; omega)
   dsimp only at ea
   subst ea
   have k4 := hid (HR.out.duo HL.out j mT x y hx)
   have HX := hid hx
   clear hx
   have c0 := (qL.out.same.trans HW.out).cellOf k4.out.1 id
   have jj : (j : Int) < (n : Int) := by omega
   obtain ⟨k0, k1⟩ := (cv.out.same HW.out).all2
   by_cases h1 : x = e0
   ·go_wp2
    go_quiet (fail)
    go_wp2
    go_ret
    refine ⟨_, _, _, rfl, ?_, fun b hb => .inl hb, (qL.out.same.trans HW.out).drewN _⟩
    rw [has_kD j mT (by rw [HX.out]; exact h1)]
    exact HO.out.same ((qL.out.same.trans HW.out).drewN _)
   ·have zN : (x == e0) = false := by simp [h1]
    have d1 : decide (x = e0) = false := by simp [h1]
    go_wp2
    go_quiet (fail)
    go_wp2
    go_roundw
    case rel => exact ⟨j + 1, by omega, by go_num, fun i hi => by
     by_cases e : i < j
     ·exact HN.out i e
     ·obtain rfl : i = j := by omega
      rw [HX.out]
      exact h1, HW.out.drewN _⟩
    case measure => simp [intOf]; omega
  ·obtain rfl : j = n := by omega
   have sO := hid (hasnt_kD (e := (e0, e1)) (ls := ls) (fun i hi => HN.out i (by rw [HL.out] at hi; exact hi)))
   have ji := hid (qL.out.next HW.out)
   have bG := hid (cv.out.same HW.out)
   clear cv
   clear qL HN HW
   go_wp2_with fail
   go_loopw [5, 6, 8] (fun o d i wr => ∃ (k : Nat) (oa : Option Addr) (on oc : Nat) (out : List (Int × Int)) (dn : Bool), k ≤ j ∧ i = .int .i64 k ∧ o = .slice oa on oc ∧ d = .bool dn ∧ on ≤ k + 1 ∧ Hid (AzL 2 60 (w.heap.size + 1) w wr oa on oc (flat2 out)) ∧ Hid (Put kD (e0, e1) (ls.take k) dn out) ∧ Hid (Blk wr w.heap.size 60 [.int .i64 e0, .int .i64 e1])) (fun _ _ i _ => j - (intOf i).toNat)
   case atStart => exact ⟨0, _, _, _, [], false, by omega, rfl, rfl, rfl, by omega, ji.out, Put.nil _, bG.out⟩
   case round =>
    obtain ⟨k, oa, on, oc, out, dn, hk, rfl, rfl, rfl, Ch, HA, HP, HB⟩ := hrel
    by_cases dh : k < j
    ·have mT : k < ls.length := by rw [HL.out]; exact dh
     obtain ⟨x, y, hx⟩ : ∃ x y, ls.getD k (0, 0) = (x, y) := ⟨_, _, rfl⟩
     obtain ⟨b, off, ea, _⟩ := HR.out.someQ (by dsimp only; omega)
     dsimp only at ea
     subst ea
     have k4 := hid (HR.out.duo HL.out k mT x y hx)
     have HX := hid hx
     clear hx
     have c0 := HA.out.same.cellOf k4.out.1 id
     have nD : ls.take (k + 1) = ls.take k ++ [(x, y)] := by rw [List.take_succ_eq_append_getElem mT, ← getD_kD mT, HX.out]
     have nN := hid nD
     clear nD
     have jj : (k : Int) < (j : Int) := by omega
     obtain ⟨k0, k1⟩ := HB.out.all2
     cases dn with
     | true =>
      go_wp2_with fail
      go_quiet (fail)
      have hq : Same wr (wr.drewN nq) := (Kept.refl _ _).drewN _
      generalize wr.drewN nq = wq at *
      have mN := hid (HA.out.next hq)
      have qx := hid (HB.out.same hq)
      clear hq c0 k0 k1
      obtain ⟨a2, c2, w2, jR, kg, lu⟩ := KA.out wq oa on oc out (x, y) (by omega) mN.out
      have i7 := hid jR
      have fJ := hid kg
      have cx := hid (qx.out.kept lu (by omega))
      have d0 := mN.out.same.cellOf k4.out.1 id
      have d1 := mN.out.same.cellOf k4.out.2 id
      clear jR kg lu
      go_wp2_with (at_builtin; refine Lib.wpList_append_run _ rfl _ _ _ _ rfl _ _ rfl rfl _ _ i7.out ?_)
      go_roundw
      case rel => exact ⟨k + 1, _, _, _, _, true, by omega, by go_num, rfl, rfl, by omega, fJ.out, by rw [nN.out]; exact HP.out.then, cx.out⟩
      case measure => simp [intOf]; omega
     | false =>
      have B4 : on ≤ k := by
       have h := HA.out.own.len
       rw [flat2_length] at h
       rcases HP.out with ⟨_, e, _⟩ | ⟨e, _⟩
       ·rw [e, List.length_take] at h; omega
       ·cases e
      by_cases h1 : e0 < x
      ·go_wp2_with fail
       go_quiet (fail)
       have hq : Same wr (wr.drewN nq) := (Kept.refl _ _).drewN _
       generalize wr.drewN nq = wq at *
       have mN := hid (HA.out.next hq)
       have qx := hid (HB.out.same hq)
       clear hq c0 k0 k1
       obtain ⟨a1, c1, w1, pR, xk, ub⟩ := KA.out wq oa on oc out (e0, e1) (by omega) mN.out
       have nk := hid pR
       have fz := hid xk
       have IB := hid (qx.out.kept ub (by omega))
       obtain ⟨k0, k1⟩ := qx.out.all2
       clear pR xk ub
       obtain ⟨a2, c2, w2, jR, kg, lu⟩ := KA.out w1 a1 (on + 1) c1 (out ++ [(e0, e1)]) (x, y) (by omega) fz.out
       have i7 := hid jR
       have fJ := hid kg
       have cx := hid (IB.out.kept lu (by omega))
       have d0 := fz.out.same.cellOf k4.out.1 id
       have d1 := fz.out.same.cellOf k4.out.2 id
       clear jR kg lu
       go_wp2_with (at_builtin; first | refine Lib.wpList_append_run _ rfl _ _ _ _ rfl _ _ rfl rfl _ _ nk.out ?_ | refine Lib.wpList_append_run _ rfl _ _ _ _ rfl _ _ rfl rfl _ _ i7.out ?_)
       go_roundw
       case rel => exact ⟨k + 1, _, _, _, _, true, by omega, by go_num, rfl, rfl, by omega, fJ.out, by rw [nN.out]; exact HP.out.now (by simp only [kD]; omega), cx.out⟩
       case measure => simp [intOf]; omega
      ·go_wp2_with fail
       go_quiet (fail)
       have hq : Same wr (wr.drewN nq) := (Kept.refl _ _).drewN _
       generalize wr.drewN nq = wq at *
       have mN := hid (HA.out.next hq)
       have qx := hid (HB.out.same hq)
       clear hq c0 k0 k1
       obtain ⟨a2, c2, w2, jR, kg, lu⟩ := KA.out wq oa on oc out (x, y) (by omega) mN.out
       have i7 := hid jR
       have fJ := hid kg
       have cx := hid (qx.out.kept lu (by omega))
       have d0 := mN.out.same.cellOf k4.out.1 id
       have d1 := mN.out.same.cellOf k4.out.2 id
       clear jR kg lu
       go_wp2_with (at_builtin; refine Lib.wpList_append_run _ rfl _ _ _ _ rfl _ _ rfl rfl _ _ i7.out ?_)
       go_roundw
       case rel => exact ⟨k + 1, _, _, _, _, false, by omega, by go_num, rfl, rfl, by omega, fJ.out, by rw [nN.out]; exact HP.out.not (by simp only [kD]; omega), cx.out⟩
       case measure => simp [intOf]; omega
    ·obtain rfl : k = j := by omega
     have CR : ls.take k = ls := by rw [← HL.out]; exact List.take_length
     rw [CR] at HP
     have oY := hid HP.out
     cases dn with
     | true =>
      go_wp2
      go_ret
      refine ⟨_, _, _, rfl, ?_, fun b hb => .inr (by have := HA.out.foot b hb; omega), HA.out.same⟩
      rw [sO.out, oY.out.end]
      exact HA.out.own
     | false =>
      obtain ⟨a2, c2, w2, jR, kg, lu⟩ := KA.out wr oa on oc out (e0, e1) (by omega) HA.out
      have i7 := hid jR
      have fJ := hid kg
      obtain ⟨k0, k1⟩ := HB.out.all2
      clear jR kg lu
      go_wp2_with (at_builtin; refine Lib.wpList_append_run _ rfl _ _ _ _ rfl _ _ rfl rfl _ _ i7.out ?_)
      go_ret
      refine ⟨_, _, _, rfl, ?_, fun b hb => .inr (by have := fJ.out.foot b hb; omega), fJ.out.same⟩
      rw [sO.out, oY.out.last]
      exact fJ.out.own
theorem Tryz.infoI64 : (Tryz.prog.info? 2).map (fun i => (i.zero, i.size, i.bytes)) = some (some (.int .i64 0), 1, 8) := by kernel_rfl
def marksZ (k : Int) (n : Nat) : List Int := (List.range n).map fun (i : Nat) => k + (i : Int)
theorem marksZ_length (k : Int) (n : Nat) : (marksZ k n).length = n := by simp [marksZ]
def partZ (k : Int) (bs : List Int) (j : Nat) : List Int := marksZ k j ++ bs.drop j
theorem partZ_length (k : Int) (bs : List Int) (j : Nat) (h : j ≤ bs.length) : (partZ k bs j).length = bs.length := by simp [partZ, marksZ_length]; omega
theorem partZ_zero (k : Int) (bs : List Int) : partZ k bs 0 = bs := by simp [partZ, marksZ]
theorem partZ_all (k : Int) (bs : List Int) : partZ k bs bs.length = marksZ k bs.length := by simp [partZ]
theorem partZ_step (k : Int) (bs : List Int) (j : Nat) (h : j < bs.length) : (partZ k bs j).set j (k + j) = partZ k bs (j + 1) := by
 unfold partZ
 rw [List.set_append_right (h := by simp [marksZ_length]), marksZ_length, Nat.sub_self]
 have e : bs.drop j = bs[j] :: bs.drop (j + 1) := by rw [List.drop_eq_getElem_cons h]
 rw [e, List.set_cons_zero]
 simp [marksZ, List.range_succ]
theorem eqInt64S_own {ea eb : TypeId} (base : Nat) (va vb : Value) (bs : List Int) (w : World) (hn : bs.length ≤ 1125899906842624)
  (ha : Own base ea .i64 w va bs) (hb : Own base eb .i64 w vb bs) :
  Calls Tryz.prog 34 #[va, vb] w fun e w' => e = .returned (.bool true) ∧ ∃ n, w' = w.drewN n := by
 by_cases h0 : bs.length = 0
 ·obtain rfl : bs = [] := List.length_eq_zero_iff.1 h0
  obtain ⟨aa, ca, rfl⟩ : ∃ aa ca, va = .slice aa 0 ca := by rcases ha.form with ⟨rfl, _⟩ | ⟨g, cap, rfl, _⟩ <;> exact ⟨_, _, rfl⟩
  obtain ⟨ab, cb, rfl⟩ : ∃ aa ca, vb = .slice aa 0 ca := by rcases hb.form with ⟨rfl, _⟩ | ⟨g, cap, rfl, _⟩ <;> exact ⟨_, _, rfl⟩
  clear ha hb hn h0
  go_enter Tryz.func34, Tryz.ntmps34
  go_wp2
  refine wp_loop_rounds 1 ?_
  rw [rounds_succ]
  go_wp2
  go_ret
  exact ⟨rfl, 0, rfl⟩
 ·obtain ⟨ga, ca, rfl, _, _, _, _⟩ : ∃ g cap, va = .slice (some ⟨g, 0, none⟩) bs.length cap ∧ base ≤ g ∧ g < w.heap.size ∧ bs.length ≤ cap ∧ cap ≤ maxLen := by
   rcases ha.form with ⟨_, rfl⟩ | h
   ·simp at h0
   ·exact h
  obtain ⟨gb, cb, rfl, _, _, _, _⟩ : ∃ g cap, vb = .slice (some ⟨g, 0, none⟩) bs.length cap ∧ base ≤ g ∧ g < w.heap.size ∧ bs.length ≤ cap ∧ cap ≤ maxLen := by
   rcases hb.form with ⟨_, rfl⟩ | h
   ·simp at h0
   ·exact h
  have BK : ∀ j, j < bs.length → w.cell? ⟨ga, j, none⟩ = some (.int .i64 (bs.getD j 0)) := fun j hj => ha.cell rfl j hj
  have Cu : ∀ j, j < bs.length → w.cell? ⟨gb, j, none⟩ = some (.int .i64 (bs.getD j 0)) := fun j hj => hb.cell rfl j hj
  clear ha hb
  generalize hl : bs.length = len at *
  go_enter Tryz.func34, Tryz.ntmps34
  go_wp2
  go_loopw [5] (fun i wr => ∃ k n : Nat, k ≤ len ∧ i = .int .i64 k ∧ wr = w.drewN n) (fun i _ => len - (intOf i).toNat)
  case atStart => exact ⟨0, 0, Nat.zero_le _, rfl, rfl⟩
  case round =>
   obtain ⟨k, n, hk, rfl, rfl⟩ := hrel
   by_cases dh : k < len
   ·have h1 := BK k dh
    have h2 := Cu k dh
    clear BK Cu
    go_wp2
    go_quiet (fail)
    go_wp2
    go_roundw
    case rel => exact ⟨k + 1, _, by omega, by go_num, rfl⟩
    case measure => simp [intOf]; omega
   ·go_wp2
    go_ret
    exact ⟨rfl, _, rfl⟩
end Go.Proofs.YtepdakgfioffgaaGreat
