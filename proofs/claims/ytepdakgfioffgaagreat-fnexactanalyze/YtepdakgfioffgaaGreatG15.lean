import Derived.Test.YtepdakgfioffgaaGreatG14
import Derived.Test.YtepdakgfioffgaaGreatG13
import Derived.BigFrame
namespace Go.Proofs.YtepdakgfioffgaaGreat
set_option maxRecDepth 100000
set_option maxHeartbeats 8000000
set_option linter.unusedVariables false
set_option linter.unusedSimpArgs false
open Go.RowKit
abbrev flat1 (l : List Int) : List Int := l
theorem flat1_append (xs ys : List Int) : flat1 (xs ++ ys) = flat1 xs ++ flat1 ys := rfl
theorem flat1_length (ls : List Int) : (flat1 ls).length = ls.length * 1 := by simp
theorem RdF.uno {w : World} {e : TypeId} {b off n c : Nat} {ls : List Int} (h : RdF 1 w ⟨e, some ⟨b, off, none⟩, n, c, flat1 ls⟩) (hl : ls.length = n) (k : Nat) (hk : k < ls.length) (x : Int) (hx : ls.getD k 0 = x) :
  w.cell? ⟨b, off + k, none⟩ = some (.int .i64 x) := by
 rw [h.at k (by omega), hx]
theorem getD_kI {ls : List Int} {k : Nat} (h : k < ls.length) : ls.getD k 0 = ls[k] := by rw [List.getD_eq_getElem?_getD, List.getElem?_eq_getElem h]; rfl
theorem has_kI {ls : List Int} {e : Int} (k : Nat) (hk : k < ls.length) (h : kI (ls.getD k 0) = kI e) : addI e ls = ls := by
 unfold addI
 rw [if_pos]
 cases hg : getK kI (kI e) ls with
 | some x => rfl
 | none => rw [getD_kI hk] at h; exact absurd h (getK_none.1 hg _ (List.getElem_mem hk))
theorem hasnt_kI {ls : List Int} {e : Int} (h : ∀ i, i < ls.length → kI (ls.getD i 0) ≠ kI e) : addI e ls = insK kI e ls := by
 have hg : getK kI (kI e) ls = none := getK_none.2 fun x hx => by
  obtain ⟨i, hi, rfl⟩ := List.getElem_of_mem hx
  have := h i hi
  rwa [getD_kI hi] at this
 unfold addI
 rw [if_neg]
 rw [hg]
 simp
theorem specAddPage_any (a : Option Addr) (n c : Nat) (ls : List Int) (e0 : Int) (w : World) (hl : ls.length = n) (h : OwQ 1 2 w a n c (flat1 ls)) (hn : n ≤ 1000000) :
  Calls Tryz.prog 18 #[.slice a n c, .int .i64 e0] w fun e w' => ∃ a' n' c', e = .returned (.slice a' n' c') ∧ OwQ 1 2 w' a' n' c' (flat1 (addI e0 ls)) ∧ (∀ b, (Value.slice a' n' c').ownBlock = some b → (Value.slice a n c).ownBlock = some b ∨ w.heap.size ≤ b) ∧ Same w w' := by
 obtain ⟨i4, pZ, lj, lq, lf⟩ := info_parts Tryz.infoI64
 have kA := (show ∀ (wr : World) (oa : Option Addr) (on oc : Nat) (out : List Int) (q : Int), on ≤ 2000000 → AzL 1 2 w.heap.size w wr oa on oc (flat1 out) → ∃ a' c' w', (Builtin.append_ #[28, 28] 28 #[.slice oa on oc, .slice (some ⟨wr.heap.size, 0, none⟩) 1 1]).run Tryz.prog (wr.alloc (.cells #[.int .i64 q] 2)) = .ok (.slice a' (on + 1) c') w' ∧ AzL 1 2 w.heap.size w w' a' (on + 1) c' (flat1 (out ++ [q])) ∧ Kept (fun b => w.heap.size ≤ b) wr w' from fun wr oa on oc out q Ch h => by
  obtain ⟨a', c', w', h1, h2, h3⟩ := AzL.app Tryz.underlying28 pZ lj lq lf rfl (by omega) (by omega) h [q] rfl (by omega)
  refine ⟨a', c', w', h1, ?_, h3⟩
  rw [flat1_append]
  exact h2)
 have KA := hid kA
 clear kA pZ lj lq lf
 have vy : Same w (w.alloc (.cells #[] 2)) := (Kept.refl _ _).alloc _
 have xC : OwQ 1 2 (w.alloc (.cells #[] 2)) (some ⟨w.heap.size, 0, none⟩) 0 0 (flat1 []) := empty4 w 2 1
 have j9 : (w.alloc (.cells #[] 2)).heap.size = w.heap.size + 1 := by simp only [World.size_alloc]
 have qL := hid (show AzL 1 2 w.heap.size w (w.alloc (.cells #[] 2)) (some ⟨w.heap.size, 0, none⟩) 0 0 (flat1 []) from ⟨xC, fun b hb => (by have h : w.heap.size = b := (by simpa [Value.ownBlock] using hb); omega), vy, by omega, by omega⟩)
 have HO := hid h
 have HR := hid h.rd
 have HL := hid hl
 clear xC vy j9 h hl
 go_enter Tryz.func18, Tryz.ntmps18
 go_wp2_with fail
 generalize hW0 : (w.alloc (.cells #[] 2)) = W0 at *
 clear hW0
 go_loopw [7] (fun i wr => ∃ j : Nat, j ≤ n ∧ i = .int .i64 j ∧ Hid (∀ i, i < j → kI (ls.getD i 0) ≠ kI e0) ∧ Hid (Same W0 wr)) (fun i _ => n - (intOf i).toNat)
 case atStart => exact ⟨0, by omega, rfl, fun i hi => by omega, Kept.refl _ _⟩
 case round =>
  obtain ⟨j, hj, rfl, HN, HW⟩ := hrel
  by_cases dh : j < n
  ·have mT : j < ls.length := by rw [HL.out]; exact dh
   obtain ⟨x, hx⟩ : ∃ x, ls.getD j 0 = x := ⟨_, rfl⟩
   obtain ⟨b, off, ea, _⟩ := HR.out.someQ (by dsimp only; omega)
   dsimp only at ea
   subst ea
   have k4 := hid (HR.out.uno HL.out j mT x hx)
   have HX := hid hx
   clear hx
   have c0 := (qL.out.same.trans HW.out).cellOf k4.out id
   have jj : (j : Int) < (n : Int) := by omega
   by_cases h1 : x = e0
   ·go_wp2
    go_ret
    refine ⟨_, _, _, rfl, ?_, fun b hb => .inl hb, (qL.out.same.trans HW.out)⟩
    rw [has_kI j mT (by rw [HX.out]; exact h1)]
    exact HO.out.same ((qL.out.same.trans HW.out))
   ·have zN : (x == e0) = false := by simp [h1]
    have d1 : decide (x = e0) = false := by simp [h1]
    go_wp2
    go_roundw
    case rel => exact ⟨j + 1, by omega, by go_num, fun i hi => by
     by_cases e : i < j
     ·exact HN.out i e
     ·obtain rfl : i = j := by omega
      rw [HX.out]
      exact h1, HW.out⟩
    case measure => simp [intOf]; omega
  ·obtain rfl : j = n := by omega
   have sO := hid (hasnt_kI (e := e0) (ls := ls) (fun i hi => HN.out i (by rw [HL.out] at hi; exact hi)))
   have ji := hid (qL.out.next HW.out)
   clear qL HN HW
   go_wp2_with fail
   go_loopw [5, 6, 8] (fun o d i wr => ∃ (k : Nat) (oa : Option Addr) (on oc : Nat) (out : List Int) (dn : Bool), k ≤ j ∧ i = .int .i64 k ∧ o = .slice oa on oc ∧ d = .bool dn ∧ on ≤ k + 1 ∧ Hid (AzL 1 2 w.heap.size w wr oa on oc (flat1 out)) ∧ Hid (Put kI e0 (ls.take k) dn out)) (fun _ _ i _ => j - (intOf i).toNat)
   case atStart => exact ⟨0, _, _, _, [], false, by omega, rfl, rfl, rfl, by omega, ji.out, Put.nil _⟩
   case round =>
    obtain ⟨k, oa, on, oc, out, dn, hk, rfl, rfl, rfl, Ch, HA, HP⟩ := hrel
    by_cases dh : k < j
    ·have mT : k < ls.length := by rw [HL.out]; exact dh
     obtain ⟨x, hx⟩ : ∃ x, ls.getD k 0 = x := ⟨_, rfl⟩
     obtain ⟨b, off, ea, _⟩ := HR.out.someQ (by dsimp only; omega)
     dsimp only at ea
     subst ea
     have k4 := hid (HR.out.uno HL.out k mT x hx)
     have HX := hid hx
     clear hx
     have c0 := HA.out.same.cellOf k4.out id
     have nD : ls.take (k + 1) = ls.take k ++ [x] := by rw [List.take_succ_eq_append_getElem mT, ← getD_kI mT, HX.out]
     have nN := hid nD
     clear nD
     have jj : (k : Int) < (j : Int) := by omega
     cases dn with
     | true =>
      obtain ⟨a2, c2, w2, jR, kg, lu⟩ := KA.out wr oa on oc out x (by omega) HA.out
      have i7 := hid jR
      have fJ := hid kg
      have d0 := HA.out.same.cellOf k4.out id
      clear jR kg lu
      go_wp2_with (at_builtin; refine Lib.wpList_append_run _ rfl _ _ _ _ rfl _ _ rfl rfl _ _ i7.out ?_)
      go_roundw
      case rel => exact ⟨k + 1, _, _, _, _, true, by omega, by go_num, rfl, rfl, by omega, fJ.out, by rw [nN.out]; exact HP.out.then⟩
      case measure => simp [intOf]; omega
     | false =>
      have B4 : on ≤ k := by
       have h := HA.out.own.len
       rw [flat1_length] at h
       rcases HP.out with ⟨_, e, _⟩ | ⟨e, _⟩
       ·rw [e, List.length_take] at h; omega
       ·cases e
      by_cases h1 : e0 < x
      ·obtain ⟨a1, c1, w1, pR, xk, ub⟩ := KA.out wr oa on oc out e0 (by omega) HA.out
       have nk := hid pR
       have fz := hid xk
       clear pR xk ub
       obtain ⟨a2, c2, w2, jR, kg, lu⟩ := KA.out w1 a1 (on + 1) c1 (out ++ [e0]) x (by omega) fz.out
       have i7 := hid jR
       have fJ := hid kg
       have d0 := fz.out.same.cellOf k4.out id
       clear jR kg lu
       go_wp2_with (at_builtin; first | refine Lib.wpList_append_run _ rfl _ _ _ _ rfl _ _ rfl rfl _ _ nk.out ?_ | refine Lib.wpList_append_run _ rfl _ _ _ _ rfl _ _ rfl rfl _ _ i7.out ?_)
       go_roundw
       case rel => exact ⟨k + 1, _, _, _, _, true, by omega, by go_num, rfl, rfl, by omega, fJ.out, by rw [nN.out]; exact HP.out.now (by simp only [kI]; omega)⟩
       case measure => simp [intOf]; omega
      ·obtain ⟨a2, c2, w2, jR, kg, lu⟩ := KA.out wr oa on oc out x (by omega) HA.out
       have i7 := hid jR
       have fJ := hid kg
       have d0 := HA.out.same.cellOf k4.out id
       clear jR kg lu
       go_wp2_with (at_builtin; refine Lib.wpList_append_run _ rfl _ _ _ _ rfl _ _ rfl rfl _ _ i7.out ?_)
       go_roundw
       case rel => exact ⟨k + 1, _, _, _, _, false, by omega, by go_num, rfl, rfl, by omega, fJ.out, by rw [nN.out]; exact HP.out.not (by simp only [kI]; omega)⟩
       case measure => simp [intOf]; omega
    ·obtain rfl : k = j := by omega
     have CR : ls.take k = ls := by rw [← HL.out]; exact List.take_length
     rw [CR] at HP
     have oY := hid HP.out
     cases dn with
     | true =>
      go_wp2
      go_ret
      refine ⟨_, _, _, rfl, ?_, fun b hb => .inr (by have := HA.out.foot b hb; omega), HA.out.same⟩
      rw [sO.out, oY.out.end]
      exact HA.out.own
     | false =>
      obtain ⟨a2, c2, w2, jR, kg, lu⟩ := KA.out wr oa on oc out e0 (by omega) HA.out
      have i7 := hid jR
      have fJ := hid kg
      clear jR kg lu
      go_wp2_with (at_builtin; refine Lib.wpList_append_run _ rfl _ _ _ _ rfl _ _ rfl rfl _ _ i7.out ?_)
      go_ret
      refine ⟨_, _, _, rfl, ?_, fun b hb => .inr (by have := fJ.out.foot b hb; omega), fJ.out.same⟩
      rw [sO.out, oY.out.last]
      exact fJ.out.own
theorem rec_kind {kind txn prev page slot un nt : Int} {bu au : Bool} {bb ab tx dy im : List Int} (h : recF kind txn prev page slot bu bb au ab un nt tx dy im = 0) : 1 ≤ kind ∧ kind ≤ 8 := by
 unfold recF at h
 split at h; · omega
 split at h; · omega
 split at h; · omega
 split at h; · omega
 split at h; · omega
 split at h; · omega
 split at h; · omega
 split at h; · omega
 ·omega
theorem head_txn {txn prev : Int} (h : headF txn prev = 0) : 1 ≤ txn ∧ txn ≤ 2147483647 := by
 unfold headF at h
 split at h
 ·omega
 ·rename_i h1
  have h2 : isTxnB txn = true := by cases e : isTxnB txn with | true => rfl | false => exact absurd e h1
  unfold isTxnB at h2
  simpa using h2
theorem orF_zero {a b c : Int} (h : orF a b c = 0) : a = 0 := by
 unfold orF at h
 split at h
 ·omega
 ·omega
theorem rec_txn {kind txn prev page slot un nt : Int} {bu au : Bool} {bb ab tx dy im : List Int} (h : recF kind txn prev page slot bu bb au ab un nt tx dy im = 0) (hk : kind ≤ 5) : 1 ≤ txn ∧ txn ≤ 2147483647 := by
 have h0 := rec_kind h
 unfold recF at h
 split at h
 ·split at h
  ·exact head_txn (orF_zero h)
  ·omega
 split at h
 ·split at h
  ·exact head_txn (orF_zero h)
  ·omega
 split at h
 ·split at h
  ·exact head_txn h
  ·omega
 split at h
 ·split at h
  ·exact head_txn h
  ·omega
 split at h
 ·split at h
  ·exact head_txn h
  ·omega
 ·omega
theorem up_of_next {α : Type} {key : α → Int} {ls : List α} (h : ∀ (k : Nat) (hk : k + 1 < ls.length), key ls[k] < key ls[k + 1]) : Up key ls := by
 unfold Up
 rw [List.pairwise_iff_getElem]
 intro i j hi hj Vg
 induction j with
 | zero => omega
 | succ j ih =>
  have h1 := h j hj
  by_cases e : i = j
  ·subst e; exact h1
  ·have := ih (by omega) (by omega); omega
theorem txns_up {ls : List Q4} (h : allTxns (flat4 ls) ls.length = true) : Up kQ ls ∧ ls.length ≤ 8 := by
 unfold allTxns at h
 simp only [Bool.and_eq_true, decide_eq_true_eq, List.all_eq_true, List.mem_range] at h
 refine ⟨up_of_next fun k hk => ?_, h.1⟩
 have h1 := h.2 (k + 1) hk
 unfold atTxns oneTxns at h1
 simp only [Bool.and_eq_true] at h1
 have h2 : (flat4 ls).getD (k * 4) 0 < (flat4 ls).getD ((k + 1) * 4) 0 := of_decide_eq_true h1.1.1.1.1
 rw [(flat4_at ls k (by omega)).1, (flat4_at ls (k + 1) hk).1, getD_at (by omega : k < ls.length), getD_at hk] at h2
 exact h2
theorem dirty_up {ls : List (Int × Int)} (h : allDirty (flat2 ls) ls.length = true) : Up kD ls := by
 unfold allDirty at h
 simp only [Bool.and_eq_true, decide_eq_true_eq, List.all_eq_true, List.mem_range] at h
 refine up_of_next fun k hk => ?_
 have h1 := h.2 (k + 1) hk
 unfold atDirty oneDirty at h1
 simp only [Bool.and_eq_true] at h1
 have h2 : (flat2 ls).getD (k * 2) 0 < (flat2 ls).getD ((k + 1) * 2) 0 := of_decide_eq_true h1.1.1
 rw [(flat2_at ls k (by omega)).1, (flat2_at ls (k + 1) hk).1, getD_kD (by omega : k < ls.length), getD_kD hk] at h2
 exact h2
theorem implFindCk_any (v : Value) (ps : List StLogFrame) (c : Int) (w : World) (hv : RdFr w v ps) :
  Calls Tryz.prog 23 #[v, .int .i64 c] w fun e w' => e = .returned (.int .i64 (bgR (fs6 ps) c)) ∧ Same w w' := by
 have hm : ps.length ≤ maxLen := hv.row.max
 unfold maxLen at hm
 have yd := fs6_length ps
 obtain ⟨B, hB⟩ : ∃ B, bgR (fs6 ps) c = B := ⟨_, rfl⟩
 rw [hB]
 rcases hv.row.row with ⟨rfl, a, cc, rfl⟩ | ⟨b, off, cc, rfl, hc⟩
 ·have : B = -1 := by rw [← hB]; exact bgR_no (fun i h => by simp [fs6] at h)
  subst this
  clear hv hm yd hB
  go_enter Tryz.func23, Tryz.ntmps23
  go_wp2_with fail
  refine wp_loop_rounds 1 ?_
  rw [rounds_succ]
  go_wp2
  go_ret
  exact ⟨rfl, Kept.refl _ _⟩
 ·have HC : Hid (FrC w b off ps) := hc
  have HB := hid hB
  have Dr := hid yd
  clear hc hv hB yd
  generalize hl : ps.length = L at *
  have HL := hid hl
  clear hl
  have eL : IntKind.i64.wrap ((L : Int) - 1) = (L : Int) - 1 := by rw [IntKind.wrap_i64]; omega
  go_enter Tryz.func23, Tryz.ntmps23
  go_wp2_with fail
  go_loopw [9] (fun i wr => ∃ j : Nat, (j < L ∨ j = 0) ∧ i = .int .i64 j ∧ Hid (∀ i, i < j → bgIs (fs6 ps) c i = false) ∧ Hid (Same w wr)) (fun i _ => L - (intOf i).toNat)
  case atStart => exact ⟨0, .inr rfl, rfl, fun i hi => by omega, Kept.refl _ _⟩
  case round =>
   obtain ⟨j, hj, rfl, jv, ef⟩ := hrel
   have ej : (j : Int) + 1 ≤ 9223372036854775807 := by omega
   by_cases dh : j + 1 < L
   ·have lD : j < ps.length := by rw [HL.out]; omega
    have nE : j + 1 < ps.length := by rw [HL.out]; omega
    have ca := (HC.out.same ef.out).lsn j lD
    have ck := (HC.out.same ef.out).kind j lD
    have cn := (HC.out.same ef.out).kind (j + 1) nE
    have zS : bgIs (fs6 ps) c j = (decide ((f5 ps[j]).1 = c) && decide (ps[j].record.kind = 6) && decide (ps[j + 1].record.kind = 7)) := by
     unfold bgIs
     rw [fs6_at ps j lD, fs6_at ps (j + 1) nE, fs6_length]
     simp only [nE, decide_true, Bool.true_and]
     rfl
    obtain ⟨x, hx⟩ : ∃ x, (f5 ps[j]).1 = x := ⟨_, rfl⟩
    obtain ⟨y, hy⟩ : ∃ y, ps[j].record.kind = y := ⟨_, rfl⟩
    obtain ⟨z, hz⟩ : ∃ z, ps[j + 1].record.kind = z := ⟨_, rfl⟩
    rw [hx, hy, hz] at zS
    have B2 := hid zS
    clear zS
    rw [hx] at ca
    rw [hy] at ck
    rw [hz] at cn
    clear hx hy hz
    have em : (j : Int) + 1 < (L : Int) := by omega
    have Sd : (j : Int) < (L : Int) - 1 := by omega
    have SZ : (j : Int) < (L : Int) := by omega
    have et : ((j : Int) + 1).toNat = j + 1 := by omega
    have e0 : 0 ≤ (j : Int) + 1 := by omega
    by_cases hh : x = c ∧ y = 6 ∧ z = 7
    ·obtain ⟨h1, h2, h3⟩ := hh
     go_wp2
     go_ret
     refine ⟨?_, ef.out⟩
     have h := bgR_yes j (by rw [Dr.out]; omega) jv.out (by rw [B2.out]; simp [h1, h2, h3])
     rw [HB.out] at h
     rw [h]
     rfl
    ·have hN : bgIs (fs6 ps) c j = false := by rw [B2.out]; simp only [Bool.and_eq_false_iff, decide_eq_false_iff_not]; omega
     have HN := hid hN
     clear hN
     have fin : ∀ i, i < j + 1 → bgIs (fs6 ps) c i = false := fun i hi => by
      by_cases e : i < j
      ·exact jv.out i e
      ·obtain rfl : i = j := by omega
       exact HN.out
     have HF := hid fin
     clear fin
     by_cases h1 : x = c
     ·by_cases h2 : y = 6
      ·have h3 : ¬ z = 7 := fun h3 => hh ⟨h1, h2, h3⟩
       clear hh
       have Od : (z == 7) = false := by simp [h3]
       have d3 : decide (z = 7) = false := by simp [h3]
       go_wp2
       go_roundw
       case rel => exact ⟨j + 1, by omega, by go_num, HF.out, ef.out⟩
       case measure => simp [intOf]; omega
      ·clear hh
       go_wp2
       go_roundw
       case rel => exact ⟨j + 1, by omega, by go_num, HF.out, ef.out⟩
       case measure => simp [intOf]; omega
     ·clear hh
      go_wp2
      go_roundw
      case rel => exact ⟨j + 1, by omega, by go_num, HF.out, ef.out⟩
      case measure => simp [intOf]; omega
   ·have Sd : ¬ (j : Int) < (L : Int) - 1 := by omega
    have UC : (L : Int) - 1 ≤ (j : Int) := by omega
    go_wp2
    go_ret
    refine ⟨?_, ef.out⟩
    have h := bgR_no (fs := fs6 ps) (c := c) (fun i hi => jv.out i (by rw [Dr.out] at hi; omega))
    rw [HB.out] at h
    rw [h]
    rfl
theorem ofCk_any (cs : List Value) (kd : Int) (w : World) (hl : cs.length = 14) (hc : cs[0]? = some (.int .i64 kd)) : Calls Tryz.prog 51 #[.agg cs.toArray] w fun e w' => e = .returned (.bool (decide (kd = 6 ∨ kd = 7))) ∧ Same w w' := by
 have hB : Blk (w.alloc (.cells cs.toArray 49)) w.heap.size 49 cs ∧ Same w (w.alloc (.cells cs.toArray 49)) := ⟨Blk.newL w cs _, (Kept.refl _ _).alloc _⟩
 have c0 : (w.alloc (.cells cs.toArray 49)).cell? ⟨w.heap.size, 0, none⟩ = some (.int .i64 kd) := by rw [hB.1.cell]; exact hc
 have HK := hid hB.2
 clear hB hc
 by_cases h1 : kd = 6
 ·have zN : (kd == 6) = true := by simp [h1]
  have HH := hid h1
  clear h1
  go_enter Tryz.func51, Tryz.ntmps51
  go_wp2
  go_ret
  exact ⟨by simp [HH.out], HK.out⟩
 ·have zN : (kd == 6) = false := by simp [h1]
  have HH := hid h1
  clear h1
  go_enter Tryz.func51, Tryz.ntmps51
  go_wp2
  go_ret
  exact ⟨by simp [HH.out]; try rfl, HK.out⟩
theorem kpN_self (fs : List F6) : ∀ n, kpN fs n n = n
 | 0 => rfl
 | n + 1 => by unfold kpN; rw [if_neg (by omega)]
theorem kpN_on {fs : List F6} {least m : Nat} (h : least < m + 1) (hk : (fs.getD m (0, 0, 0, 0, 0, 0)).2.1 = 6 ∨ (fs.getD m (0, 0, 0, 0, 0, 0)).2.1 = 7) : kpN fs least (m + 1) = kpN fs least m := by rw [kpN, if_pos ⟨h, hk⟩]
theorem kpN_off {fs : List F6} {least m : Nat} (hk : ¬ ((fs.getD m (0, 0, 0, 0, 0, 0)).2.1 = 6 ∨ (fs.getD m (0, 0, 0, 0, 0, 0)).2.1 = 7)) : kpN fs least (m + 1) = m + 1 := by rw [kpN, if_neg (fun h => hk h.2)]
theorem implKept_any (v : Value) (ps : List StLogFrame) (least : Nat) (w : World) (mj : least ≤ ps.length) (h0 : 0 < least) (hv : RdFr w v ps) :
  Calls Tryz.prog 28 #[v, .int .i64 least] w fun e w' => e = .returned (.int .i64 (kpN (fs6 ps) least ps.length : Nat)) ∧ Same w w' := by
 have hm : ps.length ≤ maxLen := hv.row.max
 unfold maxLen at hm
 rcases hv.row.row with ⟨rfl, a, cc, rfl⟩ | ⟨b, off, cc, rfl, hc⟩
 ·simp at mj; omega
 ·have HC : Hid (FrC w b off ps) := hc
  obtain ⟨R, hR⟩ : ∃ R, kpN (fs6 ps) least ps.length = R := ⟨_, rfl⟩
  rw [hR]
  have HR := hid hR
  clear hc hv hR
  generalize hl : ps.length = L at *
  have HL := hid hl
  clear hl
  go_enter Tryz.func28, Tryz.ntmps28
  go_wp2_with fail
  go_loopw [5] (fun i wr => ∃ k : Nat, least ≤ k ∧ k ≤ L ∧ i = .int .i64 k ∧ Hid (kpN (fs6 ps) least k = R) ∧ Hid (Same w wr)) (fun i _ => (intOf i).toNat)
  case atStart => exact ⟨L, mj, Nat.le_refl _, rfl, HR.out, Kept.refl _ _⟩
  case round =>
   obtain ⟨k, bg, eC, rfl, jv, ef⟩ := hrel
   by_cases dh : least < k
   ·obtain ⟨m, rfl⟩ : ∃ m, k = m + 1 := ⟨k - 1, by omega⟩
    have lD : m < ps.length := by rw [HL.out]; omega
    obtain ⟨cs, dY⟩ : ∃ cs, recCells ps[m].record = cs := ⟨_, rfl⟩
    have zx := (HC.out.same ef.out).rec m lD
    obtain ⟨kd, nW⟩ : ∃ kd, ps[m].record.kind = kd := ⟨_, rfl⟩
    have j7 : cs.length = 14 := by rw [← dY]; rfl
    have pI : cs[0]? = some (.int .i64 kd) := by rw [← dY, ← nW]; rfl
    rw [dY] at zx
    have gW := hid zx
    have HI : Hid ((Tryz.prog.info? 49).map (·.size) = some cs.length) := by unfold Hid; rw [j7]; kernel_rfl
    have Fz := (show Hid (((fs6 ps).getD m (0, 0, 0, 0, 0, 0)).2.1 = kd) from by rw [fs6_at ps m lD]; exact nW)
    have kf := ofCk_any cs kd wr j7 pI
    clear dY nW j7 pI zx
    have em : ((m + 1 : Nat) : Int) - 1 = (m : Int) := by omega
    have gk : (least : Int) < ((m + 1 : Nat) : Int) := by omega
    have mm : (m : Int) < (L : Int) := by omega
    by_cases hd : kd = 6 ∨ kd = 7
    ·have HN := (show Hid (kpN (fs6 ps) least m = R) from by
      have h := jv.out
      rw [kpN_on (by omega) (by rw [Fz.out]; exact hd)] at h
      exact h)
     rw [decide_eq_true hd] at kf
     clear hd jv Fz
     go_wp2_with (refine BigFrame.wpList_want (by rfl) (fun K hK => wp_load_mid 49 _ rfl b (off + m * 16 + 2) rfl cs _ gW.out Tryz.underlying49 rfl HI.out (hK _ _ ?_)))
     refine kf.mono ?_
     rintro e w1 ⟨rfl, hk⟩
     have bq := hid (ef.out.trans hk)
     clear hk kf
     go_wp2
     go_roundw
     case rel => exact ⟨m, by omega, by omega, by go_num, HN.out, bq.out⟩
     case measure => simp [intOf]
    ·have HN := (show Hid (m + 1 = R) from by
      have h := jv.out
      rw [kpN_off (by rw [Fz.out]; exact hd)] at h
      exact h)
     rw [decide_eq_false hd] at kf
     clear hd jv Fz
     go_wp2_with (refine BigFrame.wpList_want (by rfl) (fun K hK => wp_load_mid 49 _ rfl b (off + m * 16 + 2) rfl cs _ gW.out Tryz.underlying49 rfl HI.out (hK _ _ ?_)))
     refine kf.mono ?_
     rintro e w1 ⟨rfl, hk⟩
     have bq := hid (ef.out.trans hk)
     clear hk kf
     go_wp2
     go_ret
     exact ⟨by rw [← HN.out]; rfl, bq.out⟩
   ·obtain rfl : k = least := by omega
    have gk : ¬ (k : Int) < (k : Int) := by omega
    go_wp2
    go_ret
    have h := jv.out
    rw [kpN_self] at h
    exact ⟨by rw [h]; rfl, ef.out⟩
end Go.Proofs.YtepdakgfioffgaaGreat
