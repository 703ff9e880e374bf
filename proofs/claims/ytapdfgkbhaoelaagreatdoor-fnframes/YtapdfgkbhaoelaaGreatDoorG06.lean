import Derived.Test.YtapdfgkbhaoelaaGreatDoorG05
import Derived.Laws.AppendOwnNone
namespace Go.Proofs.YtapdfgkbhaoelaaGreatDoor
set_option maxRecDepth 100000
set_option maxHeartbeats 16000000
set_option linter.unusedVariables false
set_option linter.unusedSimpArgs false
open Go.RowKit
theorem RF (b off c : Nat) (raw : List Int) (w : World) (hB : IsB raw) (hl : raw.length = 4096) (hv : Rd .u8 w (.slice (some ⟨b, off, none⟩) 4096 c) raw) :
  Calls Tryz.prog 82 #[.slice (some ⟨b, off, none⟩) 4096 c] w fun e w' => e = .returned (Q1 (O4 raw 16 2)) ∧ Same w w' := by
 have h := Sc b off 4096 c raw 16 2 w hB hl (by decide) (by decide) (by decide) hv
 go_enter Tryz.func82, Tryz.ntmps82
 go_wp2_with (go_at_call 81; refine h.mono ?_; rintro e w1 ⟨rfl, hk⟩)
 go_ret;exact ⟨rfl, hk⟩
def RP (sl : List Int) (m p : Nat) : Prop := sl.getD (2 * m) 0 ≤ (p : Int) ∧ (p : Int) < sl.getD (2 * m) 0 + sl.getD (2 * m + 1) 0
theorem Zu (sl : List Int) (i j p : Nat) (h1 : RP sl i p) (h2 : RP sl j p) : Rc sl i j = true := by
 unfold Rc Rt;rw [decide_eq_true_eq];unfold RP at h1 h2;omega
theorem Zv (sl : List Int) (i j : Nat) (h0 : 0 ≤ sl.getD (2 * i) 0) (ov : 0 ≤ sl.getD (2 * j) 0) (h : Rc sl i j = true) : ∃ p : Nat, RP sl i p ∧ RP sl j p := by
 unfold Rc Rt at h;rw [decide_eq_true_eq] at h
 refine ⟨(max (sl.getD (2 * i) 0) (sl.getD (2 * j) 0)).toNat, ?_, ?_⟩ <;> unfold RP <;> omega
theorem WQ (bot x y : Int) (h : Pg bot x y = false) : (x = 0 ∧ y = 0) ∨ (x ≠ 0 ∧ y ≤ 1000 ∧ bot ≤ x ∧ x + y ≤ 4096) := by
 unfold Pg at h;simp at h
 by_cases hx : x = 0
 ·exact .inl ⟨hx, h.2 hx⟩
 ·exact .inr ⟨hx, by have := h.1 hx; omega⟩
theorem jcE {w : World} {base g n size : Nat} {e : TypeId} {xs : List Value} (h : w.ownsRow base e size (Q3 g n n) n xs) : Blk w g e xs := by
 rcases h.2 with ⟨h, _⟩ | ⟨g', cap, cur, h, _, hg, _, _, hs, ht⟩
 ·cases h
 ·cases h
  rw [List.take_of_length_le (by rw [Array.length_toList, hs]; exact Nat.le_refl _)] at ht;unfold Blk;rw [← ht]
  simpa using hg
theorem jaA (n : Nat) : (madeCells (Value.bool false).cells (n * 1)).toList = (List.replicate n false).map Value.bool := by
 apply List.ext_getElem?;intro j
 by_cases hj : j < n
 ·simp [madeCells, hj, Value.cells, Nat.mod_one]
 ·simp [madeCells, hj]
theorem jcF : (Tryz.prog.info? 4).map (fun i => (i.zero, i.size, i.bytes)) = some (some (.bool false), 1, 1) := by kernel_rfl
structure Rows2 (w : World) (g : Nat) (sl : List Int) : Prop where
 at0 : ∀ k, k < 32 → w.cell? ⟨g, k * 2, none⟩ = some (Q1 (sl.getD (2 * k) 0))
 at1 : ∀ k, k < 32 → w.cell? ⟨g, k * 2 + 1, none⟩ = some (Q1 (sl.getD (2 * k + 1) 0))
theorem Rows2.kept {R : Nat → Prop} {w w' : World} {g : Nat} {sl : List Int} (h : Rows2 w g sl) (hk : Kept R w w') (hr : ¬ R g) : Rows2 w' g sl :=
 ⟨fun k aQ => hk.cellOf (h.at0 k aQ) hr, fun k aQ => hk.cellOf (h.at1 k aQ) hr⟩
theorem Ti {w : World} {g cap : Nat} {e : TypeId} {sl : List Int} (h : w.ownsRow 0 e 2 (Q3 g 32 cap) 32 (vals .i64 sl)) (hl : sl.length = 64) : Rows2 w g sl :=
 ⟨fun k hk => by rw [World.ownsRow.cellAt h _ (by omega), Qp _ _ _ (by omega), Nat.mul_comm], fun k hk => by rw [World.ownsRow.cellAt h _ (by omega), Qp _ _ _ (by omega), Nat.mul_comm]⟩
theorem Xz (b off c : Nat) (raw : List Int) (number : Int) (w : World) (hB : IsB raw) (hl : raw.length = 4096) (hv : Rd .u8 w (.slice (some ⟨b, off, none⟩) 4096 c) raw) :
  Calls Tryz.prog 36 #[.slice (some ⟨b, off, none⟩) 4096 c, Q1 number] w fun e w' => e = .returned (Q1 (Pm raw number)) ∧ Same w w' := by
 have t5 := (show Hid (∀ wx, Same w wx → ∀ o n : Nat, 1 ≤ n → o + n ≤ 4096 → Calls Tryz.prog 81 #[.slice (some ⟨b, off, none⟩) 4096 c, Q1 o, Q1 n] wx fun e w' => e = .returned (Q1 (O4 raw o n)) ∧ Same wx w') from fun wx h o n h1 ho =>
  Sc b off 4096 c raw o n wx hB hl (by decide) h1 ho (hv.same h))
 have K7 := (show Hid (∀ wx, Same w wx → Calls Tryz.prog 82 #[.slice (some ⟨b, off, none⟩) 4096 c] wx fun e w' => e = .returned (Q1 (O4 raw 16 2)) ∧ Same wx w') from fun wx h => RF b off c raw wx hB hl (hv.same h));have kj := (show Hid (_) from fun wx (h : Same w wx) => SK b off c raw wx hB hl (hv.same h));have iR : Hid (Small (slotsOf raw)) := Qv raw hB hl
 have iD : ∀ i, i < 4096 → w.cell? ⟨b, off + i, none⟩ = some (.int .u8 (raw.getD i 0)) := by
  rcases hv.2 with ⟨h0, _⟩ | ⟨b', o', c', e, _, hc⟩
  ·rw [h0] at hl; simp at hl
  ·simp only [Value.slice.injEq, Option.some.injEq, Addr.mk.injEq] at e
   obtain ⟨⟨rfl, rfl, _⟩, _, rfl⟩ := e;intro i hi;exact hc i (by omega)
 have Hz := iD 18 (by decide);have Hs := iD 19 (by decide)
 have HF := (show Hid (Pm raw number = if O4 raw 12 4 ≠ number then 2 else if (decide (O4 raw 4 8 < 0) || decide (1099511627776 < O4 raw 4 8) || raw.getD 18 0 != 0 || raw.getD 19 0 != 0) = true then 3 else if O4 raw 16 2 < 148 ∨ 4096 < O4 raw 16 2 then 4 else if QI (O4 raw 16 2) (slotsOf raw) then 5 else if share (slotsOf raw) then 6 else 0) from
  (by unfold Pm RD; rw [if_neg (by simp [hl]), Zt raw hB hl] : Pm raw number = _))
 obtain ⟨F, vl⟩ : ∃ F, Pm raw number = F := ⟨_, rfl⟩;rw [vl] at HF ⊢;have zM := t5.out w kZ0 12 4 (by decide) (by decide)
 have kz := fun wx h => t5.out wx h 4 8 (by decide) (by decide)
 generalize O4 raw 12 4 = num at *;generalize O4 raw 4 8 = lsn at *;generalize O4 raw 16 2 = bot at *;generalize raw.getD 18 0 = Ai at *;generalize raw.getD 19 0 = Cq at *;have iF := Pb raw;generalize slotsOf raw = sl at *;clear iD vl hv hB t5 hl
 by_cases h2 : num = number
 ·have h5 := HF.out
  rw [if_neg (by simp [h2])] at h5
  have BP : (num != number) = false := by simp [h2]
  clear HF h2
  go_enter Tryz.func36, Tryz.ntmps36
  have HF := (show Hid (F = _) from h5);clear h5
  go_upto_region 5 with (go_at_call 81; refine zM.mono ?_; rintro e w1 ⟨rfl, ah⟩; have wk := kz w1 ah; clear zM kz)
  go_wp2_with fail
  refine wk.mono ?_;rintro e w2 ⟨rfl, aj⟩;have aO := hid (ah.trans aj);have N5 := aO.out.cellOf Hz id;have Of := aO.out.cellOf Hs id;clear wk ah aj Hz Hs
  by_cases a1 : lsn < 0
  ·obtain rfl : F = 3 := by have h := HF.out; rw [if_pos (by simp [a1])] at h; exact h
   clear HF;go_wp2;go_ret;exact ⟨rfl, aO.out⟩
  by_cases a2 : 1099511627776 < lsn
  ·obtain rfl : F = 3 := by have h := HF.out; rw [if_pos (by simp [a2])] at h; exact h
   clear HF;go_wp2;go_ret;exact ⟨rfl, aO.out⟩
  by_cases a3 : Ai = 0
  ·by_cases a4 : Cq = 0
   ·have fl : Hid (F = if bot < 148 ∨ 4096 < bot then 4 else if QI bot sl then 5 else if share sl then 6 else 0) := (by have h := HF.out; rw [if_neg (by simp [a1, a2, a3, a4] <;> omega)] at h; exact h : F = _)
    have b3 : (Ai != 0) = false := by simp [a3]
    have b4 : (Cq != 0) = false := by simp [a4]
    have oB := K7.out w2 aO.out;clear HF a3 a4
    by_cases a5 : bot < 148
    ·obtain rfl : F = 4 := by have h := fl.out; rw [if_pos (.inl a5)] at h; exact h
     clear fl
     go_wp2_with (go_at_call 82; refine oB.mono ?_; rintro e w3 ⟨rfl, aZ⟩; have bo : Hid (Same w w3) := aO.out.trans aZ; have cw := kj.out w3 bo.out; clear aZ oB)
     go_ret;exact ⟨rfl, bo.out⟩
    by_cases a6 : 4096 < bot
    ·obtain rfl : F = 4 := by have h := fl.out; rw [if_pos (.inr a6)] at h; exact h
     clear fl
     go_wp2_with (go_at_call 82; refine oB.mono ?_; rintro e w3 ⟨rfl, aZ⟩; have bo : Hid (Same w w3) := aO.out.trans aZ; have cw := kj.out w3 bo.out; clear aZ oB)
     go_ret;exact ⟨rfl, bo.out⟩
    have cR : Hid (F = if QI bot sl then 5 else if share sl then 6 else 0) := (by have h := fl.out; rw [if_neg (by omega)] at h; exact h : F = _);clear fl
    go_wp2_with (first | (go_at_call 82; refine oB.mono ?_; rintro e w3 ⟨rfl, aZ⟩; have bo : Hid (Same w w3) := aO.out.trans aZ; have cw := kj.out w3 bo.out; clear aZ oB) | (go_at_call 83; refine cw.mono ?_; rintro e w4 ⟨g, cap, rfl, hg, ag, cS⟩; have bp : Hid (Same w w4) := bo.out.trans cS; have gC : Hid (Rows2 w4 g sl) := Ti ag iF; have nv := (World.ownsRow.lt ag g rfl).2; clear cS ag cw))
    go_loopw [8, 9] (fun i _ wr => ∃ k : Nat, k ≤ 32 ∧ i = Q1 k ∧ Hid (∀ j < k, Pg bot (sl.getD (2 * j) 0) (sl.getD (2 * j + 1) 0) = false) ∧ Hid (Same w4 wr)) (fun i _ _ => 32 - (intOf i).toNat)
    case atStart => exact ⟨0, by omega, rfl, fun j hj => by omega, kZ0⟩
    case round =>
     obtain ⟨k, hk, rfl, oy, cJ⟩ := hrel
     by_cases bg : k < 32
     ·have aj : (k : Int) < 32 := by omega
      have c0 := (gC.out.kept cJ.out id).at0 k bg;have c1 := (gC.out.kept cJ.out id).at1 k bg;have l5 := iR.out.at (2 * k);have oK := iR.out.at (2 * k + 1);have gF : Hid (Pg bot (sl.getD (2 * k) 0) (sl.getD (2 * k + 1) 0) = true → F = 5) := fun h => by rw [cR.out, UE bot sl k bg h, if_pos rfl]
      have rG := (show Hid (Pg bot (sl.getD (2 * k) 0) (sl.getD (2 * k + 1) 0) = false → ∀ j < k + 1, Pg bot (sl.getD (2 * j) 0) (sl.getD (2 * j + 1) 0) = false) from fun h j hj => by
       by_cases e : j = k
       ·rw [e]; exact h
       ·exact oy.out j (by omega))
      generalize sl.getD (2 * k) 0 = x at *;generalize sl.getD (2 * k + 1) 0 = y at *
      by_cases dR : x = 0
      ·have iY : (x != 0) = false := by rw [dR]; rfl
       have A0 : (x == 0) = true := by rw [dR]; rfl
       by_cases fI : y = 0
       ·have gN : Pg bot x y = false := by simp [Pg, dR, fI]
        have sF : (y != 0) = false := by rw [fI]; rfl
        clear dR fI;go_wp2;go_roundw
        case rel => exact ⟨k + 1, by omega, by go_num, rG.out gN, cJ.out.alloc _⟩
        case measure => simp [intOf]; omega
       ·have gN : Pg bot x y = true := by simp [Pg, dR, fI]
        have sF : (y != 0) = true := by simp [fI]
        obtain rfl := gF.out gN;clear dR fI cR;go_wp2;go_ret;exact ⟨rfl, bp.out.trans (cJ.out.alloc _)⟩
      ·have iY : (x != 0) = true := by simp [dR]
       have A0 : (x == 0) = false := by simp [dR]
       by_cases hL : 1000 < y
       ·have gN : Pg bot x y = true := by simp [Pg, dR, hL]
        obtain rfl := gF.out gN;clear cR;go_wp2;go_ret;exact ⟨rfl, bp.out.trans (cJ.out.alloc _)⟩
       ·by_cases hO : x < bot
        ·have gN : Pg bot x y = true := by simp [Pg, dR, hO]
         obtain rfl := gF.out gN;clear cR;go_wp2;go_ret;exact ⟨rfl, bp.out.trans (cJ.out.alloc _)⟩
        ·by_cases hE : 4096 < x + y
         ·have gN : Pg bot x y = true := by simp [Pg, dR, hE]
          obtain rfl := gF.out gN;clear cR;go_wp2;go_ret;exact ⟨rfl, bp.out.trans (cJ.out.alloc _)⟩
         ·have gN : Pg bot x y = false := by simp [Pg, dR]; omega
          go_wp2;go_roundw
          case rel => exact ⟨k + 1, by omega, by go_num, rG.out gN, cJ.out.alloc _⟩
          case measure => simp [intOf]; omega
     ·obtain rfl : k = 32 := by omega
      have dK : Hid (F = if share sl then 6 else 0) := (by have h := cR.out; rw [XY bot sl oy.out, if_neg (by decide)] at h; exact h : F = _);clear cR;obtain ⟨i0, hi, b8, cE, cP⟩ := info_parts jcF
      have Et := (show Hid (∀ m < 32, 0 ≤ sl.getD (2 * m) 0 ∧ 0 ≤ sl.getD (2 * m + 1) 0 ∧ sl.getD (2 * m) 0 + sl.getD (2 * m + 1) 0 ≤ 4096) from fun m hm => by
       have h0 := iR.out.at (2 * m);have h1 := iR.out.at (2 * m + 1)
       rcases WQ _ _ _ (oy.out m hm) with h | h <;> omega)
      have Fe := cJ.out.size
      go_wp2_with (at_make; (refine wpList_make_full _ rfl _ _ 132 rfl 0 4 i0 (.bool false) 1 Tryz.underlying132 hi b8 cE .i64 .i64 _ _ 4096 rfl rfl (by first | rfl | simp) (by first | rfl | simp) (by rw [cP]; decide) (by decide) (Nat.zero_le _) ?_); intro w5 dm bZ; have qO : Hid (Blk w5 wr.heap.size 4 ((List.replicate 4096 false).map Value.bool)) := (by have h := jcE dm; rw [jaA 4096] at h; exact h); have cd : Hid (Same wr w5) := Kept.of_grown bZ (fun k e => by cases e); clear dm bZ)
      obtain ⟨go, Aa⟩ : ∃ go, wr.heap.size = go := ⟨_, rfl⟩;rw [Aa] at qO ⊢
      have KV : g < go := by omega
      have jb := hid (gC.out.kept (cJ.out.trans cd.out) id);have xJ := hid (bp.out.trans (cJ.out.trans cd.out))
      have jj : w.heap.size ≤ go := by have := bp.out.size; omega
      clear Aa Fe oy gC cJ cd
      go_loopw [11, 12] (fun i _ wq => ∃ (k : Nat) (os : List Bool), k ≤ 32 ∧ i = Q1 k ∧ Hid (os.length = 4096) ∧ Hid (Blk wq go 4 (os.map Value.bool)) ∧ Hid (∀ p < 4096, os.getD p false = true ↔ ∃ m < k, RP sl m p) ∧ Hid (∀ i < k, ∀ j < i, Rc sl i j = false) ∧ Hid (Kept (fun b => b = go) w5 wq)) (fun i _ _ => 32 - (intOf i).toNat)
      case atStart =>
       refine ⟨0, _, by omega, rfl, List.length_replicate, qO, ?_, fun i hi => by omega, kZ0⟩;intro p hp;constructor
       ·intro h
        simp only [List.getD, List.getElem?_replicate, hp, if_true, Option.getD_some] at h
        cases h
       ·rintro ⟨m, hm, _⟩
        omega
      case round =>
       obtain ⟨k, os, hk, rfl, Kp, Bq, Ml, Ie, AI⟩ := hrel
       by_cases bg : k < 32
       ·have aj : (k : Int) < 32 := by omega
        have c0 := (jb.out.kept AI.out (by omega)).at0 k bg;have c1 := (jb.out.kept AI.out (by omega)).at1 k bg;obtain ⟨dR, fI, oP⟩ := Et.out k bg;have ze := (show Hid (∀ p, RP sl k p ↔ sl.getD (2 * k) 0 ≤ (p : Int) ∧ (p : Int) < sl.getD (2 * k) 0 + sl.getD (2 * k + 1) 0) from fun p => Iff.rfl);obtain ⟨x, pw⟩ : ∃ x0 : Nat, sl.getD (2 * k) 0 = x0 := ⟨(sl.getD (2 * k) 0).toNat, by omega⟩;obtain ⟨y, pq⟩ : ∃ y0 : Nat, sl.getD (2 * k + 1) 0 = y0 := ⟨(sl.getD (2 * k + 1) 0).toNat, by omega⟩;have J6 : Hid (sl.getD (2 * k) 0 = (x : Int) ∧ sl.getD (2 * k + 1) 0 = (y : Int)) := ⟨pw, pq⟩;rw [pw, pq] at oP ze;rw [pw] at c0 dR;rw [pq] at c1 fI;clear pw pq
        go_wp2_with fail
        go_loopw [12] (fun q wi => ∃ (q0 : Nat) (lx : List Bool), x ≤ q0 ∧ q0 ≤ x + y ∧ q = Q1 q0 ∧ Hid (lx.length = 4096) ∧ Hid (Blk wi go 4 (lx.map Value.bool)) ∧ Hid (∀ p < 4096, lx.getD p false = true ↔ (∃ m < k, RP sl m p) ∨ (x ≤ p ∧ p < q0)) ∧ Hid (∀ p, x ≤ p → p < q0 → ¬ ∃ m < k, RP sl m p) ∧ Hid (Kept (fun b => b = go) w5 wi)) (fun q _ => x + y - (intOf q).toNat)
        case atStart =>
         refine ⟨x, os, by omega, by omega, rfl, Kp, Bq, fun p hp => ?_, fun p h1 h2 => by omega, AI⟩;rw [Ml.out p hp];constructor
         ·exact .inl
         ·rintro (h | h)
          ·exact h
          ·omega
        case round =>
         obtain ⟨q, lx, fj, gV, rfl, zS, cH, Ay, Ft, cF⟩ := hrel;have d0 := (jb.out.kept cF.out (by omega)).at0 k bg;have d1 := (jb.out.kept cF.out (by omega)).at1 k bg;have FK : Hid (sl.getD (2 * k) 0 = (x : Int) ∧ sl.getD (2 * k + 1) 0 = (y : Int)) := J6.out;rw [FK.out.1] at d0;rw [FK.out.2] at d1
         by_cases hql : q < x + y
         ·have sI : (q : Int) < (x : Int) + (y : Int) := by omega
          have N0 : (q : Int) < 4096 := by omega
          have Ch : q < 4096 := by omega
          have f1 := cH.out.frozen q;have c9 := cH.out.cell q
          have e9 : (lx.map Value.bool)[q]? = some (.bool (lx.getD q false)) := by simp [List.getD, List.getElem?_eq_getElem (show q < lx.length by rw [zS.out]; exact Ch)]
          rw [e9] at c9;clear e9
          by_cases ho : lx.getD q false = true
          ·rw [ho] at c9
           have dT := (Ay.out q Ch).1 ho
           obtain ⟨m, hm, pS⟩ : ∃ m < k, RP sl m q := by
            rcases dT with h | h
            ·exact h
            ·omega
           obtain rfl : F = 6 := by
            have h := dK.out;rw [XZ sl k m bg hm (Zu sl k m q ((ze.out q).2 ⟨by omega, by omega⟩) pS), if_pos rfl] at h;exact h
           clear dK dT pS;go_wp2
           go_quiet (fail)
           go_wp2;go_ret;exact ⟨rfl, (xJ.out.next cF.out (fun i hi e => by omega)).drewN _⟩
          ·have Gv : lx.getD q false = false := by simpa using ho
           rw [Gv] at c9;have G9 : ¬ ∃ m < k, RP sl m q := fun h => ho ((Ay.out q Ch).2 (.inl h));have Li : Hid (¬ ∃ m < k, RP sl m q) := G9;clear ho Gv G9;go_wp2
           go_quiet (fail)
           go_wp2;go_roundw
           case rel =>
            refine ⟨q + 1, lx.set q true, by omega, by omega, by go_num, by rw [List.length_set]; exact zS.out, ?_, fun p hp => ?_, fun p h1 h2 => ?_, ?_⟩
            ·rw [List.map_set]
             first
              | exact (cH.out.same (kZ0.drewN _)).stored q (.bool true)
              | exact (cH.out.stored q (.bool true)).same (kZ0.drewN _)
            ·by_cases e : p = q
             ·subst e
              simp only [List.getD, List.getElem?_set, zS.out, hp, if_true, Option.getD_some, true_iff];exact .inr ⟨by omega, by omega⟩
             ·have hg : (lx.set q true).getD p false = lx.getD p false := by simp [List.getD, List.getElem?_set_ne (show q ≠ p from fun h => e h.symm)]
              rw [hg, Ay.out p hp];constructor
              ·rintro (h | h)
               ·exact .inl h
               ·exact .inr ⟨h.1, by omega⟩
              ·rintro (h | h)
               ·exact .inl h
               ·exact .inr ⟨h.1, by omega⟩
            ·by_cases e : p = q
             ·rw [e]; exact Li.out
             ·exact Ft.out p h1 (by omega)
            ·first
              | exact Kept.setCell (R := fun b => b = go) (cF.out.drewN _) (.inr rfl) _
              | exact (Kept.setCell (R := fun b => b = go) cF.out (.inr rfl) _).drewN _
           case measure => simp [intOf]; omega
         ·obtain rfl : q = x + y := by omega
          have sI : ¬ ((x + y : Nat) : Int) < (x : Int) + (y : Int) := by omega
          go_wp2
          go_quiet (fail)
          go_wp2;go_roundw
          case rel =>
           refine ⟨k + 1, lx, by omega, by go_num, zS, ?_, fun p hp => ?_, fun i hi j hj => ?_, cF.out.drewN _⟩
           ·exact cH.out.same (kZ0.drewN _)
           ·rw [Ay.out p hp]
            constructor
            ·rintro (⟨m, hm, h⟩ | h)
             ·exact ⟨m, by omega, h⟩
             ·exact ⟨k, by omega, (ze.out p).2 ⟨by omega, by omega⟩⟩
            ·rintro ⟨m, hm, h⟩
             by_cases e : m = k
             ·rw [e] at h
              have := (ze.out p).1 h;exact .inr ⟨by omega, by omega⟩
             ·exact .inl ⟨m, by omega, h⟩
           ·by_cases e : i = k
            ·rw [e] at hj ⊢
             rw [← Bool.not_eq_true];intro hs;obtain ⟨p, h1, h2⟩ := Zv sl k j (Et.out k bg).1 (Et.out j (by omega)).1 hs;have h3 := (ze.out p).1 h1;exact Ft.out p (by omega) (by omega) ⟨j, hj, h2⟩
            ·exact Ie.out i (by omega) j hj
          case measure => simp [intOf]; omega
       ·obtain rfl : k = 32 := by omega
        obtain rfl : F = 0 := by have h := dK.out; rw [WO sl Ie.out, if_neg (by decide)] at h; exact h
        clear dK;go_wp2;go_ret;exact ⟨rfl, xJ.out.next AI.out (fun i hi e => by omega)⟩
   ·obtain rfl : F = 3 := by have h := HF.out; rw [if_pos (by simp [a4])] at h; exact h
    have b3 : (Ai != 0) = false := by simp [a3]
    have b4 : (Cq != 0) = true := by simp [a4]
    clear HF a3 a4;go_wp2;go_ret;exact ⟨rfl, aO.out⟩
  ·obtain rfl : F = 3 := by have h := HF.out; rw [if_pos (by simp [a3])] at h; exact h
   have b3 : (Ai != 0) = true := by simp [a3]
   clear HF a3;go_wp2;go_ret;exact ⟨rfl, aO.out⟩
 ·have BP : (num != number) = true := by simp [h2]
  obtain rfl : F = 2 := by have h := HF.out; rw [if_pos h2] at h; exact h
  clear HF h2
  go_enter Tryz.func36, Tryz.ntmps36
  go_wp2_with (go_at_call 81; refine zM.mono ?_; rintro e w1 ⟨rfl, ah⟩; clear zM)
  go_ret;exact ⟨rfl, ah⟩
theorem Uy (v : Value) (raw : List Int) (number : Int) (w : World) (hB : IsB raw) (hn : raw.length ≤ 1099511627776) (hv : Rd .u8 w v raw) :
  Calls Tryz.prog 36 #[v, Q1 number] w fun e w' => e = .returned (Q1 (Pm raw number)) ∧ Same w w' := by
 obtain ⟨a, c, rfl⟩ := hv.form
 by_cases hl : raw.length = 4096
 ·obtain ⟨b, off, rfl, hc⟩ := rd_some hv (by omega)
  rw [hl] at hv ⊢;exact Xz b off c raw number w hB hl hv
 ·have hR : Pm raw number = 1 := by unfold Pm; rw [if_pos hl]
  rw [hR]
  have ry : ¬ (raw.length : Int) = 4096 := by omega
  clear hv hB
  go_enter Tryz.func36, Tryz.ntmps36
  go_wp2;go_ret;exact ⟨rfl, kZ0⟩
theorem Uk (v : Value) (raw : List Int) (w : World) (hB : IsB raw) (hn : raw.length ≤ 1099511627776) (hv : Rd .u8 w v raw) :
  Calls Tryz.prog 107 #[v] w fun e w' => e = .returned (.bool (PK raw)) ∧ Same w w' := by
 obtain ⟨a, c, rfl⟩ := hv.form
 by_cases hl : raw.length = 4096
 ·obtain ⟨b, off, rfl, hc⟩ := rd_some hv (by omega)
  have hR : PK raw = (Pm raw (O4 raw 12 4) == 0) := by unfold PK; rw [hl]; rfl
  rw [hl] at hv ⊢;have hN := Sc b off 4096 c raw 12 4 w hB hl (by decide) (by decide) (by decide) hv;have hF := fun wx (h : Same w wx) => Uy (.slice (some ⟨b, off, none⟩) 4096 c) raw (O4 raw 12 4) wx hB hn (hv.same h);rw [hR];have ED : Ps ((raw.drop 12).take 4) = O4 raw 12 4 := rfl;rw [ED] at hN;generalize Pm raw (O4 raw 12 4) = F at *;generalize O4 raw 12 4 = N at *;clear hv hB hR ED
  go_enter Tryz.func107, Tryz.ntmps107
  go_wp2_with (first
   | (go_at_call 81; refine hN.mono ?_; rintro e w1 ⟨rfl, ah⟩; have Ls := hF w1 ah)
   | (go_at_call 36; refine Ls.mono ?_; rintro e w2 ⟨rfl, aj⟩))
  go_ret;exact ⟨rfl, ah.trans aj⟩
 ·have hR : PK raw = false := by unfold PK; simp [hl]
  rw [hR]
  have ry : ¬ (raw.length : Int) = 4096 := by omega
  clear hv hB
  go_enter Tryz.func107, Tryz.ntmps107
  go_wp2;go_ret;exact ⟨rfl, kZ0⟩
def VZ (raw : List Int) : Int := if PK raw = true then O4 raw 4 8 else -1
def PS (sl : List Int) : Nat → Int
 | 0 => 0
 | k + 1 => PS sl k + sl.getD (2 * k + 1) 0
theorem Zw (sl : List Int) (h : Small sl) (k : Nat) : 0 ≤ PS sl k ∧ PS sl k ≤ 65535 * k := by
 induction k with
 | zero => simp [PS]
 | succ k ih =>
  have := h.at (2 * k + 1);simp only [PS];omega
def Q8 (raw : List Int) : Int := if PK raw = true then PS (slotsOf raw) 32 else -1
theorem YE (v : Value) (raw : List Int) (w : World) (hB : IsB raw) (hn : raw.length ≤ 1099511627776) (hv : Rd .u8 w v raw) :
  Calls Tryz.prog 108 #[v] w fun e w' => e = .returned (Q1 (Q8 raw)) ∧ Same w w' := by
 have h := Uk v raw w hB hn hv
 by_cases bj : PK raw = true
 ·have hl : raw.length = 4096 := by unfold PK at bj; simp at bj; exact bj.1
  have e : Q8 raw = PS (slotsOf raw) 32 := by unfold Q8; rw [if_pos bj]
  obtain ⟨a, c, rfl⟩ := hv.form;obtain ⟨b, off, rfl, hc⟩ := rd_some hv (by omega);rw [hl] at hv h ⊢;have hS := fun wx (h : Same w wx) => SK b off c raw wx hB hl (hv.same h);have iR : Hid (Small (slotsOf raw)) := Qv raw hB hl;have iF := Pb raw;rw [bj] at h;rw [e];generalize slotsOf raw = sl at *;clear hv hB bj e
  go_enter Tryz.func108, Tryz.ntmps108
  go_wp2_with (first
   | (go_at_call 107; refine h.mono ?_; rintro e w1 ⟨rfl, ah⟩; have oR := hS w1 ah)
   | (go_at_call 83; refine oR.mono ?_; rintro e w2 ⟨g, cap, rfl, hg, ag, aj⟩; have aO : Hid (Same w w2) := ah.trans aj; have gi : Hid (Rows2 w2 g sl) := Ti ag iF; clear ag aj ah oR hS h))
  go_loopw [3, 5] (fun t i wr => ∃ k : Nat, k ≤ 32 ∧ t = Q1 (PS sl k) ∧ i = Q1 k ∧ wr = w2) (fun _ i _ => 32 - (intOf i).toNat)
  case atStart => exact ⟨0, by omega, rfl, rfl, rfl⟩
  case round =>
   obtain ⟨k, hk, rfl, rfl, rfl⟩ := hrel
   by_cases bg : k < 32
   ·have aj : (k : Int) < 32 := by omega
    have c1 := gi.out.at1 k bg;have Bj := Zw sl iR.out k;have oK := iR.out.at (2 * k + 1);have HU : Hid (PS sl (k + 1) = PS sl k + sl.getD (2 * k + 1) 0) := rfl;generalize PS sl k = U at *;generalize sl.getD (2 * k + 1) 0 = y at *;go_wp2;go_roundw
    case rel => exact ⟨k + 1, by omega, by rw [HU.out], by go_num, by first | rfl | trivial⟩
    case measure => simp [intOf]; omega
   ·obtain rfl : k = 32 := by omega
    go_wp2;go_ret;exact ⟨rfl, aO.out⟩
 ·have hf : PK raw = false := by simpa using bj
  have e : Q8 raw = -1 := by unfold Q8; rw [if_neg bj]
  rw [hf] at h;rw [e];clear hv hB bj e
  go_enter Tryz.func108, Tryz.ntmps108
  go_wp2_with (go_at_call 107; refine h.mono ?_; rintro e w1 ⟨rfl, ah⟩)
  go_ret;exact ⟨rfl, ah⟩
theorem TG (v : Value) (bs : List Int) (w : World) (hn : bs.length ≤ 1099511627776) (hv : Rd .u8 w v bs) :
  Calls Tryz.prog 109 #[v] w fun e w' => ∃ a n c, e = .returned (.slice a n c) ∧ Own 0 5 .u8 w' (.slice a n c) bs ∧ (∀ b, (Value.slice a n c).ownBlock = some b → w.heap.size ≤ b) ∧ Same w w' := by
 obtain ⟨i0, hi, b8, cE, cP⟩ := info_parts Tryz.infoByte'
 rcases hv.2 with ⟨rfl, a, c, rfl, ml⟩ | ⟨b, off, c, rfl, _, hc⟩
 ·cases a with
  | none =>
   obtain rfl : c = 0 := ml rfl;clear hv hn ml
   go_enter Tryz.func109, Tryz.ntmps109
   go_wp2_with (at_builtin; refine wpList_append_own_none rfl (.tmp 3) (.tmp 4) 22 rfl w.heap.size 5 i0 1 Tryz.underlying22 hi _ 0 [] rfl (World.ownsRow_made w #[] 0 (Nat.le_refl _) (by simp) (by simp)) rfl ?_)
   go_ret;exact ⟨_, _, _, rfl, (World.ownsRow_made w #[] 0 (Nat.zero_le _) (by simp) (by simp)), fun b hb => by simp [Value.ownBlock] at hb; omega, kZ0.alloc _⟩
  | some ad =>
   clear hv hn ml
   go_enter Tryz.func109, Tryz.ntmps109
   go_wp2_with (at_builtin; refine wpList_append_own _ rfl (.tmp 3) (.tmp 4) 22 rfl w.heap.size 5 i0 (.int .u8 0) 1 1 Tryz.underlying22 hi b8 cE cP rfl (by decide) (.slice (some ⟨w.heap.size, 0, none⟩) 0 0) 0 [] rfl (World.ownsRow_made w #[] 0 (Nat.le_refl _) (by simp) (by simp)) ad 0 c [] rfl rfl (fun j u h => by simp at h) (fun u h => by simp at h) (by simp) (by simp) (by simp) ?_; intro v' w1 bm aV _; have HF : Hid (Own w.heap.size 5 .u8 w1 v' []) := bm; have HK : Hid (Same w w1) := (kZ0.alloc _).grown aV (fun k e => .inl (by simp [Value.ownBlock] at e; omega)); obtain ⟨aa, na, ca, rfl⟩ := QX HF.out; clear bm aV)
   go_ret;exact ⟨_, _, _, rfl, HF.out.mono (fun b _ => Nat.zero_le b), fun b hb => (HF.out.lt b hb).1, HK.out⟩
 ·have HC : Hid (∀ i, i < bs.length → (w.alloc (.cells #[] 5)).cell? ⟨b, off + i, none⟩ = some (.int .u8 (bs.getD i 0))) := fun i hi => ((Kept.refl (fun _ => False) w).alloc _).cellOf (hc i hi) id
  clear hv hc
  go_enter Tryz.func109, Tryz.ntmps109
  go_wp2_with (at_builtin; refine wpList_append_own _ rfl (.tmp 3) (.tmp 4) 22 rfl w.heap.size 5 i0 (.int .u8 0) 1 1 Tryz.underlying22 hi b8 cE cP rfl (by decide) (.slice (some ⟨w.heap.size, 0, none⟩) 0 0) 0 [] rfl (World.ownsRow_made w #[] 0 (Nat.le_refl _) (by simp) (by simp)) ⟨b, off, none⟩ bs.length c (vals .u8 bs) rfl (by simp [O1]) (UR HC.out) Qy (by unfold maxLen; omega) (by omega) (by simp) ?_; intro v' w1 bm aV _; have HF : Hid (Own w.heap.size 5 .u8 w1 v' bs) := (by simpa [Own, Hid] using bm); have HK : Hid (Same w w1) := (kZ0.alloc _).grown aV (fun k e => .inl (by simp [Value.ownBlock] at e; omega)); obtain ⟨aa, na, ca, rfl⟩ := QX HF.out; clear bm aV)
  go_ret;exact ⟨_, _, _, rfl, HF.out.mono (fun b _ => Nat.zero_le b), fun b hb => (HF.out.lt b hb).1, HK.out⟩
theorem Vj (v : Value) (bs : List Int) (w : World) (hn : bs.length ≤ 1099511627776) (hv : Rd .u8 w v bs) :
  Calls Tryz.prog 67 #[v] w fun e w' => ∃ a n c, e = .returned (.slice a n c) ∧ Own 0 5 .u8 w' (.slice a n c) bs ∧ (∀ b, (Value.slice a n c).ownBlock = some b → w.heap.size ≤ b) ∧ Same w w' := by
 obtain ⟨i0, hi, b8, cE, cP⟩ := info_parts Tryz.infoByte';have ik := fun (wx : World) (a : Option Addr) (n c : Nat) => Lib.run_eql_slice_nil (P := Tryz.prog) wx 22 5 a n c 0 0 Tryz.underlying22
 rcases hv.2 with ⟨rfl, a, c, rfl, ml⟩ | ⟨b, off, c, rfl, _, hc⟩
 ·cases a with
  | none =>
   obtain rfl : c = 0 := ml rfl;clear hv hn ml
   go_enter Tryz.func67, Tryz.ntmps67
   go_wp2;go_ret;exact ⟨_, _, _, rfl, Own.nil _ _ _ _, fun b hb => by simp [Value.ownBlock] at hb, kZ0⟩
  | some ad =>
   clear hv hn ml
   go_enter Tryz.func67, Tryz.ntmps67
   go_wp2_with (at_builtin; refine wpList_append_own _ rfl (.tmp 5) (.tmp 6) 22 rfl w.heap.size 5 i0 (.int .u8 0) 1 1 Tryz.underlying22 hi b8 cE cP rfl (by decide) (.slice (some ⟨w.heap.size, 0, none⟩) 0 0) 0 [] rfl (World.ownsRow_made w #[] 0 (Nat.le_refl _) (by simp) (by simp)) ad 0 c [] rfl rfl (fun j u h => by simp at h) (fun u h => by simp at h) (by simp) (by simp) (by simp) ?_; intro v' w1 bm aV _; have HF : Hid (Own w.heap.size 5 .u8 w1 v' []) := bm; have HK : Hid (Same w w1) := (kZ0.alloc _).grown aV (fun k e => .inl (by simp [Value.ownBlock] at e; omega)); obtain ⟨aa, na, ca, rfl⟩ := QX HF.out; clear bm aV)
   go_ret;exact ⟨_, _, _, rfl, HF.out.mono (fun b _ => Nat.zero_le b), fun b hb => (HF.out.lt b hb).1, HK.out⟩
 ·have HC : Hid (∀ i, i < bs.length → (w.alloc (.cells #[] 5)).cell? ⟨b, off + i, none⟩ = some (.int .u8 (bs.getD i 0))) := fun i hi => ((Kept.refl (fun _ => False) w).alloc _).cellOf (hc i hi) id
  clear hv hc
  go_enter Tryz.func67, Tryz.ntmps67
  go_wp2_with (at_builtin; refine wpList_append_own _ rfl (.tmp 5) (.tmp 6) 22 rfl w.heap.size 5 i0 (.int .u8 0) 1 1 Tryz.underlying22 hi b8 cE cP rfl (by decide) (.slice (some ⟨w.heap.size, 0, none⟩) 0 0) 0 [] rfl (World.ownsRow_made w #[] 0 (Nat.le_refl _) (by simp) (by simp)) ⟨b, off, none⟩ bs.length c (vals .u8 bs) rfl (by simp [O1]) (UR HC.out) Qy (by unfold maxLen; omega) (by omega) (by simp) ?_; intro v' w1 bm aV _; have HF : Hid (Own w.heap.size 5 .u8 w1 v' bs) := (by simpa [Own, Hid] using bm); have HK : Hid (Same w w1) := (kZ0.alloc _).grown aV (fun k e => .inl (by simp [Value.ownBlock] at e; omega)); obtain ⟨aa, na, ca, rfl⟩ := QX HF.out; clear bm aV)
  go_ret;exact ⟨_, _, _, rfl, HF.out.mono (fun b _ => Nat.zero_le b), fun b hb => (HF.out.lt b hb).1, HK.out⟩
theorem Qx {raw : List Int} (h : PK raw = true) : raw.length = 4096 := by unfold PK at h; simp at h; exact h.1
theorem Rx {raw : List Int} (h : PK raw = true) : 148 ≤ O4 raw 16 2 ∧ O4 raw 16 2 ≤ 4096 ∧ QI (O4 raw 16 2) (slotsOf raw) = false ∧ share (slotsOf raw) = false := by
 have hl := Qx h;unfold PK Pm RD at h;simp only [hl, ne_eq, not_true_eq_false, if_false] at h;simp only [beq_self_eq_true, Bool.true_and] at h
 by_cases h2 : QY (raw.take 4) (O4 raw 4 8) (O4 raw 12 4) (O4 raw 16 2) (slotsOf raw) raw = true
 ·simp [h2] at h
 by_cases h3 : O4 raw 16 2 < 148 ∨ 4096 < O4 raw 16 2
 ·simp [h2, h3] at h
 by_cases h4 : QI (O4 raw 16 2) (slotsOf raw) = true
 ·simp [h2, h3, h4] at h
 by_cases h5 : share (slotsOf raw) = true
 ·simp [h2, h3, h4, h5] at h
 exact ⟨by omega, by omega, by simpa using h4, by simpa using h5⟩
theorem jbA {bot : Int} {sl : List Int} (h : QI bot sl = false) (k : Nat) (hk : k < 32) : Pg bot (sl.getD (2 * k) 0) (sl.getD (2 * k + 1) 0) = false := by
 cases hx : Pg bot (sl.getD (2 * k) 0) (sl.getD (2 * k + 1) 0) with
 | false => rfl
 | true => rw [UE bot sl k hk hx] at h; cases h
theorem WR {raw : List Int} (h : PK raw = true) (k : Nat) (hk : k < 32) : ((slotsOf raw).getD (2 * k) 0 = 0 ∧ (slotsOf raw).getD (2 * k + 1) 0 = 0) ∨
  ((slotsOf raw).getD (2 * k) 0 ≠ 0 ∧ (slotsOf raw).getD (2 * k + 1) 0 ≤ 1000 ∧ 148 ≤ (slotsOf raw).getD (2 * k) 0 ∧ (slotsOf raw).getD (2 * k) 0 + (slotsOf raw).getD (2 * k + 1) 0 ≤ 4096) := by
 obtain ⟨h1, h2, h3, h4⟩ := Rx h
 rcases WQ _ _ _ (jbA h3 k hk) with h | ⟨a, b, c, d⟩
 ·exact .inl h
 ·exact .inr ⟨a, b, by omega, d⟩
def stretch (raw : List Int) (x y : Int) : List Int := (raw.drop x.toNat).take y.toNat
theorem RG (raw : List Int) (x y : Int) (hl : raw.length = 4096) (hx : 0 ≤ x) (hy : 0 ≤ y) (h : x + y ≤ 4096) : (stretch raw x y).length = y.toNat := by simp [stretch, hl]; omega
def QD (raw : List Int) (s : Int) : Bool × List Int :=
 if PK raw = true ∧ 0 ≤ s ∧ s < 32 ∧ (slotsOf raw).getD (2 * s.toNat) 0 ≠ 0 then (true, stretch raw ((slotsOf raw).getD (2 * s.toNat) 0) ((slotsOf raw).getD (2 * s.toNat + 1) 0)) else (false, [])
theorem SL {raw : List Int} {k : Nat} (h : PK raw = true) (hk : k < 32) (h0 : (slotsOf raw).getD (2 * k) 0 ≠ 0) : QD raw k = (true, stretch raw ((slotsOf raw).getD (2 * k) 0) ((slotsOf raw).getD (2 * k + 1) 0)) := by
 unfold QD;rw [if_pos ⟨h, by omega, by omega, by simpa using h0⟩];rfl
theorem Sq {raw : List Int} {s : Int} (h : PK raw = false ∨ s < 0 ∨ 32 ≤ s ∨ (slotsOf raw).getD (2 * s.toNat) 0 = 0) : QD raw s = (false, []) := by
 unfold QD;rw [if_neg];rintro ⟨h1, h2, h3, h4⟩
 rcases h with h | h | h | h
 ·rw [h1] at h; cases h
 ·omega
 ·omega
 ·exact h4 h
theorem jaB (s : Int) (w : World) : Calls Tryz.prog 160 #[Q1 s] w fun e w' => e = .returned (.bool (decide (0 ≤ s) && decide (s < 32))) ∧ Same w w' := by
 by_cases h : 0 ≤ s
 ·by_cases h2 : s < 32
  ·have kq : ¬ (32 ≤ s) := by omega
   go_enter Tryz.func160, Tryz.ntmps160
   go_wp2;go_ret;exact ⟨by simp [h, h2], kZ0⟩
  ·have kq : (32 ≤ s) := by omega
   go_enter Tryz.func160, Tryz.ntmps160
   go_wp2;go_ret;exact ⟨by simp [h, h2], kZ0⟩
 ·go_enter Tryz.func160, Tryz.ntmps160
  go_wp2;go_ret;exact ⟨by rw [show decide (0 ≤ s) = false from by simp; omega]; rfl, kZ0⟩
def Rm (x : Int) : Bool := decide (0 ≤ x) && decide (x < 16)
set_option maxRecDepth 100000 in
theorem UF (x : Int) (w : World) : Calls Tryz.prog 159 #[Q1 x] w fun e w' => e = .returned (.bool (Rm x)) ∧ Same w w' := by
 unfold Rm
 by_cases h : 0 ≤ x
 ·by_cases h2 : x < 16
  ·go_enter Tryz.func159, Tryz.ntmps159
   go_wp2;go_ret;exact ⟨by simp [h, h2], kZ0⟩
  ·go_enter Tryz.func159, Tryz.ntmps159
   go_wp2;go_ret;exact ⟨by simp [h]; omega, kZ0⟩
 ·go_enter Tryz.func159, Tryz.ntmps159
  go_wp2;go_ret;exact ⟨by rw [show decide (0 ≤ x) = false from by simp; omega]; rfl, kZ0⟩
def SX (x : Int) : Bool := decide (1 ≤ x) && decide (x ≤ 2147483647)
def Ul (x : Int) : Bool := decide (0 ≤ x) && decide (x < 32)
def QN (u : Bool) (n : Nat) : Bool := decide (n ≤ 1000) && (u || decide (n = 0))
def PO (txn prev : Int) : Int := if SX txn = false then 3 else if QM prev = false then 4 else 0
def Px (page slot : Int) : Int := if (Rm page && Ul slot) = true then 0 else 5
def orF (a b c : Int) : Int := if a ≠ 0 then a else if b ≠ 0 then b else c
def Zx (bu au : Bool) (bn an : Nat) : Int := if (QN bu bn && QN au an && (bu || au)) = true then 0 else 6
def Zy (au : Bool) (an : Nat) (un : Int) : Int := if QN au an = false then 6 else if QM un = false then 7 else 0
theorem X4 (x : Int) (w : World) : Calls Tryz.prog 156 #[Q1 x] w fun e w' => e = .returned (.bool (SX x)) ∧ Same w w' := by
 unfold SX
 by_cases h : 1 ≤ x
 ·by_cases h2 : x ≤ 2147483647
  ·go_enter Tryz.func156, Tryz.ntmps156
   go_wp2;go_ret;exact ⟨by simp [h, h2], kZ0⟩
  ·go_enter Tryz.func156, Tryz.ntmps156
   go_wp2;go_ret;exact ⟨by simp [h]; omega, kZ0⟩
 ·go_enter Tryz.func156, Tryz.ntmps156
  go_wp2;go_ret;exact ⟨by rw [show decide (1 ≤ x) = false from by simp; omega]; rfl, kZ0⟩
theorem WS (u : Bool) (a : Option Addr) (n c : Nat) (w : World) (hn : n ≤ maxLen) : Calls Tryz.prog 165 #[.agg #[.bool u, .slice a n c]] w fun e w' => e = .returned (.bool (QN u n)) ∧ Same w w' := by
 unfold maxLen at hn;unfold QN
 by_cases h : (n : Int) ≤ 1000
 ·have h1 : n ≤ 1000 := by omega
  cases u with
  | true =>
   go_enter Tryz.func165, Tryz.ntmps165
   go_wp2;go_ret;exact ⟨by simp [h1], kZ0.alloc _⟩
  | false =>
   by_cases h0 : n = 0
   ·subst h0
    go_enter Tryz.func165, Tryz.ntmps165
    go_wp2;go_ret;exact ⟨by simp, kZ0.alloc _⟩
   ·have ov : ¬ (n : Int) = 0 := by omega
    go_enter Tryz.func165, Tryz.ntmps165
    go_wp2;go_ret;exact ⟨by simp [h0, h1], kZ0.alloc _⟩
 ·have h1 : ¬ n ≤ 1000 := by omega
  go_enter Tryz.func165, Tryz.ntmps165
  go_wp2;go_ret;exact ⟨by simp [h1], kZ0.alloc _⟩
theorem P5 (txn prev : Int) (w : World) : Calls Tryz.prog 155 #[.agg #[Q1 txn, Q1 prev]] w fun e w' => e = .returned (Q1 (PO txn prev)) ∧ Same w w' := by
 have h1 := fun wx => X4 txn wx;have h2 := fun wx => Vh prev wx;have hb := Blk.new w #[Q1 txn, Q1 prev] 100;unfold PO
 cases e1 : SX txn with
 | false =>
  rw [e1] at h1
  go_enter Tryz.func155, Tryz.ntmps155
  go_wp2_with (go_at_call 156; refine (h1 _).mono ?_; rintro e w1 ⟨rfl, ah⟩; have c1 : w1.cell? ⟨w.heap.size, 1, none⟩ = some (Q1 prev) := (hb.same ah).cell 1)
  go_ret;exact ⟨rfl, (kZ0.alloc _).trans ah⟩
 | true =>
  rw [e1] at h1
  cases e2 : QM prev with
  | false =>
   rw [e2] at h2
   go_enter Tryz.func155, Tryz.ntmps155
   go_wp2_with (first | (go_at_call 156; refine (h1 _).mono ?_; rintro e w1 ⟨rfl, ah⟩; have c1 : w1.cell? ⟨w.heap.size, 1, none⟩ = some (Q1 prev) := (hb.same ah).cell 1) | (go_at_call 157; refine (h2 _).mono ?_; rintro e w2 ⟨rfl, aj⟩))
   go_ret;exact ⟨rfl, ((kZ0.alloc _).trans ah).trans aj⟩
  | true =>
   rw [e2] at h2
   go_enter Tryz.func155, Tryz.ntmps155
   go_wp2_with (first | (go_at_call 156; refine (h1 _).mono ?_; rintro e w1 ⟨rfl, ah⟩; have c1 : w1.cell? ⟨w.heap.size, 1, none⟩ = some (Q1 prev) := (hb.same ah).cell 1) | (go_at_call 157; refine (h2 _).mono ?_; rintro e w2 ⟨rfl, aj⟩))
   go_ret;exact ⟨rfl, ((kZ0.alloc _).trans ah).trans aj⟩
theorem Qj (page slot : Int) (w : World) : Calls Tryz.prog 158 #[.agg #[Q1 page, Q1 slot]] w fun e w' => e = .returned (Q1 (Px page slot)) ∧ Same w w' := by
 have h1 := fun wx => UF page wx;have h2 : ∀ wx, Calls Tryz.prog 160 #[Q1 slot] wx fun e w' => e = .returned (.bool (Ul slot)) ∧ Same wx w' := fun wx => jaB slot wx;have hb := Blk.new w #[Q1 page, Q1 slot] 102;unfold Px
 cases e1 : Rm page with
 | false =>
  rw [e1] at h1
  go_enter Tryz.func158, Tryz.ntmps158
  go_wp2_with (go_at_call 159; refine (h1 _).mono ?_; rintro e w1 ⟨rfl, ah⟩; have c1 : w1.cell? ⟨w.heap.size, 1, none⟩ = some (Q1 slot) := (hb.same ah).cell 1)
  go_ret;exact ⟨rfl, (kZ0.alloc _).trans ah⟩
 | true =>
  rw [e1] at h1
  cases e2 : Ul slot with
  | false =>
   rw [e2] at h2
   go_enter Tryz.func158, Tryz.ntmps158
   go_wp2_with (first | (go_at_call 159; refine (h1 _).mono ?_; rintro e w1 ⟨rfl, ah⟩; have c1 : w1.cell? ⟨w.heap.size, 1, none⟩ = some (Q1 slot) := (hb.same ah).cell 1) | (go_at_call 160; refine (h2 _).mono ?_; rintro e w2 ⟨rfl, aj⟩))
   go_ret;exact ⟨rfl, ((kZ0.alloc _).trans ah).trans aj⟩
  | true =>
   rw [e2] at h2
   go_enter Tryz.func158, Tryz.ntmps158
   go_wp2_with (first | (go_at_call 159; refine (h1 _).mono ?_; rintro e w1 ⟨rfl, ah⟩; have c1 : w1.cell? ⟨w.heap.size, 1, none⟩ = some (Q1 slot) := (hb.same ah).cell 1) | (go_at_call 160; refine (h2 _).mono ?_; rintro e w2 ⟨rfl, aj⟩))
   go_ret;exact ⟨rfl, ((kZ0.alloc _).trans ah).trans aj⟩
theorem Ry (g a b c : Int) (B : Nat) (w : World) (h0 : w.cell? ⟨B, 0, none⟩ = some (Q1 a)) (h1 : w.cell? ⟨B, 1, none⟩ = some (Q1 b)) (h2 : w.cell? ⟨B, 2, none⟩ = some (Q1 c)) :
  Calls Tryz.prog 166 #[Q3 B 3 3] w fun e w' => e = .returned (Q1 (orF a b c)) ∧ Same w w' := by
 unfold orF
 by_cases ha : a = 0
 ·subst ha
  by_cases hb : b = 0
  ·subst hb
   by_cases hc : c = 0
   ·subst hc
    go_enter Tryz.func166, Tryz.ntmps166
    go_wp2;refine wp_loop_rounds 4 ?_;rw [rounds_succ];go_wp2;rw [rounds_succ];go_wp2;rw [rounds_succ];go_wp2;rw [rounds_succ];go_wp2;go_ret;exact ⟨by simp, kZ0⟩
   ·go_enter Tryz.func166, Tryz.ntmps166
    go_wp2;refine wp_loop_rounds 4 ?_;rw [rounds_succ];go_wp2;rw [rounds_succ];go_wp2;rw [rounds_succ];go_wp2;go_ret;exact ⟨by simp, kZ0⟩
  ·go_enter Tryz.func166, Tryz.ntmps166
   go_wp2;refine wp_loop_rounds 4 ?_;rw [rounds_succ];go_wp2;rw [rounds_succ];go_wp2;go_ret;exact ⟨by simp [hb], kZ0⟩
 ·go_enter Tryz.func166, Tryz.ntmps166
  go_wp2;refine wp_loop_rounds 4 ?_;rw [rounds_succ];go_wp2;go_ret;exact ⟨by simp [ha], kZ0⟩
end Go.Proofs.YtapdfgkbhaoelaaGreatDoor
