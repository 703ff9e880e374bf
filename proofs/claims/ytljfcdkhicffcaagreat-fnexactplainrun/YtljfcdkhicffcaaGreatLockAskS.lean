import Derived.Test.YtljfcdkhicffcaaGreatG06
namespace Go.Proofs.YtljfcdkhicffcaaGreat
set_option maxRecDepth 100000
set_option maxHeartbeats 8000000
set_option linter.unusedVariables false
set_option linter.unusedSimpArgs false
open Go.RowKit
def Vk (e : T3) : Bool → List T3 → List T3
 | true, [] => []
 | false, [] => [e]
 | d, l :: t => if l.1 = e.1 ∧ l.2.1 = e.2.1 then Vk e d t else if !d ∧ (e.1 < l.1 ∨ l.1 = e.1 ∧ e.2.1 < l.2.1) then e :: l :: Vk e true t else l :: Vk e d t
def VI (ls : List T3) (txn id aw : Int) : Int × List Int :=
 if Ve ls = 0 ∧ inB id 0 511 ∧ inB txn 1 2147483647 ∧ inB aw 1 2 then
  (if XP ls txn id = 0 ∧ ls.length = 4096 then (2, []) else if U5 ls txn id = 2 ∨ ¬ U5 ls txn id = 0 ∧ aw = 2 then (1, []) else
   (0, flat3 (Vk (id, txn, if aw < XP ls txn id then XP ls txn id else aw) false ls)))
 else (2, [])
theorem V4 (x : FR) (txn id aw : Int) (w : World) (hv : RdF 3 w x) :
  Calls Tryz.prog 112 #[x.v, V txn, V id, V aw] w fun e w' => ∃ y : StLockResult, e = .returned y.val ∧ y.dat = VI (tri x.bs) txn id aw ∧ y.locks.e = 160 ∧ (∀ b, Uu y.rows b → w.heap.size ≤ b) ∧ OwnL w' y.rows ∧ Same w w' := by
 obtain ⟨i0, hi, br, aT, bv⟩ := info_parts Tryz.infoLock;have ay := hid (Uj w [V 0, V0] 142);have b0 := Blk.newL w [V 0, V0] 142;have k0 := Vh x _ (hv.same ay.out);obtain ⟨xe, xa, n, xc, bs⟩ := x;have hm : n ≤ maxLen := hv.1;unfold maxLen at hm;have hl := VK n bs hv.2.1;dsimp only [FR.v] at k0 ⊢;have HV := hid hv;clear hv;obtain ⟨R, hR⟩ : ∃ R, VI (tri bs) txn id aw = R := ⟨_, rfl⟩;rw [hR];unfold VI at hR;obtain ⟨q, hq⟩ : ∃ q, Ve (tri bs) = q := ⟨_, rfl⟩;rw [hq] at hR k0;have q1 := fun wx => TV id 0 511 wx;have q2 := fun wx => TV txn 1 2147483647 wx;have q3 := fun wx => TV aw 1 2 wx
 go_enter Tryz.func112, Tryz.ntmps112
 go_wp2_with fail
 refine k0.mono ?_;rintro e w1 ⟨rfl, af⟩;have ao := hid (ay.out.trans af);have bF := hid (b0.same af);clear af b0 k0
 by_cases h0 : q = 0
 ·subst h0
  cases f1 : inB id 0 511 with
  | false =>
   rw [f1] at q1;rw [if_neg (by simp [f1])] at hR;subst hR;clear hl hq
   go_wp2_with fail
   refine (q1 _).mono ?_;rintro e w2 ⟨rfl, hk⟩;have ap := hid (ao.out.trans hk);have bK := hid (bF.out.same hk);clear hk;obtain ⟨r0, r1⟩ := bK.out.all2;have fr := bK.out.frozen;have lr := bK.out.lt;go_wp2;refine bodyPost_ret (v := .agg #[V 2, V0]) (by simp [results, Tryz.results112, go_sem, r0, r1]) rfl ⟨⟨2, ⟨160, none, 0, 0, []⟩⟩, rfl, rfl, rfl, ?_, ?_, ?_⟩
   ·intro b hb
    have h := (Ux _ _).1 hb;simp [FR.v, Value.ownBlock] at h
   ·exact FR.own_nil _
   ·(iterate 2 refine Kept.setCell ?_ (.inl (Nat.le_refl _)) _)
    exact ap.out
  | true =>
   rw [f1] at q1
   go_wp2_with fail
   refine (q1 _).mono ?_;rintro e w2 ⟨rfl, hk⟩;have ap := hid (ao.out.trans hk);have bK := hid (bF.out.same hk);have dP : w.heap.size < w2.heap.size := bK.out.lt;clear hk
   cases f2 : inB txn 1 2147483647 with
   | false =>
    rw [f2] at q2;rw [if_neg (by simp [f1, f2])] at hR;subst hR;clear hl hq
    go_wp2_with fail
    refine (q2 _).mono ?_;rintro e w3 ⟨rfl, hk⟩;have ax := hid (ap.out.trans hk);have bX := hid (bK.out.same hk);clear hk;obtain ⟨r0, r1⟩ := bX.out.all2;have fr := bX.out.frozen;have lr := bX.out.lt;go_wp2;refine bodyPost_ret (v := .agg #[V 2, V0]) (by simp [results, Tryz.results112, go_sem, r0, r1]) rfl ⟨⟨2, ⟨160, none, 0, 0, []⟩⟩, rfl, rfl, rfl, ?_, ?_, ?_⟩
    ·intro b hb
     have h := (Ux _ _).1 hb;simp [FR.v, Value.ownBlock] at h
    ·exact FR.own_nil _
    ·(iterate 2 refine Kept.setCell ?_ (.inl (Nat.le_refl _)) _)
     exact ax.out
   | true =>
    rw [f2] at q2
    go_wp2_with fail
    refine (q2 _).mono ?_;rintro e w3 ⟨rfl, hk⟩;have ax := hid (ap.out.trans hk);have bX := hid (bK.out.same hk);have lF : w.heap.size < w3.heap.size := bX.out.lt;clear hk
    cases f3 : inB aw 1 2 with
    | false =>
     rw [f3] at q3;rw [if_neg (by simp [f1, f2, f3])] at hR;subst hR;clear hl hq
     go_wp2_with fail
     refine (q3 _).mono ?_;rintro e w4 ⟨rfl, hk⟩;have aR := hid (ax.out.trans hk);have ij := hid (bX.out.same hk);clear hk;obtain ⟨r0, r1⟩ := ij.out.all2;have fr := ij.out.frozen;have lr := ij.out.lt;go_wp2;refine bodyPost_ret (v := .agg #[V 2, V0]) (by simp [results, Tryz.results112, go_sem, r0, r1]) rfl ⟨⟨2, ⟨160, none, 0, 0, []⟩⟩, rfl, rfl, rfl, ?_, ?_, ?_⟩
     ·intro b hb
      have h := (Ux _ _).1 hb;simp [FR.v, Value.ownBlock] at h
     ·exact FR.own_nil _
     ·(iterate 2 refine Kept.setCell ?_ (.inl (Nat.le_refl _)) _)
      exact aR.out
    | true =>
     rw [f3] at q3
     go_wp2_with fail
     refine (q3 _).mono ?_;rintro e w4 ⟨rfl, hk⟩;have aR := hid (ax.out.trans hk);have ij := hid (bX.out.same hk);have jN : w.heap.size < w4.heap.size := ij.out.lt;clear hk;rw [if_pos (by simp [f1, f2, f3])] at hR;have km := Zq ⟨xe, xa, n, xc, bs⟩ txn id w4 (HV.out.same aR.out);dsimp only [FR.v] at km;obtain ⟨own, ho⟩ : ∃ q, XP (tri bs) txn id = q := ⟨_, rfl⟩;rw [ho] at km hR
     go_wp2_with fail
     refine km.mono ?_;rintro e w5 ⟨rfl, hk⟩;have aH := hid (aR.out.trans hk);have cP := hid (ij.out.same hk);clear hk km
     by_cases hf : own = 0 ∧ n = 4096
     ·obtain ⟨rfl, rfl⟩ := hf
      rw [if_pos ⟨rfl, hl⟩] at hR;subst hR;obtain ⟨r0, r1⟩ := cP.out.all2;have fr := cP.out.frozen;have lr := cP.out.lt;go_wp2;refine bodyPost_ret (v := .agg #[V 2, V0]) (by simp [results, Tryz.results112, go_sem, r0, r1]) rfl ⟨⟨2, ⟨160, none, 0, 0, []⟩⟩, rfl, rfl, rfl, ?_, ?_, ?_⟩
      ·intro b hb
       have h := (Ux _ _).1 hb;simp [FR.v, Value.ownBlock] at h
      ·exact FR.own_nil _
      ·(iterate 2 refine Kept.setCell ?_ (.inl (Nat.le_refl _)) _)
       exact aH.out
     rw [if_neg (by rw [hl]; exact hf)] at hR;have ko := WE ⟨xe, xa, n, xc, bs⟩ txn id w5 (HV.out.same aH.out);dsimp only [FR.v] at ko;obtain ⟨jL, MZ⟩ : ∃ q, U5 (tri bs) txn id = q := ⟨_, rfl⟩;rw [MZ] at ko hR;have HL := hid hl
     have Af : (own = 0 → (n : Int) = 4096 → False) := fun h1 h2 => hf ⟨h1, by omega⟩
     obtain ⟨bo, P6⟩ : ∃ b, decide (own = 0) = b := ⟨_, rfl⟩
     have tz : own = 0 ∧ ¬ (n : Int) = 4096 ∨ ¬ own = 0 := by
      by_cases h1 : own = 0
      ·exact .inl ⟨h1, fun h2 => Af h1 h2⟩
      ·exact .inr h1
     obtain ⟨mo, iZ⟩ : ∃ q, (if aw < own then own else aw) = q := ⟨_, rfl⟩;rw [iZ] at hR
     have xM : (aw < own ∧ mo = own) ∨ (¬ aw < own ∧ mo = aw) := by
      by_cases h : aw < own
      ·rw [if_pos h] at iZ; exact .inl ⟨h, iZ.symm⟩
      ·rw [if_neg h] at iZ; exact .inr ⟨h, iZ.symm⟩
     have d9 : 1 ≤ aw := by have h := f3; simp [inB] at h; exact h.1
     have hn := XA hq;rw [hl] at hn;clear hf Af P6 bo hl hq ho MZ iZ f1 f2 f3 q1 q2 q3
     go_upto_region 4 with fail
     go_cut [44] (fun v wx => v = .bool false ∧ w5 = wx)
     case first =>
      rcases tz with ⟨rfl, yd⟩ | h0
      ·have e4 : ((n : Int) == 4096) = false := by simp [yd]
       go_wp2
       go_meet
       case rel => exact ⟨rfl, rfl⟩
      ·have e0 : (own == 0) = false := by simp [h0]
       go_wp2
       go_meet
       case rel => exact ⟨rfl, rfl⟩
     case rest =>
      obtain ⟨rfl, gW⟩ := hcut;subst gW;clear tz
      go_wp2_with fail
      refine ko.mono ?_;rintro e w6 ⟨rfl, hk⟩;have bI := hid (aH.out.trans hk);have eF := hid (cP.out.same hk);have S6 : w.heap.size < w6.heap.size := eF.out.lt;clear hk ko
      by_cases hr : jL = 2 ∨ ¬ jL = 0 ∧ aw = 2
      ·rw [if_pos hr] at hR
       subst hR
       rcases hr with rfl | ⟨lG, rfl⟩
       ·obtain ⟨r0, r1⟩ := eF.out.all2
        have fr := eF.out.frozen;have lr := eF.out.lt;go_wp2;refine bodyPost_ret (v := .agg #[V 1, V0]) (by simp [results, Tryz.results112, go_sem, r0, r1]) rfl ⟨⟨1, ⟨160, none, 0, 0, []⟩⟩, rfl, rfl, rfl, ?_, ?_, ?_⟩
        ·intro b hb
         have h := (Ux _ _).1 hb;simp [FR.v, Value.ownBlock] at h
        ·exact FR.own_nil _
        ·(iterate 2 refine Kept.setCell ?_ (.inl (Nat.le_refl _)) _)
         exact bI.out
       ·by_cases dZ : jL = 2
        ·subst dZ
         obtain ⟨r0, r1⟩ := eF.out.all2;have fr := eF.out.frozen;have lr := eF.out.lt;go_wp2;refine bodyPost_ret (v := .agg #[V 1, V0]) (by simp [results, Tryz.results112, go_sem, r0, r1]) rfl ⟨⟨1, ⟨160, none, 0, 0, []⟩⟩, rfl, rfl, rfl, ?_, ?_, ?_⟩
         ·intro b hb
          have h := (Ux _ _).1 hb;simp [FR.v, Value.ownBlock] at h
         ·exact FR.own_nil _
         ·(iterate 2 refine Kept.setCell ?_ (.inl (Nat.le_refl _)) _)
          exact bI.out
        ·have e1 : (jL != 0) = true := by simp [lG]
         have e2 : (jL == 2) = false := by simp [dZ]
         obtain ⟨r0, r1⟩ := eF.out.all2;have fr := eF.out.frozen;have lr := eF.out.lt;go_wp2;refine bodyPost_ret (v := .agg #[V 1, V0]) (by simp [results, Tryz.results112, go_sem, r0, r1]) rfl ⟨⟨1, ⟨160, none, 0, 0, []⟩⟩, rfl, rfl, rfl, ?_, ?_, ?_⟩
         ·intro b hb
          have h := (Ux _ _).1 hb;simp [FR.v, Value.ownBlock] at h
         ·exact FR.own_nil _
         ·(iterate 2 refine Kept.setCell ?_ (.inl (Nat.le_refl _)) _)
          exact bI.out
      rw [if_neg hr] at hR;have HR := hid hR;clear hR;have o2 : ¬ jL = 2 := fun h => hr (.inl h)
      have om : jL = 0 ∨ (¬ jL = 0 ∧ ¬ aw = 2) := by
       by_cases h : jL = 0
       ·exact .inl h
       ·exact .inr ⟨h, fun h2 => hr (.inr ⟨h, h2⟩)⟩
      clear hr
      go_upto_region 7 with fail
      go_cut [59] (fun v wx => v = .bool false ∧ w6 = wx)
      case first =>
       have e2 : (jL == 2) = false := by simp [o2]
       rcases om with rfl | ⟨Rf, Qn⟩
       ·go_wp2
        go_meet
        case rel => exact ⟨rfl, rfl⟩
       ·have e1 : (jL != 0) = true := by simp [Rf]
        have e3 : (aw == 2) = false := by simp [Qn]
        go_wp2
        go_meet
        case rel => exact ⟨rfl, rfl⟩
      case rest =>
       obtain ⟨rfl, gW⟩ := hcut;subst gW;clear om
       go_upto_if 63 with fail
       go_cut [3] (fun v wx => v = V mo ∧ w6 = wx)
       case first =>
        rcases xM with ⟨fy, cR⟩ | ⟨fy, cR⟩
        ·go_wp2
         go_meet
         case rel => exact ⟨by rw [cR], rfl⟩
        ·go_wp2
         go_meet
         case rel => exact ⟨by rw [cR], rfl⟩
       case rest =>
       obtain ⟨rfl, gW⟩ := hcut;subst gW;clear xM;have AJ := (show Hid (Same w (w6.alloc (.cells #[] 160))) from bI.out.alloc _);have Ht := (show Hid (Blk (w6.alloc (.cells #[] 160)) w.heap.size 142 [V 0, V0]) from eF.out.same (kZ0.alloc _));have Kw := hid (jbl 160 w6)
       go_wp2_with fail
       go_loopw [11, 12, 13] (fun o dd i wr => ∃ (k g m c : Nat) (ys : List Int) (d : Nat), k ≤ n ∧ m ≤ 2 * k ∧ o = Q4 g m c ∧ dd = .bool (decide (0 < d)) ∧ i = V k ∧ w.heap.size < g ∧ Hid (OwnF 3 160 wr g m c ys) ∧ Hid (ys ++ flat3 (Vk (id, txn, mo) (decide (0 < d)) ((tri bs).drop k)) = flat3 (Vk (id, txn, mo) false (tri bs))) ∧ Hid (Blk wr w.heap.size 142 [V 0, V0]) ∧ Hid (Same w wr)) (fun _ _ i _ => n - (intOf i).toNat)
       case atStart => exact ⟨0, w6.heap.size, 0, 0, [], 0, Nat.zero_le _, Nat.zero_le _, rfl, rfl, rfl, by omega, Kw, by simp [Hid], Ht, AJ⟩
       case round =>
        obtain ⟨k, g, m, c, ys, d, hk, sR, rfl, rfl, rfl, hg, HO, HY, HB, HK⟩ := hrel;obtain ⟨db, AI⟩ : ∃ b, decide (0 < d) = b := ⟨_, rfl⟩;rw [AI] at HY ⊢
        by_cases aG : k < n
        ·obtain ⟨b, off, ha, hc⟩ := HV.out.some (show 0 < n by omega)
         dsimp only at ha hc;subst ha
         have eg : k < (tri bs).length := by rw [HL.out]; omega
         obtain ⟨⟨x, y, z⟩, eV⟩ : ∃ q, (tri bs)[k] = q := ⟨_, rfl⟩;obtain ⟨Aw, zY, Ag⟩ := (HV.out.same HK.out).tri k eg _ _ _ eV;have h := HY.out;rw [List.drop_eq_getElem_cons eg, eV] at h;simp only [Vk] at h;clear eV HY;have Fw := HO.out.lt;have JS := HK.out.size;have fJ := (show Hid (Same w (wr.alloc (.cells #[V x, V y, V z] 160))) from HK.out.alloc _);have xZ := (show Hid (OwnF 3 160 (wr.alloc (.cells #[V x, V y, V z] 160)) g m c ys) from HO.out.same (kZ0.alloc _));have zE := (show Hid (Blk (wr.alloc (.cells #[V x, V y, V z] 160)) w.heap.size 142 [V 0, V0]) from HB.out.same (kZ0.alloc _));have xI := (show Hid (Blk (wr.alloc (.cells #[V x, V y, V z] 160)) wr.heap.size 160 [V x, V y, V z]) from Blk.newL wr [V x, V y, V z] 160)
         by_cases h1 : x = id
         ·subst h1
          by_cases h2 : y = txn
          ·subst h2
           rw [if_pos ⟨rfl, rfl⟩] at h;have i6 := hid h;clear h;go_wp2;go_roundw
           case rel => exact ⟨k + 1, g, m, c, ys, d, by omega, by omega, rfl, by rw [AI], by go_num, hg, xZ, (by rw [AI]; exact i6), zE, fJ⟩
           case measure => simp [intOf]; omega
          ·rw [if_neg (fun h => h2 h.2)] at h
           cases db with
           | true =>
            rw [if_neg (by simp)] at h;have i6 := hid h;clear h;have ew := (show Hid (((wr.alloc (.cells #[V x, V y, V z] 160)).alloc (.cells #[V x, V y, V z] 160)).ownsRow 0 160 3 (Q4 g m c) m (vals .i64 ys)) from xZ.out.same (kZ0.alloc _));have fk := (show Hid (Blk ((wr.alloc (.cells #[V x, V y, V z] 160)).alloc (.cells #[V x, V y, V z] 160)) (wr.heap.size + 1) 160 [V x, V y, V z]) from by have h := Blk.newL (wr.alloc (.cells #[V x, V y, V z] 160)) [V x, V y, V z] 160; rw [World.size_alloc] at h; exact h);obtain ⟨Di, CN, DG⟩ := xI.out.all3
            go_wp2_with (at_builtin; go_loud (refine wpList_append_lies _ rfl (.tmp 113) (.tmp 115) 66 rfl 0 160 i0 _ 3 24 Tryz.underlying66 hi br aT bv rfl (by omega) (Q4 g m c) m (vals .i64 ys) rfl (by exact ew.out) ⟨(wr.heap.size + 1), 0, none⟩ 1 1 [V x, V y, V z] rfl rfl (World.news_of_block (cs := #[V x, V y, V z]) (t := 160) (fr := (0, 0)) (by exact fk.out)) (by simp [Value.oneCell']) (by omega) (by unfold maxLen; omega) (by omega) (Nat.zero_le _) ((wr.heap.size + 1) + 1) (by simp) ?_); intro g5 bM w5 bA aY b9 kJ; have dI := (show Hid (OwnF 3 160 w5 g5 (m + 1) bM (ys ++ [x, y, z])) from OwnF.of_app3 bA); have dA := (show Hid (((wr.alloc (.cells #[V x, V y, V z] 160)).alloc (.cells #[V x, V y, V z] 160)).grownBy w5 (Value.slice (some ⟨g, 0, none⟩) m c).ownBlock) from aY); have eh : Hid ((Value.slice (some ⟨g, 0, none⟩) m c).ownBlock = some g5 ∨ g5 = (wr.heap.size + 1) + 1) := b9; clear bA aY b9)
            have mL : w.heap.size < g5 := by
             rcases eh.out with h | h
             ·have : g = g5 := by simpa [Value.ownBlock] using h
              omega
             ·omega
            have aH := hid (Same.app fJ.out dA.out (by omega));have cP := (show Hid (Blk w5 w.heap.size 142 [V 0, V0]) from (zE.out.same (kZ0.alloc _)).kept (Kept.of_grown dA.out (fun k e => e)) (V8 (by omega)));go_roundw
            case rel => exact ⟨k + 1, g5, m + 1, bM, ys ++ [x, y, z], 1, by omega, by omega, rfl, rfl, by go_num, mL, dI, (by unfold Hid; have h := i6.out; simpa [flat3] using h), cP, aH⟩
            case measure => simp [intOf]; omega
           | false =>
            by_cases h3 : txn < y
            ·rw [if_pos (by simp [h3])] at h
             have i6 := hid h;clear h;have ew := (show Hid (((wr.alloc (.cells #[V x, V y, V z] 160)).alloc (.cells #[V x, V txn, V mo] 160)).ownsRow 0 160 3 (Q4 g m c) m (vals .i64 ys)) from xZ.out.same (kZ0.alloc _));have fk := (show Hid (Blk ((wr.alloc (.cells #[V x, V y, V z] 160)).alloc (.cells #[V x, V txn, V mo] 160)) (wr.heap.size + 1) 160 [V x, V txn, V mo]) from by have h := Blk.newL (wr.alloc (.cells #[V x, V y, V z] 160)) [V x, V txn, V mo] 160; rw [World.size_alloc] at h; exact h);obtain ⟨Di, CN, DG⟩ := xI.out.all3
             go_wp2_with (first
              | (at_builtin; (refine wpList_append_lies _ rfl (.tmp 106) (.tmp 111) 66 rfl 0 160 i0 _ 3 24 Tryz.underlying66 hi br aT bv rfl (by omega) (.slice (some ⟨g, 0, none⟩) m c) m (vals .i64 ys) rfl (by exact ew.out) ⟨(wr.heap.size + 1), 0, none⟩ 1 1 [.int .i64 x, .int .i64 txn, .int .i64 mo] rfl rfl (World.news_of_block (cs := #[.int .i64 x, .int .i64 txn, .int .i64 mo]) (t := 160) (fr := (0, 0)) (by exact fk.out)) (by simp [Value.oneCell']) (by omega) (by unfold maxLen; omega) (by omega) (Nat.zero_le _) ((wr.heap.size + 1) + 1) (by simp) ?_); intro g5 bM w5 bA aY b9 kJ; have dI := (show Hid (OwnF 3 160 w5 g5 (m + 1) bM (ys ++ [x, txn, mo])) from OwnF.of_app3 bA); have dA := (show Hid (((wr.alloc (.cells #[.int .i64 x, .int .i64 y, .int .i64 z] 160)).alloc (.cells #[.int .i64 x, .int .i64 txn, .int .i64 mo] 160)).grownBy w5 (Value.slice (some ⟨g, 0, none⟩) m c).ownBlock) from aY); have eh : Hid ((Value.slice (some ⟨g, 0, none⟩) m c).ownBlock = some g5 ∨ g5 = (wr.heap.size + 1) + 1) := b9; clear bA aY b9; have mL : w.heap.size < g5 := (by rcases eh.out with h | h; (have : g = g5 := (by simpa [Value.ownBlock] using h); omega); omega); have aH := hid (Same.app fJ.out dA.out (by omega)); have cP := (show Hid (Blk w5 w.heap.size 142 [.int .i64 0, .slice none 0 0]) from (zE.out.same (kZ0.alloc _)).kept (Kept.of_grown dA.out (fun k e => e)) (V8 (by omega))); have Ca := (show Hid (Blk w5 wr.heap.size 160 [.int .i64 x, .int .i64 y, .int .i64 z]) from (xI.out.same (kZ0.alloc _)).kept (Kept.of_grown dA.out (fun k e => e)) (V8 (by omega))); obtain ⟨Sr, RG, P8⟩ := Ca.out.all3; have wj := aH.out.size; have JF := dI.out.lt; have zQ := (show Hid ((w5.alloc (.cells #[.int .i64 x, .int .i64 y, .int .i64 z] 160)).ownsRow 0 160 3 (.slice (some ⟨g5, 0, none⟩) (m + 1) bM) (m + 1) (vals .i64 (ys ++ [x, txn, mo]))) from dI.out.same (kZ0.alloc _)); have kg := (show Hid (Blk (w5.alloc (.cells #[.int .i64 x, .int .i64 y, .int .i64 z] 160)) (w5.heap.size) 160 [.int .i64 x, .int .i64 y, .int .i64 z]) from Blk.newL w5 [.int .i64 x, .int .i64 y, .int .i64 z] 160))
              | (at_builtin; go_loud (refine wpList_append_lies _ rfl (.tmp 113) (.tmp 115) 66 rfl 0 160 i0 _ 3 24 Tryz.underlying66 hi br aT bv rfl (by omega) (Q4 g5 (m + 1) bM) (m + 1) (vals .i64 (ys ++ [x, txn, mo])) rfl (by exact zQ.out) ⟨w5.heap.size, 0, none⟩ 1 1 [V x, V y, V z] rfl rfl (World.news_of_block (cs := #[V x, V y, V z]) (t := 160) (fr := (0, 0)) (by exact kg.out)) (by simp [Value.oneCell']) (by omega) (by unfold maxLen; omega) (by omega) (Nat.zero_le _) (w5.heap.size + 1) (by simp) ?_); intro g6 oU w6 jm fO qo Jb; have iK := (show Hid (OwnF 3 160 w6 g6 ((m + 1) + 1) oU ((ys ++ [x, txn, mo]) ++ [x, y, z])) from OwnF.of_app3 jm); have yp := (show Hid ((w5.alloc (.cells #[V x, V y, V z] 160)).grownBy w6 (Value.slice (some ⟨g5, 0, none⟩) (m + 1) bM).ownBlock) from fO); have yR : Hid ((Value.slice (some ⟨g5, 0, none⟩) (m + 1) bM).ownBlock = some g6 ∨ g6 = w5.heap.size + 1) := qo; clear jm fO qo))
             have GR : w.heap.size < g6 := by
              rcases yR.out with h | h
              ·have : g5 = g6 := by simpa [Value.ownBlock] using h
               omega
              ·omega
             have bI := hid (Same.app aH.out yp.out (by omega));have eF := (show Hid (Blk w6 w.heap.size 142 [V 0, V0]) from (cP.out.same (kZ0.alloc _)).kept (Kept.of_grown yp.out (fun k e => e)) (V8 (by omega)));go_roundw
             case rel => exact ⟨k + 1, g6, m + 1 + 1, oU, ys ++ [x, txn, mo] ++ [x, y, z], 1, by omega, by omega, rfl, rfl, by go_num, GR, iK, (by unfold Hid; have h := i6.out; simpa [flat3] using h), eF, bI⟩
             case measure => simp [intOf]; omega
            ·rw [if_neg (by simp [h3])] at h
             have i6 := hid h;clear h;have ew := (show Hid (((wr.alloc (.cells #[V x, V y, V z] 160)).alloc (.cells #[V x, V y, V z] 160)).ownsRow 0 160 3 (Q4 g m c) m (vals .i64 ys)) from xZ.out.same (kZ0.alloc _));have fk := (show Hid (Blk ((wr.alloc (.cells #[V x, V y, V z] 160)).alloc (.cells #[V x, V y, V z] 160)) (wr.heap.size + 1) 160 [V x, V y, V z]) from by have h := Blk.newL (wr.alloc (.cells #[V x, V y, V z] 160)) [V x, V y, V z] 160; rw [World.size_alloc] at h; exact h);obtain ⟨Di, CN, DG⟩ := xI.out.all3
             go_wp2_with (at_builtin; go_loud (refine wpList_append_lies _ rfl (.tmp 113) (.tmp 115) 66 rfl 0 160 i0 _ 3 24 Tryz.underlying66 hi br aT bv rfl (by omega) (Q4 g m c) m (vals .i64 ys) rfl (by exact ew.out) ⟨(wr.heap.size + 1), 0, none⟩ 1 1 [V x, V y, V z] rfl rfl (World.news_of_block (cs := #[V x, V y, V z]) (t := 160) (fr := (0, 0)) (by exact fk.out)) (by simp [Value.oneCell']) (by omega) (by unfold maxLen; omega) (by omega) (Nat.zero_le _) ((wr.heap.size + 1) + 1) (by simp) ?_); intro g5 bM w5 bA aY b9 kJ; have dI := (show Hid (OwnF 3 160 w5 g5 (m + 1) bM (ys ++ [x, y, z])) from OwnF.of_app3 bA); have dA := (show Hid (((wr.alloc (.cells #[V x, V y, V z] 160)).alloc (.cells #[V x, V y, V z] 160)).grownBy w5 (Value.slice (some ⟨g, 0, none⟩) m c).ownBlock) from aY); have eh : Hid ((Value.slice (some ⟨g, 0, none⟩) m c).ownBlock = some g5 ∨ g5 = (wr.heap.size + 1) + 1) := b9; clear bA aY b9)
             have mL : w.heap.size < g5 := by
              rcases eh.out with h | h
              ·have : g = g5 := by simpa [Value.ownBlock] using h
               omega
              ·omega
             have aH := hid (Same.app fJ.out dA.out (by omega));have cP := (show Hid (Blk w5 w.heap.size 142 [V 0, V0]) from (zE.out.same (kZ0.alloc _)).kept (Kept.of_grown dA.out (fun k e => e)) (V8 (by omega)));go_roundw
             case rel => exact ⟨k + 1, g5, m + 1, bM, ys ++ [x, y, z], 0, by omega, by omega, rfl, rfl, by go_num, mL, dI, (by unfold Hid; have h := i6.out; simpa [flat3] using h), cP, aH⟩
             case measure => simp [intOf]; omega
         ·rw [if_neg (fun h => h1 h.1)] at h
          cases db with
          | true =>
           rw [if_neg (by simp)] at h;have i6 := hid h;clear h;have ew := (show Hid (((wr.alloc (.cells #[V x, V y, V z] 160)).alloc (.cells #[V x, V y, V z] 160)).ownsRow 0 160 3 (Q4 g m c) m (vals .i64 ys)) from xZ.out.same (kZ0.alloc _));have fk := (show Hid (Blk ((wr.alloc (.cells #[V x, V y, V z] 160)).alloc (.cells #[V x, V y, V z] 160)) (wr.heap.size + 1) 160 [V x, V y, V z]) from by have h := Blk.newL (wr.alloc (.cells #[V x, V y, V z] 160)) [V x, V y, V z] 160; rw [World.size_alloc] at h; exact h);obtain ⟨Di, CN, DG⟩ := xI.out.all3
           go_wp2_with (at_builtin; go_loud (refine wpList_append_lies _ rfl (.tmp 113) (.tmp 115) 66 rfl 0 160 i0 _ 3 24 Tryz.underlying66 hi br aT bv rfl (by omega) (Q4 g m c) m (vals .i64 ys) rfl (by exact ew.out) ⟨(wr.heap.size + 1), 0, none⟩ 1 1 [V x, V y, V z] rfl rfl (World.news_of_block (cs := #[V x, V y, V z]) (t := 160) (fr := (0, 0)) (by exact fk.out)) (by simp [Value.oneCell']) (by omega) (by unfold maxLen; omega) (by omega) (Nat.zero_le _) ((wr.heap.size + 1) + 1) (by simp) ?_); intro g5 bM w5 bA aY b9 kJ; have dI := (show Hid (OwnF 3 160 w5 g5 (m + 1) bM (ys ++ [x, y, z])) from OwnF.of_app3 bA); have dA := (show Hid (((wr.alloc (.cells #[V x, V y, V z] 160)).alloc (.cells #[V x, V y, V z] 160)).grownBy w5 (Value.slice (some ⟨g, 0, none⟩) m c).ownBlock) from aY); have eh : Hid ((Value.slice (some ⟨g, 0, none⟩) m c).ownBlock = some g5 ∨ g5 = (wr.heap.size + 1) + 1) := b9; clear bA aY b9)
           have mL : w.heap.size < g5 := by
            rcases eh.out with h | h
            ·have : g = g5 := by simpa [Value.ownBlock] using h
             omega
            ·omega
           have aH := hid (Same.app fJ.out dA.out (by omega));have cP := (show Hid (Blk w5 w.heap.size 142 [V 0, V0]) from (zE.out.same (kZ0.alloc _)).kept (Kept.of_grown dA.out (fun k e => e)) (V8 (by omega)));go_roundw
           case rel => exact ⟨k + 1, g5, m + 1, bM, ys ++ [x, y, z], 1, by omega, by omega, rfl, rfl, by go_num, mL, dI, (by unfold Hid; have h := i6.out; simpa [flat3] using h), cP, aH⟩
           case measure => simp [intOf]; omega
          | false =>
           by_cases h3 : id < x
           ·rw [if_pos (by simp [h3])] at h
            have i6 := hid h;clear h;have ew := (show Hid (((wr.alloc (.cells #[V x, V y, V z] 160)).alloc (.cells #[V id, V txn, V mo] 160)).ownsRow 0 160 3 (Q4 g m c) m (vals .i64 ys)) from xZ.out.same (kZ0.alloc _));have fk := (show Hid (Blk ((wr.alloc (.cells #[V x, V y, V z] 160)).alloc (.cells #[V id, V txn, V mo] 160)) (wr.heap.size + 1) 160 [V id, V txn, V mo]) from by have h := Blk.newL (wr.alloc (.cells #[V x, V y, V z] 160)) [V id, V txn, V mo] 160; rw [World.size_alloc] at h; exact h);obtain ⟨Di, CN, DG⟩ := xI.out.all3
            go_wp2_with (first
             | (at_builtin; (refine wpList_append_lies _ rfl (.tmp 106) (.tmp 111) 66 rfl 0 160 i0 _ 3 24 Tryz.underlying66 hi br aT bv rfl (by omega) (.slice (some ⟨g, 0, none⟩) m c) m (vals .i64 ys) rfl (by exact ew.out) ⟨(wr.heap.size + 1), 0, none⟩ 1 1 [.int .i64 id, .int .i64 txn, .int .i64 mo] rfl rfl (World.news_of_block (cs := #[.int .i64 id, .int .i64 txn, .int .i64 mo]) (t := 160) (fr := (0, 0)) (by exact fk.out)) (by simp [Value.oneCell']) (by omega) (by unfold maxLen; omega) (by omega) (Nat.zero_le _) ((wr.heap.size + 1) + 1) (by simp) ?_); intro g5 bM w5 bA aY b9 kJ; have dI := (show Hid (OwnF 3 160 w5 g5 (m + 1) bM (ys ++ [id, txn, mo])) from OwnF.of_app3 bA); have dA := (show Hid (((wr.alloc (.cells #[.int .i64 x, .int .i64 y, .int .i64 z] 160)).alloc (.cells #[.int .i64 id, .int .i64 txn, .int .i64 mo] 160)).grownBy w5 (Value.slice (some ⟨g, 0, none⟩) m c).ownBlock) from aY); have eh : Hid ((Value.slice (some ⟨g, 0, none⟩) m c).ownBlock = some g5 ∨ g5 = (wr.heap.size + 1) + 1) := b9; clear bA aY b9; have mL : w.heap.size < g5 := (by rcases eh.out with h | h; (have : g = g5 := (by simpa [Value.ownBlock] using h); omega); omega); have aH := hid (Same.app fJ.out dA.out (by omega)); have cP := (show Hid (Blk w5 w.heap.size 142 [.int .i64 0, .slice none 0 0]) from (zE.out.same (kZ0.alloc _)).kept (Kept.of_grown dA.out (fun k e => e)) (V8 (by omega))); have Ca := (show Hid (Blk w5 wr.heap.size 160 [.int .i64 x, .int .i64 y, .int .i64 z]) from (xI.out.same (kZ0.alloc _)).kept (Kept.of_grown dA.out (fun k e => e)) (V8 (by omega))); obtain ⟨Sr, RG, P8⟩ := Ca.out.all3; have wj := aH.out.size; have JF := dI.out.lt; have zQ := (show Hid ((w5.alloc (.cells #[.int .i64 x, .int .i64 y, .int .i64 z] 160)).ownsRow 0 160 3 (.slice (some ⟨g5, 0, none⟩) (m + 1) bM) (m + 1) (vals .i64 (ys ++ [id, txn, mo]))) from dI.out.same (kZ0.alloc _)); have kg := (show Hid (Blk (w5.alloc (.cells #[.int .i64 x, .int .i64 y, .int .i64 z] 160)) (w5.heap.size) 160 [.int .i64 x, .int .i64 y, .int .i64 z]) from Blk.newL w5 [.int .i64 x, .int .i64 y, .int .i64 z] 160))
             | (at_builtin; go_loud (refine wpList_append_lies _ rfl (.tmp 113) (.tmp 115) 66 rfl 0 160 i0 _ 3 24 Tryz.underlying66 hi br aT bv rfl (by omega) (Q4 g5 (m + 1) bM) (m + 1) (vals .i64 (ys ++ [id, txn, mo])) rfl (by exact zQ.out) ⟨w5.heap.size, 0, none⟩ 1 1 [V x, V y, V z] rfl rfl (World.news_of_block (cs := #[V x, V y, V z]) (t := 160) (fr := (0, 0)) (by exact kg.out)) (by simp [Value.oneCell']) (by omega) (by unfold maxLen; omega) (by omega) (Nat.zero_le _) (w5.heap.size + 1) (by simp) ?_); intro g6 oU w6 jm fO qo Jb; have iK := (show Hid (OwnF 3 160 w6 g6 ((m + 1) + 1) oU ((ys ++ [id, txn, mo]) ++ [x, y, z])) from OwnF.of_app3 jm); have yp := (show Hid ((w5.alloc (.cells #[V x, V y, V z] 160)).grownBy w6 (Value.slice (some ⟨g5, 0, none⟩) (m + 1) bM).ownBlock) from fO); have yR : Hid ((Value.slice (some ⟨g5, 0, none⟩) (m + 1) bM).ownBlock = some g6 ∨ g6 = w5.heap.size + 1) := qo; clear jm fO qo))
            have GR : w.heap.size < g6 := by
             rcases yR.out with h | h
             ·have : g5 = g6 := by simpa [Value.ownBlock] using h
              omega
             ·omega
            have bI := hid (Same.app aH.out yp.out (by omega));have eF := (show Hid (Blk w6 w.heap.size 142 [V 0, V0]) from (cP.out.same (kZ0.alloc _)).kept (Kept.of_grown yp.out (fun k e => e)) (V8 (by omega)));go_roundw
            case rel => exact ⟨k + 1, g6, m + 1 + 1, oU, ys ++ [id, txn, mo] ++ [x, y, z], 1, by omega, by omega, rfl, rfl, by go_num, GR, iK, (by unfold Hid; have h := i6.out; simpa [flat3] using h), eF, bI⟩
            case measure => simp [intOf]; omega
           ·rw [if_neg (by simp [h3, h1])] at h
            have i6 := hid h;clear h;have ew := (show Hid (((wr.alloc (.cells #[V x, V y, V z] 160)).alloc (.cells #[V x, V y, V z] 160)).ownsRow 0 160 3 (Q4 g m c) m (vals .i64 ys)) from xZ.out.same (kZ0.alloc _));have fk := (show Hid (Blk ((wr.alloc (.cells #[V x, V y, V z] 160)).alloc (.cells #[V x, V y, V z] 160)) (wr.heap.size + 1) 160 [V x, V y, V z]) from by have h := Blk.newL (wr.alloc (.cells #[V x, V y, V z] 160)) [V x, V y, V z] 160; rw [World.size_alloc] at h; exact h);obtain ⟨Di, CN, DG⟩ := xI.out.all3
            go_wp2_with (at_builtin; go_loud (refine wpList_append_lies _ rfl (.tmp 113) (.tmp 115) 66 rfl 0 160 i0 _ 3 24 Tryz.underlying66 hi br aT bv rfl (by omega) (Q4 g m c) m (vals .i64 ys) rfl (by exact ew.out) ⟨(wr.heap.size + 1), 0, none⟩ 1 1 [V x, V y, V z] rfl rfl (World.news_of_block (cs := #[V x, V y, V z]) (t := 160) (fr := (0, 0)) (by exact fk.out)) (by simp [Value.oneCell']) (by omega) (by unfold maxLen; omega) (by omega) (Nat.zero_le _) ((wr.heap.size + 1) + 1) (by simp) ?_); intro g5 bM w5 bA aY b9 kJ; have dI := (show Hid (OwnF 3 160 w5 g5 (m + 1) bM (ys ++ [x, y, z])) from OwnF.of_app3 bA); have dA := (show Hid (((wr.alloc (.cells #[V x, V y, V z] 160)).alloc (.cells #[V x, V y, V z] 160)).grownBy w5 (Value.slice (some ⟨g, 0, none⟩) m c).ownBlock) from aY); have eh : Hid ((Value.slice (some ⟨g, 0, none⟩) m c).ownBlock = some g5 ∨ g5 = (wr.heap.size + 1) + 1) := b9; clear bA aY b9)
            have mL : w.heap.size < g5 := by
             rcases eh.out with h | h
             ·have : g = g5 := by simpa [Value.ownBlock] using h
              omega
             ·omega
            have aH := hid (Same.app fJ.out dA.out (by omega));have cP := (show Hid (Blk w5 w.heap.size 142 [V 0, V0]) from (zE.out.same (kZ0.alloc _)).kept (Kept.of_grown dA.out (fun k e => e)) (V8 (by omega)));go_roundw
            case rel => exact ⟨k + 1, g5, m + 1, bM, ys ++ [x, y, z], 0, by omega, by omega, rfl, rfl, by go_num, mL, dI, (by unfold Hid; have h := i6.out; simpa [flat3] using h), cP, aH⟩
            case measure => simp [intOf]; omega
        ·obtain rfl : k = n := by omega
         have MF := (show Hid (ys ++ flat3 (Vk (id, txn, mo) db []) = flat3 (Vk (id, txn, mo) false (tri bs))) from by have h := HY.out; rwa [show (tri bs).drop k = [] from List.drop_eq_nil_of_le (by rw [HL.out]; exact Nat.le_refl _)] at h);clear HY;have Fw := HO.out.lt;have JS := HK.out.size
         cases db with
         | true =>
          obtain ⟨r0, r1⟩ := HB.out.all2;have fr := HB.out.frozen;have lr := HB.out.lt;go_wp2;refine bodyPost_ret (v := .agg #[V 0, Q4 g (m) c]) (by simp [results, Tryz.results112, go_sem, r0, r1]) rfl ⟨⟨0, ⟨160, some ⟨g, 0, none⟩, m, c, ys⟩⟩, rfl, ?_, rfl, ?_, ?_, ?_⟩
          ·rw [← HR.out, ← MF.out]; simp [StLockResult.dat, Vk, flat3]
          ·intro b hb
           have := jao hb;omega
          ·refine (HO.out.kept (R := fun b => b = w.heap.size) ?_ (by omega)).out
           (iterate 2 refine Kept.setCell (R := fun b => b = w.heap.size) ?_ (.inr rfl) _)
           exact kZ0
          ·(iterate 2 refine Kept.setCell ?_ (.inl (Nat.le_refl _)) _)
           exact HK.out
         | false =>
          have ew := (show Hid ((wr.alloc (.cells #[V id, V txn, V mo] 160)).ownsRow 0 160 3 (Q4 g m c) m (vals .i64 ys)) from HO.out.same (kZ0.alloc _));have fk := (show Hid (Blk (wr.alloc (.cells #[V id, V txn, V mo] 160)) (wr.heap.size) 160 [V id, V txn, V mo]) from Blk.newL wr [V id, V txn, V mo] 160)
          go_wp2_with (at_builtin; go_loud (refine wpList_append_lies _ rfl (.tmp 119) (.tmp 124) 66 rfl 0 160 i0 _ 3 24 Tryz.underlying66 hi br aT bv rfl (by omega) (Q4 g m c) m (vals .i64 ys) rfl (by exact ew.out) ⟨wr.heap.size, 0, none⟩ 1 1 [V id, V txn, V mo] rfl rfl (World.news_of_block (cs := #[V id, V txn, V mo]) (t := 160) (fr := (0, 0)) (by exact fk.out)) (by simp [Value.oneCell']) (by omega) (by unfold maxLen; omega) (by omega) (Nat.zero_le _) (wr.heap.size + 1) (by simp) ?_); intro g5 bM w5 bA aY b9 kJ; have dI := (show Hid (OwnF 3 160 w5 g5 (m + 1) bM (ys ++ [id, txn, mo])) from OwnF.of_app3 bA); have dA := (show Hid ((wr.alloc (.cells #[V id, V txn, V mo] 160)).grownBy w5 (Value.slice (some ⟨g, 0, none⟩) m c).ownBlock) from aY); have eh : Hid ((Value.slice (some ⟨g, 0, none⟩) m c).ownBlock = some g5 ∨ g5 = wr.heap.size + 1) := b9; clear bA aY b9; have mL : w.heap.size < g5 := (by rcases eh.out with h | h; (have : g = g5 := (by simpa [Value.ownBlock] using h); omega); omega); have aH := hid (Same.app HK.out dA.out (by omega)); have cP := (show Hid (Blk w5 w.heap.size 142 [V 0, V0]) from (HB.out.same (kZ0.alloc _)).kept (Kept.of_grown dA.out (fun k e => e)) (V8 (by omega))); obtain ⟨r0, r1⟩ := cP.out.all2; have fr := cP.out.frozen; have lr := cP.out.lt)
          refine bodyPost_ret (v := .agg #[V 0, Q4 g5 (m + 1) bM]) (by simp [results, Tryz.results112, go_sem, r0, r1]) rfl ⟨⟨0, ⟨160, some ⟨g5, 0, none⟩, m + 1, bM, ys ++ [id, txn, mo]⟩⟩, rfl, ?_, rfl, ?_, ?_, ?_⟩
          ·rw [← HR.out, ← MF.out]; simp [StLockResult.dat, Vk, flat3]
          ·intro b hb
           have := jao hb;omega
          ·refine (dI.out.kept (R := fun b => b = w.heap.size) ?_ (by omega)).out
           (iterate 2 refine Kept.setCell (R := fun b => b = w.heap.size) ?_ (.inr rfl) _)
           exact kZ0
          ·(iterate 2 refine Kept.setCell ?_ (.inl (Nat.le_refl _)) _)
           exact aH.out
 ·rw [if_neg (fun h => h0 h.1)] at hR
  subst hR;obtain ⟨r0, r1⟩ := bF.out.all2;have fr := bF.out.frozen;have lr := bF.out.lt;go_wp2;refine bodyPost_ret (v := .agg #[V 2, V0]) (by simp [results, Tryz.results112, go_sem, r0, r1]) rfl ⟨⟨2, ⟨160, none, 0, 0, []⟩⟩, rfl, rfl, rfl, ?_, ?_, ?_⟩
  ·intro b hb
   have h := (Ux _ _).1 hb;simp [FR.v, Value.ownBlock] at h
  ·exact FR.own_nil _
  ·(iterate 2 refine Kept.setCell ?_ (.inl (Nat.le_refl _)) _)
   exact ao.out
end Go.Proofs.YtljfcdkhicffcaaGreat
