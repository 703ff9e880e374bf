import Derived.Test.YtelijknekfipfaaG04
namespace Go.Proofs.Ytelijknekfipfaa
set_option maxRecDepth 100000
set_option maxHeartbeats 8000000
set_option linter.unusedVariables false
set_option linter.unusedSimpArgs false
open Go.RowKit
def insF (e : T3) : Bool → List T3 → List T3
 | true, [] => []
 | false, [] => [e]
 | d, l :: t => if l.1 = e.1 ∧ l.2.1 = e.2.1 then insF e d t else if !d ∧ (e.1 < l.1 ∨ l.1 = e.1 ∧ e.2.1 < l.2.1) then e :: l :: insF e true t else l :: insF e d t
def askP (ls : List T3) (txn id mode : Int) : Int × List Int :=
 if locksF ls = 0 ∧ inB id 0 511 ∧ inB txn 1 2147483647 ∧ inB mode 1 2 then
  (if modeP ls txn id = 0 ∧ ls.length = 4096 then (2, []) else if othersP ls txn id = 2 ∨ ¬ othersP ls txn id = 0 ∧ mode = 2 then (1, []) else
   (0, flat3 (insF (id, txn, if mode < modeP ls txn id then modeP ls txn id else mode) false ls)))
 else (2, [])
theorem specLockAskT_any (x : FR) (txn id mode : Int) (w : World) (hv : RdF 3 w x) :
  Calls Try.prog 21 #[x.v, .int .i64 txn, .int .i64 id, .int .i64 mode] w fun e w' => ∃ y : StLockResult, e = .returned y.val ∧ y.dat = askP (tri x.bs) txn id mode ∧ y.locks.e = 51 ∧ (∀ b, FootL y.rows b → w.heap.size ≤ b) ∧ OwnL w' y.rows ∧ Same w w' := by
 obtain ⟨i0, hi, hz0, hz1, hz2⟩ := info_parts Try.infoLock
 have HK0 := hid (sameA w [.int .i64 0, .slice none 0 0] 27)
 have b0 := Blk.newL w [.int .i64 0, .slice none 0 0] 27
 have k0 := specLocksFault_any x _ (hv.same HK0.out)
 obtain ⟨xe, xa, n, xc, bs⟩ := x
 have hm : n ≤ maxLen := hv.1
 unfold maxLen at hm
 have hl := tri_length n bs hv.2.1
 dsimp only [FR.v] at k0 ⊢
 have HV := hid hv
 clear hv
 obtain ⟨R, hR⟩ : ∃ R, askP (tri bs) txn id mode = R := ⟨_, rfl⟩
 rw [hR]
 unfold askP at hR
 obtain ⟨q, hq⟩ : ∃ q, locksF (tri bs) = q := ⟨_, rfl⟩
 rw [hq] at hR k0
 have q1 := fun wx => l4In_any id 0 511 wx
 have q2 := fun wx => l4In_any txn 1 2147483647 wx
 have q3 := fun wx => l4In_any mode 1 2 wx
 go_enter Try.func21, Try.ntmps21
 go_wp2_with fail
 refine k0.mono ?_
 rintro e w1 ⟨rfl, hk1⟩
 have HK1 := hid (HK0.out.trans hk1)
 have HB1 := hid (b0.same hk1)
 clear hk1 b0 k0
 by_cases h0 : q = 0
 ·subst h0
  cases f1 : inB id 0 511 with
  | false =>
   rw [f1] at q1
   rw [if_neg (by simp [f1])] at hR
   subst hR
   clear hl hq
   go_wp2_with fail
   refine (q1 _).mono ?_
   rintro e w2 ⟨rfl, hk⟩
   have HK2 := hid (HK1.out.trans hk)
   have HB2 := hid (HB1.out.same hk)
   clear hk
   obtain ⟨r0, r1⟩ := HB2.out.all2
   have fr := HB2.out.frozen
   have lr := HB2.out.lt
   go_wp2
   refine bodyPost_ret (v := .agg #[.int .i64 2, .slice none 0 0]) (by simp [results, Try.results21, go_sem, r0, r1]) rfl ⟨⟨2, ⟨51, none, 0, 0, []⟩⟩, rfl, rfl, rfl, ?_, ?_, ?_⟩
   ·intro b hb
    have h := (FootL_one _ _).1 hb
    simp [FR.v, Value.ownBlock] at h
   ·exact FR.own_nil _
   ·(iterate 2 refine Kept.setCell ?_ (.inl (Nat.le_refl _)) _)
    exact HK2.out
  | true =>
   rw [f1] at q1
   go_wp2_with fail
   refine (q1 _).mono ?_
   rintro e w2 ⟨rfl, hk⟩
   have HK2 := hid (HK1.out.trans hk)
   have HB2 := hid (HB1.out.same hk)
   have hs2 : w.heap.size < w2.heap.size := HB2.out.lt
   clear hk
   cases f2 : inB txn 1 2147483647 with
   | false =>
    rw [f2] at q2
    rw [if_neg (by simp [f1, f2])] at hR
    subst hR
    clear hl hq
    go_wp2_with fail
    refine (q2 _).mono ?_
    rintro e w3 ⟨rfl, hk⟩
    have HK3 := hid (HK2.out.trans hk)
    have HB3 := hid (HB2.out.same hk)
    clear hk
    obtain ⟨r0, r1⟩ := HB3.out.all2
    have fr := HB3.out.frozen
    have lr := HB3.out.lt
    go_wp2
    refine bodyPost_ret (v := .agg #[.int .i64 2, .slice none 0 0]) (by simp [results, Try.results21, go_sem, r0, r1]) rfl ⟨⟨2, ⟨51, none, 0, 0, []⟩⟩, rfl, rfl, rfl, ?_, ?_, ?_⟩
    ·intro b hb
     have h := (FootL_one _ _).1 hb
     simp [FR.v, Value.ownBlock] at h
    ·exact FR.own_nil _
    ·(iterate 2 refine Kept.setCell ?_ (.inl (Nat.le_refl _)) _)
     exact HK3.out
   | true =>
    rw [f2] at q2
    go_wp2_with fail
    refine (q2 _).mono ?_
    rintro e w3 ⟨rfl, hk⟩
    have HK3 := hid (HK2.out.trans hk)
    have HB3 := hid (HB2.out.same hk)
    have hs3 : w.heap.size < w3.heap.size := HB3.out.lt
    clear hk
    cases f3 : inB mode 1 2 with
    | false =>
     rw [f3] at q3
     rw [if_neg (by simp [f1, f2, f3])] at hR
     subst hR
     clear hl hq
     go_wp2_with fail
     refine (q3 _).mono ?_
     rintro e w4 ⟨rfl, hk⟩
     have HK4 := hid (HK3.out.trans hk)
     have HB4 := hid (HB3.out.same hk)
     clear hk
     obtain ⟨r0, r1⟩ := HB4.out.all2
     have fr := HB4.out.frozen
     have lr := HB4.out.lt
     go_wp2
     refine bodyPost_ret (v := .agg #[.int .i64 2, .slice none 0 0]) (by simp [results, Try.results21, go_sem, r0, r1]) rfl ⟨⟨2, ⟨51, none, 0, 0, []⟩⟩, rfl, rfl, rfl, ?_, ?_, ?_⟩
     ·intro b hb
      have h := (FootL_one _ _).1 hb
      simp [FR.v, Value.ownBlock] at h
     ·exact FR.own_nil _
     ·(iterate 2 refine Kept.setCell ?_ (.inl (Nat.le_refl _)) _)
      exact HK4.out
    | true =>
     rw [f3] at q3
     go_wp2_with fail
     refine (q3 _).mono ?_
     rintro e w4 ⟨rfl, hk⟩
     have HK4 := hid (HK3.out.trans hk)
     have HB4 := hid (HB3.out.same hk)
     have hs4 : w.heap.size < w4.heap.size := HB4.out.lt
     clear hk
     rw [if_pos (by simp [f1, f2, f3])] at hR
     have km := specLockMode_any ⟨xe, xa, n, xc, bs⟩ txn id w4 (HV.out.same HK4.out)
     dsimp only [FR.v] at km
     obtain ⟨own, ho⟩ : ∃ q, modeP (tri bs) txn id = q := ⟨_, rfl⟩
     rw [ho] at km hR
     go_wp2_with fail
     refine km.mono ?_
     rintro e w5 ⟨rfl, hk⟩
     have HK5 := hid (HK4.out.trans hk)
     have HB5 := hid (HB4.out.same hk)
     clear hk km
     by_cases hf : own = 0 ∧ n = 4096
     ·obtain ⟨rfl, rfl⟩ := hf
      rw [if_pos ⟨rfl, hl⟩] at hR
      subst hR
      obtain ⟨r0, r1⟩ := HB5.out.all2
      have fr := HB5.out.frozen
      have lr := HB5.out.lt
      go_wp2
      refine bodyPost_ret (v := .agg #[.int .i64 2, .slice none 0 0]) (by simp [results, Try.results21, go_sem, r0, r1]) rfl ⟨⟨2, ⟨51, none, 0, 0, []⟩⟩, rfl, rfl, rfl, ?_, ?_, ?_⟩
      ·intro b hb
       have h := (FootL_one _ _).1 hb
       simp [FR.v, Value.ownBlock] at h
      ·exact FR.own_nil _
      ·(iterate 2 refine Kept.setCell ?_ (.inl (Nat.le_refl _)) _)
       exact HK5.out
     rw [if_neg (by rw [hl]; exact hf)] at hR
     have ko := specLockOthers_any ⟨xe, xa, n, xc, bs⟩ txn id w5 (HV.out.same HK5.out)
     dsimp only [FR.v] at ko
     obtain ⟨oth, hoo⟩ : ∃ q, othersP (tri bs) txn id = q := ⟨_, rfl⟩
     rw [hoo] at ko hR
     have HL := hid hl
     have hfb : (own = 0 → (n : Int) = 4096 → False) := fun h1 h2 => hf ⟨h1, by omega⟩
     obtain ⟨bo, hbo⟩ : ∃ b, decide (own = 0) = b := ⟨_, rfl⟩
     have stepO : own = 0 ∧ ¬ (n : Int) = 4096 ∨ ¬ own = 0 := by
      by_cases h1 : own = 0
      ·exact .inl ⟨h1, fun h2 => hfb h1 h2⟩
      ·exact .inr h1
     obtain ⟨mo, hmo⟩ : ∃ q, (if mode < own then own else mode) = q := ⟨_, rfl⟩
     rw [hmo] at hR
     have hcase : (mode < own ∧ mo = own) ∨ (¬ mode < own ∧ mo = mode) := by
      by_cases h : mode < own
      ·rw [if_pos h] at hmo; exact .inl ⟨h, hmo.symm⟩
      ·rw [if_neg h] at hmo; exact .inr ⟨h, hmo.symm⟩
     have hm1 : 1 ≤ mode := by have h := f3; simp [inB] at h; exact h.1
     have hn := locksF_len hq
     rw [hl] at hn
     clear hf hfb hbo bo hl hq ho hoo hmo f1 f2 f3 q1 q2 q3
     go_upto_region 4 with fail
     go_cut [44] (fun v wx => v = .bool false ∧ w5 = wx)
     case first =>
      rcases stepO with ⟨rfl, hn4⟩ | h0
      ·have e4 : ((n : Int) == 4096) = false := by simp [hn4]
       go_wp2
       go_meet
       case rel => exact ⟨rfl, rfl⟩
      ·have e0 : (own == 0) = false := by simp [h0]
       go_wp2
       go_meet
       case rel => exact ⟨rfl, rfl⟩
     case rest =>
      obtain ⟨rfl, hwc⟩ := hcut
      subst hwc
      clear stepO
      go_wp2_with fail
      refine ko.mono ?_
      rintro e w6 ⟨rfl, hk⟩
      have HK6 := hid (HK5.out.trans hk)
      have HB6 := hid (HB5.out.same hk)
      have hs6 : w.heap.size < w6.heap.size := HB6.out.lt
      clear hk ko
      by_cases hr : oth = 2 ∨ ¬ oth = 0 ∧ mode = 2
      ·rw [if_pos hr] at hR
       subst hR
       rcases hr with rfl | ⟨hr1, rfl⟩
       ·obtain ⟨r0, r1⟩ := HB6.out.all2
        have fr := HB6.out.frozen
        have lr := HB6.out.lt
        go_wp2
        refine bodyPost_ret (v := .agg #[.int .i64 1, .slice none 0 0]) (by simp [results, Try.results21, go_sem, r0, r1]) rfl ⟨⟨1, ⟨51, none, 0, 0, []⟩⟩, rfl, rfl, rfl, ?_, ?_, ?_⟩
        ·intro b hb
         have h := (FootL_one _ _).1 hb
         simp [FR.v, Value.ownBlock] at h
        ·exact FR.own_nil _
        ·(iterate 2 refine Kept.setCell ?_ (.inl (Nat.le_refl _)) _)
         exact HK6.out
       ·by_cases hr2 : oth = 2
        ·subst hr2
         obtain ⟨r0, r1⟩ := HB6.out.all2
         have fr := HB6.out.frozen
         have lr := HB6.out.lt
         go_wp2
         refine bodyPost_ret (v := .agg #[.int .i64 1, .slice none 0 0]) (by simp [results, Try.results21, go_sem, r0, r1]) rfl ⟨⟨1, ⟨51, none, 0, 0, []⟩⟩, rfl, rfl, rfl, ?_, ?_, ?_⟩
         ·intro b hb
          have h := (FootL_one _ _).1 hb
          simp [FR.v, Value.ownBlock] at h
         ·exact FR.own_nil _
         ·(iterate 2 refine Kept.setCell ?_ (.inl (Nat.le_refl _)) _)
          exact HK6.out
        ·have e1 : (oth != 0) = true := by simp [hr1]
         have e2 : (oth == 2) = false := by simp [hr2]
         obtain ⟨r0, r1⟩ := HB6.out.all2
         have fr := HB6.out.frozen
         have lr := HB6.out.lt
         go_wp2
         refine bodyPost_ret (v := .agg #[.int .i64 1, .slice none 0 0]) (by simp [results, Try.results21, go_sem, r0, r1]) rfl ⟨⟨1, ⟨51, none, 0, 0, []⟩⟩, rfl, rfl, rfl, ?_, ?_, ?_⟩
         ·intro b hb
          have h := (FootL_one _ _).1 hb
          simp [FR.v, Value.ownBlock] at h
         ·exact FR.own_nil _
         ·(iterate 2 refine Kept.setCell ?_ (.inl (Nat.le_refl _)) _)
          exact HK6.out
      rw [if_neg hr] at hR
      have HR := hid hR
      clear hR
      have o2 : ¬ oth = 2 := fun h => hr (.inl h)
      have om : oth = 0 ∨ (¬ oth = 0 ∧ ¬ mode = 2) := by
       by_cases h : oth = 0
       ·exact .inl h
       ·exact .inr ⟨h, fun h2 => hr (.inr ⟨h, h2⟩)⟩
      clear hr
      go_upto_region 7 with fail
      go_cut [59] (fun v wx => v = .bool false ∧ w6 = wx)
      case first =>
       have e2 : (oth == 2) = false := by simp [o2]
       rcases om with rfl | ⟨om1, om2⟩
       ·go_wp2
        go_meet
        case rel => exact ⟨rfl, rfl⟩
       ·have e1 : (oth != 0) = true := by simp [om1]
        have e3 : (mode == 2) = false := by simp [om2]
        go_wp2
        go_meet
        case rel => exact ⟨rfl, rfl⟩
      case rest =>
       obtain ⟨rfl, hwc⟩ := hcut
       subst hwc
       clear om
       go_upto_if 63 with fail
       go_cut [3] (fun v wx => v = .int .i64 mo ∧ w6 = wx)
       case first =>
        rcases hcase with ⟨hc1, hc2⟩ | ⟨hc1, hc2⟩
        ·go_wp2
         go_meet
         case rel => exact ⟨by rw [hc2], rfl⟩
        ·go_wp2
         go_meet
         case rel => exact ⟨by rw [hc2], rfl⟩
       case rest =>
       obtain ⟨rfl, hwc⟩ := hcut
       subst hwc
       clear hcase
       have HKe := (show Hid (Same w (w6.alloc (.cells #[] 51))) from HK6.out.alloc _)
       have HBe := (show Hid (Blk (w6.alloc (.cells #[] 51)) w.heap.size 27 [.int .i64 0, .slice none 0 0]) from HB6.out.same ((Kept.refl _ _).alloc _))
       have HOe := hid (ownF_none 51 w6)
       go_wp2_with fail
       go_loopw [11, 12, 13] (fun o dd i wr => ∃ (k g m c : Nat) (ys : List Int) (d : Nat), k ≤ n ∧ m ≤ 2 * k ∧ o = .slice (some ⟨g, 0, none⟩) m c ∧ dd = .bool (decide (0 < d)) ∧ i = .int .i64 k ∧ w.heap.size < g ∧ Hid (OwnF 3 51 wr g m c ys) ∧ Hid (ys ++ flat3 (insF (id, txn, mo) (decide (0 < d)) ((tri bs).drop k)) = flat3 (insF (id, txn, mo) false (tri bs))) ∧ Hid (Blk wr w.heap.size 27 [.int .i64 0, .slice none 0 0]) ∧ Hid (Same w wr)) (fun _ _ i _ => n - (intOf i).toNat)
       case atStart => exact ⟨0, w6.heap.size, 0, 0, [], 0, Nat.zero_le _, Nat.zero_le _, rfl, rfl, rfl, by omega, HOe, by simp [Hid], HBe, HKe⟩
       case round =>
        obtain ⟨k, g, m, c, ys, d, hk, hmk, rfl, rfl, rfl, hg, HO, HY, HB, HK⟩ := hrel
        obtain ⟨db, hdb⟩ : ∃ b, decide (0 < d) = b := ⟨_, rfl⟩
        rw [hdb] at HY ⊢
        by_cases hlt : k < n
        ·obtain ⟨b, off, ha, hc⟩ := HV.out.some (show 0 < n by omega)
         dsimp only at ha hc
         subst ha
         have hla : k < (tri bs).length := by rw [HL.out]; omega
         obtain ⟨⟨x, y, z⟩, hxa⟩ : ∃ q, (tri bs)[k] = q := ⟨_, rfl⟩
         obtain ⟨da0, da1, da2⟩ := (HV.out.same HK.out).tri k hla _ _ _ hxa
         have h := HY.out
         rw [List.drop_eq_getElem_cons hla, hxa] at h
         simp only [insF] at h
         clear hxa HY
         have hgl := HO.out.lt
         have hzz := HK.out.size
         have HKa := (show Hid (Same w (wr.alloc (.cells #[.int .i64 x, .int .i64 y, .int .i64 z] 51))) from HK.out.alloc _)
         have HOa := (show Hid (OwnF 3 51 (wr.alloc (.cells #[.int .i64 x, .int .i64 y, .int .i64 z] 51)) g m c ys) from HO.out.same ((Kept.refl _ _).alloc _))
         have HBa := (show Hid (Blk (wr.alloc (.cells #[.int .i64 x, .int .i64 y, .int .i64 z] 51)) w.heap.size 27 [.int .i64 0, .slice none 0 0]) from HB.out.same ((Kept.refl _ _).alloc _))
         have HLa := (show Hid (Blk (wr.alloc (.cells #[.int .i64 x, .int .i64 y, .int .i64 z] 51)) wr.heap.size 51 [.int .i64 x, .int .i64 y, .int .i64 z]) from Blk.newL wr [.int .i64 x, .int .i64 y, .int .i64 z] 51)
         by_cases h1 : x = id
         ·subst h1
          by_cases h2 : y = txn
          ·subst h2
           rw [if_pos ⟨rfl, rfl⟩] at h
           have HY2 := hid h
           clear h
           go_wp2
           go_roundw
           case rel => exact ⟨k + 1, g, m, c, ys, d, by omega, by omega, rfl, by rw [hdb], by go_num, hg, HOa, (by rw [hdb]; exact HY2), HBa, HKa⟩
           case measure => simp [intOf]; omega
          ·rw [if_neg (fun h => h2 h.2)] at h
           cases db with
           | true =>
            rw [if_neg (by simp)] at h
            have HY2 := hid h
            clear h
            have HKO5 := (show Hid (((wr.alloc (.cells #[.int .i64 x, .int .i64 y, .int .i64 z] 51)).alloc (.cells #[.int .i64 x, .int .i64 y, .int .i64 z] 51)).ownsRow 0 51 3 (.slice (some ⟨g, 0, none⟩) m c) m (vals .i64 ys)) from HOa.out.same ((Kept.refl _ _).alloc _))
            have HN5 := (show Hid (Blk ((wr.alloc (.cells #[.int .i64 x, .int .i64 y, .int .i64 z] 51)).alloc (.cells #[.int .i64 x, .int .i64 y, .int .i64 z] 51)) (wr.heap.size + 1) 51 [.int .i64 x, .int .i64 y, .int .i64 z]) from by have h := Blk.newL (wr.alloc (.cells #[.int .i64 x, .int .i64 y, .int .i64 z] 51)) [.int .i64 x, .int .i64 y, .int .i64 z] 51; rw [World.size_alloc] at h; exact h)
            obtain ⟨la0, la1, la2⟩ := HLa.out.all3
            go_wp2_with (at_builtin; go_loud (refine wpList_append_lies _ rfl (.tmp 113) (.tmp 115) 23 rfl 0 51 i0 _ 3 24 Try.underlying23 hi hz0 hz1 hz2 rfl (by omega) (.slice (some ⟨g, 0, none⟩) m c) m (vals .i64 ys) rfl (by exact HKO5.out) ⟨(wr.heap.size + 1), 0, none⟩ 1 1 [.int .i64 x, .int .i64 y, .int .i64 z] rfl rfl (World.news_of_block (cs := #[.int .i64 x, .int .i64 y, .int .i64 z]) (t := 51) (fr := (0, 0)) (by exact HN5.out)) (by simp [Value.oneCell']) (by omega) (by unfold maxLen; omega) (by omega) (Nat.zero_le _) ((wr.heap.size + 1) + 1) (by simp) ?_); intro g5 cap5 w5 hown5 hgrow5 hat5 hlt5; have HO5 := (show Hid (OwnF 3 51 w5 g5 (m + 1) cap5 (ys ++ [x, y, z])) from OwnF.of_app3 hown5); have HG5 := (show Hid (((wr.alloc (.cells #[.int .i64 x, .int .i64 y, .int .i64 z] 51)).alloc (.cells #[.int .i64 x, .int .i64 y, .int .i64 z] 51)).grownBy w5 (Value.slice (some ⟨g, 0, none⟩) m c).ownBlock) from hgrow5); have HAT5 : Hid ((Value.slice (some ⟨g, 0, none⟩) m c).ownBlock = some g5 ∨ g5 = (wr.heap.size + 1) + 1) := hat5; clear hown5 hgrow5 hat5)
            have hg5 : w.heap.size < g5 := by
             rcases HAT5.out with h | h
             ·have : g = g5 := by simpa [Value.ownBlock] using h
              omega
             ·omega
            have HK5 := hid (Same.app HKa.out HG5.out (by omega))
            have HB5 := (show Hid (Blk w5 w.heap.size 27 [.int .i64 0, .slice none 0 0]) from (HBa.out.same ((Kept.refl _ _).alloc _)).kept (Kept.of_grown HG5.out (fun k e => e)) (not_at (by omega)))
            go_roundw
            case rel => exact ⟨k + 1, g5, m + 1, cap5, ys ++ [x, y, z], 1, by omega, by omega, rfl, rfl, by go_num, hg5, HO5, (by unfold Hid; have h := HY2.out; simpa [flat3] using h), HB5, HK5⟩
            case measure => simp [intOf]; omega
           | false =>
            by_cases h3 : txn < y
            ·rw [if_pos (by simp [h3])] at h
             have HY2 := hid h
             clear h
             have HKO5 := (show Hid (((wr.alloc (.cells #[.int .i64 x, .int .i64 y, .int .i64 z] 51)).alloc (.cells #[.int .i64 x, .int .i64 txn, .int .i64 mo] 51)).ownsRow 0 51 3 (.slice (some ⟨g, 0, none⟩) m c) m (vals .i64 ys)) from HOa.out.same ((Kept.refl _ _).alloc _))
             have HN5 := (show Hid (Blk ((wr.alloc (.cells #[.int .i64 x, .int .i64 y, .int .i64 z] 51)).alloc (.cells #[.int .i64 x, .int .i64 txn, .int .i64 mo] 51)) (wr.heap.size + 1) 51 [.int .i64 x, .int .i64 txn, .int .i64 mo]) from by have h := Blk.newL (wr.alloc (.cells #[.int .i64 x, .int .i64 y, .int .i64 z] 51)) [.int .i64 x, .int .i64 txn, .int .i64 mo] 51; rw [World.size_alloc] at h; exact h)
             obtain ⟨la0, la1, la2⟩ := HLa.out.all3
             go_wp2_with (first
              | (at_builtin; (refine wpList_append_lies _ rfl (.tmp 106) (.tmp 111) 23 rfl 0 51 i0 _ 3 24 Try.underlying23 hi hz0 hz1 hz2 rfl (by omega) (.slice (some ⟨g, 0, none⟩) m c) m (vals .i64 ys) rfl (by exact HKO5.out) ⟨(wr.heap.size + 1), 0, none⟩ 1 1 [.int .i64 x, .int .i64 txn, .int .i64 mo] rfl rfl (World.news_of_block (cs := #[.int .i64 x, .int .i64 txn, .int .i64 mo]) (t := 51) (fr := (0, 0)) (by exact HN5.out)) (by simp [Value.oneCell']) (by omega) (by unfold maxLen; omega) (by omega) (Nat.zero_le _) ((wr.heap.size + 1) + 1) (by simp) ?_); intro g5 cap5 w5 hown5 hgrow5 hat5 hlt5; have HO5 := (show Hid (OwnF 3 51 w5 g5 (m + 1) cap5 (ys ++ [x, txn, mo])) from OwnF.of_app3 hown5); have HG5 := (show Hid (((wr.alloc (.cells #[.int .i64 x, .int .i64 y, .int .i64 z] 51)).alloc (.cells #[.int .i64 x, .int .i64 txn, .int .i64 mo] 51)).grownBy w5 (Value.slice (some ⟨g, 0, none⟩) m c).ownBlock) from hgrow5); have HAT5 : Hid ((Value.slice (some ⟨g, 0, none⟩) m c).ownBlock = some g5 ∨ g5 = (wr.heap.size + 1) + 1) := hat5; clear hown5 hgrow5 hat5; have hg5 : w.heap.size < g5 := (by rcases HAT5.out with h | h; (have : g = g5 := (by simpa [Value.ownBlock] using h); omega); omega); have HK5 := hid (Same.app HKa.out HG5.out (by omega)); have HB5 := (show Hid (Blk w5 w.heap.size 27 [.int .i64 0, .slice none 0 0]) from (HBa.out.same ((Kept.refl _ _).alloc _)).kept (Kept.of_grown HG5.out (fun k e => e)) (not_at (by omega))); have HL5 := (show Hid (Blk w5 wr.heap.size 51 [.int .i64 x, .int .i64 y, .int .i64 z]) from (HLa.out.same ((Kept.refl _ _).alloc _)).kept (Kept.of_grown HG5.out (fun k e => e)) (not_at (by omega))); obtain ⟨lb0, lb1, lb2⟩ := HL5.out.all3; have hz5 := HK5.out.size; have hgl5 := HO5.out.lt; have HKO6 := (show Hid ((w5.alloc (.cells #[.int .i64 x, .int .i64 y, .int .i64 z] 51)).ownsRow 0 51 3 (.slice (some ⟨g5, 0, none⟩) (m + 1) cap5) (m + 1) (vals .i64 (ys ++ [x, txn, mo]))) from HO5.out.same ((Kept.refl _ _).alloc _)); have HN6 := (show Hid (Blk (w5.alloc (.cells #[.int .i64 x, .int .i64 y, .int .i64 z] 51)) (w5.heap.size) 51 [.int .i64 x, .int .i64 y, .int .i64 z]) from Blk.newL w5 [.int .i64 x, .int .i64 y, .int .i64 z] 51))
              | (at_builtin; go_loud (refine wpList_append_lies _ rfl (.tmp 113) (.tmp 115) 23 rfl 0 51 i0 _ 3 24 Try.underlying23 hi hz0 hz1 hz2 rfl (by omega) (.slice (some ⟨g5, 0, none⟩) (m + 1) cap5) (m + 1) (vals .i64 (ys ++ [x, txn, mo])) rfl (by exact HKO6.out) ⟨w5.heap.size, 0, none⟩ 1 1 [.int .i64 x, .int .i64 y, .int .i64 z] rfl rfl (World.news_of_block (cs := #[.int .i64 x, .int .i64 y, .int .i64 z]) (t := 51) (fr := (0, 0)) (by exact HN6.out)) (by simp [Value.oneCell']) (by omega) (by unfold maxLen; omega) (by omega) (Nat.zero_le _) (w5.heap.size + 1) (by simp) ?_); intro g6 cap6 w6 hown6 hgrow6 hat6 hlt6; have HO6 := (show Hid (OwnF 3 51 w6 g6 ((m + 1) + 1) cap6 ((ys ++ [x, txn, mo]) ++ [x, y, z])) from OwnF.of_app3 hown6); have HG6 := (show Hid ((w5.alloc (.cells #[.int .i64 x, .int .i64 y, .int .i64 z] 51)).grownBy w6 (Value.slice (some ⟨g5, 0, none⟩) (m + 1) cap5).ownBlock) from hgrow6); have HAT6 : Hid ((Value.slice (some ⟨g5, 0, none⟩) (m + 1) cap5).ownBlock = some g6 ∨ g6 = w5.heap.size + 1) := hat6; clear hown6 hgrow6 hat6))
             have hg6 : w.heap.size < g6 := by
              rcases HAT6.out with h | h
              ·have : g5 = g6 := by simpa [Value.ownBlock] using h
               omega
              ·omega
             have HK6 := hid (Same.app HK5.out HG6.out (by omega))
             have HB6 := (show Hid (Blk w6 w.heap.size 27 [.int .i64 0, .slice none 0 0]) from (HB5.out.same ((Kept.refl _ _).alloc _)).kept (Kept.of_grown HG6.out (fun k e => e)) (not_at (by omega)))
             go_roundw
             case rel => exact ⟨k + 1, g6, m + 1 + 1, cap6, ys ++ [x, txn, mo] ++ [x, y, z], 1, by omega, by omega, rfl, rfl, by go_num, hg6, HO6, (by unfold Hid; have h := HY2.out; simpa [flat3] using h), HB6, HK6⟩
             case measure => simp [intOf]; omega
            ·rw [if_neg (by simp [h3])] at h
             have HY2 := hid h
             clear h
             have HKO5 := (show Hid (((wr.alloc (.cells #[.int .i64 x, .int .i64 y, .int .i64 z] 51)).alloc (.cells #[.int .i64 x, .int .i64 y, .int .i64 z] 51)).ownsRow 0 51 3 (.slice (some ⟨g, 0, none⟩) m c) m (vals .i64 ys)) from HOa.out.same ((Kept.refl _ _).alloc _))
             have HN5 := (show Hid (Blk ((wr.alloc (.cells #[.int .i64 x, .int .i64 y, .int .i64 z] 51)).alloc (.cells #[.int .i64 x, .int .i64 y, .int .i64 z] 51)) (wr.heap.size + 1) 51 [.int .i64 x, .int .i64 y, .int .i64 z]) from by have h := Blk.newL (wr.alloc (.cells #[.int .i64 x, .int .i64 y, .int .i64 z] 51)) [.int .i64 x, .int .i64 y, .int .i64 z] 51; rw [World.size_alloc] at h; exact h)
             obtain ⟨la0, la1, la2⟩ := HLa.out.all3
             go_wp2_with (at_builtin; go_loud (refine wpList_append_lies _ rfl (.tmp 113) (.tmp 115) 23 rfl 0 51 i0 _ 3 24 Try.underlying23 hi hz0 hz1 hz2 rfl (by omega) (.slice (some ⟨g, 0, none⟩) m c) m (vals .i64 ys) rfl (by exact HKO5.out) ⟨(wr.heap.size + 1), 0, none⟩ 1 1 [.int .i64 x, .int .i64 y, .int .i64 z] rfl rfl (World.news_of_block (cs := #[.int .i64 x, .int .i64 y, .int .i64 z]) (t := 51) (fr := (0, 0)) (by exact HN5.out)) (by simp [Value.oneCell']) (by omega) (by unfold maxLen; omega) (by omega) (Nat.zero_le _) ((wr.heap.size + 1) + 1) (by simp) ?_); intro g5 cap5 w5 hown5 hgrow5 hat5 hlt5; have HO5 := (show Hid (OwnF 3 51 w5 g5 (m + 1) cap5 (ys ++ [x, y, z])) from OwnF.of_app3 hown5); have HG5 := (show Hid (((wr.alloc (.cells #[.int .i64 x, .int .i64 y, .int .i64 z] 51)).alloc (.cells #[.int .i64 x, .int .i64 y, .int .i64 z] 51)).grownBy w5 (Value.slice (some ⟨g, 0, none⟩) m c).ownBlock) from hgrow5); have HAT5 : Hid ((Value.slice (some ⟨g, 0, none⟩) m c).ownBlock = some g5 ∨ g5 = (wr.heap.size + 1) + 1) := hat5; clear hown5 hgrow5 hat5)
             have hg5 : w.heap.size < g5 := by
              rcases HAT5.out with h | h
              ·have : g = g5 := by simpa [Value.ownBlock] using h
               omega
              ·omega
             have HK5 := hid (Same.app HKa.out HG5.out (by omega))
             have HB5 := (show Hid (Blk w5 w.heap.size 27 [.int .i64 0, .slice none 0 0]) from (HBa.out.same ((Kept.refl _ _).alloc _)).kept (Kept.of_grown HG5.out (fun k e => e)) (not_at (by omega)))
             go_roundw
             case rel => exact ⟨k + 1, g5, m + 1, cap5, ys ++ [x, y, z], 0, by omega, by omega, rfl, rfl, by go_num, hg5, HO5, (by unfold Hid; have h := HY2.out; simpa [flat3] using h), HB5, HK5⟩
             case measure => simp [intOf]; omega
         ·rw [if_neg (fun h => h1 h.1)] at h
          cases db with
          | true =>
           rw [if_neg (by simp)] at h
           have HY2 := hid h
           clear h
           have HKO5 := (show Hid (((wr.alloc (.cells #[.int .i64 x, .int .i64 y, .int .i64 z] 51)).alloc (.cells #[.int .i64 x, .int .i64 y, .int .i64 z] 51)).ownsRow 0 51 3 (.slice (some ⟨g, 0, none⟩) m c) m (vals .i64 ys)) from HOa.out.same ((Kept.refl _ _).alloc _))
           have HN5 := (show Hid (Blk ((wr.alloc (.cells #[.int .i64 x, .int .i64 y, .int .i64 z] 51)).alloc (.cells #[.int .i64 x, .int .i64 y, .int .i64 z] 51)) (wr.heap.size + 1) 51 [.int .i64 x, .int .i64 y, .int .i64 z]) from by have h := Blk.newL (wr.alloc (.cells #[.int .i64 x, .int .i64 y, .int .i64 z] 51)) [.int .i64 x, .int .i64 y, .int .i64 z] 51; rw [World.size_alloc] at h; exact h)
           obtain ⟨la0, la1, la2⟩ := HLa.out.all3
           go_wp2_with (at_builtin; go_loud (refine wpList_append_lies _ rfl (.tmp 113) (.tmp 115) 23 rfl 0 51 i0 _ 3 24 Try.underlying23 hi hz0 hz1 hz2 rfl (by omega) (.slice (some ⟨g, 0, none⟩) m c) m (vals .i64 ys) rfl (by exact HKO5.out) ⟨(wr.heap.size + 1), 0, none⟩ 1 1 [.int .i64 x, .int .i64 y, .int .i64 z] rfl rfl (World.news_of_block (cs := #[.int .i64 x, .int .i64 y, .int .i64 z]) (t := 51) (fr := (0, 0)) (by exact HN5.out)) (by simp [Value.oneCell']) (by omega) (by unfold maxLen; omega) (by omega) (Nat.zero_le _) ((wr.heap.size + 1) + 1) (by simp) ?_); intro g5 cap5 w5 hown5 hgrow5 hat5 hlt5; have HO5 := (show Hid (OwnF 3 51 w5 g5 (m + 1) cap5 (ys ++ [x, y, z])) from OwnF.of_app3 hown5); have HG5 := (show Hid (((wr.alloc (.cells #[.int .i64 x, .int .i64 y, .int .i64 z] 51)).alloc (.cells #[.int .i64 x, .int .i64 y, .int .i64 z] 51)).grownBy w5 (Value.slice (some ⟨g, 0, none⟩) m c).ownBlock) from hgrow5); have HAT5 : Hid ((Value.slice (some ⟨g, 0, none⟩) m c).ownBlock = some g5 ∨ g5 = (wr.heap.size + 1) + 1) := hat5; clear hown5 hgrow5 hat5)
           have hg5 : w.heap.size < g5 := by
            rcases HAT5.out with h | h
            ·have : g = g5 := by simpa [Value.ownBlock] using h
             omega
            ·omega
           have HK5 := hid (Same.app HKa.out HG5.out (by omega))
           have HB5 := (show Hid (Blk w5 w.heap.size 27 [.int .i64 0, .slice none 0 0]) from (HBa.out.same ((Kept.refl _ _).alloc _)).kept (Kept.of_grown HG5.out (fun k e => e)) (not_at (by omega)))
           go_roundw
           case rel => exact ⟨k + 1, g5, m + 1, cap5, ys ++ [x, y, z], 1, by omega, by omega, rfl, rfl, by go_num, hg5, HO5, (by unfold Hid; have h := HY2.out; simpa [flat3] using h), HB5, HK5⟩
           case measure => simp [intOf]; omega
          | false =>
           by_cases h3 : id < x
           ·rw [if_pos (by simp [h3])] at h
            have HY2 := hid h
            clear h
            have HKO5 := (show Hid (((wr.alloc (.cells #[.int .i64 x, .int .i64 y, .int .i64 z] 51)).alloc (.cells #[.int .i64 id, .int .i64 txn, .int .i64 mo] 51)).ownsRow 0 51 3 (.slice (some ⟨g, 0, none⟩) m c) m (vals .i64 ys)) from HOa.out.same ((Kept.refl _ _).alloc _))
            have HN5 := (show Hid (Blk ((wr.alloc (.cells #[.int .i64 x, .int .i64 y, .int .i64 z] 51)).alloc (.cells #[.int .i64 id, .int .i64 txn, .int .i64 mo] 51)) (wr.heap.size + 1) 51 [.int .i64 id, .int .i64 txn, .int .i64 mo]) from by have h := Blk.newL (wr.alloc (.cells #[.int .i64 x, .int .i64 y, .int .i64 z] 51)) [.int .i64 id, .int .i64 txn, .int .i64 mo] 51; rw [World.size_alloc] at h; exact h)
            obtain ⟨la0, la1, la2⟩ := HLa.out.all3
            go_wp2_with (first
             | (at_builtin; (refine wpList_append_lies _ rfl (.tmp 106) (.tmp 111) 23 rfl 0 51 i0 _ 3 24 Try.underlying23 hi hz0 hz1 hz2 rfl (by omega) (.slice (some ⟨g, 0, none⟩) m c) m (vals .i64 ys) rfl (by exact HKO5.out) ⟨(wr.heap.size + 1), 0, none⟩ 1 1 [.int .i64 id, .int .i64 txn, .int .i64 mo] rfl rfl (World.news_of_block (cs := #[.int .i64 id, .int .i64 txn, .int .i64 mo]) (t := 51) (fr := (0, 0)) (by exact HN5.out)) (by simp [Value.oneCell']) (by omega) (by unfold maxLen; omega) (by omega) (Nat.zero_le _) ((wr.heap.size + 1) + 1) (by simp) ?_); intro g5 cap5 w5 hown5 hgrow5 hat5 hlt5; have HO5 := (show Hid (OwnF 3 51 w5 g5 (m + 1) cap5 (ys ++ [id, txn, mo])) from OwnF.of_app3 hown5); have HG5 := (show Hid (((wr.alloc (.cells #[.int .i64 x, .int .i64 y, .int .i64 z] 51)).alloc (.cells #[.int .i64 id, .int .i64 txn, .int .i64 mo] 51)).grownBy w5 (Value.slice (some ⟨g, 0, none⟩) m c).ownBlock) from hgrow5); have HAT5 : Hid ((Value.slice (some ⟨g, 0, none⟩) m c).ownBlock = some g5 ∨ g5 = (wr.heap.size + 1) + 1) := hat5; clear hown5 hgrow5 hat5; have hg5 : w.heap.size < g5 := (by rcases HAT5.out with h | h; (have : g = g5 := (by simpa [Value.ownBlock] using h); omega); omega); have HK5 := hid (Same.app HKa.out HG5.out (by omega)); have HB5 := (show Hid (Blk w5 w.heap.size 27 [.int .i64 0, .slice none 0 0]) from (HBa.out.same ((Kept.refl _ _).alloc _)).kept (Kept.of_grown HG5.out (fun k e => e)) (not_at (by omega))); have HL5 := (show Hid (Blk w5 wr.heap.size 51 [.int .i64 x, .int .i64 y, .int .i64 z]) from (HLa.out.same ((Kept.refl _ _).alloc _)).kept (Kept.of_grown HG5.out (fun k e => e)) (not_at (by omega))); obtain ⟨lb0, lb1, lb2⟩ := HL5.out.all3; have hz5 := HK5.out.size; have hgl5 := HO5.out.lt; have HKO6 := (show Hid ((w5.alloc (.cells #[.int .i64 x, .int .i64 y, .int .i64 z] 51)).ownsRow 0 51 3 (.slice (some ⟨g5, 0, none⟩) (m + 1) cap5) (m + 1) (vals .i64 (ys ++ [id, txn, mo]))) from HO5.out.same ((Kept.refl _ _).alloc _)); have HN6 := (show Hid (Blk (w5.alloc (.cells #[.int .i64 x, .int .i64 y, .int .i64 z] 51)) (w5.heap.size) 51 [.int .i64 x, .int .i64 y, .int .i64 z]) from Blk.newL w5 [.int .i64 x, .int .i64 y, .int .i64 z] 51))
             | (at_builtin; go_loud (refine wpList_append_lies _ rfl (.tmp 113) (.tmp 115) 23 rfl 0 51 i0 _ 3 24 Try.underlying23 hi hz0 hz1 hz2 rfl (by omega) (.slice (some ⟨g5, 0, none⟩) (m + 1) cap5) (m + 1) (vals .i64 (ys ++ [id, txn, mo])) rfl (by exact HKO6.out) ⟨w5.heap.size, 0, none⟩ 1 1 [.int .i64 x, .int .i64 y, .int .i64 z] rfl rfl (World.news_of_block (cs := #[.int .i64 x, .int .i64 y, .int .i64 z]) (t := 51) (fr := (0, 0)) (by exact HN6.out)) (by simp [Value.oneCell']) (by omega) (by unfold maxLen; omega) (by omega) (Nat.zero_le _) (w5.heap.size + 1) (by simp) ?_); intro g6 cap6 w6 hown6 hgrow6 hat6 hlt6; have HO6 := (show Hid (OwnF 3 51 w6 g6 ((m + 1) + 1) cap6 ((ys ++ [id, txn, mo]) ++ [x, y, z])) from OwnF.of_app3 hown6); have HG6 := (show Hid ((w5.alloc (.cells #[.int .i64 x, .int .i64 y, .int .i64 z] 51)).grownBy w6 (Value.slice (some ⟨g5, 0, none⟩) (m + 1) cap5).ownBlock) from hgrow6); have HAT6 : Hid ((Value.slice (some ⟨g5, 0, none⟩) (m + 1) cap5).ownBlock = some g6 ∨ g6 = w5.heap.size + 1) := hat6; clear hown6 hgrow6 hat6))
            have hg6 : w.heap.size < g6 := by
             rcases HAT6.out with h | h
             ·have : g5 = g6 := by simpa [Value.ownBlock] using h
              omega
             ·omega
            have HK6 := hid (Same.app HK5.out HG6.out (by omega))
            have HB6 := (show Hid (Blk w6 w.heap.size 27 [.int .i64 0, .slice none 0 0]) from (HB5.out.same ((Kept.refl _ _).alloc _)).kept (Kept.of_grown HG6.out (fun k e => e)) (not_at (by omega)))
            go_roundw
            case rel => exact ⟨k + 1, g6, m + 1 + 1, cap6, ys ++ [id, txn, mo] ++ [x, y, z], 1, by omega, by omega, rfl, rfl, by go_num, hg6, HO6, (by unfold Hid; have h := HY2.out; simpa [flat3] using h), HB6, HK6⟩
            case measure => simp [intOf]; omega
           ·rw [if_neg (by simp [h3, h1])] at h
            have HY2 := hid h
            clear h
            have HKO5 := (show Hid (((wr.alloc (.cells #[.int .i64 x, .int .i64 y, .int .i64 z] 51)).alloc (.cells #[.int .i64 x, .int .i64 y, .int .i64 z] 51)).ownsRow 0 51 3 (.slice (some ⟨g, 0, none⟩) m c) m (vals .i64 ys)) from HOa.out.same ((Kept.refl _ _).alloc _))
            have HN5 := (show Hid (Blk ((wr.alloc (.cells #[.int .i64 x, .int .i64 y, .int .i64 z] 51)).alloc (.cells #[.int .i64 x, .int .i64 y, .int .i64 z] 51)) (wr.heap.size + 1) 51 [.int .i64 x, .int .i64 y, .int .i64 z]) from by have h := Blk.newL (wr.alloc (.cells #[.int .i64 x, .int .i64 y, .int .i64 z] 51)) [.int .i64 x, .int .i64 y, .int .i64 z] 51; rw [World.size_alloc] at h; exact h)
            obtain ⟨la0, la1, la2⟩ := HLa.out.all3
            go_wp2_with (at_builtin; go_loud (refine wpList_append_lies _ rfl (.tmp 113) (.tmp 115) 23 rfl 0 51 i0 _ 3 24 Try.underlying23 hi hz0 hz1 hz2 rfl (by omega) (.slice (some ⟨g, 0, none⟩) m c) m (vals .i64 ys) rfl (by exact HKO5.out) ⟨(wr.heap.size + 1), 0, none⟩ 1 1 [.int .i64 x, .int .i64 y, .int .i64 z] rfl rfl (World.news_of_block (cs := #[.int .i64 x, .int .i64 y, .int .i64 z]) (t := 51) (fr := (0, 0)) (by exact HN5.out)) (by simp [Value.oneCell']) (by omega) (by unfold maxLen; omega) (by omega) (Nat.zero_le _) ((wr.heap.size + 1) + 1) (by simp) ?_); intro g5 cap5 w5 hown5 hgrow5 hat5 hlt5; have HO5 := (show Hid (OwnF 3 51 w5 g5 (m + 1) cap5 (ys ++ [x, y, z])) from OwnF.of_app3 hown5); have HG5 := (show Hid (((wr.alloc (.cells #[.int .i64 x, .int .i64 y, .int .i64 z] 51)).alloc (.cells #[.int .i64 x, .int .i64 y, .int .i64 z] 51)).grownBy w5 (Value.slice (some ⟨g, 0, none⟩) m c).ownBlock) from hgrow5); have HAT5 : Hid ((Value.slice (some ⟨g, 0, none⟩) m c).ownBlock = some g5 ∨ g5 = (wr.heap.size + 1) + 1) := hat5; clear hown5 hgrow5 hat5)
            have hg5 : w.heap.size < g5 := by
             rcases HAT5.out with h | h
             ·have : g = g5 := by simpa [Value.ownBlock] using h
              omega
             ·omega
            have HK5 := hid (Same.app HKa.out HG5.out (by omega))
            have HB5 := (show Hid (Blk w5 w.heap.size 27 [.int .i64 0, .slice none 0 0]) from (HBa.out.same ((Kept.refl _ _).alloc _)).kept (Kept.of_grown HG5.out (fun k e => e)) (not_at (by omega)))
            go_roundw
            case rel => exact ⟨k + 1, g5, m + 1, cap5, ys ++ [x, y, z], 0, by omega, by omega, rfl, rfl, by go_num, hg5, HO5, (by unfold Hid; have h := HY2.out; simpa [flat3] using h), HB5, HK5⟩
            case measure => simp [intOf]; omega
        ·obtain rfl : k = n := by omega
         have HYe := (show Hid (ys ++ flat3 (insF (id, txn, mo) db []) = flat3 (insF (id, txn, mo) false (tri bs))) from by have h := HY.out; rwa [show (tri bs).drop k = [] from List.drop_eq_nil_of_le (by rw [HL.out]; exact Nat.le_refl _)] at h)
         clear HY
         have hgl := HO.out.lt
         have hzz := HK.out.size
         cases db with
         | true =>
          obtain ⟨r0, r1⟩ := HB.out.all2
          have fr := HB.out.frozen
          have lr := HB.out.lt
          go_wp2
          refine bodyPost_ret (v := .agg #[.int .i64 0, .slice (some ⟨g, 0, none⟩) (m) c]) (by simp [results, Try.results21, go_sem, r0, r1]) rfl ⟨⟨0, ⟨51, some ⟨g, 0, none⟩, m, c, ys⟩⟩, rfl, ?_, rfl, ?_, ?_, ?_⟩
          ·rw [← HR.out, ← HYe.out]; simp [StLockResult.dat, insF, flat3]
          ·intro b hb
           have := FootL_fr hb
           omega
          ·refine (HO.out.kept (R := fun b => b = w.heap.size) ?_ (by omega)).out
           (iterate 2 refine Kept.setCell (R := fun b => b = w.heap.size) ?_ (.inr rfl) _)
           exact Kept.refl _ _
          ·(iterate 2 refine Kept.setCell ?_ (.inl (Nat.le_refl _)) _)
           exact HK.out
         | false =>
          have HKO5 := (show Hid ((wr.alloc (.cells #[.int .i64 id, .int .i64 txn, .int .i64 mo] 51)).ownsRow 0 51 3 (.slice (some ⟨g, 0, none⟩) m c) m (vals .i64 ys)) from HO.out.same ((Kept.refl _ _).alloc _))
          have HN5 := (show Hid (Blk (wr.alloc (.cells #[.int .i64 id, .int .i64 txn, .int .i64 mo] 51)) (wr.heap.size) 51 [.int .i64 id, .int .i64 txn, .int .i64 mo]) from Blk.newL wr [.int .i64 id, .int .i64 txn, .int .i64 mo] 51)
          go_wp2_with (at_builtin; go_loud (refine wpList_append_lies _ rfl (.tmp 119) (.tmp 124) 23 rfl 0 51 i0 _ 3 24 Try.underlying23 hi hz0 hz1 hz2 rfl (by omega) (.slice (some ⟨g, 0, none⟩) m c) m (vals .i64 ys) rfl (by exact HKO5.out) ⟨wr.heap.size, 0, none⟩ 1 1 [.int .i64 id, .int .i64 txn, .int .i64 mo] rfl rfl (World.news_of_block (cs := #[.int .i64 id, .int .i64 txn, .int .i64 mo]) (t := 51) (fr := (0, 0)) (by exact HN5.out)) (by simp [Value.oneCell']) (by omega) (by unfold maxLen; omega) (by omega) (Nat.zero_le _) (wr.heap.size + 1) (by simp) ?_); intro g5 cap5 w5 hown5 hgrow5 hat5 hlt5; have HO5 := (show Hid (OwnF 3 51 w5 g5 (m + 1) cap5 (ys ++ [id, txn, mo])) from OwnF.of_app3 hown5); have HG5 := (show Hid ((wr.alloc (.cells #[.int .i64 id, .int .i64 txn, .int .i64 mo] 51)).grownBy w5 (Value.slice (some ⟨g, 0, none⟩) m c).ownBlock) from hgrow5); have HAT5 : Hid ((Value.slice (some ⟨g, 0, none⟩) m c).ownBlock = some g5 ∨ g5 = wr.heap.size + 1) := hat5; clear hown5 hgrow5 hat5; have hg5 : w.heap.size < g5 := (by rcases HAT5.out with h | h; (have : g = g5 := (by simpa [Value.ownBlock] using h); omega); omega); have HK5 := hid (Same.app HK.out HG5.out (by omega)); have HB5 := (show Hid (Blk w5 w.heap.size 27 [.int .i64 0, .slice none 0 0]) from (HB.out.same ((Kept.refl _ _).alloc _)).kept (Kept.of_grown HG5.out (fun k e => e)) (not_at (by omega))); obtain ⟨r0, r1⟩ := HB5.out.all2; have fr := HB5.out.frozen; have lr := HB5.out.lt)
          refine bodyPost_ret (v := .agg #[.int .i64 0, .slice (some ⟨g5, 0, none⟩) (m + 1) cap5]) (by simp [results, Try.results21, go_sem, r0, r1]) rfl ⟨⟨0, ⟨51, some ⟨g5, 0, none⟩, m + 1, cap5, ys ++ [id, txn, mo]⟩⟩, rfl, ?_, rfl, ?_, ?_, ?_⟩
          ·rw [← HR.out, ← HYe.out]; simp [StLockResult.dat, insF, flat3]
          ·intro b hb
           have := FootL_fr hb
           omega
          ·refine (HO5.out.kept (R := fun b => b = w.heap.size) ?_ (by omega)).out
           (iterate 2 refine Kept.setCell (R := fun b => b = w.heap.size) ?_ (.inr rfl) _)
           exact Kept.refl _ _
          ·(iterate 2 refine Kept.setCell ?_ (.inl (Nat.le_refl _)) _)
           exact HK5.out
 ·rw [if_neg (fun h => h0 h.1)] at hR
  subst hR
  obtain ⟨r0, r1⟩ := HB1.out.all2
  have fr := HB1.out.frozen
  have lr := HB1.out.lt
  go_wp2
  refine bodyPost_ret (v := .agg #[.int .i64 2, .slice none 0 0]) (by simp [results, Try.results21, go_sem, r0, r1]) rfl ⟨⟨2, ⟨51, none, 0, 0, []⟩⟩, rfl, rfl, rfl, ?_, ?_, ?_⟩
  ·intro b hb
   have h := (FootL_one _ _).1 hb
   simp [FR.v, Value.ownBlock] at h
  ·exact FR.own_nil _
  ·(iterate 2 refine Kept.setCell ?_ (.inl (Nat.le_refl _)) _)
   exact HK1.out
theorem specLockAsk_any (x : FR) (txn id mode : Int) (w : World) (hv : RdF 3 w x) :
  Calls Try.prog 21 #[x.v, .int .i64 txn, .int .i64 id, .int .i64 mode] w fun e w' => ∃ y : StLockResult, e = .returned y.val ∧ y.dat = askP (tri x.bs) txn id mode ∧ (∀ b, FootL y.rows b → w.heap.size ≤ b) ∧ OwnL w' y.rows ∧ Same w w' :=
 (specLockAskT_any x txn id mode w hv).mono fun e w' ⟨y, h1, h2, _, h3⟩ => ⟨y, h1, h2, h3⟩
end Go.Proofs.Ytelijknekfipfaa
