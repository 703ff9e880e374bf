import Derived.Test.YtelijknekfipfaaG08
namespace Go.Proofs.Ytelijknekfipfaa
set_option maxRecDepth 100000
set_option maxHeartbeats 8000000
set_option linter.unusedVariables false
set_option linter.unusedSimpArgs false
open Go Go.RowKit Go.MapKept
def askC (ls : List T3) (l : T3) : Int :=
 if lkBad l then 2 else if modeFrom l.2.1 l.1 ls = 0 ∧ 4096 ≤ ls.length then 2 else if togB (othersFrom l.2.1 l.1 0 ls) l.2.2 = false then 1 else 0
def askL (ls : List T3) (l : T3) : T3 := (l.1, l.2.1, if l.2.2 < modeFrom l.2.1 l.1 ls then modeFrom l.2.1 l.1 ls else l.2.2)
theorem ask_eq {ls : List T3} (hg : GoodL ls) (txn id mode : Int) : askP ls txn id mode = if askC ls (id, txn, mode) = 0 then (0, flat3 (insF (askL ls (id, txn, mode)) false ls)) else (askC ls (id, txn, mode), []) := by
 have h0 : locksF ls = 0 := (goodL_iff _).2 hg
 have hm : modeP ls txn id = modeFrom txn id ls := by unfold modeP; rw [if_pos h0]
 have ho : othersP ls txn id = othersFrom txn id 0 ls := by unfold othersP; rw [if_pos h0]
 obtain ⟨g1, g2, g3⟩ := othersFrom_spec txn id ls 0
 have hb : 0 ≤ othersFrom txn id 0 ls ∧ othersFrom txn id 0 ls ≤ 2 := by
  refine ⟨g1, ?_⟩
  rcases g3 with g3 | ⟨l, hl, _, _, h4⟩
  ·omega
  ·have := (hg.fine l hl).2.2.2
   omega
 have hlen := hg.len
 have hmo' : lkBad (id, txn, mode) = false → 1 ≤ mode ∧ mode ≤ 2 := fun h => ((lkBad_no _).1 h).2.2
 cases hbad : lkBad (id, txn, mode) with
 | true =>
  have hC : askC ls (id, txn, mode) = 2 := by unfold askC; rw [if_pos hbad]
  have hP : askP ls txn id mode = (2, []) := by
   unfold askP
   refine if_neg ?_
   rintro ⟨_, h1, h2, h3⟩
   unfold lkBad at hbad
   dsimp only at hbad
   rw [h1, h2, h3] at hbad
   exact absurd hbad (by decide)
  rw [hP, hC, if_neg (by decide)]
 | false =>
  have hmo := hmo' hbad
  have h4 : inB id 0 511 = true ∧ inB txn 1 2147483647 = true ∧ inB mode 1 2 = true := by
   unfold lkBad at hbad
   simp only [Bool.or_eq_false_iff, Bool.not_eq_false'] at hbad
   exact ⟨hbad.1.1, hbad.1.2, hbad.2⟩
  have hC0 : askC ls (id, txn, mode) = if modeFrom txn id ls = 0 ∧ 4096 ≤ ls.length then 2 else if togB (othersFrom txn id 0 ls) mode = false then 1 else 0 := by
   unfold askC
   rw [hbad]
   rfl
  have hP0 : askP ls txn id mode = if modeFrom txn id ls = 0 ∧ ls.length = 4096 then (2, []) else if othersFrom txn id 0 ls = 2 ∨ ¬ othersFrom txn id 0 ls = 0 ∧ mode = 2 then (1, []) else (0, flat3 (insF (askL ls (id, txn, mode)) false ls)) := by
   unfold askP askL
   rw [if_pos ⟨h0, h4.1, h4.2.1, h4.2.2⟩, hm, ho]
  rw [hC0, hP0]
  by_cases h5 : modeFrom txn id ls = 0 ∧ ls.length = 4096
  ·have h5' : modeFrom txn id ls = 0 ∧ 4096 ≤ ls.length := ⟨h5.1, by omega⟩
   simp only [if_pos h5, if_pos h5']
   rw [if_neg (by decide)]
  ·have h5' : ¬ (modeFrom txn id ls = 0 ∧ 4096 ≤ ls.length) := fun h => h5 ⟨h.1, by omega⟩
   simp only [if_neg h5, if_neg h5']
   by_cases h6 : othersFrom txn id 0 ls = 2 ∨ ¬ othersFrom txn id 0 ls = 0 ∧ mode = 2
   ·have h7 : togB (othersFrom txn id 0 ls) mode = false := by
     unfold togB
     simp only [Bool.or_eq_false_iff, Bool.and_eq_false_iff, decide_eq_false_iff_not]
     omega
    simp only [if_pos h6, if_pos h7]
    rw [if_neg (by decide)]
   ·have h7 : ¬ togB (othersFrom txn id 0 ls) mode = false := by
     unfold togB
     simp only [Bool.or_eq_false_iff, Bool.and_eq_false_iff, decide_eq_false_iff_not]
     omega
    simp only [if_neg h6, if_neg h7, if_pos]
theorem ask_good {ls : List T3} {l : T3} (hg : GoodL ls) (h : askC ls l = 0) : ∀ x ∈ insF (askL ls l) false ls, IsI x.1 ∧ IsI x.2.1 := by
 have hb : lkBad l = false := by
  cases hb : lkBad l with
  | false => rfl
  | true => unfold askC at h; rw [if_pos hb] at h; exact absurd h (by decide)
 have hl := (lkBad_no l).1 hb
 intro x hx
 rcases insF_mem _ _ _ _ hx with ⟨rfl, _⟩ | ⟨hx, _⟩
 ·unfold askL IsI
  dsimp only
  omega
 ·have := hg.fine x hx
  unfold IsI
  omega
theorem ask8_any (w : World) (b0 B ck : Nat) (tt : List TE) (ls : List T3) (id txn mode : Int) (h : Tab w b0 B tt ck) (hp : (cont tt).Perm ls) (hg : GoodL ls) (hf : Full tt) :
  Calls Try.prog 30 #[.map (some B), .agg #[.int .i64 id, .int .i64 txn, .int .i64 mode]] w fun e w' => e = .returned (.int .i64 (askC ls (id, txn, mode))) ∧ Kept (fun b => b0 ≤ b) w w' ∧ (askC ls (id, txn, mode) = 0 → ∃ tt', (∃ ck', Tab w' b0 B tt' ck') ∧ (cont tt').Perm (askL ls (id, txn, mode) :: ls.filter (fun x => !keyB (askL ls (id, txn, mode)) x)) ∧ Full tt') := by
 have HK1 := hid (sameA w [.int .i64 id, .int .i64 txn, .int .i64 mode] 51)
 have HB1 := (show Hid (Blk (w.alloc (.cells #[.int .i64 id, .int .i64 txn, .int .i64 mode] 51)) w.heap.size 51 [.int .i64 id, .int .i64 txn, .int .i64 mode]) from Blk.newL w [.int .i64 id, .int .i64 txn, .int .i64 mode] 51)
 obtain ⟨e0, e1, e2⟩ := HB1.out.all3
 have kw := wrongLock_any (id, txn, mode) (w.alloc (.cells #[.int .i64 id, .int .i64 txn, .int .i64 mode] 51))
 have km := fun wx (hx : Same w wx) => mode8_any wx b0 B ck tt ls txn id (h.same hx) hp hg.rise
 have kc := fun wx (hx : Same w wx) => count8_any wx b0 B ck tt (h.same hx) (by have := hp.length_eq; have := hg.len; omega)
 rw [hp.length_eq] at kc
 have ko := fun wx (hx : Same w wx) => others8_any wx b0 B ck tt ls txn id (h.same hx) hp (fun l hl => (hg.fine l hl).2.2.1)
 have ktog := together_any (othersFrom txn id 0 ls) mode
 have kp := fun (z : Int) wx (hx : Same w wx) => put_any wx b0 B ck tt (id, txn, z) (h.same hx)
 have HC := hid hp
 have HF := hid hf
 have hlow : b0 < w.heap.size := by have := h.out.lt; have := h.low; omega
 have hgl := hg.len
 clear h hp hg hf
 dsimp only at kw kp
 obtain ⟨A, hA⟩ : ∃ A, askC ls (id, txn, mode) = A := ⟨_, rfl⟩
 obtain ⟨Q, hQ⟩ : ∃ Q, askL ls (id, txn, mode) = Q := ⟨_, rfl⟩
 rw [hA, hQ]
 unfold askC at hA
 unfold askL at hQ
 dsimp only at hA hQ
 have HQ := hid hQ
 clear hQ
 obtain ⟨held, hheld⟩ : ∃ held, modeFrom txn id ls = held := ⟨_, rfl⟩
 rw [hheld] at hA km
 rw [hheld] at HQ
 obtain ⟨oth, hoth⟩ : ∃ oth, othersFrom txn id 0 ls = oth := ⟨_, rfl⟩
 rw [hoth] at hA ko ktog
 obtain ⟨len, hlen⟩ : ∃ len, ls.length = len := ⟨_, rfl⟩
 rw [hlen] at hA kc hgl
 clear hheld hoth hlen
 cases f1 : lkBad (id, txn, mode) with
 | true =>
  rw [f1] at kw hA
  rw [if_pos rfl] at hA
  subst hA
  clear km kc ko ktog kp
  go_enter Try.func30, Try.ntmps30
  go_wp2_with fail
  refine kw.mono ?_
  rintro e w2 ⟨rfl, hk2⟩
  have HK2 := hid (HK1.out.trans hk2)
  have HB2 := hid (HB1.out.same hk2)
  have c0 := HB2.out.cell 0
  have c1 := HB2.out.cell 1
  have c2 := HB2.out.cell 2
  clear kw hk2
  go_wp2
  go_ret
  first | exact ⟨rfl, (HK2.out).mono (fun _ _ h => h.elim), fun h => absurd h (by decide)⟩ | exact ⟨rfl, (HK2.out).mono (fun _ _ h => h.elim)⟩
 | false =>
  rw [f1] at kw hA
  rw [if_neg (by simp)] at hA
  by_cases h0 : held = 0
  ·subst h0
   by_cases hl : 4096 ≤ len
   ·rw [if_pos ⟨rfl, hl⟩] at hA
    subst hA
    clear ko ktog kp
    go_enter Try.func30, Try.ntmps30
    go_wp2_with fail
    refine kw.mono ?_
    rintro e w2 ⟨rfl, hk2⟩
    have HK2 := hid (HK1.out.trans hk2)
    have HB2 := hid (HB1.out.same hk2)
    have c0 := HB2.out.cell 0
    have c1 := HB2.out.cell 1
    have c2 := HB2.out.cell 2
    clear kw hk2
    go_wp2_with fail
    refine (km _ HK2.out).mono ?_
    rintro e w2' ⟨rfl, hk2⟩
    have hk2s := hk2.symm
    subst hk2s
    clear hk2
    clear km
    go_wp2_with fail
    refine (kc _ HK2.out).mono ?_
    rintro e w3 ⟨rfl, hk3⟩
    have HK3 := hid (HK2.out.trans hk3)
    have HB3 := hid (HB2.out.same hk3)
    clear kc hk3 c0 c1 c2 HB2 HK2
    go_wp2
    go_ret
    first | exact ⟨rfl, (HK3.out).mono (fun _ _ h => h.elim), fun h => absurd h (by decide)⟩ | exact ⟨rfl, (HK3.out).mono (fun _ _ h => h.elim)⟩
   ·rw [if_neg (fun h => hl h.2)] at hA
    cases f2 : togB oth mode with
    | false =>
     rw [f2] at hA ktog
     rw [if_pos rfl] at hA
     subst hA
     clear kp
     go_enter Try.func30, Try.ntmps30
     go_wp2_with fail
     refine kw.mono ?_
     rintro e w2 ⟨rfl, hk2⟩
     have HK2 := hid (HK1.out.trans hk2)
     have HB2 := hid (HB1.out.same hk2)
     have c0 := HB2.out.cell 0
     have c1 := HB2.out.cell 1
     have c2 := HB2.out.cell 2
     clear kw hk2
     go_wp2_with fail
     refine (km _ HK2.out).mono ?_
     rintro e w2' ⟨rfl, hk2⟩
     have hk2s := hk2.symm
     subst hk2s
     clear hk2
     clear km
     go_wp2_with fail
     refine (kc _ HK2.out).mono ?_
     rintro e w3 ⟨rfl, hk3⟩
     have HK3 := hid (HK2.out.trans hk3)
     have HB3 := hid (HB2.out.same hk3)
     clear kc hk3 c0 c1 c2 HB2 HK2
     go_wp2_with fail
     let Y1 : World → Prop := fun wx : World => wx.cell? ⟨w.heap.size, 0, none⟩ = some (.int .i64 id) ∧ wx.cell? ⟨w.heap.size, 0 + 1, none⟩ = some (.int .i64 txn) ∧ wx.cell? ⟨w.heap.size, 0 + 2, none⟩ = some (.int .i64 mode)
     have hS : Y1 w3.drew := by exact ⟨HB3.out.drew.cell 0, HB3.out.drew.cell 1, HB3.out.drew.cell 2⟩
     refine wp_region_V Y1 99 10 rfl (by kernel_rfl) ?_
     refine wpAnyV_tk 0 21 (v := ?vq1) ?hyq1 hS ?_
     case hyq1 => (intro w hSw; (try dsimp (config := { zetaDelta := true }) only at hSw); go_simp; (try with_reducible rfl))
     try simp only [Act.put, sA, s0, sS]
     refine wpAnyV_tk 1 22 (v := ?vq2) ?hyq2 hS ?_
     case hyq2 => (intro w hSw; (try dsimp (config := { zetaDelta := true }) only at hSw); go_simp; (try with_reducible rfl))
     try simp only [Act.put, sA, s0, sS]
     refine wpAnyV_tk 2 23 (v := ?vq3) ?hyq3 hS ?_
     case hyq3 => (intro w hSw; (try dsimp (config := { zetaDelta := true }) only at hSw); go_simp; (try with_reducible rfl))
     try simp only [Act.put, sA, s0, sS]
     refine wpAnyV_tk 3 24 (v := ?vq4) ?hyq4 hS ?_
     case hyq4 => (intro w hSw; (try dsimp (config := { zetaDelta := true }) only at hSw); go_simp; (try with_reducible rfl))
     try simp only [Act.put, sA, s0, sS]
     refine wpAnyV_tk 4 25 (v := ?vq5) ?hyq5 hS ?_
     case hyq5 => (intro w hSw; (try dsimp (config := { zetaDelta := true }) only at hSw); go_simp; (try with_reducible rfl))
     try simp only [Act.put, sA, s0, sS]
     refine wpAnyV_tk 6 27 (v := ?vq6) ?hyq6 hS ?_
     case hyq6 => (intro w hSw; (try dsimp (config := { zetaDelta := true }) only at hSw); go_simp; (try with_reducible rfl))
     try simp only [Act.put, sA, s0, sS]
     refine wpAnyV_tk 7 28 (v := ?vq7) ?hyq7 hS ?_
     case hyq7 => (intro w hSw; (try dsimp (config := { zetaDelta := true }) only at hSw); go_simp; (try with_reducible rfl))
     try simp only [Act.put, sA, s0, sS]
     refine wpAnyV_one (i := 5) (by kernel_rfl) rfl (fun K hK => ?_)
     go_simp
     refine (ko _ (HK3.out.drew)).mono ?_
     rintro e w4 ⟨rfl, hk4⟩
     have HK4 := hid (HK3.out.drew.trans hk4)
     have b4 := HB3.out.drew.same hk4
     clear hk4
     have hS : Y1 w4 := by exact ⟨b4.cell 0, b4.cell 1, b4.cell 2⟩
     refine hK.out _ _ (fun _ => hS) ?_
     clear hK K
     try simp only [Act.put, sA, s0, sS]
     refine wpAnyV_one (i := 8) (by kernel_rfl) rfl (fun K hK => ?_)
     go_simp
     refine (ktog _).mono ?_
     rintro e w5 ⟨rfl, hw5⟩
     have hw5s := hw5.symm
     subst hw5s
     clear hw5
     have hS : Y1 w4 := by exact ⟨b4.cell 0, b4.cell 1, b4.cell 2⟩
     refine hK.out _ _ (fun _ => hS) ?_
     clear hK K
     try simp only [Act.put, sA, s0, sS]
     refine wpAnyV_tk 9 30 (v := ?vq8) ?hyq8 hS ?_
     case hyq8 => (intro w hSw; (try dsimp (config := { zetaDelta := true }) only at hSw); go_simp; (try with_reducible rfl))
     try simp only [Act.put, sA, s0, sS]
     refine wpAnyV_done (by kernel_rfl) ?_
     go_wp2
     go_ret
     first | exact ⟨rfl, (HK4.out).mono (fun _ _ h => h.elim), fun h => absurd h (by decide)⟩ | exact ⟨rfl, (HK4.out).mono (fun _ _ h => h.elim)⟩
    | true =>
     rw [f2] at hA ktog
     rw [if_neg (by simp)] at hA
     subst hA
     go_enter Try.func30, Try.ntmps30
     go_wp2_with fail
     refine kw.mono ?_
     rintro e w2 ⟨rfl, hk2⟩
     have HK2 := hid (HK1.out.trans hk2)
     have HB2 := hid (HB1.out.same hk2)
     have c0 := HB2.out.cell 0
     have c1 := HB2.out.cell 1
     have c2 := HB2.out.cell 2
     clear kw hk2
     go_wp2_with fail
     refine (km _ HK2.out).mono ?_
     rintro e w2' ⟨rfl, hk2⟩
     have hk2s := hk2.symm
     subst hk2s
     clear hk2
     clear km
     go_wp2_with fail
     refine (kc _ HK2.out).mono ?_
     rintro e w3 ⟨rfl, hk3⟩
     have HK3 := hid (HK2.out.trans hk3)
     have HB3 := hid (HB2.out.same hk3)
     clear kc hk3 c0 c1 c2 HB2 HK2
     go_wp2_with fail
     let Y2 : World → Prop := fun wx : World => wx.cell? ⟨w.heap.size, 0, none⟩ = some (.int .i64 id) ∧ wx.cell? ⟨w.heap.size, 0 + 1, none⟩ = some (.int .i64 txn) ∧ wx.cell? ⟨w.heap.size, 0 + 2, none⟩ = some (.int .i64 mode)
     have hS : Y2 w3.drew := by exact ⟨HB3.out.drew.cell 0, HB3.out.drew.cell 1, HB3.out.drew.cell 2⟩
     refine wp_region_V Y2 99 10 rfl (by kernel_rfl) ?_
     refine wpAnyV_tk 0 21 (v := ?vq9) ?hyq9 hS ?_
     case hyq9 => (intro w hSw; (try dsimp (config := { zetaDelta := true }) only at hSw); go_simp; (try with_reducible rfl))
     try simp only [Act.put, sA, s0, sS]
     refine wpAnyV_tk 1 22 (v := ?vq10) ?hyq10 hS ?_
     case hyq10 => (intro w hSw; (try dsimp (config := { zetaDelta := true }) only at hSw); go_simp; (try with_reducible rfl))
     try simp only [Act.put, sA, s0, sS]
     refine wpAnyV_tk 2 23 (v := ?vq11) ?hyq11 hS ?_
     case hyq11 => (intro w hSw; (try dsimp (config := { zetaDelta := true }) only at hSw); go_simp; (try with_reducible rfl))
     try simp only [Act.put, sA, s0, sS]
     refine wpAnyV_tk 3 24 (v := ?vq12) ?hyq12 hS ?_
     case hyq12 => (intro w hSw; (try dsimp (config := { zetaDelta := true }) only at hSw); go_simp; (try with_reducible rfl))
     try simp only [Act.put, sA, s0, sS]
     refine wpAnyV_tk 4 25 (v := ?vq13) ?hyq13 hS ?_
     case hyq13 => (intro w hSw; (try dsimp (config := { zetaDelta := true }) only at hSw); go_simp; (try with_reducible rfl))
     try simp only [Act.put, sA, s0, sS]
     refine wpAnyV_tk 6 27 (v := ?vq14) ?hyq14 hS ?_
     case hyq14 => (intro w hSw; (try dsimp (config := { zetaDelta := true }) only at hSw); go_simp; (try with_reducible rfl))
     try simp only [Act.put, sA, s0, sS]
     refine wpAnyV_tk 7 28 (v := ?vq15) ?hyq15 hS ?_
     case hyq15 => (intro w hSw; (try dsimp (config := { zetaDelta := true }) only at hSw); go_simp; (try with_reducible rfl))
     try simp only [Act.put, sA, s0, sS]
     refine wpAnyV_one (i := 5) (by kernel_rfl) rfl (fun K hK => ?_)
     go_simp
     refine (ko _ (HK3.out.drew)).mono ?_
     rintro e w4 ⟨rfl, hk4⟩
     have HK4 := hid (HK3.out.drew.trans hk4)
     have b4 := HB3.out.drew.same hk4
     clear hk4
     have hS : Y2 w4 := by exact ⟨b4.cell 0, b4.cell 1, b4.cell 2⟩
     refine hK.out _ _ (fun _ => hS) ?_
     clear hK K
     try simp only [Act.put, sA, s0, sS]
     refine wpAnyV_one (i := 8) (by kernel_rfl) rfl (fun K hK => ?_)
     go_simp
     refine (ktog _).mono ?_
     rintro e w5 ⟨rfl, hw5⟩
     have hw5s := hw5.symm
     subst hw5s
     clear hw5
     have hS : Y2 w4 := by exact ⟨b4.cell 0, b4.cell 1, b4.cell 2⟩
     refine hK.out _ _ (fun _ => hS) ?_
     clear hK K
     try simp only [Act.put, sA, s0, sS]
     refine wpAnyV_tk 9 30 (v := ?vq16) ?hyq16 hS ?_
     case hyq16 => (intro w hSw; (try dsimp (config := { zetaDelta := true }) only at hSw); go_simp; (try with_reducible rfl))
     try simp only [Act.put, sA, s0, sS]
     refine wpAnyV_done (by kernel_rfl) ?_
     have d0 := b4.cell 0
     have d1 := b4.cell 1
     have d2 := b4.cell 2
     have fr := b4.frozen
     have lr := b4.lt
     have HQ2 := (show Hid (((id, txn, max mode 0) : T3) = Q) from by
      unfold Hid
      rw [← HQ.out]
      congr 2
      (try split) <;> omega)
     have HK5 := (show Hid (Same w (w4.setCell ⟨w.heap.size, 2, none⟩ (.int .i64 (max mode 0)))) from HK4.out.setCell (.inl (Nat.le_refl _)) _)
     have kp2 := kp (max mode 0) _ HK5.out
     go_wp2_with fail
     refine kp2.mono ?_
     rintro e w6 ⟨rfl, tt', htab, hperm, hk6, hfull⟩
     have HK6 := (show Hid (Kept (fun b => b0 ≤ b) w w6) from (HK5.out.mono (fun _ _ h => h.elim)).next hk6 (fun i hi h => h))
     have HX := (show Hid (∃ tt', (∃ ck', Tab w6 b0 B tt' ck') ∧ (cont tt').Perm (Q :: ls.filter (fun x => !keyB Q x)) ∧ Full tt') from ⟨tt', htab, by rw [← HQ2.out]; exact hperm.trans ((HC.out.filter _).cons _), hfull HF.out⟩)
     clear kp2 htab hperm hk6 hfull kp
     go_wp2
     go_ret
     first | exact ⟨rfl, HK6.out, fun _ => HX.out⟩ | exact ⟨rfl, HK6.out, HX.out⟩
  ·rw [if_neg (fun h => h0 h.1)] at hA
   cases f2 : togB oth mode with
   | false =>
    rw [f2] at hA ktog
    rw [if_pos rfl] at hA
    subst hA
    clear kp
    go_enter Try.func30, Try.ntmps30
    go_wp2_with fail
    refine kw.mono ?_
    rintro e w2 ⟨rfl, hk2⟩
    have HK2 := hid (HK1.out.trans hk2)
    have HB2 := hid (HB1.out.same hk2)
    have c0 := HB2.out.cell 0
    have c1 := HB2.out.cell 1
    have c2 := HB2.out.cell 2
    clear kw hk2
    go_wp2_with fail
    refine (km _ HK2.out).mono ?_
    rintro e w2' ⟨rfl, hk2⟩
    have hk2s := hk2.symm
    subst hk2s
    clear hk2
    clear km
    clear kc
    go_wp2_with fail
    let Y3 : World → Prop := fun wx : World => wx.cell? ⟨w.heap.size, 0, none⟩ = some (.int .i64 id) ∧ wx.cell? ⟨w.heap.size, 0 + 1, none⟩ = some (.int .i64 txn) ∧ wx.cell? ⟨w.heap.size, 0 + 2, none⟩ = some (.int .i64 mode)
    have hS : Y3 w2.drew := by exact ⟨HB2.out.drew.cell 0, HB2.out.drew.cell 1, HB2.out.drew.cell 2⟩
    refine wp_region_V Y3 99 10 rfl (by kernel_rfl) ?_
    refine wpAnyV_tk 0 21 (v := ?vq17) ?hyq17 hS ?_
    case hyq17 => (intro w hSw; (try dsimp (config := { zetaDelta := true }) only at hSw); go_simp; (try with_reducible rfl))
    try simp only [Act.put, sA, s0, sS]
    refine wpAnyV_tk 1 22 (v := ?vq18) ?hyq18 hS ?_
    case hyq18 => (intro w hSw; (try dsimp (config := { zetaDelta := true }) only at hSw); go_simp; (try with_reducible rfl))
    try simp only [Act.put, sA, s0, sS]
    refine wpAnyV_tk 2 23 (v := ?vq19) ?hyq19 hS ?_
    case hyq19 => (intro w hSw; (try dsimp (config := { zetaDelta := true }) only at hSw); go_simp; (try with_reducible rfl))
    try simp only [Act.put, sA, s0, sS]
    refine wpAnyV_tk 3 24 (v := ?vq20) ?hyq20 hS ?_
    case hyq20 => (intro w hSw; (try dsimp (config := { zetaDelta := true }) only at hSw); go_simp; (try with_reducible rfl))
    try simp only [Act.put, sA, s0, sS]
    refine wpAnyV_tk 4 25 (v := ?vq21) ?hyq21 hS ?_
    case hyq21 => (intro w hSw; (try dsimp (config := { zetaDelta := true }) only at hSw); go_simp; (try with_reducible rfl))
    try simp only [Act.put, sA, s0, sS]
    refine wpAnyV_tk 6 27 (v := ?vq22) ?hyq22 hS ?_
    case hyq22 => (intro w hSw; (try dsimp (config := { zetaDelta := true }) only at hSw); go_simp; (try with_reducible rfl))
    try simp only [Act.put, sA, s0, sS]
    refine wpAnyV_tk 7 28 (v := ?vq23) ?hyq23 hS ?_
    case hyq23 => (intro w hSw; (try dsimp (config := { zetaDelta := true }) only at hSw); go_simp; (try with_reducible rfl))
    try simp only [Act.put, sA, s0, sS]
    refine wpAnyV_one (i := 5) (by kernel_rfl) rfl (fun K hK => ?_)
    go_simp
    refine (ko _ (HK2.out.drew)).mono ?_
    rintro e w4 ⟨rfl, hk4⟩
    have HK4 := hid (HK2.out.drew.trans hk4)
    have b4 := HB2.out.drew.same hk4
    clear hk4
    have hS : Y3 w4 := by exact ⟨b4.cell 0, b4.cell 1, b4.cell 2⟩
    refine hK.out _ _ (fun _ => hS) ?_
    clear hK K
    try simp only [Act.put, sA, s0, sS]
    refine wpAnyV_one (i := 8) (by kernel_rfl) rfl (fun K hK => ?_)
    go_simp
    refine (ktog _).mono ?_
    rintro e w5 ⟨rfl, hw5⟩
    have hw5s := hw5.symm
    subst hw5s
    clear hw5
    have hS : Y3 w4 := by exact ⟨b4.cell 0, b4.cell 1, b4.cell 2⟩
    refine hK.out _ _ (fun _ => hS) ?_
    clear hK K
    try simp only [Act.put, sA, s0, sS]
    refine wpAnyV_tk 9 30 (v := ?vq24) ?hyq24 hS ?_
    case hyq24 => (intro w hSw; (try dsimp (config := { zetaDelta := true }) only at hSw); go_simp; (try with_reducible rfl))
    try simp only [Act.put, sA, s0, sS]
    refine wpAnyV_done (by kernel_rfl) ?_
    go_wp2
    go_ret
    first | exact ⟨rfl, (HK4.out).mono (fun _ _ h => h.elim), fun h => absurd h (by decide)⟩ | exact ⟨rfl, (HK4.out).mono (fun _ _ h => h.elim)⟩
   | true =>
    rw [f2] at hA ktog
    rw [if_neg (by simp)] at hA
    subst hA
    go_enter Try.func30, Try.ntmps30
    go_wp2_with fail
    refine kw.mono ?_
    rintro e w2 ⟨rfl, hk2⟩
    have HK2 := hid (HK1.out.trans hk2)
    have HB2 := hid (HB1.out.same hk2)
    have c0 := HB2.out.cell 0
    have c1 := HB2.out.cell 1
    have c2 := HB2.out.cell 2
    clear kw hk2
    go_wp2_with fail
    refine (km _ HK2.out).mono ?_
    rintro e w2' ⟨rfl, hk2⟩
    have hk2s := hk2.symm
    subst hk2s
    clear hk2
    clear km
    clear kc
    go_wp2_with fail
    let Y4 : World → Prop := fun wx : World => wx.cell? ⟨w.heap.size, 0, none⟩ = some (.int .i64 id) ∧ wx.cell? ⟨w.heap.size, 0 + 1, none⟩ = some (.int .i64 txn) ∧ wx.cell? ⟨w.heap.size, 0 + 2, none⟩ = some (.int .i64 mode)
    have hS : Y4 w2.drew := by exact ⟨HB2.out.drew.cell 0, HB2.out.drew.cell 1, HB2.out.drew.cell 2⟩
    refine wp_region_V Y4 99 10 rfl (by kernel_rfl) ?_
    refine wpAnyV_tk 0 21 (v := ?vq25) ?hyq25 hS ?_
    case hyq25 => (intro w hSw; (try dsimp (config := { zetaDelta := true }) only at hSw); go_simp; (try with_reducible rfl))
    try simp only [Act.put, sA, s0, sS]
    refine wpAnyV_tk 1 22 (v := ?vq26) ?hyq26 hS ?_
    case hyq26 => (intro w hSw; (try dsimp (config := { zetaDelta := true }) only at hSw); go_simp; (try with_reducible rfl))
    try simp only [Act.put, sA, s0, sS]
    refine wpAnyV_tk 2 23 (v := ?vq27) ?hyq27 hS ?_
    case hyq27 => (intro w hSw; (try dsimp (config := { zetaDelta := true }) only at hSw); go_simp; (try with_reducible rfl))
    try simp only [Act.put, sA, s0, sS]
    refine wpAnyV_tk 3 24 (v := ?vq28) ?hyq28 hS ?_
    case hyq28 => (intro w hSw; (try dsimp (config := { zetaDelta := true }) only at hSw); go_simp; (try with_reducible rfl))
    try simp only [Act.put, sA, s0, sS]
    refine wpAnyV_tk 4 25 (v := ?vq29) ?hyq29 hS ?_
    case hyq29 => (intro w hSw; (try dsimp (config := { zetaDelta := true }) only at hSw); go_simp; (try with_reducible rfl))
    try simp only [Act.put, sA, s0, sS]
    refine wpAnyV_tk 6 27 (v := ?vq30) ?hyq30 hS ?_
    case hyq30 => (intro w hSw; (try dsimp (config := { zetaDelta := true }) only at hSw); go_simp; (try with_reducible rfl))
    try simp only [Act.put, sA, s0, sS]
    refine wpAnyV_tk 7 28 (v := ?vq31) ?hyq31 hS ?_
    case hyq31 => (intro w hSw; (try dsimp (config := { zetaDelta := true }) only at hSw); go_simp; (try with_reducible rfl))
    try simp only [Act.put, sA, s0, sS]
    refine wpAnyV_one (i := 5) (by kernel_rfl) rfl (fun K hK => ?_)
    go_simp
    refine (ko _ (HK2.out.drew)).mono ?_
    rintro e w4 ⟨rfl, hk4⟩
    have HK4 := hid (HK2.out.drew.trans hk4)
    have b4 := HB2.out.drew.same hk4
    clear hk4
    have hS : Y4 w4 := by exact ⟨b4.cell 0, b4.cell 1, b4.cell 2⟩
    refine hK.out _ _ (fun _ => hS) ?_
    clear hK K
    try simp only [Act.put, sA, s0, sS]
    refine wpAnyV_one (i := 8) (by kernel_rfl) rfl (fun K hK => ?_)
    go_simp
    refine (ktog _).mono ?_
    rintro e w5 ⟨rfl, hw5⟩
    have hw5s := hw5.symm
    subst hw5s
    clear hw5
    have hS : Y4 w4 := by exact ⟨b4.cell 0, b4.cell 1, b4.cell 2⟩
    refine hK.out _ _ (fun _ => hS) ?_
    clear hK K
    try simp only [Act.put, sA, s0, sS]
    refine wpAnyV_tk 9 30 (v := ?vq32) ?hyq32 hS ?_
    case hyq32 => (intro w hSw; (try dsimp (config := { zetaDelta := true }) only at hSw); go_simp; (try with_reducible rfl))
    try simp only [Act.put, sA, s0, sS]
    refine wpAnyV_done (by kernel_rfl) ?_
    have d0 := b4.cell 0
    have d1 := b4.cell 1
    have d2 := b4.cell 2
    have fr := b4.frozen
    have lr := b4.lt
    have HQ2 := (show Hid (((id, txn, max mode held) : T3) = Q) from by
     unfold Hid
     rw [← HQ.out]
     congr 2
     (try split) <;> omega)
    have HK5 := (show Hid (Same w (w4.setCell ⟨w.heap.size, 2, none⟩ (.int .i64 (max mode held)))) from HK4.out.setCell (.inl (Nat.le_refl _)) _)
    have kp2 := kp (max mode held) _ HK5.out
    go_wp2_with fail
    refine kp2.mono ?_
    rintro e w6 ⟨rfl, tt', htab, hperm, hk6, hfull⟩
    have HK6 := (show Hid (Kept (fun b => b0 ≤ b) w w6) from (HK5.out.mono (fun _ _ h => h.elim)).next hk6 (fun i hi h => h))
    have HX := (show Hid (∃ tt', (∃ ck', Tab w6 b0 B tt' ck') ∧ (cont tt').Perm (Q :: ls.filter (fun x => !keyB Q x)) ∧ Full tt') from ⟨tt', htab, by rw [← HQ2.out]; exact hperm.trans ((HC.out.filter _).cons _), hfull HF.out⟩)
    clear kp2 htab hperm hk6 hfull kp
    go_wp2
    go_ret
    first | exact ⟨rfl, HK6.out, fun _ => HX.out⟩ | exact ⟨rfl, HK6.out, HX.out⟩
theorem implLockAsk_any (x : FR) (txn id mode : Int) (w : World) (hv : RdF 3 w x) :
  Calls Try.prog 11 #[x.v, .int .i64 txn, .int .i64 id, .int .i64 mode] w fun e w' => ∃ y : StLockResult, e = .returned y.val ∧ y.dat = askP (tri x.bs) txn id mode ∧ (∀ b, FootL y.rows b → w.heap.size ≤ b) ∧ OwnL w' y.rows ∧ Same w w' := by
 have HK0 := hid (sameA w [.int .i64 0, .slice none 0 0] 27)
 have b0 := Blk.newL w [.int .i64 0, .slice none 0 0] 27
 have k1 := implLocksFault_any x _ (hv.same HK0.out)
 have k2 := fun wx (h : Same w wx) (hr : (tri x.bs).Pairwise ltK) => openLocks_any x wx (hv.same h) hr
 obtain ⟨xe, xa, n, xc, bs⟩ := x
 dsimp only [FR.v] at k1 k2 ⊢
 clear hv
 by_cases hf : locksF (tri bs) = 0
 ·have HG := hid ((goodL_iff _).1 hf)
  have hR := ask_eq ((goodL_iff _).1 hf) txn id mode
  rw [hf] at k1
  rw [hR]
  clear hR
  obtain ⟨A, hA⟩ : ∃ A, askC (tri bs) (id, txn, mode) = A := ⟨_, rfl⟩
  rw [hA]
  by_cases hA0 : A = 0
  ·subst hA0
   rw [if_pos rfl]
   go_enter Try.func11, Try.ntmps11
   go_wp2_with fail
   refine k1.mono ?_
   rintro e w1 ⟨rfl, hk1⟩
   have HK1 := hid (HK0.out.trans hk1)
   have HB1 := hid (b0.same hk1)
   have hs1 : w.heap.size + 1 ≤ w1.heap.size := by have h := hk1.size; rw [World.size_alloc] at h; omega
   clear hk1 b0 k1
   go_wp2_with fail
   refine (k2 _ HK1.out HG.out.rise).mono ?_
   rintro e w2 ⟨rfl, tt, ⟨ck, htab⟩, hperm, hk2, hfull⟩
   have HK2 := hid (HK1.out.trans hk2)
   have HB2 := hid (HB1.out.same hk2)
   have k3 := ask8_any _ _ _ _ _ (tri bs) id txn mode htab hperm HG.out hfull
   have hgood := ask_good (l := (id, txn, mode)) HG.out
   clear k2 hk2 htab hperm hfull HB1 HK1
   rw [hA] at k3 hgood
   have HGD := hid (hgood rfl)
   clear hgood
   go_wp2_with fail
   refine k3.mono ?_
   rintro e w3 ⟨rfl, hk3, hpost⟩
   obtain ⟨tt', ⟨ck', htab⟩, hperm, hfull⟩ := hpost trivial
   have HK3 := (show Hid (Same w w3) from HK2.out.next hk3 (fun i hi hb => by omega))
   have HB3 := hid (HB2.out.kept hk3 (fun hb => by omega))
   have hs3 := HK3.out.size
   have hl3 := HB3.out.lt
   have k4 := list8_any w3 _ _ _ tt' (insF (askL (tri bs) (id, txn, mode)) false (tri bs)) htab (hperm.trans (insF_perm _ _).1.symm) (insF_rise _ _ _ HG.out.rise) hfull (by have h1 := insF_length (askL (tri bs) (id, txn, mode)) (tri bs) false; have h2 := HG.out.len; simp at h1; omega)
    (fun l hl => HGD.out l hl)
   clear k3 hk3 hpost htab hperm hfull HB2 HK2
   go_wp2_with fail
   refine k4.mono ?_
   rintro e w4 ⟨⟨ye, ya, yn, yc, ybs⟩, rfl, hyb, hyf, hyo, hk4⟩
   have HK4 := hid (HK3.out.trans hk4)
   have HB4 := hid (HB3.out.same hk4)
   have HYB := hid hyb
   have HYF := hid hyf
   have HYO := hid hyo
   clear k4 hk4 hyb hyf hyo HB3 HK3
   dsimp only [FR.v]
   obtain ⟨r0, r1⟩ := HB4.out.all2
   have fr := HB4.out.frozen
   have lr := HB4.out.lt
   go_wp2
   refine bodyPost_ret (v := .agg #[.int .i64 0, .slice ya yn yc]) (by simp [results, Try.results11, go_sem, r0, r1]) rfl ⟨⟨0, ⟨ye, ya, yn, yc, ybs⟩⟩, rfl, ?_, ?_, ?_, ?_⟩
   ·show ((0 : Int), ybs) = _
    rw [HYB.out]
   ·intro b hb
    have := HYF.out b hb
    omega
   ·refine HYO.out.kept (R := fun b => b = w.heap.size) ?_ (fun b hb e => by have := HYF.out b hb; omega)
    (iterate 2 refine Kept.setCell (R := fun b => b = w.heap.size) ?_ (.inr rfl) _)
    exact Kept.refl _ _
   ·(iterate 2 refine Kept.setCell ?_ (.inl (Nat.le_refl _)) _)
    exact HK4.out
  ·rw [if_neg hA0]
   go_enter Try.func11, Try.ntmps11
   go_wp2_with fail
   refine k1.mono ?_
   rintro e w1 ⟨rfl, hk1⟩
   have HK1 := hid (HK0.out.trans hk1)
   have HB1 := hid (b0.same hk1)
   have hs1 : w.heap.size + 1 ≤ w1.heap.size := by have h := hk1.size; rw [World.size_alloc] at h; omega
   clear hk1 b0 k1
   go_wp2_with fail
   refine (k2 _ HK1.out HG.out.rise).mono ?_
   rintro e w2 ⟨rfl, tt, ⟨ck, htab⟩, hperm, hk2, hfull⟩
   have HK2 := hid (HK1.out.trans hk2)
   have HB2 := hid (HB1.out.same hk2)
   have k3 := ask8_any _ _ _ _ _ (tri bs) id txn mode htab hperm HG.out hfull
   have hgood := ask_good (l := (id, txn, mode)) HG.out
   clear k2 hk2 htab hperm hfull HB1 HK1
   rw [hA] at k3 hgood
   clear hgood
   go_wp2_with fail
   refine k3.mono ?_
   rintro e w3 ⟨rfl, hk3, hpost⟩
   have HK3 := (show Hid (Same w w3) from HK2.out.next hk3 (fun i hi hb => by omega))
   have HB3 := hid (HB2.out.kept hk3 (fun hb => by omega))
   clear k3 hk3 hpost HB2 HK2
   obtain ⟨r0, r1⟩ := HB3.out.all2
   have fr := HB3.out.frozen
   have lr := HB3.out.lt
   go_wp2
   refine bodyPost_ret (v := .agg #[.int .i64 A, .slice none 0 0]) (by simp [results, Try.results11, go_sem, r0, r1]) rfl ⟨⟨A, ⟨51, none, 0, 0, []⟩⟩, rfl, rfl, ?_, ?_, ?_⟩
   ·intro b hb
    have h := (FootL_one _ _).1 hb
    simp [FR.v, Value.ownBlock] at h
   ·exact FR.own_nil _
   ·(iterate 2 refine Kept.setCell ?_ (.inl (Nat.le_refl _)) _)
    exact HK3.out
 ·have hR : askP (tri bs) txn id mode = (2, []) := by
   unfold askP
   rw [if_neg (fun h => hf h.1)]
  rw [hR]
  clear k2 hR
  generalize locksF (tri bs) = F at hf k1
  go_enter Try.func11, Try.ntmps11
  go_wp2_with fail
  refine k1.mono ?_
  rintro e w1 ⟨rfl, hk1⟩
  have HK1 := hid (HK0.out.trans hk1)
  have HB1 := hid (b0.same hk1)
  clear hk1 b0 k1
  obtain ⟨r0, r1⟩ := HB1.out.all2
  have fr := HB1.out.frozen
  have lr := HB1.out.lt
  go_wp2
  refine bodyPost_ret (v := .agg #[.int .i64 2, .slice none 0 0]) (by simp [results, Try.results11, go_sem, r0, r1]) rfl ⟨⟨2, ⟨51, none, 0, 0, []⟩⟩, rfl, rfl, ?_, ?_, ?_⟩
  ·intro b hb
   have h := (FootL_one _ _).1 hb
   simp [FR.v, Value.ownBlock] at h
  ·exact FR.own_nil _
  ·(iterate 2 refine Kept.setCell ?_ (.inl (Nat.le_refl _)) _)
   exact HK1.out
end Go.Proofs.Ytelijknekfipfaa
