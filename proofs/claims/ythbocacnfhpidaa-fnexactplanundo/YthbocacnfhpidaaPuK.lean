import Derived.Test.YthbocacnfhpidaaG08
namespace Go.Proofs.Ythbocacnfhpidaa
set_option maxRecDepth 100000
set_option maxHeartbeats 8000000
open Go.RowKit
set_option linter.unusedVariables false
set_option linter.unusedSimpArgs false
def keepL (e : Q4) (left : List Q4) : List Q4 := if e.2.2.2 = 0 then left else left ++ [e]
def keepS (e : Q4) (st : List U3) : List U3 := if e.2.2.2 = 0 then st ++ [(5, e.1, 0)] else st
structure UgI (w wr : World) (U : Nat) (fv : Value) (la : Option Addr) (ln lc : Nat) (left : List Q4) (sa : Option Addr) (sn sc : Nat) (st : List U3) : Prop where
  mem : PuM w wr U la ln lc left sa sn sc st
  box : Blk wr U 72 [fv, .slice la ln lc, .slice sa sn sc]
def UgE (w wr : World) (U : Nat) (fv : Value) (left : List Q4) (st : List U3) : Prop := ∃ (la : Option Addr) (ln lc : Nat) (sa : Option Addr) (sn sc : Nat), UgI w wr U fv la ln lc left sa sn sc st
theorem keep_any (w0 : World) (U : Nat) (fv : Value) (left : List Q4) (st : List U3) (q : Q4) (w : World) (h : UgE w0 w U fv left st) (hl : left.length ≤ 1048576) (hs : st.length ≤ 1073741824) :
    Calls Try.prog 27 #[.pointer (some ⟨U, 0, none⟩), enV q] w fun e w' => e = .returned (.tuple #[]) ∧ UgE w0 w' U fv (keepL q left) (keepS q st) ∧ Kept (fun b => U ≤ b) w w' := by
  obtain ⟨i3, hi3, hz30, hz31, hz32⟩ := info_parts Try.infoUndoStep
  obtain ⟨i4, hi4, hz40, hz41, hz42⟩ := info_parts Try.infoTxnEntry
  obtain ⟨la, ln, lc, sa, sn, sc, hP, hB⟩ := h
  obtain ⟨a, s, l, u⟩ := q
  have hln : ln ≤ 1048576 := by rw [← hP.len4]; exact hl
  have hsn : sn ≤ 1073741824 := by rw [← hP.len3]; exact hs
  dsimp only [enV]
  have hUl0 := hB.lt
  have hA : Same w (w.alloc (.cells #[.int .i64 a, .int .i64 s, .int .i64 l, .int .i64 u] 52)) := (Kept.refl _ _).alloc _
  have HP := hid (hP.same hA)
  have HB := hid (hB.same hA)
  have HE := hid (Blk.newL w [.int .i64 a, .int .i64 s, .int .i64 l, .int .i64 u] 52)
  have HKA := hid hA
  have HF3 := (show Hid (∀ b, (Value.slice sa sn sc).ownBlock = some b → U < b ∧ b < w.heap.size) from fun b hb => ⟨hP.f3 b hb, hP.own3.lt b hb⟩)
  have HF4 := (show Hid (∀ b, (Value.slice la ln lc).ownBlock = some b → U < b ∧ b < w.heap.size) from fun b hb => ⟨hP.f4 b hb, hP.own4.lt b hb⟩)
  clear hP hB hA hl hs
  go_enter Try.func27, Try.ntmps27
  go_upto_region 1 with fail
  obtain ⟨E, hE⟩ : ∃ E, w.heap.size = E := ⟨_, rfl⟩
  rw [hE] at HE HF3 HF4 hUl0 ⊢
  generalize w.alloc (.cells #[.int .i64 a, .int .i64 s, .int .i64 l, .int .i64 u] 52) = wr at *
  have hUl := HB.out.lt
  have hU1 := HB.out.c1
  have hU2 := HB.out.c2
  obtain ⟨e0, e1, e2, e3⟩ := HE.out.all4
  have hEl := HE.out.lt
  clear hE
  by_cases hu : u = 0
  · have hu' : (u == 0) = true := by simp [hu]
    have HU := hid hu
    clear hu
    go_wp2_with fail
    refine wp_region_V (fun wx : World => wx.cell? ⟨U, 2, none⟩ = some (.slice sa sn sc) ∧ wx.cell? ⟨E, 0, none⟩ = some (.int .i64 a)) 12 13 rfl (by kernel_rfl) ?_
    have hSd : Same wr wr.drew := (Kept.refl _ _).drew
    generalize wr.drew = wd at *
    have HD0 := hid hSd
    have hS : (fun wx : World => wx.cell? ⟨U, 2, none⟩ = some (.slice sa sn sc) ∧ wx.cell? ⟨E, 0, none⟩ = some (.int .i64 a)) wd := ⟨hSd.cellOf hU2 id, hSd.cellOf e0 id⟩
    refine tk 0 7 hS ?_
    refine tk 1 8 hS ?_
    refine tk 2 9 hS ?_
    refine tk 3 10 hS ?_
    refine tk 4 11 hS ?_
    refine tk 5 12 hS ?_
    refine tk 6 13 hS ?_
    refine tk 7 14 hS ?_
    refine wpAnyV_one (i := 8) (by kernel_rfl) rfl (fun Kc hK => ?_)
    go_simp
    have hS : (fun wx : World => wx.cell? ⟨U, 2, none⟩ = some (.slice sa sn sc) ∧ wx.cell? ⟨E, 0, none⟩ = some (.int .i64 a)) (wd.alloc (.cells #[.int .i64 5, .int .i64 a, .int .i64 0] 54)) := ⟨(hSd.alloc _).cellOf hU2 id, (hSd.alloc _).cellOf e0 id⟩
    refine hK.out _ _ (fun _ => hS) ?_
    clear hK Kc
    try simp only [Act.put, sA, s0, sS]
    have HKO := (show Hid ((wd.alloc (.cells #[.int .i64 5, .int .i64 a, .int .i64 0] 54)).ownsRow 0 54 3 (.slice sa sn sc) sn (vals .i64 (flat3U st))) from HP.out.own3.same (HD0.out.alloc _))
    have HN5 := hid (Blk.newL wd [.int .i64 5, .int .i64 a, .int .i64 0] 54)
    refine wpAnyV_one (i := 9) (by kernel_rfl) rfl (fun Kc hK => ?_)
    refine step_append_lies _ (by rfl) (.tmp 11) (.tmp 15) 26 (by rfl) 0 54 i3 _ 3 24 Try.underlying26 hi3 hz30 hz31 hz32 rfl (by omega) (.slice sa sn sc) sn (vals .i64 (flat3U st)) (by rfl) (by exact HKO.out) ⟨wd.heap.size, 0, none⟩ 1 1 [.int .i64 5, .int .i64 a, .int .i64 0] (by rfl) (by rfl) (World.news_of_block (cs := #[.int .i64 5, .int .i64 a, .int .i64 0]) (t := 54) (fr := (0, 0)) (by exact HN5.out)) (by simp [Value.oneCell']) (by omega) (by unfold maxLen; omega) (by omega) (Nat.zero_le _) (wd.heap.size + 1) (by simp) ?_
    intro g5 cap5 w5 hown5 hgrow5 hat5 hlt5
    have hP5 := HP.out.app3 HD0.out hUl hown5 hgrow5 hat5
    have HP5 := hid hP5.1
    have HK5 := hid hP5.2
    have HAT5 := (show Hid ((Value.slice sa sn sc).ownBlock = some g5 ∨ wr.heap.size < g5) from by rcases hat5 with h | h; exact .inl h; exact .inr (by have := HD0.out.size; omega))
    clear hown5 hgrow5 hat5 hP5
    have hn0 : ¬ (Value.slice sa sn sc).ownBlock = some U := fun e => by have := HF3.out _ e; omega
    have hn1 : ¬ (Value.slice sa sn sc).ownBlock = some E := fun e => by have := HF3.out _ e; omega
    have hS : (fun wx : World => wx.cell? ⟨U, 2, none⟩ = some (.slice sa sn sc) ∧ wx.cell? ⟨E, 0, none⟩ = some (.int .i64 a)) w5 := ⟨HK5.out.cellOf hU2 hn0, HK5.out.cellOf e0 hn1⟩
    refine hK.out _ _ (fun _ => hS) ?_
    clear hK Kc
    try simp only [Act.put, sA, s0, sS]
    refine wpAnyV_one (i := 10) (by kernel_rfl) rfl (fun Kc hK => ?_)
    go_simp
    refine hK.out _ _ (fun _ => hS) ?_
    clear hK Kc
    try simp only [Act.put, sA, s0, sS]
    refine tk 11 18 hS ?_
    have HB5 := hid (HB.out.kept HK5.out hn0)
    have fB5 := HB5.out.frozen
    obtain ⟨q0, q1, q2⟩ := HB5.out.all3
    refine wpAnyV_one (i := 12) (by kernel_rfl) rfl (fun Kc hK => ?_)
    go_simp
    refine hK.out _ _ (fun h => absurd rfl h) ?_
    clear hK Kc
    refine wpAnyV_done (by kernel_rfl) ?_
    try simp only [Act.put, sA, s0, sS]
    have hk56 : Kept (fun b => b = U) w5 (w5.setCell ⟨U, 2, none⟩ (.slice (some ⟨g5, 0, none⟩) (sn + 1) cap5)) := Kept.setCell (R := fun b => b = U) (Kept.refl _ _) (p := ⟨U, 2, none⟩) (.inr rfl) _
    have HP6 := hid (HP5.out.put hk56 (Nat.le_refl _) HP.out.low)
    have HB6 := (show Hid (Blk (w5.setCell ⟨U, 2, none⟩ (.slice (some ⟨g5, 0, none⟩) (sn + 1) cap5)) U 72 [fv, .slice la ln lc, .slice (some ⟨g5, 0, none⟩) (sn + 1) cap5]) from HB5.out.stored 2 _)
    have HK6 := (show Hid (Kept (fun b => U ≤ b) wr (w5.setCell ⟨U, 2, none⟩ (.slice (some ⟨g5, 0, none⟩) (sn + 1) cap5))) from (HK5.out.mono (fun b _ e => Nat.le_of_lt (HP.out.f3 b e))).trans (hk56.mono (fun b _ e => Nat.le_of_eq e.symm)))
    generalize w5.setCell ⟨U, 2, none⟩ (.slice (some ⟨g5, 0, none⟩) (sn + 1) cap5) = w6 at *
    clear hk56 HB5 HP5 q0 q1 q2 fB5 HK5 hS HKO HN5 hn0 hn1
    go_wp2
    refine bodyPost_ret (results_none (by rfl) _ _ _) rfl ⟨rfl, ⟨la, ln, lc, some ⟨g5, 0, none⟩, sn + 1, cap5, ?_, HB6.out⟩, (HKA.out.mono (fun _ _ e => e.elim)).trans HK6.out⟩
    unfold keepL keepS
    rw [if_pos HU.out, if_pos HU.out]
    exact HP6.out
  · have hu' : (u == 0) = false := by simp [hu]
    have HU := hid hu
    clear hu
    go_wp2_with fail
    refine wp_region_V (fun wx : World => wx.cell? ⟨U, 1, none⟩ = some (.slice la ln lc) ∧ wx.cell? ⟨E, 0, none⟩ = some (.int .i64 a) ∧ wx.cell? ⟨E, 1, none⟩ = some (.int .i64 s) ∧ wx.cell? ⟨E, 2, none⟩ = some (.int .i64 l) ∧ wx.cell? ⟨E, 3, none⟩ = some (.int .i64 u)) 10 11 rfl (by kernel_rfl) ?_
    have hSd : Same wr wr.drew := (Kept.refl _ _).drew
    generalize wr.drew = wd at *
    have HD0 := hid hSd
    have hS : (fun wx : World => wx.cell? ⟨U, 1, none⟩ = some (.slice la ln lc) ∧ wx.cell? ⟨E, 0, none⟩ = some (.int .i64 a) ∧ wx.cell? ⟨E, 1, none⟩ = some (.int .i64 s) ∧ wx.cell? ⟨E, 2, none⟩ = some (.int .i64 l) ∧ wx.cell? ⟨E, 3, none⟩ = some (.int .i64 u)) wd := ⟨hSd.cellOf hU1 id, hSd.cellOf e0 id, hSd.cellOf e1 id, hSd.cellOf e2 id, hSd.cellOf e3 id⟩
    refine tk 0 19 hS ?_
    refine tk 1 20 hS ?_
    refine tk 2 21 hS ?_
    refine tk 3 22 hS ?_
    refine tk 4 23 hS ?_
    refine tk 5 24 hS ?_
    refine wpAnyV_one (i := 6) (by kernel_rfl) rfl (fun Kc hK => ?_)
    go_simp
    have hS : (fun wx : World => wx.cell? ⟨U, 1, none⟩ = some (.slice la ln lc) ∧ wx.cell? ⟨E, 0, none⟩ = some (.int .i64 a) ∧ wx.cell? ⟨E, 1, none⟩ = some (.int .i64 s) ∧ wx.cell? ⟨E, 2, none⟩ = some (.int .i64 l) ∧ wx.cell? ⟨E, 3, none⟩ = some (.int .i64 u)) (wd.alloc (.cells #[.int .i64 a, .int .i64 s, .int .i64 l, .int .i64 u] 52)) := ⟨(hSd.alloc _).cellOf hU1 id, (hSd.alloc _).cellOf e0 id, (hSd.alloc _).cellOf e1 id, (hSd.alloc _).cellOf e2 id, (hSd.alloc _).cellOf e3 id⟩
    refine hK.out _ _ (fun _ => hS) ?_
    clear hK Kc
    try simp only [Act.put, sA, s0, sS]
    have HKO := (show Hid ((wd.alloc (.cells #[.int .i64 a, .int .i64 s, .int .i64 l, .int .i64 u] 52)).ownsRow 0 52 4 (.slice la ln lc) ln (vals .i64 (flat4 left))) from HP.out.own4.same (HD0.out.alloc _))
    have HN5 := hid (Blk.newL wd [.int .i64 a, .int .i64 s, .int .i64 l, .int .i64 u] 52)
    refine wpAnyV_one (i := 7) (by kernel_rfl) rfl (fun Kc hK => ?_)
    refine step_append_lies _ (by rfl) (.tmp 23) (.tmp 25) 32 (by rfl) 0 52 i4 _ 4 32 Try.underlying32 hi4 hz40 hz41 hz42 rfl (by omega) (.slice la ln lc) ln (vals .i64 (flat4 left)) (by rfl) (by exact HKO.out) ⟨wd.heap.size, 0, none⟩ 1 1 [.int .i64 a, .int .i64 s, .int .i64 l, .int .i64 u] (by rfl) (by rfl) (World.news_of_block (cs := #[.int .i64 a, .int .i64 s, .int .i64 l, .int .i64 u]) (t := 52) (fr := (0, 0)) (by exact HN5.out)) (by simp [Value.oneCell']) (by omega) (by unfold maxLen; omega) (by omega) (Nat.zero_le _) (wd.heap.size + 1) (by simp) ?_
    intro g5 cap5 w5 hown5 hgrow5 hat5 hlt5
    have hP5 := HP.out.app4 HD0.out hUl hown5 hgrow5 hat5
    have HP5 := hid hP5.1
    have HK5 := hid hP5.2
    have HAT5 := (show Hid ((Value.slice la ln lc).ownBlock = some g5 ∨ wr.heap.size < g5) from by rcases hat5 with h | h; exact .inl h; exact .inr (by have := HD0.out.size; omega))
    clear hown5 hgrow5 hat5 hP5
    have hn0 : ¬ (Value.slice la ln lc).ownBlock = some U := fun e => by have := HF4.out _ e; omega
    have hn1 : ¬ (Value.slice la ln lc).ownBlock = some E := fun e => by have := HF4.out _ e; omega
    have hn2 : ¬ (Value.slice la ln lc).ownBlock = some E := fun e => by have := HF4.out _ e; omega
    have hn3 : ¬ (Value.slice la ln lc).ownBlock = some E := fun e => by have := HF4.out _ e; omega
    have hn4 : ¬ (Value.slice la ln lc).ownBlock = some E := fun e => by have := HF4.out _ e; omega
    have hS : (fun wx : World => wx.cell? ⟨U, 1, none⟩ = some (.slice la ln lc) ∧ wx.cell? ⟨E, 0, none⟩ = some (.int .i64 a) ∧ wx.cell? ⟨E, 1, none⟩ = some (.int .i64 s) ∧ wx.cell? ⟨E, 2, none⟩ = some (.int .i64 l) ∧ wx.cell? ⟨E, 3, none⟩ = some (.int .i64 u)) w5 := ⟨HK5.out.cellOf hU1 hn0, HK5.out.cellOf e0 hn1, HK5.out.cellOf e1 hn2, HK5.out.cellOf e2 hn3, HK5.out.cellOf e3 hn4⟩
    refine hK.out _ _ (fun _ => hS) ?_
    clear hK Kc
    try simp only [Act.put, sA, s0, sS]
    refine wpAnyV_one (i := 8) (by kernel_rfl) rfl (fun Kc hK => ?_)
    go_simp
    refine hK.out _ _ (fun _ => hS) ?_
    clear hK Kc
    try simp only [Act.put, sA, s0, sS]
    refine tk 9 28 hS ?_
    have HB5 := hid (HB.out.kept HK5.out hn0)
    have fB5 := HB5.out.frozen
    obtain ⟨q0, q1, q2⟩ := HB5.out.all3
    refine wpAnyV_one (i := 10) (by kernel_rfl) rfl (fun Kc hK => ?_)
    go_simp
    refine hK.out _ _ (fun h => absurd rfl h) ?_
    clear hK Kc
    refine wpAnyV_done (by kernel_rfl) ?_
    try simp only [Act.put, sA, s0, sS]
    have hk56 : Kept (fun b => b = U) w5 (w5.setCell ⟨U, 1, none⟩ (.slice (some ⟨g5, 0, none⟩) (ln + 1) cap5)) := Kept.setCell (R := fun b => b = U) (Kept.refl _ _) (p := ⟨U, 1, none⟩) (.inr rfl) _
    have HP6 := hid (HP5.out.put hk56 (Nat.le_refl _) HP.out.low)
    have HB6 := (show Hid (Blk (w5.setCell ⟨U, 1, none⟩ (.slice (some ⟨g5, 0, none⟩) (ln + 1) cap5)) U 72 [fv, .slice (some ⟨g5, 0, none⟩) (ln + 1) cap5, .slice sa sn sc]) from HB5.out.stored 1 _)
    have HK6 := (show Hid (Kept (fun b => U ≤ b) wr (w5.setCell ⟨U, 1, none⟩ (.slice (some ⟨g5, 0, none⟩) (ln + 1) cap5))) from (HK5.out.mono (fun b _ e => Nat.le_of_lt (HP.out.f4 b e))).trans (hk56.mono (fun b _ e => Nat.le_of_eq e.symm)))
    generalize w5.setCell ⟨U, 1, none⟩ (.slice (some ⟨g5, 0, none⟩) (ln + 1) cap5) = w6 at *
    clear hk56 HB5 HP5 q0 q1 q2 fB5 HK5 hS HKO HN5 hn0 hn1 hn2 hn3 hn4
    go_wp2
    refine bodyPost_end (results_none Try.results27 _ _ _) rfl ⟨rfl, ⟨some ⟨g5, 0, none⟩, ln + 1, cap5, sa, sn, sc, ?_, HB6.out⟩, (HKA.out.mono (fun _ _ e => e.elim)).trans HK6.out⟩
    unfold keepL keepS
    rw [if_neg HU.out, if_neg HU.out]
    exact HP6.out
theorem takeG_any (w0 : World) (U : Nat) (fv : Value) (left : List Q4) (st : List U3) (w : World) (h : UgE w0 w U fv left st) (h0 : 0 < left.length) (hl : left.length ≤ 1048576) :
    Calls Try.prog 29 #[.pointer (some ⟨U, 0, none⟩)] w fun e w' => e = .returned (enV (left.getD (gmx left) q4z)) ∧ UgE w0 w' U fv (left.eraseIdx (gmx left)) st ∧ Kept (fun b => U ≤ b) w w' := by
  obtain ⟨la, ln, lc, sa, sn, sc, hP, hB⟩ := h
  have hln : ln ≤ 1048576 := by rw [← hP.len4]; exact hl
  have hlz : 0 < ln := by rw [← hP.len4]; exact h0
  have HLN := hid hP.len4
  obtain ⟨g, rfl, hlc, hUg, hgl, _⟩ := hP.cells 0 h0
  have hlow := hP.low
  have HF3 := (show Hid (∀ b, (Value.slice sa sn sc).ownBlock = some b → U < b ∧ b < w.heap.size) from fun b hb => ⟨hP.f3 b hb, hP.own3.lt b hb⟩)
  have hUl0 := hB.lt
  have hA : Same w (w.alloc (.cells #[.int .i64 0, .int .i64 0, .int .i64 0, .int .i64 0] 52)) := (Kept.refl _ _).alloc _
  have HP := hid (hP.same hA)
  have HB := hid (hB.same hA)
  have HR := hid (Blk.newL w [.int .i64 0, .int .i64 0, .int .i64 0, .int .i64 0] 52)
  have HKA := hid hA
  clear hP hB hA hl
  go_enter Try.func29, Try.ntmps29
  go_upto_region 2 with fail
  obtain ⟨E2, hE⟩ : ∃ E, w.heap.size = E := ⟨_, rfl⟩
  rw [hE] at HR hgl hUl0 HF3 ⊢
  generalize w.alloc (.cells #[.int .i64 0, .int .i64 0, .int .i64 0, .int .i64 0] 52) = w2 at *
  clear hE
  have hU1 := HB.out.c1
  have hUl := HB.out.lt
  have hR2 := HR.out.lt
  go_wp2_with fail
  go_loopw [3, 12] (fun kv iv wr => ∃ i K : Nat, i ≤ ln ∧ K < ln ∧ iv = .int .i64 i ∧ kv = .int .i64 K ∧ Hid (gJ left i = K) ∧ Hid (Same w2 wr)) (fun _ iv _ => ln - (intOf iv).toNat)
  case atStart => exact ⟨0, 0, Nat.zero_le _, hlz, rfl, rfl, rfl, Kept.refl _ _⟩
  case round =>
    clear hU1
    obtain ⟨i, K, hi, hK, rfl, rfl, HGJ, HS1⟩ := hrel
    by_cases hlt : i < ln
    · obtain ⟨⟨a1, s1, l1, u1⟩, hq1⟩ : ∃ q, left.getD i q4z = q := ⟨_, rfl⟩
      obtain ⟨⟨a2, s2, l2, u2⟩, hq2⟩ : ∃ q, left.getD K q4z = q := ⟨_, rfl⟩
      obtain ⟨x0, x1, x2, x3⟩ := (HP.out.same HS1.out).at4 i (by rw [HLN.out]; omega) _ _ _ _ hq1
      have HST := (show Hid (gJ left (i + 1) = if u2 < u1 then i else K) from by unfold Hid gJ; rw [HGJ.out, hq1, hq2])
      have hA : Same wr (wr.alloc (.cells #[.int .i64 a1, .int .i64 s1, .int .i64 l1, .int .i64 u1] 52)) := (Kept.refl _ _).alloc _
      have HE := hid (Blk.newL wr [.int .i64 a1, .int .i64 s1, .int .i64 l1, .int .i64 u1] 52)
      have HS2 := hid (HS1.out.trans hA)
      go_upto_region 5 with fail
      obtain ⟨E5, hE⟩ : ∃ E, wr.heap.size = E := ⟨_, rfl⟩
      rw [hE] at HE ⊢
      generalize wr.alloc (.cells #[.int .i64 a1, .int .i64 s1, .int .i64 l1, .int .i64 u1] 52) = w5 at *
      obtain ⟨y0, y1, y2, y3⟩ := (HP.out.same HS2.out).at4 K (by rw [HLN.out]; omega) _ _ _ _ hq2
      have z3 := HE.out.c3
      have hU1 := (HB.out.same HS2.out).c1
      clear hq1 hq2 x0 x1 x2 x3 hA hE HE
      by_cases hu : u2 < u1
      · have hu' : (decide (u2 < u1)) = true := decide_eq_true hu
        have HE1 : Hid (gJ left (i + 1) = i) := by have h := HST.out; rw [if_pos hu] at h; exact h
        clear hu
        go_wp2
        go_quiet (fail)
        go_wp2
        go_roundw
        case rel => exact ⟨i + 1, i, by omega, by omega, by go_num, rfl, HE1, hid (HS2.out.drewN _)⟩
        case measure => simp [intOf]; omega
      · have hu' : (decide (u2 < u1)) = false := decide_eq_false hu
        have HE1 : Hid (gJ left (i + 1) = K) := by have h := HST.out; rw [if_neg hu] at h; exact h
        clear hu
        go_wp2
        go_quiet (fail)
        go_wp2
        go_roundw
        case rel => exact ⟨i + 1, K, by omega, by omega, by go_num, rfl, HE1, hid (HS2.out.drewN _)⟩
        case measure => simp [intOf]; omega
    · obtain rfl : ln = i := by omega
      have HGM : Hid (gmx left = K) := by unfold Hid gmx; rw [HLN.out]; exact HGJ.out
      obtain ⟨⟨a, s, l, u⟩, hq⟩ : ∃ q, left.getD K q4z = q := ⟨_, rfl⟩
      obtain ⟨x0, x1, x2, x3⟩ := (HP.out.same HS1.out).at4 K (by rw [HLN.out]; omega) _ _ _ _ hq
      have HQ := hid hq
      have hA : Same wr (wr.alloc (.cells #[.int .i64 a, .int .i64 s, .int .i64 l, .int .i64 u] 52)) := (Kept.refl _ _).alloc _
      have HE := hid (Blk.newL wr [.int .i64 a, .int .i64 s, .int .i64 l, .int .i64 u] 52)
      have HS2 := hid (HS1.out.trans hA)
      have hU1 := (HB.out.same HS1.out).c1
      have hgw := HS1.out.size
      go_upto_region 9 with fail
      obtain ⟨E6, hE⟩ : ∃ E, wr.heap.size = E := ⟨_, rfl⟩
      rw [hE] at HE hgw ⊢
      generalize wr.alloc (.cells #[.int .i64 a, .int .i64 s, .int .i64 l, .int .i64 u] 52) = w6 at *
      have HP6 := hid (HP.out.same HS2.out)
      have HB6 := hid (HB.out.same HS2.out)
      have HR6 := hid (HR.out.same HS2.out)
      have hU1 := HB6.out.c1
      have kd := deleteT_any g ln lc K left w6 hln hK HP6.out.own4
      have hKw : IntKind.i64.wrap ((K : Int) + 1) = (K : Int) + 1 := by rw [IntKind.wrap_i64]; omega
      clear hq x0 x1 x2 x3 hA hE HGJ HP HB HR
      go_wp2_with fail
      refine kd.mono ?_
      rintro ee w7 ⟨rfl, ho7, hk7⟩
      have HP7 := hid (HP6.out.del hk7 ho7)
      have HB7 := hid (HB6.out.kept hk7 (by omega))
      have HR7 := hid (HR6.out.kept hk7 (by omega))
      have HE7 := hid (HE.out.kept hk7 (by omega))
      have HK7 := (show Hid (Kept (fun b => U ≤ b) w w7) from ((HKA.out.trans HS2.out).mono (fun _ _ e => e.elim)).trans (hk7.mono (fun b _ e => by omega)))
      obtain ⟨n1, hn1⟩ : ∃ n1, ln - 1 = n1 := ⟨_, rfl⟩
      rw [hn1] at HP7 ⊢
      clear hn1 ho7 hk7 HP6 HB6 HR6 HE kd hU1
      obtain ⟨q0, q1, q2⟩ := HB7.out.all3
      have fU := HB7.out.frozen
      have hk8 : Kept (fun b => b = U) w7 (w7.setCell ⟨U, 1, none⟩ (.slice (some ⟨g, 0, none⟩) n1 lc)) := Kept.setCell (R := fun b => b = U) (Kept.refl _ _) (p := ⟨U, 1, none⟩) (.inr rfl) _
      have HP8 := hid (HP7.out.put hk8 (Nat.le_refl _) hlow)
      have HB8 := (show Hid (Blk (w7.setCell ⟨U, 1, none⟩ (.slice (some ⟨g, 0, none⟩) n1 lc)) U 72 [fv, .slice (some ⟨g, 0, none⟩) n1 lc, .slice sa sn sc]) from HB7.out.stored 1 _)
      have HR8 := hid (HR7.out.kept hk8 (by omega))
      have HE8 := hid (HE7.out.kept hk8 (by omega))
      have HK8 := (show Hid (Kept (fun b => U ≤ b) w (w7.setCell ⟨U, 1, none⟩ (.slice (some ⟨g, 0, none⟩) n1 lc))) from HK7.out.trans (hk8.mono (fun b _ e => Nat.le_of_eq e.symm)))
      clear hk8 HP7 HB7 HR7 HE7 HK7
      go_upto_region 10 with fail
      generalize w7.setCell ⟨U, 1, none⟩ (.slice (some ⟨g, 0, none⟩) n1 lc) = w8 at *
      clear q0 q1 q2 fU
      obtain ⟨t0, t1, t2, t3⟩ := HE8.out.all4
      obtain ⟨r0, r1, r2, r3⟩ := HR8.out.all4
      have fr := HR8.out.frozen
      have lr := HR8.out.lt
      have lE := HE8.out.lt
      go_wp2
      refine bodyPost_ret (v := .agg #[.int .i64 a, .int .i64 s, .int .i64 l, .int .i64 u]) (by simp [results, Try.results29, go_sem, r0, r1, r2, r3]) rfl ⟨?_, ⟨some ⟨g, 0, none⟩, n1, lc, sa, sn, sc, ?_, ?_⟩, ?_⟩
      · rw [HGM.out, HQ.out]
      · rw [HGM.out]
        refine HP8.out.far (B := E2) ?_ (fun b hb e => by rw [ownBlk] at hb; have := Option.some.inj hb; omega) (fun b hb e => by have := HF3.out b hb; omega) (by omega)
        (iterate 4 refine Kept.setCell (R := fun b => b = E2) ?_ (.inr rfl) _)
        exact Kept.refl _ _
      · refine HB8.out.kept (R := fun b => b = E2) ?_ (by omega)
        (iterate 4 refine Kept.setCell (R := fun b => b = E2) ?_ (.inr rfl) _)
        exact Kept.refl _ _
      · (iterate 4 refine Kept.setCell (R := fun b => U ≤ b) ?_ (.inr (by show U ≤ E2; omega)) _)
        exact HK8.out
def GbR (fs : List F5) (q : Q4) (w0 w : World) (U : Nat) (fv : Value) (left : List Q4) (st : List U3) (e : Ending) (w' : World) : Prop :=
  Kept (fun b => U ≤ b) w w' ∧ ((stepU fs q = none ∧ e = .returned (.bool false)) ∨ ∃ ss nx, stepU fs q = some (ss, nx) ∧ e = .returned (.bool true) ∧ UgE w0 w' U fv (keepL (updU q nx) left) (keepS (updU q nx) (st ++ ss)))
theorem goBack_any (w0 : World) (U : Nat) (va : Option Addr) (vc L : Nat) (ps : List StLogFrame) (left : List Q4) (st : List U3) (q : Q4) (w : World) (hL : ps.length = L) (hLb : L ≤ 1048576) (hv : RdFr w0 (.slice va L vc) ps) (hr : nbg fAfter (fs5 ps) = false) (h : UgE w0 w U (.slice va L vc) left st) (hl : left.length ≤ 1048576) (hs : st.length + 1 ≤ 1073741824) :
    Calls Try.prog 28 #[.pointer (some ⟨U, 0, none⟩), enV q] w fun e w' => GbR (fs5 ps) q w0 w U (.slice va L vc) left st e w' := by
  obtain ⟨i3, hi3, hz30, hz31, hz32⟩ := info_parts Try.infoUndoStep
  obtain ⟨i4, hi4, hz40, hz41, hz42⟩ := info_parts Try.infoTxnEntry
  obtain ⟨la, ln, lc, sa, sn, sc, hP, hB⟩ := h
  obtain ⟨a, s, l, u⟩ := q
  have hsn : sn + 1 ≤ 1073741824 := by rw [← hP.len3]; exact hs
  dsimp only [enV]
  have hUl0 := hB.lt
  have hlow := hP.low
  have hA : Same w (w.alloc (.cells #[.int .i64 a, .int .i64 s, .int .i64 l, .int .i64 u] 52)) := (Kept.refl _ _).alloc _
  have HP := hid (hP.same hA)
  have HB := hid (hB.same hA)
  have HE := hid (Blk.newL w [.int .i64 a, .int .i64 s, .int .i64 l, .int .i64 u] 52)
  have HKA := hid hA
  have HF3 := (show Hid (∀ b, (Value.slice sa sn sc).ownBlock = some b → U < b ∧ b < w.heap.size) from fun b hb => ⟨hP.f3 b hb, hP.own3.lt b hb⟩)
  have HF4 := (show Hid (∀ b, (Value.slice la ln lc).ownBlock = some b → U < b ∧ b < w.heap.size) from fun b hb => ⟨hP.f4 b hb, hP.own4.lt b hb⟩)
  have HV := hid hv
  have HLL := hid hL
  have HRS := hid hr
  clear hP hB hA hv hr hL
  obtain ⟨FS, hFS⟩ : ∃ FS, fs5 ps = FS := ⟨_, rfl⟩
  rw [hFS]
  have HFS := hid hFS
  clear hFS
  go_enter Try.func28, Try.ntmps28
  go_upto_region 1 with fail
  obtain ⟨E3, hE⟩ : ∃ E, w.heap.size = E := ⟨_, rfl⟩
  rw [hE] at HE HF3 HF4 hUl0 ⊢
  generalize w.alloc (.cells #[.int .i64 a, .int .i64 s, .int .i64 l, .int .i64 u] 52) = wr at *
  clear hE
  have hU0 := HB.out.c0
  have e3 := HE.out.c3
  go_wp2_with fail
  refine wp_region_V (fun wx : World => wx.cell? ⟨U, 0, none⟩ = some (.slice va L vc) ∧ wx.cell? ⟨E3, 3, none⟩ = some (.int .i64 u)) 99 12 rfl (by kernel_rfl) ?_
  have hSd : Same wr wr.drew := (Kept.refl _ _).drew
  generalize wr.drew = wd at *
  have HD0 := hid hSd
  have hS : (fun wx : World => wx.cell? ⟨U, 0, none⟩ = some (.slice va L vc) ∧ wx.cell? ⟨E3, 3, none⟩ = some (.int .i64 u)) wd := ⟨hSd.cellOf hU0 id, hSd.cellOf e3 id⟩
  refine tk 0 10 hS ?_
  refine tk 1 11 hS ?_
  refine tk 2 12 hS ?_
  refine tk 3 13 hS ?_
  refine tk 4 14 hS ?_
  refine tk 5 15 hS ?_
  refine wpAnyV_one (i := 6) (by kernel_rfl) rfl (fun Kc hK => ?_)
  go_simp
  refine (bsearchU_any va vc L ps u wd HLL.out hLb (HV.out.same (HP.out.keep.trans HD0.out)) HRS.out).mono ?_
  rintro ee w1 ⟨k, BB, rfl, HH, hk1⟩
  have HK1 := hid (HD0.out.trans hk1)
  have hS : (fun wx : World => wx.cell? ⟨U, 0, none⟩ = some (.slice va L vc) ∧ wx.cell? ⟨E3, 3, none⟩ = some (.int .i64 u)) w1 := ⟨HK1.out.cellOf hU0 id, HK1.out.cellOf e3 id⟩
  refine hK.out _ _ (fun _ => hS) ?_
  clear hK Kc hk1 hSd
  try simp only [Act.put, sA, s0, sS]
  refine tk 7 9 hS ?_
  refine tk 8 17 hS ?_
  refine tk 9 18 hS ?_
  refine tk 10 5 hS ?_
  refine tk 11 6 hS ?_
  refine wpAnyV_done (by kernel_rfl) ?_
  have HPa := hid (HP.out.same HK1.out)
  have HBa := hid (HB.out.same HK1.out)
  have HX := hid (HE.out.same HK1.out)
  have HKw := (show Hid (Kept (fun b => U ≤ b) w w1) from (HKA.out.trans HK1.out).mono (fun _ _ e => e.elim))
  clear HP HB HE HKA HK1 HD0 hS hU0 e3
  rcases HH.out with ⟨rfl, hkp, hku⟩ | ⟨rfl, hno⟩
  · have HFD : Hid (findF FS u = some (f5 ps[k])) := by
      unfold Hid
      have e := fs5_at ps k hkp
      have h := findF_at HRS.out (i := k) (by rw [fs5_length]; exact hkp)
      rw [e, hku, HFS.out] at h
      exact h
    have hkL : k < L := by rw [← HLL.out]; exact hkp
    obtain ⟨b, off, ha, hc⟩ := RdFr.cs HLL.out HV.out (by omega)
    subst ha
    have HRG := hid ((hc.same HPa.out.keep).rec k hkp)
    obtain ⟨⟨X0, kd, tx, pv, un⟩, hf5⟩ : ∃ q, f5 ps[k] = q := ⟨_, rfl⟩
    rw [hf5] at HFD
    obtain ⟨cs, hcs⟩ : ∃ cs, recCells ps[k].record = cs := ⟨_, rfl⟩
    have HCL : Hid (cs.length = 14) := by unfold Hid; rw [← hcs]; rfl
    have HONE : Hid (cs.toArray.all (·.oneCell') = true) := by unfold Hid; rw [← hcs]; exact recCells_one _
    have HC5 : Hid (cs[0]? = some (.int .i64 kd) ∧ cs[1]? = some (.int .i64 tx) ∧ cs[2]? = some (.int .i64 pv) ∧ cs[9]? = some (.int .i64 un)) := by
      unfold Hid
      simp only [f5, Prod.mk.injEq] at hf5
      obtain ⟨_, h1, h2, h3, h4⟩ := hf5
      rw [← hcs, ← h1, ← h2, ← h3, ← h4]
      exact ⟨rfl, rfl, rfl, rfl⟩
    have HI : Hid ((Try.prog.info? 58).map (·.size) = some cs.length) := by unfold Hid; rw [HCL.out]; kernel_rfl
    rw [hcs] at HRG
    have hU0 := HBa.out.c0
    clear hcs hf5 hku hc HH
    go_upto_region 5 with (first | (refine wpList_load_mid rfl 58 _ rfl b (off + k * 16 + 2) rfl cs _ HRG.out Try.underlying58 rfl HI.out ?_) | (refine wpList_store_mid rfl 58 _ _ rfl w1.heap.size 0 cs.toArray rfl rfl ((Blk.new w1 _ _).there 0 _ (by rw [List.size_toArray, HCL.out]; decide)) (by rw [List.size_toArray, HCL.out]; kernel_rfl) HONE.out ?_; rw [List.toList_toArray]))
    generalize hW : World.setCells _ w1.heap.size 0 cs = w2
    have hbx : Blk w2 w1.heap.size 58 cs ∧ Same w1 w2 := by rw [← hW]; exact box_newL w1 _ cs _ (by rw [HCL.out]; rfl)
    obtain ⟨hb2, hk2⟩ := hbx
    clear hW hU0
    have hw1 := HX.out.lt
    have HP2 := hid (HPa.out.same hk2)
    have HB2 := hid (HBa.out.same hk2)
    have HX := hid (HX.out.same hk2)
    have HK2 := hid (HKw.out.trans (hk2.mono (fun _ _ e => e.elim)))
    obtain ⟨E7, hE7⟩ : ∃ E7, w1.heap.size = E7 := ⟨_, rfl⟩
    rw [hE7] at hb2 hw1 ⊢
    have HR := hid hb2
    have HSU : Hid (stepU FS (a, s, l, u) = if (kd = 1 ∨ kd = 2) ∧ tx = a then (if backTo (X0, kd, tx, pv, un) < u then some (backSt (X0, kd, tx, pv, un) (a, s, l, u), backTo (X0, kd, tx, pv, un)) else none) else none) := by unfold Hid stepU; simp only [HFD.out]
    clear hb2 hk2 hE7 HRG HPa HBa HKw HONE
    have kc := changes_any cs kd w2 HCL.out HC5.out.1
    go_wp2_with (first | (refine wpList_load_mid rfl 58 _ rfl E7 0 rfl cs _ HR.out.rangeAll Try.underlying58 rfl HI.out ?_))
    refine kc.mono ?_
    rintro ee w3 ⟨rfl, hk3⟩
    have HP3 := hid (HP2.out.same hk3)
    have HB3 := hid (HB2.out.same hk3)
    have HX := hid (HX.out.same hk3)
    have HR3 := hid (HR.out.same hk3)
    have HK3 := hid (HK2.out.trans (hk3.mono (fun _ _ e => e.elim)))
    clear hk3 kc HP2 HB2 HR HK2
    have r0 : w3.cell? ⟨E7, 0, none⟩ = some (.int .i64 kd) := by rw [HR3.out.cell]; exact HC5.out.1
    have r1 : w3.cell? ⟨E7, 1, none⟩ = some (.int .i64 tx) := by rw [HR3.out.cell]; exact HC5.out.2.1
    have r2 : w3.cell? ⟨E7, 2, none⟩ = some (.int .i64 pv) := by rw [HR3.out.cell]; exact HC5.out.2.2.1
    have r9 : w3.cell? ⟨E7, 9, none⟩ = some (.int .i64 un) := by rw [HR3.out.cell]; exact HC5.out.2.2.2
    have e0 := HX.out.c0
    have e3 := HX.out.c3
    clear HI HCL
    by_cases hKK : kd = 1 ∨ kd = 2
    · have hK' : (decide (kd = 1 ∨ kd = 2)) = true := decide_eq_true hKK
      by_cases hT : tx = a
      · have hT' : (tx != a) = false := by simp [hT]
        rw [if_pos ⟨hKK, hT⟩] at HSU
        rw [hK']
        have hU2 := HB3.out.c2
        have hUl := HB3.out.lt
        by_cases hk1 : kd = 1
        · have hk1' : (kd == 1) = true := by simp [hk1]
          have HBS : Hid (backTo (X0, kd, tx, pv, un) = pv ∧ backSt (X0, kd, tx, pv, un) (a, s, l, u) = [(2, a, u)]) := by unfold Hid backTo backSt; simp [hk1]
          rw [HBS.out.1, HBS.out.2] at HSU
          clear hKK hk1 hT hK' HBS
          go_wp2_with fail
          refine wp_region_V (fun wx : World => wx.cell? ⟨U, 2, none⟩ = some (.slice sa sn sc) ∧ wx.cell? ⟨E3, 0, none⟩ = some (.int .i64 a) ∧ wx.cell? ⟨E3, 3, none⟩ = some (.int .i64 u)) 14 15 rfl (by kernel_rfl) ?_
          have hSd : Same w3 w3.drew := (Kept.refl _ _).drew
          generalize w3.drew = wd at *
          have HD0 := hid hSd
          have hS : (fun wx : World => wx.cell? ⟨U, 2, none⟩ = some (.slice sa sn sc) ∧ wx.cell? ⟨E3, 0, none⟩ = some (.int .i64 a) ∧ wx.cell? ⟨E3, 3, none⟩ = some (.int .i64 u)) wd := ⟨hSd.cellOf hU2 id, hSd.cellOf e0 id, hSd.cellOf e3 id⟩
          refine tk 0 46 hS ?_
          refine tk 1 47 hS ?_
          refine tk 2 48 hS ?_
          refine tk 3 49 hS ?_
          refine tk 4 50 hS ?_
          refine tk 5 51 hS ?_
          refine tk 6 52 hS ?_
          refine tk 7 53 hS ?_
          refine tk 8 54 hS ?_
          refine tk 9 55 hS ?_
          refine wpAnyV_one (i := 10) (by kernel_rfl) rfl (fun Kc hK => ?_)
          go_simp
          have hS : (fun wx : World => wx.cell? ⟨U, 2, none⟩ = some (.slice sa sn sc) ∧ wx.cell? ⟨E3, 0, none⟩ = some (.int .i64 a) ∧ wx.cell? ⟨E3, 3, none⟩ = some (.int .i64 u)) (wd.alloc (.cells #[.int .i64 2, .int .i64 a, .int .i64 u] 54)) := ⟨(hSd.alloc _).cellOf hU2 id, (hSd.alloc _).cellOf e0 id, (hSd.alloc _).cellOf e3 id⟩
          refine hK.out _ _ (fun _ => hS) ?_
          clear hK Kc
          try simp only [Act.put, sA, s0, sS]
          have HKO := (show Hid ((wd.alloc (.cells #[.int .i64 2, .int .i64 a, .int .i64 u] 54)).ownsRow 0 54 3 (.slice sa sn sc) sn (vals .i64 (flat3U st))) from HP3.out.own3.same (HD0.out.alloc _))
          have HN5 := hid (Blk.newL wd [.int .i64 2, .int .i64 a, .int .i64 u] 54)
          refine wpAnyV_one (i := 11) (by kernel_rfl) rfl (fun Kc hK => ?_)
          refine step_append_lies _ (by rfl) (.tmp 50) (.tmp 56) 26 (by rfl) 0 54 i3 _ 3 24 Try.underlying26 hi3 hz30 hz31 hz32 rfl (by omega) (.slice sa sn sc) sn (vals .i64 (flat3U st)) (by rfl) (by exact HKO.out) ⟨wd.heap.size, 0, none⟩ 1 1 [.int .i64 2, .int .i64 a, .int .i64 u] (by rfl) (by rfl) (World.news_of_block (cs := #[.int .i64 2, .int .i64 a, .int .i64 u]) (t := 54) (fr := (0, 0)) (by exact HN5.out)) (by simp [Value.oneCell']) (by omega) (by unfold maxLen; omega) (by omega) (Nat.zero_le _) (wd.heap.size + 1) (by simp) ?_
          intro g5 cap5 w5 hown5 hgrow5 hat5 hlt5
          have hP5 := HP3.out.app3 HD0.out hUl hown5 hgrow5 hat5
          have HP5 := hid hP5.1
          have HK5 := hid hP5.2
          have HAT5 := (show Hid ((Value.slice sa sn sc).ownBlock = some g5 ∨ w3.heap.size < g5) from by rcases hat5 with h | h; exact .inl h; exact .inr (by have := HD0.out.size; omega))
          clear hown5 hgrow5 hat5 hP5
          have hn0 : ¬ (Value.slice sa sn sc).ownBlock = some U := fun e => by have := HF3.out _ e; omega
          have hn1 : ¬ (Value.slice sa sn sc).ownBlock = some E3 := fun e => by have := HF3.out _ e; omega
          have hn2 : ¬ (Value.slice sa sn sc).ownBlock = some E3 := fun e => by have := HF3.out _ e; omega
          have hS : (fun wx : World => wx.cell? ⟨U, 2, none⟩ = some (.slice sa sn sc) ∧ wx.cell? ⟨E3, 0, none⟩ = some (.int .i64 a) ∧ wx.cell? ⟨E3, 3, none⟩ = some (.int .i64 u)) w5 := ⟨HK5.out.cellOf hU2 hn0, HK5.out.cellOf e0 hn1, HK5.out.cellOf e3 hn2⟩
          refine hK.out _ _ (fun _ => hS) ?_
          clear hK Kc
          try simp only [Act.put, sA, s0, sS]
          refine wpAnyV_one (i := 12) (by kernel_rfl) rfl (fun Kc hK => ?_)
          go_simp
          refine hK.out _ _ (fun _ => hS) ?_
          clear hK Kc
          try simp only [Act.put, sA, s0, sS]
          refine tk 13 59 hS ?_
          have HB5 := hid (HB3.out.kept HK5.out hn0)
          have fB5 := HB5.out.frozen
          obtain ⟨q0, q1, q2⟩ := HB5.out.all3
          refine wpAnyV_one (i := 14) (by kernel_rfl) rfl (fun Kc hK => ?_)
          go_simp
          refine hK.out _ _ (fun h => absurd rfl h) ?_
          clear hK Kc
          refine wpAnyV_done (by kernel_rfl) ?_
          try simp only [Act.put, sA, s0, sS]
          have hk56 : Kept (fun b => b = U) w5 (w5.setCell ⟨U, 2, none⟩ (.slice (some ⟨g5, 0, none⟩) (sn + 1) cap5)) := Kept.setCell (R := fun b => b = U) (Kept.refl _ _) (p := ⟨U, 2, none⟩) (.inr rfl) _
          have HP6 := hid (HP5.out.put hk56 (Nat.le_refl _) HP3.out.low)
          have HB6 := (show Hid (Blk (w5.setCell ⟨U, 2, none⟩ (.slice (some ⟨g5, 0, none⟩) (sn + 1) cap5)) U 72 [.slice (some ⟨b, off, none⟩) L vc, .slice la ln lc, .slice (some ⟨g5, 0, none⟩) (sn + 1) cap5]) from HB5.out.stored 2 _)
          have HX6 := hid ((HX.out.kept HK5.out hn1).kept hk56 (by omega))
          have HK6 := (show Hid (Kept (fun b => U ≤ b) w3 (w5.setCell ⟨U, 2, none⟩ (.slice (some ⟨g5, 0, none⟩) (sn + 1) cap5))) from (HK5.out.mono (fun b _ e => Nat.le_of_lt (HP3.out.f3 b e))).trans (hk56.mono (fun b _ e => Nat.le_of_eq e.symm)))
          generalize w5.setCell ⟨U, 2, none⟩ (.slice (some ⟨g5, 0, none⟩) (sn + 1) cap5) = w6 at *
          clear hk56 HB5 HP5 q0 q1 q2 fB5 HK5 hS HKO HN5 hn0 hn1 hn2
          have hE3l := HX.out.lt
          have HNE := (show Hid (∀ b, (Value.slice (some ⟨g5, 0, none⟩) (sn + 1) cap5).ownBlock = some b → b ≠ E3) from fun b hb e => by
            rw [ownBlk] at hb
            have h1 := Option.some.inj hb
            rcases HAT5.out with h | h
            · have := HF3.out _ h; omega
            · omega)
          have HX := HX6
          have HK7a := hid (HK3.out.trans HK6.out)
          clear hU2 e0 e3 r0 r1 r2 r9 HP3 HB3 HR3 HX6
          by_cases hN : pv < u
          · rw [if_pos hN] at HSU
            have hN' : ¬ u ≤ pv := by omega
            obtain ⟨x0, x1, x2, x3⟩ := HX.out.all4
            have fx := HX.out.frozen
            have hk7 : Kept (fun b => b = E3) w6 (w6.setCell ⟨E3, 3, none⟩ (.int .i64 pv)) := Kept.setCell (R := fun b => b = E3) (Kept.refl _ _) (p := ⟨E3, 3, none⟩) (.inr rfl) _
            have HP7 := hid (HP6.out.far hk7 (fun b hb e => by have := HF4.out b hb; omega) HNE.out (by omega))
            have HB7 := hid (HB6.out.kept hk7 (by omega))
            have HX7 := (show Hid (Blk (w6.setCell ⟨E3, 3, none⟩ (.int .i64 pv)) E3 52 [.int .i64 a, .int .i64 s, .int .i64 l, .int .i64 pv]) from HX.out.stored 3 _)
            have HK7 := (show Hid (Kept (fun b => U ≤ b) w (w6.setCell ⟨E3, 3, none⟩ (.int .i64 pv))) from HK7a.out.trans (hk7.mono (fun b _ e => by omega)))
            clear hk7 hN
            go_upto_region 14 with fail
            generalize w6.setCell ⟨E3, 3, none⟩ (.int .i64 pv) = w7 at *
            clear x0 x1 x2 x3 fx
            obtain ⟨x0, x1, x2, x3⟩ := HX7.out.all4
            have kk := keep_any w0 U (.slice (some ⟨b, off, none⟩) L vc) left (st ++ [(2, a, u)]) (a, s, l, pv) w7 ⟨_, _, _, _, _, _, HP7.out, HB7.out⟩ hl (by first | (simp only [List.length_append, List.length_cons, List.length_nil]; omega) | omega)
            dsimp only [enV] at kk
            go_wp2_with fail
            refine kk.mono ?_
            rintro ee w9 ⟨rfl, hU9, hk9⟩
            have HU9 := hid hU9
            have HK9 := hid (HK7.out.trans hk9)
            clear hU9 hk9 kk
            go_wp2
            go_ret
            exact ⟨HK9.out, .inr ⟨_, _, HSU.out, rfl, HU9.out⟩⟩
          · rw [if_neg hN] at HSU
            have hN' : u ≤ pv := by omega
            obtain ⟨x0, x1, x2, x3⟩ := HX.out.all4
            clear hN
            go_wp2
            go_ret
            exact ⟨HK7a.out, .inl ⟨HSU.out, rfl⟩⟩
        · have hk1' : (kd == 1) = false := by simp [hk1]
          have HBS : Hid (backTo (X0, kd, tx, pv, un) = un ∧ backSt (X0, kd, tx, pv, un) (a, s, l, u) = []) := by unfold Hid backTo backSt; simp [hk1]
          rw [HBS.out.1, HBS.out.2] at HSU
          clear hKK hk1 hT hK' HBS
          have HP3' := (show Hid (PuM w0 w3 U la ln lc left sa sn sc (st ++ [])) from by rw [List.append_nil]; exact HP3)
          have HNE := (show Hid (∀ b, (Value.slice sa sn sc).ownBlock = some b → b ≠ E3) from fun b hb e => by have := HF3.out b hb; omega)
          by_cases hN : un < u
          · rw [if_pos hN] at HSU
            have hN' : ¬ u ≤ un := by omega
            obtain ⟨x0, x1, x2, x3⟩ := HX.out.all4
            have fx := HX.out.frozen
            have hk7 : Kept (fun b => b = E3) w3 (w3.setCell ⟨E3, 3, none⟩ (.int .i64 un)) := Kept.setCell (R := fun b => b = E3) (Kept.refl _ _) (p := ⟨E3, 3, none⟩) (.inr rfl) _
            have HP7 := hid (HP3'.out.far hk7 (fun b hb e => by have := HF4.out b hb; omega) HNE.out (by omega))
            have HB7 := hid (HB3.out.kept hk7 (by omega))
            have HX7 := (show Hid (Blk (w3.setCell ⟨E3, 3, none⟩ (.int .i64 un)) E3 52 [.int .i64 a, .int .i64 s, .int .i64 l, .int .i64 un]) from HX.out.stored 3 _)
            have HK7 := (show Hid (Kept (fun b => U ≤ b) w (w3.setCell ⟨E3, 3, none⟩ (.int .i64 un))) from HK3.out.trans (hk7.mono (fun b _ e => by omega)))
            clear hk7 hN
            go_upto_region 14 with fail
            generalize w3.setCell ⟨E3, 3, none⟩ (.int .i64 un) = w7 at *
            clear x0 x1 x2 x3 fx
            obtain ⟨x0, x1, x2, x3⟩ := HX7.out.all4
            have kk := keep_any w0 U (.slice (some ⟨b, off, none⟩) L vc) left (st ++ []) (a, s, l, un) w7 ⟨_, _, _, _, _, _, HP7.out, HB7.out⟩ hl (by first | (simp only [List.length_append, List.length_cons, List.length_nil]; omega) | omega)
            dsimp only [enV] at kk
            go_wp2_with fail
            refine kk.mono ?_
            rintro ee w9 ⟨rfl, hU9, hk9⟩
            have HU9 := hid hU9
            have HK9 := hid (HK7.out.trans hk9)
            clear hU9 hk9 kk
            go_wp2
            go_ret
            exact ⟨HK9.out, .inr ⟨_, _, HSU.out, rfl, HU9.out⟩⟩
          · rw [if_neg hN] at HSU
            have hN' : u ≤ un := by omega
            obtain ⟨x0, x1, x2, x3⟩ := HX.out.all4
            clear hN
            go_wp2
            go_ret
            exact ⟨HK3.out, .inl ⟨HSU.out, rfl⟩⟩
      · have hT' : (tx != a) = true := by simp [hT]
        rw [if_neg (fun h => hT h.2)] at HSU
        rw [hK']
        clear hT hKK hK'
        go_wp2
        go_ret
        exact ⟨HK3.out, .inl ⟨HSU.out, rfl⟩⟩
    · have hK' : (decide (kd = 1 ∨ kd = 2)) = false := decide_eq_false hKK
      rw [if_neg (fun h => hKK h.1)] at HSU
      rw [hK']
      clear hKK hK'
      go_wp2
      go_ret
      exact ⟨HK3.out, .inl ⟨HSU.out, rfl⟩⟩
  · have HNO : Hid (stepU FS (a, s, l, u) = none) := by
      unfold Hid stepU
      rw [findF_none (fun i hi => by
        have hi2 : i < ps.length := by rw [← fs5_length ps, HFS.out]; exact hi
        have e := fs5_at ps i hi2
        simp only [HFS.out] at e
        rw [e]; exact hno i hi2)]
    clear hno HH
    go_wp2
    go_ret
    exact ⟨HKw.out, .inl ⟨HNO.out, rfl⟩⟩
end Go.Proofs.Ythbocacnfhpidaa
