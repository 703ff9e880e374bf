import Derived.Test.YtepdakgfioffgaaGreatAzX
import Derived.Test.YtepdakgfioffgaaGreatProg
import Derived.Test.YtepdakgfioffgaaGreatG32
import Derived.Test.YtepdakgfioffgaaGreatG00
import Derived.Shelf.SlIterI.Nil
import Derived.Shelf.SortM.Plain
import Derived.Shelf.SortM.SortNone
import Derived.Ground.GgzProg
import Derived.Ground.SlgmProg
namespace Go.Proofs.YtepdakgfioffgaaGreat
set_option maxRecDepth 100000
set_option maxHeartbeats 8000000
set_option linter.unusedVariables false
set_option linter.unusedSimpArgs false
open Go Go.RowKit Go.MapKept Go.Shelf Go.Maps Go.Sort
def takD (s : AzS) (f : F6) : Option AzS :=
  if f.2.1 = 1 then chgD s f f.1 else if f.2.1 = 2 then undD s f else if f.2.1 = 3 then folD s f (fun x => (x.1, 2, f.1, x.2.2.2)) else if f.2.1 = 4 then folD s f (fun x => (x.1, 3, f.1, x.2.2.2)) else if f.2.1 = 5 then endD s f else if f.2.1 = 8 then some { s with im := addI f.2.2.2.2.1 s.im } else some s
def few8 (r : Option AzS) : Option AzS := r.bind fun s' => if s'.tx.length ≤ 8 then some s' else none
theorem setK_len {k : Int} {g : Q4 → Q4} {l : List Q4} : (setK kQ k g l).length = l.length := by unfold setK; rw [List.length_map]
theorem few8_fol {s : AzS} {f : F6} {g : Q4 → Q4} (h8 : s.tx.length ≤ 8) : few8 (folD s f g) = folD s f g := by
  unfold folD few8
  split
  · split
    · show (if (setK kQ f.2.2.1 g s.tx).length ≤ 8 then _ else _) = _
      rw [setK_len, if_pos h8]
    · rfl
  · rfl
theorem azT_fol {s : AzS} {f : F6} {g : Q4 → Q4} (hk : f.2.1 = 3 ∨ f.2.1 = 4) (hg : g = azU f.2.1 f.1 f.2.2.2.2.2) : azT s f = folD s f g := by
  subst hg
  unfold azT folD
  rw [if_neg (by omega), if_neg (by omega)]
  cases getK kQ f.2.2.1 s.tx with
  | none => dsimp only; rw [if_pos (.inl (by omega))]
  | some q =>
    dsimp only
    by_cases h : q.2.2.1 = f.2.2.2.1
    · rw [if_pos h, if_neg (by omega), if_neg (by omega), if_neg (by omega)]
    · rw [if_neg h, if_pos (.inl h)]
theorem azT_end {s : AzS} {f : F6} (hk : f.2.1 = 5) (h8 : s.tx.length ≤ 8) : azT s f = few8 (endD s f) := by
  unfold azT endD folD few8
  rw [if_neg (by omega), if_neg (by omega)]
  cases getK kQ f.2.2.1 s.tx with
  | none => dsimp only; rw [if_pos (.inl (by omega))]; rfl
  | some q =>
    dsimp only
    by_cases h : q.2.2.1 = f.2.2.2.1
    · rw [if_pos h, if_neg (by omega), if_pos hk, if_neg (by omega)]
      show _ = (if (delK kQ f.2.2.1 s.tx).length ≤ 8 then _ else _)
      rw [if_pos (show (delK kQ f.2.2.1 s.tx).length ≤ 8 from Nat.le_trans (List.length_filter_le _ _) h8)]
    · rw [if_neg h, if_pos (.inl h)]; rfl
theorem azT_chg {s : AzS} {f : F6} {u : Int} (hk : f.2.1 = 1 ∨ f.2.1 = 2) (hn : ¬ (f.2.1 = 2 ∧ f.1 ≤ f.2.2.2.2.2)) (h8 : s.tx.length ≤ 8) (hu : (fun x : Q4 => ((x.1, x.2.1, f.1, u) : Q4)) = azU f.2.1 f.1 f.2.2.2.2.2) : azT s f = few8 (chgD s f u) := by
  unfold azT chgD folD few8 txB
  rw [if_neg (by omega), if_neg (by omega), hu]
  cases hg : getK kQ f.2.2.1 s.tx with
  | none =>
    have h1 := getK_insK (key := kQ) (u := ((f.2.2.1, 1, 0, 0) : Q4)) (l := s.tx) hg
    have h2 := setK_insK (key := kQ) (u := ((f.2.2.1, 1, 0, 0) : Q4)) (f := azU f.2.1 f.1 f.2.2.2.2.2) (azU_key _ _ _) (l := s.tx) hg
    have zN : getK kQ f.2.2.1 (insK kQ (f.2.2.1, 1, 0, 0) s.tx) = some (f.2.2.1, 1, 0, 0) := h1
    have oZ : setK kQ f.2.2.1 (azU f.2.1 f.1 f.2.2.2.2.2) (insK kQ (f.2.2.1, 1, 0, 0) s.tx) = insK kQ (azU f.2.1 f.1 f.2.2.2.2.2 (f.2.2.1, 1, 0, 0)) s.tx := h2
    simp only [Option.isSome_none, Bool.false_eq_true, if_false]
    rw [zN]
    dsimp only
    rw [oZ]
    by_cases h : (0 : Int) = f.2.2.2.1
    · rw [if_pos h]
      show _ = (if (insK kQ _ s.tx).length ≤ 8 then _ else _)
      rw [insK_length]
      by_cases h9 : 8 ≤ s.tx.length
      · rw [if_pos (.inr (.inl h9)), if_neg (by omega)]
      · rw [if_neg (by rintro (h3 | h3 | h3 | h3); omega; exact h9 h3; omega; exact hn h3), if_pos (by omega)]
    · rw [if_neg h, if_pos (.inr (.inr (.inl (fun e => h e.symm))))]
      rfl
  | some q =>
    simp only [Option.isSome_some, if_true]
    rw [hg]
    dsimp only
    by_cases h : q.2.2.1 = f.2.2.2.1
    · rw [if_pos h, if_neg (by rintro (h3 | h3); exact h3 h; exact hn h3), if_neg (by omega), if_pos (by omega)]
      show _ = (if (setK kQ _ _ s.tx).length ≤ 8 then _ else _)
      rw [setK_len, if_pos h8]
    · rw [if_neg h, if_pos (.inl h)]
      rfl
theorem azT_und {s : AzS} {f : F6} (hk : f.2.1 = 2) (hn : f.1 ≤ f.2.2.2.2.2) : azT s f = none := by
  unfold azT
  rw [if_neg (by omega), if_neg (by omega)]
  cases getK kQ f.2.2.1 s.tx with
  | none => dsimp only; rw [if_pos (.inr (.inr (.inr ⟨hk, hn⟩)))]
  | some q => dsimp only; rw [if_pos (.inr ⟨hk, hn⟩)]
theorem takD_azT {s : AzS} {f : F6} (hs : AzOk s) (hf : GF f) : azT s f = few8 (takD s f) := by
  have h8 := hs.few
  have hk := hf.kind
  obtain ⟨X, kn, tx, pv, pg, un⟩ := f
  dsimp only at hk
  unfold takD
  dsimp only
  by_cases h1 : kn = 1
  · subst h1
    rw [if_pos rfl]
    exact azT_chg (.inl rfl) (fun h => by have h1 := h.1; dsimp only at h1; omega) h8 (by funext x; rfl)
  rw [if_neg h1]
  by_cases h2 : kn = 2
  · subst h2
    rw [if_pos rfl]
    unfold undD
    dsimp only
    by_cases hu : un < X
    · rw [if_pos hu]
      exact azT_chg (.inr rfl) (fun h => by have := h.2; dsimp only at this; omega) h8 (by funext x; rfl)
    · rw [if_neg hu]
      exact azT_und rfl (by dsimp only; omega)
  rw [if_neg h2]
  by_cases h3 : kn = 3
  · subst h3
    rw [if_pos rfl, few8_fol h8]
    exact azT_fol (.inl rfl) (by funext x; rfl)
  rw [if_neg h3]
  by_cases h4 : kn = 4
  · subst h4
    rw [if_pos rfl, few8_fol h8]
    exact azT_fol (.inr rfl) (by funext x; rfl)
  rw [if_neg h4]
  by_cases h5 : kn = 5
  · subst h5
    rw [if_pos rfl]
    exact azT_end rfl h8
  rw [if_neg h5]
  by_cases A0 : kn = 8
  · subst A0
    rw [if_pos rfl, azT_img rfl]
    show _ = (if s.tx.length ≤ 8 then _ else _)
    rw [if_pos h8]
  · rw [if_neg A0, azT_ck (show kn = 6 ∨ kn = 7 by omega)]
    show _ = (if s.tx.length ≤ 8 then _ else _)
    rw [if_pos h8]
theorem enters_takeUpdate : EntersU 52 := fun args wx => by simp [callFunc, go_sem, Tryz.func52, Tryz.f52]
theorem enters_takeUndo : EntersU 53 := fun args wx => by simp [callFunc, go_sem, Tryz.func53, Tryz.f53]
theorem enters_takeCommit : EntersU 54 := fun args wx => by simp [callFunc, go_sem, Tryz.func54, Tryz.f54]
theorem enters_takeAbort : EntersU 55 := fun args wx => by simp [callFunc, go_sem, Tryz.func55, Tryz.f55]
theorem enters_takeEnd : EntersU 56 := fun args wx => by simp [callFunc, go_sem, Tryz.func56, Tryz.f56]
theorem enters_takeNothing : EntersU 57 := fun args wx => by simp [callFunc, go_sem, Tryz.func57, Tryz.f57]
theorem enters_takeImage : EntersU 58 := fun args wx => by simp [callFunc, go_sem, Tryz.func58, Tryz.f58]
def fs9 : List Value := [.nilFunc, .func (.func 52) #[] #[], .func (.func 53) #[] #[], .func (.func 54) #[] #[], .func (.func 55) #[] #[], .func (.func 56) #[] #[], .func (.func 57) #[] #[], .func (.func 57) #[] #[], .func (.func 58) #[] #[]]
theorem take_pack (b0 T : Nat) (s : AzS) (fc : List Value) (f : F6) (K : Nat) (hK : f.2.1 = K) (hf : FcI fc f) (hu : Up kQ s.tx) (hg : GF f) :
    ∃ uw, fs9[K]? = some (.func (.func uw) #[] #[]) ∧ EntersU uw ∧ ∀ wx, TabM wx b0 T s → Calls Tryz.prog uw #[.pointer (some ⟨T, 0, none⟩), .agg fc.toArray] wx fun e w' => TakR wx w' b0 T (takD s f) e := by
  have hk := hg.kind
  have ht := hg.txn
  unfold takD
  have hc : K = 1 ∨ K = 2 ∨ K = 3 ∨ K = 4 ∨ K = 5 ∨ K = 6 ∨ K = 7 ∨ K = 8 := by omega
  rcases hc with rfl | rfl | rfl | rfl | rfl | rfl | rfl | rfl
  · exact ⟨_, rfl, enters_takeUpdate, fun wx h => by rw [if_pos (by omega)]; exact takeUpdate_any wx b0 T s fc f hf h hu (ht (by omega))⟩
  · exact ⟨_, rfl, enters_takeUndo, fun wx h => by rw [if_neg (by omega), if_pos (by omega)]; exact takeUndo_any wx b0 T s fc f hf h hu (ht (by omega))⟩
  · exact ⟨_, rfl, enters_takeCommit, fun wx h => by rw [if_neg (by omega), if_neg (by omega), if_pos (by omega)]; exact takeCommit_any wx b0 T s fc f hf h hu (ht (by omega))⟩
  · exact ⟨_, rfl, enters_takeAbort, fun wx h => by rw [if_neg (by omega), if_neg (by omega), if_neg (by omega), if_pos (by omega)]; exact takeAbort_any wx b0 T s fc f hf h hu (ht (by omega))⟩
  · exact ⟨_, rfl, enters_takeEnd, fun wx h => by rw [if_neg (by omega), if_neg (by omega), if_neg (by omega), if_neg (by omega), if_pos (by omega)]; exact takeEnd_any wx b0 T s fc f hf h hu (ht (by omega))⟩
  · exact ⟨_, rfl, enters_takeNothing, fun wx h => by rw [if_neg (by omega), if_neg (by omega), if_neg (by omega), if_neg (by omega), if_neg (by omega), if_neg (by omega)]; exact takeNothing_any wx b0 T s fc f hf h⟩
  · exact ⟨_, rfl, enters_takeNothing, fun wx h => by rw [if_neg (by omega), if_neg (by omega), if_neg (by omega), if_neg (by omega), if_neg (by omega), if_neg (by omega)]; exact takeNothing_any wx b0 T s fc f hf h⟩
  · exact ⟨_, rfl, enters_takeImage, fun wx h => by rw [if_neg (by omega), if_neg (by omega), if_neg (by omega), if_neg (by omega), if_neg (by omega), if_pos (by omega)]; exact takeImage_any wx b0 T s fc f hf h⟩
theorem wp_bas {P : Program} {id : Nat} {o1 o2 o3 : Oper} {Q : Exit → Act → World → Prop} {a : Act} {w : World} (d p : Nat) (ty : TypeId) (parts : Array (Nat × Operand)) (cells zs : Array Value)
    (h1 : o1.op = .build ty parts) (g1 : o1.guard = none) (d1 : o1.dst = some d) (g2 : o2.guard = none) (d2 : o2.dst = some p) (h3 : o3.op = .store ty (.tmp p) (.tmp d)) (g3 : o3.guard = none) (d3 : o3.dst = none)
    (hb : ∀ wx, (execOp a.eval o1).run P wx = .ok (.value (.agg cells)) wx) (h2 : ∀ ev, (execOp ev o2).run P w = .ok (.value (.pointer (some ⟨w.heap.size, 0, none⟩))) (w.alloc (.cells zs ty)))
    (hx : ((a.put (some d) (.agg cells)).put (some p) (.pointer (some ⟨w.heap.size, 0, none⟩))).eval (.tmp p) = .pointer (some ⟨w.heap.size, 0, none⟩)) (hy : ((a.put (some d) (.agg cells)).put (some p) (.pointer (some ⟨w.heap.size, 0, none⟩))).eval (.tmp d) = .agg cells)
    (hz : zs.size = cells.size) (hi : (P.info? ty).map (·.size) = some cells.size) (hc : cells.all (·.oneCell') = true)
    (h : ∀ W, Blk W w.heap.size ty cells.toList → Same w W → Q .normal ((a.put (some d) (.agg cells)).put (some p) (.pointer (some ⟨w.heap.size, 0, none⟩))) W) : (Code.region id #[o1, o2, o3] false).wp P Q a w := by
  refine wp_region_lit (l := [o1, o2, o3]) ?_
  refine wpList_plain g1 (fun K hK => ?_)
  unfold Oper.wp
  rw [hb]
  refine hK _ _ ?_
  rw [d1]
  refine wpList_plain g2 (fun K hK => ?_)
  unfold Oper.wp
  rw [h2]
  refine hK _ _ ?_
  rw [d2]
  refine wpList_store_mid g3 ty (.tmp p) (.tmp d) h3 w.heap.size 0 cells hx hy ((Blk.new w zs ty).there 0 _ (by simp [hz])) hi hc ?_
  rw [d3]
  have eg := box_newX w zs cells.toList ty (by simp [hz])
  exact h _ eg.1 eg.2
theorem take_any (w : World) (b0 T : Nat) (s : AzS) (fc : List Value) (f : F6) (hf : FcI fc f) (h : TabM w b0 T s) (hs : AzOk s) (hg : GF f) :
    Calls Tryz.prog 30 #[.pointer (some ⟨T, 0, none⟩), .agg fc.toArray] w fun e w' => TakR w w' b0 T (azT s f) e := by
  rw [takD_azT hs hg]
  obtain ⟨K, hK⟩ : ∃ K : Nat, f.2.1 = K := ⟨f.2.1.toNat, by have := hg.kind; omega⟩
  have UT : K ≤ 8 := by have := hg.kind; omega
  obtain ⟨uw, zG, hE, hC⟩ := take_pack b0 T s fc f K hK hf hs.tx hg
  obtain ⟨D, hD⟩ : ∃ D, takD s f = D := ⟨_, rfl⟩
  rw [hD] at hC ⊢
  clear hD
  have HC := hid hC
  have eg := newBox w fc 51
  obtain ⟨w1, fC⟩ : ∃ x, x = w.alloc (.cells fc.toArray 51) := ⟨_, rfl⟩
  rw [← fC] at eg
  have nw := hid eg.1
  have bq := hid eg.2
  have lZ := hid (h.same eg.2)
  have HL : Hid (fc.length = 16) := hf.len
  have QP : Hid (fc[2]? = some (.int .i64 (K : Int))) := by unfold Hid; rw [hf.c2, hK]
  have HI : Hid ((Tryz.prog.info? 51).map (·.size) = some fc.length) := by unfold Hid; rw [HL.out]; kernel_rfl
  obtain ⟨FB, gH⟩ : ∃ x, w.heap.size = x := ⟨_, rfl⟩
  rw [gH] at nw
  clear hC eg h hK hf hs hg
  go_enter Tryz.func30, Tryz.ntmps30
  go_upto_region 1 with fail
  rw [← fC]
  try rw [gH]
  have qp := hid gH
  clear fC gH
  refine wp_bas 6 5 _ _ fs9.toArray #[.nilFunc, .nilFunc, .nilFunc, .nilFunc, .nilFunc, .nilFunc, .nilFunc, .nilFunc, .nilFunc] rfl rfl rfl rfl rfl rfl rfl rfl (fun wx => by kernel_rfl) (fun ev => by go_simp) rfl rfl rfl (by kernel_rfl) (by simp [fs9, Value.oneCell']) ?_
  intro w2 hb hk
  have JG : w2.cell? ⟨w1.heap.size, K, none⟩ = some (.func (.func uw) #[] #[]) := by rw [hb.cell]; exact zG
  have cx := hid hb
  obtain ⟨AB, EA⟩ : ∃ x, w1.heap.size = x := ⟨_, rfl⟩
  rw [EA] at JG cx ⊢
  have j2 := hid (nw.out.same hk)
  have iI := hid (lZ.out.same hk)
  have cw := hid (bq.out.trans hk)
  have f2 : w2.cell? ⟨FB, 2, none⟩ = some (.int .i64 (K : Int)) := by rw [j2.out.cell]; exact QP.out
  have VN : (K : Int) < 9 := by omega
  have Cs := hid zG
  clear hb hk EA nw lZ bq zG
  try simp only [Act.put, sA, s0, sS]
  go_wp2_with fail
  let Y1 : World → Prop := fun wx : World => wx.cell? ⟨FB, 2, none⟩ = some (.int .i64 (K : Int)) ∧ wx.cell? ⟨AB, K, none⟩ = some (.func (.func uw) #[] #[]) ∧ wx.rangeAt FB 0 fc
  refine wp_region_V Y1 99 17 rfl (by kernel_rfl) ?_
  have hd : Same w2 w2.drew := (Kept.refl _ _).drew
  generalize w2.drew = w3 at *
  have hS : Y1 w3 := ⟨hd.cellOf f2 id, hd.cellOf JG id, (j2.out.same hd).rangeAll⟩
  refine tk 0 7 hS ?_
  refine tk 1 8 hS ?_
  refine tk 2 9 hS ?_
  refine tkV 3 10 (.pointer (some ⟨AB, K, none⟩)) hS ?_
  refine tk 4 11 hS ?_
  refine tk 5 12 hS ?_
  refine tkV 6 13 (.agg fc.toArray) hS ?_ (hy := fun wx cI => exec_load_mid rfl rfl cI.2.2 Tryz.underlying51 rfl HI.out)
  have kB := hid (j2.out.same hd)
  have gv := hid (cx.out.same hd)
  have dZ := hid (cw.out.trans hd)
  have iY := hid (iI.out.same hd)
  clear hd f2 JG j2 cx cw iI hS
  refine wpAnyV_one (i := 7) (by kernel_rfl) rfl (fun Kc hK => ?_)
  have KW := hE
  unfold EntersU at KW
  go_simp
  refine (HC.out w3 iY.out).mono ?_
  rintro e w4 ⟨hk, hr⟩
  have oh := hid (hk.blk kB.out (by decide) (by decide))
  have i5 := hid (hk.blk gv.out (by decide) (by decide))
  have fA := (show Hid (KT b0 w w4) from (KT.same dZ.out).trans hk)
  have hS : Y1 w4 := ⟨by rw [oh.out.cell]; exact QP.out, by rw [i5.out.cell]; exact Cs.out, oh.out.rangeAll⟩
  clear hk kB gv dZ iY KW
  rcases hr with ⟨hn, rfl⟩ | ⟨s', nA, rfl, hT⟩
  · have HN := hid hn
    clear hn
    refine hK.out _ _ (fun _ => hS) ?_
    clear hK Kc
    try simp only [Act.put, sA, s0, sS]
    refine tk 8 15 hS ?_
    refine tkS 9 16 hS ?_
    refine tkS 10 17 hS ?_
    refine tkS 11 18 hS ?_
    refine tkS 12 19 hS ?_
    refine tkS 13 20 hS ?_
    refine tkS 14 21 hS ?_
    refine tkV 15 22 (.bool false) hS ?_
    refine tk 16 4 hS ?_
    refine wpAnyV_done (by kernel_rfl) ?_
    go_wp2
    go_ret
    exact ⟨fA.out, .inl ⟨by rw [HN.out]; rfl, rfl⟩⟩
  · have HN := hid nA
    have HT := hid hT
    obtain ⟨Bt, ct, Bd, cd, Bi, ci, kt, kd, ki, lQ⟩ := hT
    have t1 := lQ.box.c1
    have gN := lQ.et.length
    have mj := run_len_map (P := Tryz.prog) (T := 90) (ty := 3) lQ.mt Tryz.underlying90
    obtain ⟨q, hq⟩ : ∃ q, kt.length = q := ⟨_, rfl⟩
    rw [hq] at mj
    have HQ : Hid (s'.tx.length = q) := by unfold Hid; rw [← gN]; exact hq
    clear nA lQ gN hq
    refine hK.out _ _ (fun _ => hS) ?_
    clear hK Kc
    try simp only [Act.put, sA, s0, sS]
    refine tk 8 15 hS ?_
    refine wpAnyV_one (i := 9) (by kernel_rfl) rfl (fun Kc hK => ?_)
    go_simp
    refine hK.out _ _ (fun _ => hS) ?_
    clear hK Kc
    try simp only [Act.put, sA, s0, sS]
    refine wpAnyV_one (i := 10) (by kernel_rfl) rfl (fun Kc hK => ?_)
    go_simp
    refine hK.out _ _ (fun _ => hS) ?_
    clear hK Kc
    try simp only [Act.put, sA, s0, sS]
    refine wpAnyV_one (i := 11) (by kernel_rfl) rfl (fun Kc hK => ?_)
    go_simp
    refine hK.out _ _ (fun _ => hS) ?_
    clear hK Kc
    try simp only [Act.put, sA, s0, sS]
    refine wpAnyV_one (i := 12) (by kernel_rfl) rfl (fun Kc hK => ?_)
    go_simp
    refine hK.out _ _ (fun _ => hS) ?_
    clear hK Kc
    try simp only [Act.put, sA, s0, sS]
    refine wpAnyV_one (i := 13) (by kernel_rfl) rfl (fun Kc hK => ?_)
    go_simp
    refine hK.out _ _ (fun _ => hS) ?_
    clear hK Kc
    try simp only [Act.put, sA, s0, sS]
    by_cases h8 : q ≤ 8
    · have FZ : (q : Int) ≤ 8 := by omega
      have A0 : (decide ((q : Int) ≤ 8)) = true := decide_eq_true FZ
      refine wpAnyV_one (i := 14) (by kernel_rfl) rfl (fun Kc hK => ?_)
      go_simp
      refine hK.out _ _ (fun _ => hS) ?_
      clear hK Kc
      try simp only [Act.put, sA, s0, sS]
      refine wpAnyV_one (i := 15) (by kernel_rfl) rfl (fun Kc hK => ?_)
      go_simp
      refine hK.out _ _ (fun _ => hS) ?_
      clear hK Kc
      try simp only [Act.put, sA, s0, sS]
      refine wpAnyV_one (i := 16) (by kernel_rfl) rfl (fun Kc hK => ?_)
      go_simp
      refine hK.out _ _ (fun _ => hS) ?_
      clear hK Kc
      try simp only [Act.put, sA, s0, sS]
      refine wpAnyV_done (by kernel_rfl) ?_
      go_wp2
      go_ret
      exact ⟨fA.out, .inr ⟨s', by rw [HN.out]; show (if s'.tx.length ≤ 8 then _ else _) = _; rw [if_pos (by rw [HQ.out]; exact h8)], rfl, HT.out⟩⟩
    · have FZ : ¬ (q : Int) ≤ 8 := by omega
      have A0 : (decide ((q : Int) ≤ 8)) = false := decide_eq_false FZ
      have H8 := hid h8
      refine wpAnyV_one (i := 14) (by kernel_rfl) rfl (fun Kc hK => ?_)
      go_simp
      refine hK.out _ _ (fun _ => hS) ?_
      clear hK Kc
      try simp only [Act.put, sA, s0, sS]
      refine wpAnyV_one (i := 15) (by kernel_rfl) rfl (fun Kc hK => ?_)
      go_simp
      refine hK.out _ _ (fun _ => hS) ?_
      clear hK Kc
      try simp only [Act.put, sA, s0, sS]
      refine wpAnyV_one (i := 16) (by kernel_rfl) rfl (fun Kc hK => ?_)
      go_simp
      refine hK.out _ _ (fun _ => hS) ?_
      clear hK Kc
      try simp only [Act.put, sA, s0, sS]
      refine wpAnyV_done (by kernel_rfl) ?_
      go_wp2
      go_ret
      exact ⟨fA.out, .inl ⟨by rw [HN.out]; show (if s'.tx.length ≤ 8 then _ else _) = _; rw [if_neg (by rw [HQ.out]; exact H8.out)], rfl⟩⟩
theorem insK_end {α : Type} {key : α → Int} {l : List α} {d : α} {j : Nat} (h : Up key l) (hj : j < l.length) : insK key (l.getD j d) (l.take j) = l.take (j + 1) ∧ getK key (key (l.getD j d)) (l.take j) = none := by
  have e : l.getD j d = l[j] := by rw [List.getD_eq_getElem?_getD, List.getElem?_eq_getElem hj]; rfl
  have dh : ∀ x ∈ l.take j, key x < key l[j] := fun x hx => by
    obtain ⟨i, hi, rfl⟩ := List.getElem_of_mem hx
    rw [List.length_take] at hi
    rw [List.getElem_take]
    exact List.pairwise_iff_getElem.1 h i j (by omega) hj (by omega)
  rw [e]
  refine ⟨?_, getK_none.2 fun x hx => by have := dh x hx; omega⟩
  have := insK_split (key := key) l[j] (l.take j) [] (fun x hx => by have := dh x hx; omega) (fun x hx => by simp at hx)
  rw [List.append_nil] at this
  rw [this, List.take_succ_eq_append_getElem hj]
def OpnR (w w' : World) (s : AzS) (e : Ending) : Prop := ∃ T, e = .returned (.pointer (some ⟨T, 0, none⟩)) ∧ TabM w' w.heap.size T s ∧ Same w w'
theorem openTables_any (w : World) (rc : List Value) (nt : Int) (xe ye : TypeId) (xa : Option Addr) (xn xc : Nat) (ya : Option Addr) (yn yc : Nat) (tx : List Q4) (dy : List (Int × Int)) (hl : rc.length = 14) (Qp : rc[10]? = some (.int .i64 nt)) (ML : rc[11]? = some (.slice xa xn xc)) (NU : rc[12]? = some (.slice ya yn yc))
    (hx : RdF 4 w ⟨xe, xa, xn, xc, flat4 tx⟩) (hy : RdF 2 w ⟨ye, ya, yn, yc, flat2 dy⟩) (LC : Up kQ tx) (PO : Up kD dy) :
    Calls Tryz.prog 29 #[.agg rc.toArray] w fun e w' => OpnR w w' ⟨nt, tx, dy, []⟩ e := by
  have eg := newBox w rc 49
  obtain ⟨w1, fC⟩ : ∃ x, x = w.alloc (.cells rc.toArray 49) := ⟨_, rfl⟩
  rw [← fC] at eg
  have j0 : w1.heap.size = w.heap.size + 1 := by rw [fC]; exact World.size_alloc _ _
  obtain ⟨RB, qe⟩ : ∃ x, w.heap.size = x := ⟨_, rfl⟩
  rw [qe] at j0
  have nw := (show Hid (Blk w1 RB 49 rc) from qe ▸ eg.1)
  have bq := hid eg.2
  have Av : w1.cell? ⟨RB, 10, none⟩ = some (.int .i64 nt) := by rw [nw.out.cell]; exact Qp
  have Hm := hid ML
  have Js := hid NU
  have j8 : tx.length = xn := by have h := hx.2.1; rw [flat4_length] at h; dsimp only at h; omega
  have On : dy.length = yn := by have h := hy.2.1; rw [flat2_length] at h; dsimp only at h; omega
  have R4 : xn ≤ maxLen := hx.1
  have Um : yn ≤ maxLen := hy.1
  unfold maxLen at R4 Um
  have HX := hid hx
  have HY := hid hy
  have N8 := hid j8
  have Gk := hid On
  have EB := hid LC
  have Jv := hid PO
  clear eg Qp ML NU hx hy j8 On LC PO
  obtain ⟨wa, Da⟩ : ∃ x, x = w1.alloc (.map #[] 0) := ⟨_, rfl⟩
  obtain ⟨wb, BF⟩ : ∃ x, x = wa.alloc (.map #[] 0) := ⟨_, rfl⟩
  obtain ⟨wd, Cj⟩ : ∃ x, x = wb.alloc (.map #[] 0) := ⟨_, rfl⟩
  have za : wa.heap.size = RB + 2 := by rw [Da, World.size_alloc, j0]
  have zb : wb.heap.size = RB + 3 := by rw [BF, World.size_alloc, za]
  have zd : wd.heap.size = RB + 4 := by rw [Cj, World.size_alloc, zb]
  have m1 : (Instr.makeMap 90 none).run Tryz.prog w1 = .ok (.map (some (RB + 1))) wa := by rw [Da, ← j0]; exact run_makeMap _ _
  have m2 : (Instr.makeMap 91 none).run Tryz.prog wa = .ok (.map (some (RB + 2))) wb := by rw [BF, ← za]; exact run_makeMap _ _
  have m3 : (Instr.makeMap 92 none).run Tryz.prog wb = .ok (.map (some (RB + 3))) wd := by rw [Cj, ← zb]; exact run_makeMap _ _
  have ka : Same w1 wa := by rw [Da]; exact (Kept.refl _ _).alloc _
  have kb : Same wa wb := by rw [BF]; exact (Kept.refl _ _).alloc _
  have kd : Same wb wd := by rw [Cj]; exact (Kept.refl _ _).alloc _
  have na : MapB wa (RB + 1) [] 0 := by have h := MapB.new w1; rw [← Da, j0] at h; exact h
  have nb : MapB wb (RB + 2) [] 0 := by have h := MapB.new wa; rw [← BF, za] at h; exact h
  have nd : MapB wd (RB + 3) [] 0 := by have h := MapB.new wb; rw [← Cj, zb] at h; exact h
  have Iy := (ka.trans (kb.trans kd)).cellOf Av id
  have ke := (show Same wd (wd.alloc (.cells #[.int .i64 nt, .map (some (RB + 1)), .map (some (RB + 2)), .map (some (RB + 3))] 94)) from (Kept.refl _ _).alloc _)
  have iI := (show Hid (TabI (wd.alloc (.cells #[.int .i64 nt, .map (some (RB + 1)), .map (some (RB + 2)), .map (some (RB + 3))] 94)) RB (RB + 4) ⟨nt, tx.take 0, dy.take 0, []⟩ (RB + 1) 0 (RB + 2) 0 (RB + 3) 0 [] [] []) from
    ⟨by have h := Blk.newL wd [.int .i64 nt, .map (some (RB + 1)), .map (some (RB + 2)), .map (some (RB + 3))] 94; rw [zd] at h; exact h, na.same ((kb.trans kd).trans ke), nb.same (kd.trans ke), nd.same ke, KVok.nil 0, KVok.nil 0, KVok.nil 0, EntM.nil _, DirM.nil, ImgM.nil, by omega, by omega, by omega, by omega, fun e he => by simp at he, by omega, by omega, by omega⟩)
  have j2 := hid (nw.out.same ((ka.trans (kb.trans kd)).trans ke))
  have cw := hid (bq.out.trans ((ka.trans (kb.trans kd)).trans ke))
  have wu := hid qe
  clear Da BF Cj ka kb kd na nb nd ke nw bq
  go_enter Tryz.func29, Tryz.ntmps29
  go_upto_region 1 with fail
  rw [← fC]
  try rw [qe]
  clear fC qe
  go_upto_region 2 with fail
  try rw [zd]
  generalize wd.alloc (.cells #[.int .i64 nt, .map (some (RB + 1)), .map (some (RB + 2)), .map (some (RB + 3))] 94) = w2 at *
  clear m1 m2 m3 Av Iy j0 za zb zd
  obtain ⟨T, hT⟩ : ∃ x, RB + 4 = x := ⟨_, rfl⟩
  obtain ⟨Bt, Mh⟩ : ∃ x, RB + 1 = x := ⟨_, rfl⟩
  obtain ⟨Bd, QA⟩ : ∃ x, RB + 2 = x := ⟨_, rfl⟩
  obtain ⟨Bi, ij⟩ : ∃ x, RB + 3 = x := ⟨_, rfl⟩
  rw [hT, Mh, QA, ij] at iI
  try rw [hT]
  have ES : w.heap.size ≤ RB := by have := wu.out; omega
  have Vz : RB ≤ Bt ∧ RB ≤ Bd ∧ RB ≤ T := by omega
  clear hT Mh QA ij
  have Ao : w2.cell? ⟨RB, 11, none⟩ = some (.slice xa xn xc) := by rw [j2.out.cell]; exact Hm.out
  go_wp2_with fail
  go_loopw [18] (fun i wr => ∃ (j ct : Nat) (kt : List KV), j ≤ xn ∧ i = .int .i64 j ∧ Hid (TabI wr RB T ⟨nt, tx.take j, dy.take 0, []⟩ Bt ct Bd 0 Bi 0 kt [] []) ∧ Hid (Blk wr RB 49 rc) ∧ Hid (Same w wr)) (fun i _ => xn - (intOf i).toNat)
  case atStart => exact ⟨0, 0, [], Nat.zero_le _, rfl, iI, j2, cw⟩
  case round =>
    clear iI j2 cw Ao
    obtain ⟨j, ct, kt, hj, rfl, lJ, rk, ef⟩ := hrel
    by_cases dh : j < xn
    · obtain ⟨b, off, ea, BP⟩ := HX.out.someQ (by dsimp only; omega)
      dsimp only at ea BP
      subst ea
      have ow : j < tx.length := by rw [N8.out]; exact dh
      obtain ⟨⟨a, st, l, u⟩, hq⟩ : ∃ q, tx.getD j q4z = q := ⟨_, rfl⟩
      obtain ⟨d0, d1, d2, d3⟩ := (HX.out.same ef.out).quad j ow _ _ _ _ hq
      obtain ⟨xO, tm⟩ := insK_end (d := q4z) EB.out ow
      rw [hq] at xO tm
      have JF := hid xO
      have nH := (show Hid (getK kQ a (tx.take j) = none) from tm)
      have ET : (j : Int) < (xn : Int) := by omega
      clear hq xO tm
      have tT := hid (Blk.newL wr [.int .i64 a, .int .i64 st, .int .i64 l, .int .i64 u] 57)
      have ix := sameA wr [.int .i64 a, .int .i64 st, .int .i64 l, .int .i64 u] 57
      have iY := hid (lJ.out.same ix)
      have kB := hid (rk.out.same ix)
      have dZ := hid (ef.out.trans ix)
      have qY : RB ≤ wr.heap.size := by have := rk.out.lt; omega
      have tU := (show Hid (∀ e ∈ kt, e.2.1 ≠ .pointer (some ⟨wr.heap.size, 0, none⟩)) from fun e he hh => by have h1 := (lJ.out.entT he hh).2.2.2.2; omega)
      clear ix
      go_upto_region 5 with fail
      generalize wr.alloc (.cells #[.int .i64 a, .int .i64 st, .int .i64 l, .int .i64 u] 57) = w3 at *
      obtain ⟨g, hg⟩ : ∃ g, wr.heap.size = g := ⟨_, rfl⟩
      rw [hg] at tT qY tU ⊢
      clear hg d0 d1 d2 d3 lJ rk ef
      have t1 := iY.out.box.c1
      have e0 := tT.out.c0
      refine wp_region_V (fun wx : World => wx.cell? ⟨T, 1, none⟩ = some (.map (some Bt)) ∧ wx.cell? ⟨g, 0, none⟩ = some (.int .i64 a)) 6 7 rfl (by kernel_rfl) ?_
      have hd : Same w3 w3.drew := (Kept.refl _ _).drew
      generalize w3.drew = w4 at *
      have hS : (fun wx : World => wx.cell? ⟨T, 1, none⟩ = some (.map (some Bt)) ∧ wx.cell? ⟨g, 0, none⟩ = some (.int .i64 a)) w4 := ⟨hd.cellOf t1 id, hd.cellOf e0 id⟩
      refine tk 0 22 hS ?_
      refine tk 1 23 hS ?_
      refine tk 2 24 hS ?_
      refine tk 3 25 hS ?_
      refine tk 4 26 hS ?_
      refine tk 5 27 hS ?_
      have nl := hid (iY.out.same hd)
      have j4 := Kept.setM (w := w4) (B := Bt) (kt ++ [(a, .pointer (some ⟨g, 0, none⟩), ct)]) (ct + 1)
      have j6 := hid (nl.out.new (u := (a, st, l, u)) nH.out (tT.out.same hd) tU.out qY)
      have ot := hid ((kB.out.same hd).kept j4 (blk_map (kB.out.same hd) nl.out.mt))
      have fM := hid ((dZ.out.trans hd).next j4 (fun i hi e => by omega))
      refine wpAnyV_one (i := 6) (by kernel_rfl) rfl (fun Kc hK => ?_)
      refine step_skip (by rfl) (exec_update (vm := .map (some Bt)) (vk := .int .i64 a) (u := .pointer (some ⟨g, 0, none⟩)) rfl rfl rfl rfl (run_update_new Tryz.underlying90 Tryz.underlying2 nl.out.mt (nl.out.et.miss nH.out))) ?_
      refine hK.out _ _ (fun h => absurd rfl h) ?_
      clear hK Kc hS j4 hd t1 e0
      try simp only [List.getElem_toArray, List.getElem_cons_succ, List.getElem_cons_zero]
      refine wpAnyV_done (by kernel_rfl) ?_
      try simp only [Act.put, sA, s0, sS]
      dsimp only at j6
      generalize setM w4 Bt (kt ++ [(a, .pointer (some ⟨g, 0, none⟩), ct)]) (ct + 1) = w5 at *
      go_wp2
      go_roundw
      case rel => exact ⟨j + 1, _, _, by omega, by go_num, by rw [← JF.out]; exact j6, ot, fM⟩
      case measure => simp [intOf]; omega
    · obtain rfl : xn = j := by omega
      have nD : tx.take xn = tx := by rw [← N8.out]; exact List.take_length
      rw [nD] at lJ
      clear nD
      have Ki : wr.cell? ⟨RB, 12, none⟩ = some (.slice ya yn yc) := by rw [rk.out.cell]; exact Js.out
      go_wp2_with fail
      go_loopw [32] (fun i wr => ∃ (j cd : Nat) (kd : List KV), j ≤ yn ∧ i = .int .i64 j ∧ Hid (TabI wr RB T ⟨nt, tx, dy.take j, []⟩ Bt ct Bd cd Bi 0 kt kd []) ∧ Hid (Same w wr)) (fun i _ => yn - (intOf i).toNat)
      case atStart => exact ⟨0, 0, [], Nat.zero_le _, rfl, lJ, ef⟩
      case round =>
        clear lJ rk ef Ki
        obtain ⟨j, cd, kd, hj, rfl, lJ, ef⟩ := hrel
        by_cases dh : j < yn
        · obtain ⟨b, off, ea, BP⟩ := HY.out.someQ (by dsimp only; omega)
          dsimp only at ea BP
          subst ea
          have ow : j < dy.length := by rw [Gk.out]; exact dh
          obtain ⟨⟨p, l⟩, hq⟩ : ∃ q, dy.getD j (0, 0) = q := ⟨_, rfl⟩
          obtain ⟨d0, d1⟩ := (HY.out.same ef.out).duo Gk.out j ow _ _ hq
          obtain ⟨xO, tm⟩ := insK_end (d := (0, 0)) Jv.out ow
          rw [hq] at xO tm
          have JF := hid xO
          have nH := (show Hid (getK kD p (dy.take j) = none) from tm)
          have ET : (j : Int) < (yn : Int) := by omega
          clear hq xO tm
          have tT := hid (Blk.newL wr [.int .i64 p, .int .i64 l] 60)
          have ix := sameA wr [.int .i64 p, .int .i64 l] 60
          have iY := hid (lJ.out.same ix)
          have dZ := hid (ef.out.trans ix)
          clear ix
          go_upto_region 10 with fail
          generalize wr.alloc (.cells #[.int .i64 p, .int .i64 l] 60) = w3 at *
          obtain ⟨g, hg⟩ : ∃ g, wr.heap.size = g := ⟨_, rfl⟩
          rw [hg] at tT ⊢
          clear hg d0 d1 lJ ef
          have t2 := iY.out.box.c2
          obtain ⟨e0, e1⟩ := tT.out.all2
          refine wp_region_V (fun wx : World => wx.cell? ⟨T, 2, none⟩ = some (.map (some Bd)) ∧ wx.cell? ⟨g, 0, none⟩ = some (.int .i64 p) ∧ wx.cell? ⟨g, 1, none⟩ = some (.int .i64 l)) 8 9 rfl (by kernel_rfl) ?_
          have hd : Same w3 w3.drew := (Kept.refl _ _).drew
          generalize w3.drew = w4 at *
          have hS : (fun wx : World => wx.cell? ⟨T, 2, none⟩ = some (.map (some Bd)) ∧ wx.cell? ⟨g, 0, none⟩ = some (.int .i64 p) ∧ wx.cell? ⟨g, 1, none⟩ = some (.int .i64 l)) w4 := ⟨hd.cellOf t2 id, hd.cellOf e0 id, hd.cellOf e1 id⟩
          refine tk 0 36 hS ?_
          refine tk 1 37 hS ?_
          refine tk 2 38 hS ?_
          refine tk 3 39 hS ?_
          refine tk 4 40 hS ?_
          refine tk 5 41 hS ?_
          refine tk 6 42 hS ?_
          refine tk 7 43 hS ?_
          have nl := hid (iY.out.same hd)
          have j4 := Kept.setM (w := w4) (B := Bd) (kd ++ [(p, .int .i64 l, cd)]) (cd + 1)
          have j6 := hid (nl.out.newD p l nH.out)
          have fM := hid ((dZ.out.trans hd).next j4 (fun i hi e => by omega))
          refine wpAnyV_one (i := 8) (by kernel_rfl) rfl (fun Kc hK => ?_)
          refine step_skip (by rfl) (exec_update (vm := .map (some Bd)) (vk := .int .i64 p) (u := .int .i64 l) rfl rfl rfl rfl (run_update_new Tryz.underlying91 Tryz.underlying2 nl.out.md (nl.out.ed.miss nH.out))) ?_
          refine hK.out _ _ (fun h => absurd rfl h) ?_
          clear hK Kc hS j4 hd t2 e0 e1
          try simp only [List.getElem_toArray, List.getElem_cons_succ, List.getElem_cons_zero]
          refine wpAnyV_done (by kernel_rfl) ?_
          try simp only [Act.put, sA, s0, sS]
          dsimp only at j6
          generalize setM w4 Bd (kd ++ [(p, .int .i64 l, cd)]) (cd + 1) = w5 at *
          go_wp2
          go_roundw
          case rel => exact ⟨j + 1, _, _, by omega, by go_num, by rw [← JF.out]; exact j6, fM⟩
          case measure => simp [intOf]; omega
        · obtain rfl : yn = j := by omega
          have nD : dy.take yn = dy := by rw [← Gk.out]; exact List.take_length
          rw [nD] at lJ
          go_wp2
          go_ret
          exact ⟨T, rfl, by rw [wu.out]; exact lJ.out.out, ef.out⟩
def Tryz.keysA_ren : Go.Shelf.Ren := ⟨fun | 7 => 60 | 10 => 81 | n => n, fun | 23 => 92 | 26 => 2 | 3 => 102 | 28 => 100 | 0 => 0 | 27 => 99 | 33 => 126 | 4 => 4 | n => n, fun | n => n⟩
theorem Tryz.keysA : Go.Proofs.SlLaysZI.n7 Tryz.prog Tryz.keysA_ren := {
  mixed := by kernel_rfl
  f7 := ⟨Tryz.f60.name, by decide, Tryz.func60.trans (congrArg some (by kernel_rfl))⟩
  f10 := ⟨Tryz.f81.name, by decide, Tryz.func81.trans (congrArg some (by kernel_rfl))⟩
  t0 := Tryz.underlying0
  a0 := Tryz.isAgg0
  z0 := Tryz.sizeOf0
  v0 := Tryz.zeroValue0
  t4 := Tryz.underlying4
  a4 := Tryz.isAgg4
  z4 := Tryz.sizeOf4
  v4 := Tryz.zeroValue4
  t23 := Tryz.underlying92
  a23 := Tryz.isAgg92
  z23 := Tryz.sizeOf92
  v23 := Tryz.zeroValue92
  t26 := Tryz.underlying2
  a26 := Tryz.isAgg2
  z26 := Tryz.sizeOf2
  v26 := Tryz.zeroValue2
  t27 := Tryz.underlying99
  a27 := Tryz.isAgg99
  z27 := Tryz.sizeOf99
  v27 := Tryz.zeroValue99
  t28 := Tryz.underlying100
  a28 := Tryz.isAgg100
  z28 := Tryz.sizeOf100
  v28 := Tryz.zeroValue100
  t33 := Tryz.underlying126
  a33 := Tryz.isAgg126
  z33 := Tryz.sizeOf126
  v33 := Tryz.zeroValue126 }
def Tryz.keysB_ren : Go.Shelf.Ren := ⟨fun | 7 => 61 | 10 => 82 | n => n, fun | 23 => 90 | 26 => 2 | 3 => 95 | 28 => 100 | 0 => 0 | 27 => 99 | 33 => 126 | 4 => 4 | n => n, fun | n => n⟩
theorem Tryz.keysB : Go.Proofs.SlLaysZI.n7 Tryz.prog Tryz.keysB_ren := {
  mixed := by kernel_rfl
  f7 := ⟨Tryz.f61.name, by decide, Tryz.func61.trans (congrArg some (by kernel_rfl))⟩
  f10 := ⟨Tryz.f82.name, by decide, Tryz.func82.trans (congrArg some (by kernel_rfl))⟩
  t0 := Tryz.underlying0
  a0 := Tryz.isAgg0
  z0 := Tryz.sizeOf0
  v0 := Tryz.zeroValue0
  t4 := Tryz.underlying4
  a4 := Tryz.isAgg4
  z4 := Tryz.sizeOf4
  v4 := Tryz.zeroValue4
  t23 := Tryz.underlying90
  a23 := Tryz.isAgg90
  z23 := Tryz.sizeOf90
  v23 := Tryz.zeroValue90
  t26 := Tryz.underlying2
  a26 := Tryz.isAgg2
  z26 := Tryz.sizeOf2
  v26 := Tryz.zeroValue2
  t27 := Tryz.underlying99
  a27 := Tryz.isAgg99
  z27 := Tryz.sizeOf99
  v27 := Tryz.zeroValue99
  t28 := Tryz.underlying100
  a28 := Tryz.isAgg100
  z28 := Tryz.sizeOf100
  v28 := Tryz.zeroValue100
  t33 := Tryz.underlying126
  a33 := Tryz.isAgg126
  z33 := Tryz.sizeOf126
  v33 := Tryz.zeroValue126 }
def Tryz.keysC_ren : Go.Shelf.Ren := ⟨fun | 7 => 62 | 10 => 83 | n => n, fun | 23 => 91 | 26 => 2 | 3 => 2 | 28 => 100 | 0 => 0 | 27 => 99 | 33 => 126 | 4 => 4 | n => n, fun | n => n⟩
theorem Tryz.keysC : Go.Proofs.SlLaysZI.n7 Tryz.prog Tryz.keysC_ren := {
  mixed := by kernel_rfl
  f7 := ⟨Tryz.f62.name, by decide, Tryz.func62.trans (congrArg some (by kernel_rfl))⟩
  f10 := ⟨Tryz.f83.name, by decide, Tryz.func83.trans (congrArg some (by kernel_rfl))⟩
  t0 := Tryz.underlying0
  a0 := Tryz.isAgg0
  z0 := Tryz.sizeOf0
  v0 := Tryz.zeroValue0
  t4 := Tryz.underlying4
  a4 := Tryz.isAgg4
  z4 := Tryz.sizeOf4
  v4 := Tryz.zeroValue4
  t23 := Tryz.underlying91
  a23 := Tryz.isAgg91
  z23 := Tryz.sizeOf91
  v23 := Tryz.zeroValue91
  t26 := Tryz.underlying2
  a26 := Tryz.isAgg2
  z26 := Tryz.sizeOf2
  v26 := Tryz.zeroValue2
  t27 := Tryz.underlying99
  a27 := Tryz.isAgg99
  z27 := Tryz.sizeOf99
  v27 := Tryz.zeroValue99
  t28 := Tryz.underlying100
  a28 := Tryz.isAgg100
  z28 := Tryz.sizeOf100
  v28 := Tryz.zeroValue100
  t33 := Tryz.underlying126
  a33 := Tryz.isAgg126
  z33 := Tryz.sizeOf126
  v33 := Tryz.zeroValue126 }
def Tryz.sortedA_ren : Go.Shelf.Ren := ⟨fun | 6 => 59 | 8 => 79 | 9 => 80 | 11 => 108 | 13 => 110 | 12 => 109 | 23 => 124 | 24 => 125 | 14 => 115 | 15 => 116 | 16 => 117 | 17 => 118 | 18 => 119 | 19 => 120 | 20 => 121 | 21 => 122 | 22 => 123 | 25 => 126 | 26 => 127 | 27 => 128 | 28 => 129 | 29 => 130 | 30 => 131 | 31 => 132 | n => n, fun | 26 => 2 | 28 => 100 | 24 => 28 | 0 => 0 | 3 => 3 | 37 => 157 | 48 => 172 | 50 => 174 | 4 => 4 | 40 => 164 | 39 => 163 | 45 => 169 | 5 => 5 | 9 => 9 | 51 => 175 | 55 => 179 | 57 => 181 | 58 => 182 | 33 => 126 | n => n, fun | n => n⟩
theorem Tryz.sortedA : Go.Proofs.SlLaysZI.n6 Tryz.prog Tryz.sortedA_ren := {
  mixed := by kernel_rfl
  f6 := ⟨Tryz.f59.name, by decide, Tryz.func59.trans (congrArg some (by kernel_rfl))⟩
  f8 := ⟨Tryz.f79.name, by decide, Tryz.func79.trans (congrArg some (by kernel_rfl))⟩
  f11 := ⟨Tryz.f108.name, by decide, Tryz.func108.trans (congrArg some (by kernel_rfl))⟩
  t0 := Tryz.underlying0
  a0 := Tryz.isAgg0
  z0 := Tryz.sizeOf0
  v0 := Tryz.zeroValue0
  t24 := Tryz.underlying28
  a24 := Tryz.isAgg28
  z24 := Tryz.sizeOf28
  v24 := Tryz.zeroValue28
  t26 := Tryz.underlying2
  a26 := Tryz.isAgg2
  z26 := Tryz.sizeOf2
  v26 := Tryz.zeroValue2
  t28 := Tryz.underlying100
  a28 := Tryz.isAgg100
  z28 := Tryz.sizeOf100
  v28 := Tryz.zeroValue100
  i26 := by kernel_rfl }
def Tryz.sortA_ren : Go.Shelf.Ren := ⟨fun | 5 => 80 | 8 => 110 | 7 => 109 | 19 => 124 | 20 => 125 | 10 => 115 | 11 => 116 | 12 => 117 | 13 => 118 | 14 => 119 | 15 => 120 | 16 => 121 | 17 => 122 | 18 => 123 | 30 => 126 | 31 => 127 | 32 => 128 | 33 => 129 | 34 => 130 | 35 => 131 | 40 => 132 | n => n, fun | 23 => 28 | 25 => 2 | 3 => 3 | 32 => 157 | 22 => 28 | 0 => 0 | 44 => 172 | 46 => 174 | 4 => 4 | 36 => 164 | 35 => 163 | 41 => 169 | 5 => 5 | 9 => 9 | 53 => 175 | 57 => 179 | 63 => 181 | 64 => 182 | n => n, fun | n => n⟩
theorem Tryz.sortA : Go.Proofs.SlLaysM.n5 Tryz.prog Tryz.sortA_ren := {
  mixed := by kernel_rfl
  f5 := ⟨Tryz.f80.name, by decide, Tryz.func80.trans (congrArg some (by kernel_rfl))⟩
  f7 := ⟨Tryz.f109.name, by decide, Tryz.func109.trans (congrArg some (by kernel_rfl))⟩
  f8 := Tryz.func110.trans (congrArg some (by kernel_rfl))
  f10 := ⟨Tryz.f115.name, by decide, Tryz.func115.trans (congrArg some (by kernel_rfl))⟩
  f11 := ⟨Tryz.f116.name, by decide, Tryz.func116.trans (congrArg some (by kernel_rfl))⟩
  f12 := ⟨Tryz.f117.name, by decide, Tryz.func117.trans (congrArg some (by kernel_rfl))⟩
  f13 := ⟨Tryz.f118.name, by decide, Tryz.func118.trans (congrArg some (by kernel_rfl))⟩
  f14 := ⟨Tryz.f119.name, by decide, Tryz.func119.trans (congrArg some (by kernel_rfl))⟩
  f15 := ⟨Tryz.f120.name, by decide, Tryz.func120.trans (congrArg some (by kernel_rfl))⟩
  f16 := ⟨Tryz.f121.name, by decide, Tryz.func121.trans (congrArg some (by kernel_rfl))⟩
  f17 := ⟨Tryz.f122.name, by decide, Tryz.func122.trans (congrArg some (by kernel_rfl))⟩
  f18 := ⟨Tryz.f123.name, by decide, Tryz.func123.trans (congrArg some (by kernel_rfl))⟩
  f19 := Tryz.func124.trans (congrArg some (by kernel_rfl))
  f20 := Tryz.func125.trans (congrArg some (by kernel_rfl))
  f30 := ⟨Tryz.f126.name, by decide, Tryz.func126.trans (congrArg some (by kernel_rfl))⟩
  f31 := Tryz.func127.trans (congrArg some (by kernel_rfl))
  f32 := Tryz.func128.trans (congrArg some (by kernel_rfl))
  f33 := ⟨Tryz.f129.name, by decide, Tryz.func129.trans (congrArg some (by kernel_rfl))⟩
  f34 := ⟨Tryz.f130.name, by decide, Tryz.func130.trans (congrArg some (by kernel_rfl))⟩
  f35 := ⟨Tryz.f131.name, by decide, Tryz.func131.trans (congrArg some (by kernel_rfl))⟩
  f40 := ⟨Tryz.f132.name, by decide, Tryz.func132.trans (congrArg some (by kernel_rfl))⟩
  t0 := Tryz.underlying0
  a0 := Tryz.isAgg0
  z0 := Tryz.sizeOf0
  v0 := Tryz.zeroValue0
  t3 := Tryz.underlying3
  a3 := Tryz.isAgg3
  z3 := Tryz.sizeOf3
  v3 := Tryz.zeroValue3
  t4 := Tryz.underlying4
  a4 := Tryz.isAgg4
  z4 := Tryz.sizeOf4
  v4 := Tryz.zeroValue4
  t5 := Tryz.underlying5
  a5 := Tryz.isAgg5
  z5 := Tryz.sizeOf5
  v5 := Tryz.zeroValue5
  t9 := Tryz.underlying9
  a9 := Tryz.isAgg9
  z9 := Tryz.sizeOf9
  v9 := Tryz.zeroValue9
  t22 := Tryz.underlying28
  a22 := Tryz.isAgg28
  z22 := Tryz.sizeOf28
  v22 := Tryz.zeroValue28
  t23 := Tryz.underlying28
  a23 := Tryz.isAgg28
  z23 := Tryz.sizeOf28
  v23 := Tryz.zeroValue28
  t25 := Tryz.underlying2
  a25 := Tryz.isAgg2
  z25 := Tryz.sizeOf2
  v25 := Tryz.zeroValue2
  t32 := Tryz.underlying157
  a32 := Tryz.isAgg157
  z32 := Tryz.sizeOf157
  v32 := Tryz.zeroValue157
  t35 := Tryz.underlying163
  a35 := Tryz.isAgg163
  z35 := Tryz.sizeOf163
  v35 := Tryz.zeroValue163
  t36 := Tryz.underlying164
  a36 := Tryz.isAgg164
  z36 := Tryz.sizeOf164
  v36 := Tryz.zeroValue164
  t41 := Tryz.underlying169
  a41 := Tryz.isAgg169
  z41 := Tryz.sizeOf169
  v41 := Tryz.zeroValue169
  t44 := Tryz.underlying172
  a44 := Tryz.isAgg172
  z44 := Tryz.sizeOf172
  v44 := Tryz.zeroValue172
  t46 := Tryz.underlying174
  a46 := Tryz.isAgg174
  z46 := Tryz.sizeOf174
  v46 := Tryz.zeroValue174
  t53 := Tryz.underlying175
  a53 := Tryz.isAgg175
  z53 := Tryz.sizeOf175
  v53 := Tryz.zeroValue175
  t57 := Tryz.underlying179
  a57 := Tryz.isAgg179
  z57 := Tryz.sizeOf179
  v57 := Tryz.zeroValue179
  t63 := Tryz.underlying181
  a63 := Tryz.isAgg181
  z63 := Tryz.sizeOf181
  v63 := Tryz.zeroValue181
  t64 := Tryz.underlying182
  a64 := Tryz.isAgg182
  z64 := Tryz.sizeOf182
  v64 := Tryz.zeroValue182 }
def blind (v : Value) : Option (DataW Unit × List MemPlace) := some (.nil, [])
theorem key_of {P : Program} {K : TypeId} (hk : P.underlying K = some (.int .i64)) {x : Int} (hx : -9223372036854775808 ≤ x ∧ x ≤ 9223372036854775807) : keyOf P K (.int .i64 x) = some (.int .i64 x) := by
  have hw : (Lit.int .i64 x).wf = true := by
    have h1 : IntKind.i64.min = -9223372036854775808 := rfl
    have h2 : IntKind.i64.max = 9223372036854775807 := rfl
    simp only [Lit.wf, h1, h2, Bool.and_eq_true, decide_eq_true_eq]
    exact hx
  simp [keyOf, hk, mapKey, hw]
theorem owns_of {P : Program} {K : TypeId} (hk : P.underlying K = some (.int .i64)) {w : World} {B ck : Nat} {kv : List KV} (hb : MapB w B kv ck) (hn : KVok kv ck) (hl : kv.length ≤ maxLen) (hx : ∀ e ∈ kv, -9223372036854775808 ≤ e.1 ∧ e.1 ≤ 9223372036854775807) :
    ∃ D : DataW Unit, w.ownsMap P K blind B kv.length D ∧ (intKeys D).Perm (kv.map (·.1)) ∧ Maps.size D = kv.length := by
  have fG : ∀ e ∈ kv, Go.WideElems.rd P K blind (entI e) = some (.int .i64 e.1, .nil) := fun e he => by
    simp [Go.WideElems.rd, entI, key_of hk (hx e he), blind]
  have uS : (ents kv).map (Go.WideElems.rg P K blind) = kv.map fun e => (Lit.int .i64 e.1, (DataW.nil : DataW Unit)) := by
    unfold ents
    rw [List.map_map]
    apply List.map_congr_left
    intro e he
    simp [Function.comp, Go.WideElems.rg, fG e he]
  refine ⟨_, ⟨(ents kv).toArray, ck, hb, ⟨by simpa [ents] using hl, ⟨?_, ?_, ?_⟩, ?_⟩, by simp [ents], rfl⟩, ?_, ?_⟩
  · intro x pQ
    simp only [ents, List.mem_map] at pQ
    obtain ⟨e, he, rfl⟩ := pQ
    exact hn.lt e he
  · have : (ents kv).toArray.toList.map (·.born) = kv.map (·.2.2) := by simp [ents, Function.comp_def, entI]
    rw [this]
    exact hn.stamps
  · have : (ents kv).toArray.toList.map (·.key) = (kv.map (·.1)).map (Value.int .i64) := by simp [ents, Function.comp_def, entI]
    rw [this]
    exact List.Pairwise.map _ (fun a b h e => h (by simpa using e)) hn.keys
  · intro x pQ
    simp only [ents, List.mem_map] at pQ
    obtain ⟨e, he, rfl⟩ := pQ
    exact ⟨_, fG e he⟩
  · show (List.map _ (List.foldr _ [] (List.map _ (ents kv).toArray.toList))).Perm _
    rw [show (ents kv).toArray.toList = ents kv from rfl, uS]
    refine ((Go.WideShapes.sorted_perm _).map _).trans ?_
    rw [List.map_map]
    exact List.Perm.refl _
  · show (List.foldr _ [] (List.map _ (ents kv).toArray.toList)).length = _
    rw [(Go.WideShapes.sorted_perm _).length_eq]
    simp [ents]
theorem same_below {w w' : World} (h : Below w.heap.size w w') : Same w w' := ⟨h.os, h.tape, h.output, h.size, fun k hk _ => h.block k hk⟩
def sortI (l : List Int) : List Int := l.mergeSort (fun x y => decide (x ≤ y))
theorem sorts8 (m : Nat) : AnyZI.SortsIn Tryz.prog Tryz.sortedA_ren Fence.wide m :=
  ⟨fun blk off cap ss W hH Kn i1 => callsIn_wide.2 (AnyM.slices_Sort_int Tryz.sortA blk off cap ss W hH Kn i1),
   fun p cap W => callsIn_wide.2 (AnyM.slices_Sort_int_none Tryz.sortA p cap W)⟩
theorem keysA_any (B : Option Nat) (w : World) : Calls Tryz.prog 60 #[.map B] w fun e w' => e = .returned (.func (.func 81) #[] #[.pointer (some ⟨w.heap.size, 0, none⟩)]) ∧ w' = w.alloc (.cells #[.map B] 92) :=
  (callsIn_wide (n := 5)).1 (AnyZI.keys_in Tryz.keysA Fence.wide 5 trivial rfl B w)
theorem keysB_any (B : Option Nat) (w : World) : Calls Tryz.prog 61 #[.map B] w fun e w' => e = .returned (.func (.func 82) #[] #[.pointer (some ⟨w.heap.size, 0, none⟩)]) ∧ w' = w.alloc (.cells #[.map B] 90) :=
  (callsIn_wide (n := 5)).1 (AnyZI.keys_in Tryz.keysB Fence.wide 5 trivial rfl B w)
theorem keysC_any (B : Option Nat) (w : World) : Calls Tryz.prog 62 #[.map B] w fun e w' => e = .returned (.func (.func 83) #[] #[.pointer (some ⟨w.heap.size, 0, none⟩)]) ∧ w' = w.alloc (.cells #[.map B] 91) :=
  (callsIn_wide (n := 5)).1 (AnyZI.keys_in Tryz.keysC Fence.wide 5 trivial rfl B w)
end Go.Proofs.YtepdakgfioffgaaGreat
