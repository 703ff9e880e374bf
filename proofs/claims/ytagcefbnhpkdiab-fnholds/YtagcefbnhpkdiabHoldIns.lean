/-
  slices.Insert of one hold into holds of one's own.
-/
import Derived.Test.YtagcefbnhpkdiabHoldFind
import Derived.Test.YtagcefbnhpkdiabCopyM
import Derived.Lib.Overlaps
import Derived.Lib.AppendZerosOnto
import Derived.Laws.Externs
namespace Go.Proofs.Ytagcefbnhpkdiab
set_option maxRecDepth 100000
set_option maxHeartbeats 4000000
open Go.RowKit
set_option linter.unusedVariables false
set_option linter.unusedSimpArgs false

theorem OwnF.blk {e : TypeId} {w : World} {g n c : Nat} {bs : List Int} (h : OwnF 3 e w g n c bs) : ∃ xs, Blk w g e xs ∧ xs.length = c * 3 ∧ xs.take (n * 3) = vals .i64 bs ∧ n ≤ c ∧ c ≤ maxLen := by
  rcases h.2 with ⟨h2, _⟩ | ⟨g', cap, cur, hv, hb, hgg, hc, hm, hs, ht⟩
  · cases h2
  · injection hv with a1 a2 a3
    injection a1 with a1
    injection a1 with a1
    subst a1 a3
    exact ⟨cur.toList, by unfold Blk; rw [Array.toArray_toList]; exact hgg, by rw [Array.length_toList]; exact hs, ht, hc, hm⟩
theorem ownF_of_blk {e : TypeId} {w : World} {g n c : Nat} {xs : List Value} {bs : List Int} (hb : Blk w g e xs) (hl : xs.length = c * 3) (hn : n ≤ c) (hc : c ≤ maxLen) (ht : xs.take (n * 3) = vals .i64 bs) : OwnF 3 e w g n c bs := by
  refine ⟨?_, .inr ⟨g, c, xs.toArray, rfl, Nat.zero_le _, hb, hn, hc, ?_, ?_⟩⟩
  · rw [← ht, List.length_take, hl]
    have : n * 3 ≤ c * 3 := Nat.mul_le_mul_right 3 hn
    omega
  · rw [List.size_toArray]; exact hl
  · rw [List.toList_toArray]; exact ht

/-- At the end: append. -/
theorem insertEnd_any (xa : Option Addr) (n c vb : Nat) (bs : List Int) (p q r : Int) (w : World) (hn : n ≤ 1048576) (ho : OwnL w (FR.rows 3 ⟨53, xa, n, c, bs⟩)) (hb : Blk w vb 53 [.int .i64 p, .int .i64 q, .int .i64 r]) :
    Calls Try.prog 58 #[.slice xa n c, .int .i64 n, .slice (some ⟨vb, 0, none⟩) 1 1] w fun e w' => ∃ a' c', e = .returned (.slice a' (n + 1) c') ∧ OwnL w' (FR.rows 3 ⟨53, a', n + 1, c', bs ++ [p, q, r]⟩) ∧ (∀ b, FootL (FR.rows 3 ⟨53, a', n + 1, c', bs ++ [p, q, r]⟩) b → FootL (FR.rows 3 ⟨53, xa, n, c, bs⟩) b ∨ w.heap.size ≤ b) ∧ Kept (FootL (FR.rows 3 ⟨53, xa, n, c, bs⟩)) w w' := by
  obtain ⟨i0, hi, hz0, hz1, hz2⟩ := info_parts Try.infoHold
  have HO := (show Hid (w.ownsRow 0 53 3 (.slice xa n c) n (vals .i64 bs)) from FR.own_one ho)
  have hnc : n ≤ c := by
    rcases FR.own_form ho with ⟨h1, _, _⟩ | ⟨g, _, h2, _⟩
    · dsimp only at h1; omega
    · exact h2
  have hcm : c ≤ 9223372036854775807 := by
    rcases FR.own_form ho with ⟨_, _, h1⟩ | ⟨g, _, _, h2, _⟩
    · dsimp only at h1; omega
    · dsimp only at h2; unfold maxLen at h2; omega
  have hnone : xa = none → n = 0 := by
    intro h
    rcases FR.own_form ho with ⟨h1, _, _⟩ | ⟨g, h1, _⟩
    · exact h1
    · dsimp only at h1; rw [h] at h1; cases h1
  have HN := hid hnone
  have HB := hid hb
  have HFT : Hid (∀ b, FootL (FR.rows 3 ⟨53, xa, n, c, bs⟩) b ↔ (Value.slice xa n c).ownBlock = some b) := fun b => FootL_one _ _
  clear ho hb hnone
  have fin : ∀ (g5 cap5 : Nat) (w5 : World), Hid (w5.ownsRow 0 53 3 (.slice (some ⟨g5, 0, none⟩) (n + 1) cap5) (n + 1) (vals .i64 bs ++ [.int .i64 p, .int .i64 q, .int .i64 r])) → Hid (w.grownBy w5 (Value.slice xa n c).ownBlock) → Hid ((Value.slice xa n c).ownBlock = some g5 ∨ g5 = w.heap.size) →
      ∃ a' c', Ending.returned (.slice (some ⟨g5, 0, none⟩) (n + 1) cap5) = .returned (.slice a' (n + 1) c') ∧ OwnL w5 (FR.rows 3 ⟨53, a', n + 1, c', bs ++ [p, q, r]⟩) ∧ (∀ b, FootL (FR.rows 3 ⟨53, a', n + 1, c', bs ++ [p, q, r]⟩) b → FootL (FR.rows 3 ⟨53, xa, n, c, bs⟩) b ∨ w.heap.size ≤ b) ∧ Kept (FootL (FR.rows 3 ⟨53, xa, n, c, bs⟩)) w w5 := fun g5 cap5 w5 H1 H2 H3 =>
    ⟨_, _, rfl, (OwnF.of_app3 H1.out).out, fun b hb => by
      have h1 := FootL_fr hb
      subst h1
      rcases H3.out with h | h
      · exact .inl ((HFT.out _).2 h)
      · exact .inr (by omega), (Kept.refl _ _).grown H2.out (fun i e => .inr ((HFT.out i).2 e))⟩
  by_cases hcn : c = n
  · obtain rfl : n = c := hcn.symm
    go_enter Try.func58, Try.ntmps58
    go_wp2_with (at_builtin; go_loud (refine wpList_append_lies _ rfl (.tmp 23) (.tmp 24) 24 rfl 0 53 i0 _ 3 24 Try.underlying24 hi hz0 hz1 hz2 rfl (by omega) (.slice xa n n) n (vals .i64 bs) rfl (by exact HO.out) ⟨vb, 0, none⟩ 1 1 [.int .i64 p, .int .i64 q, .int .i64 r] rfl rfl (World.news_of_block (cs := #[.int .i64 p, .int .i64 q, .int .i64 r]) (t := 53) (fr := (0, 0)) (by exact HB.out)) (by simp [Value.oneCell']) (by omega) (by unfold maxLen; omega) (by omega) (Nat.zero_le _) w.heap.size rfl ?_); intro g5 cap5 w5 hown5 hgrow5 hat5 hlt5; have H1 := hid hown5; have H2 := hid hgrow5; have H3 := hid hat5; clear hown5 hgrow5 hat5)
    go_ret
    exact fin _ _ _ H1 H2 H3
  · have hcn' : ¬ (n = c) := fun h => hcn h.symm
    go_enter Try.func58, Try.ntmps58
    go_wp2_with (at_builtin; go_loud (refine wpList_append_lies _ rfl (.tmp 23) (.tmp 24) 24 rfl 0 53 i0 _ 3 24 Try.underlying24 hi hz0 hz1 hz2 rfl (by omega) (.slice xa n c) n (vals .i64 bs) rfl (by exact HO.out) ⟨vb, 0, none⟩ 1 1 [.int .i64 p, .int .i64 q, .int .i64 r] rfl rfl (World.news_of_block (cs := #[.int .i64 p, .int .i64 q, .int .i64 r]) (t := 53) (fr := (0, 0)) (by exact HB.out)) (by simp [Value.oneCell']) (by omega) (by unfold maxLen; omega) (by omega) (Nat.zero_le _) w.heap.size rfl ?_); intro g5 cap5 w5 hown5 hgrow5 hat5 hlt5; have H1 := hid hown5; have H2 := hid hgrow5; have H3 := hid hat5; clear hown5 hgrow5 hat5)
    go_ret
    exact fin _ _ _ H1 H2 H3
theorem lay2 (xs V D : List Value) (o v : Nat) (hv : V.length = v) (hl : o + v + D.length ≤ xs.length) : lay (lay xs (o + v) D) o V = xs.take o ++ (V ++ (D ++ xs.drop (o + v + D.length))) := by
  unfold lay
  rw [List.take_append_of_le_length (by rw [List.length_take]; omega), List.take_take, show min o (o + v) = o from by omega, hv, List.drop_left' (by rw [List.length_take]; omega)]
theorem cells_ins {xs : List Value} {bs : List Int} {n c k : Nat} {p q r : Int} (hl : xs.length = c * 3) (ht : xs.take (n * 3) = vals .i64 bs) (hb : bs.length = n * 3) (hk : k ≤ n) (hc : n + 1 ≤ c) :
    (lay (lay xs (k * 3 + 3) (vals .i64 (bs.drop (k * 3)))) (k * 3) [.int .i64 p, .int .i64 q, .int .i64 r]).take ((n + 1) * 3) = vals .i64 (bs.take (k * 3) ++ (p :: q :: r :: bs.drop (k * 3))) := by
  have hd : (vals .i64 (bs.drop (k * 3))).length = n * 3 - k * 3 := by rw [vals_length, List.length_drop, hb]
  rw [lay2 xs [.int .i64 p, .int .i64 q, .int .i64 r] (vals .i64 (bs.drop (k * 3))) (k * 3) 3 rfl (by omega)]
  have e1 : xs.take (k * 3) = vals .i64 (bs.take (k * 3)) := by
    have h := congrArg (List.take (k * 3)) ht
    rw [List.take_take, show min (k * 3) (n * 3) = k * 3 from by omega] at h
    rw [h]
    simp [vals]
  rw [e1, ← List.append_assoc, ← List.append_assoc, List.take_append_of_le_length (by simp [hd, vals_length, hb]; omega), List.take_of_length_le (by simp [hd, vals_length, hb]; omega)]
  simp [vals]

/-- There is room: in place. -/
theorem insertRoom_any (g n c k vb : Nat) (bs : List Int) (p q r : Int) (w : World) (hn : n ≤ 1048576) (hk : k < n) (hc : n + 1 ≤ c) (ho : OwnF 3 53 w g n c bs) (hb : Blk w vb 53 [.int .i64 p, .int .i64 q, .int .i64 r]) (hap : vb ≠ g) :
    Calls Try.prog 58 #[.slice (some ⟨g, 0, none⟩) n c, .int .i64 k, .slice (some ⟨vb, 0, none⟩) 1 1] w fun e w' => e = .returned (.slice (some ⟨g, 0, none⟩) (n + 1) c) ∧ OwnF 3 53 w' g (n + 1) c (bs.take (k * 3) ++ (p :: q :: r :: bs.drop (k * 3))) ∧ Kept (fun b => b = g) w w' := by
  obtain ⟨i0, hi, hz0, hz1, hz2⟩ := info_parts Try.infoHold
  have hsz : (Try.prog.info? 53).map (·.size) = some 3 := by rw [hi]; simp [hz1]
  have hszr : ∀ w : World, (Go.sizeOf 53).run Try.prog w = .ok 3 w := fun w => by simp [Go.sizeOf, typeInfo, hi, hz1]
  have hbl := ho.len
  obtain ⟨xs, hx, hxl, hxt, hnc, hcm⟩ := ho.blk
  unfold maxLen at hcm
  have hov : ∀ lb cb, (callFunc 75 #[.slice (some ⟨vb, 0, none⟩) 1 1, .slice (some ⟨g, (k + 1) * 3, none⟩) lb cb]).run Try.prog w = .ok (.value (.bool false)) w := fun lb cb => by
    rw [run_callFunc_extern Try.func75 (by kernel_rfl) (by kernel_rfl) (by kernel_rfl) (e := Extern.SlicesOverlaps.overlaps #[24, 24] #[4]) (by kernel_rfl),
      Lib.run_overlaps_apart w 24 4 53 Try.underlying24 3 hszr ⟨vb, 0, none⟩ ⟨g, (k + 1) * 3, none⟩ 1 1 lb cb hap 53 53 3 xs.length (by unfold World.shape?; rw [show w.heap[vb]? = _ from hb]; rfl) (by unfold World.shape?; rw [show w.heap[g]? = _ from hx]; simp) (by omega) (hb.frozen _) (hb.frozen _)]
    rfl
  have HX := hid hx
  have HB := hid hb
  have HT := hid hxt
  have HXL := hid hxl
  have HBL := hid hbl
  have hw1 : IntKind.i64.wrap ((k : Int) + 1) = ((k + 1 : Nat) : Int) := by rw [IntKind.wrap_i64]; omega
  have hw2 : IntKind.i64.wrap ((n : Int) + 1) = ((n + 1 : Nat) : Int) := by rw [IntKind.wrap_i64]; omega
  have h1 : ¬ ((k : Int) = (n : Int)) := by omega
  have h2 : ¬ ((c : Int) < (n : Int) + 1) := by omega
  clear ho hx hb hxt hxl hbl
  go_enter Try.func58, Try.ntmps58
  go_wp2_with (simp only [hov])
  have hS : (fun _ : World => True) w.drew := trivial
  refine wp_region_V (fun _ : World => True) 99 9 rfl (by kernel_rfl) ?_
  refine tk 0 69 hS ?_
  refine tk 1 70 hS ?_
  refine tk 2 71 hS ?_
  refine tk 3 72 hS ?_
  refine tkV 4 73 (.slice (some ⟨g, (k + 1) * 3, none⟩) (n - k) (c - (k + 1))) hS ?_ (hy := by intro w hSw; go_simp; rw [if_pos (by omega), if_neg (by omega)])
  refine tk 5 74 hS ?_
  refine tk 6 75 hS ?_
  refine tkV 7 76 (.slice (some ⟨g, k * 3, none⟩) (n + 1 - k) (c - k)) hS ?_ (hy := by intro w hSw; go_simp; rw [if_pos (by omega), if_neg (by omega)])
  refine wpAnyV_one (i := 8) (by kernel_rfl) rfl (fun K hK => ?_)
  refine step_copy_m (B := g) (off := (k + 1) * 3) (dl := n - k) (dc := c - (k + 1)) (sl := n + 1 - k) (sc := c - k) (m := 3) (c := n - k) (ad := ⟨g, k * 3, none⟩) rfl (.tmp 73) (.tmp 76) 24 rfl Try.underlying24 hsz (vals .i64 (bs.drop (k * 3))) (HX.out.drew) rfl rfl (by simp only [Nat.min_def]; split <;> omega) (by rw [vals_length, List.length_drop, HBL.out]; omega) (fun j v hj => ?_) (by rw [vals_length, List.length_drop, HBL.out, HXL.out]; omega) vals_one ?_
  · rw [Addr.add_lit]
    have hj2 : j < (vals .i64 (bs.drop (k * 3))).length := (List.getElem?_eq_some_iff.1 hj).1
    rw [vals_length, List.length_drop, HBL.out] at hj2
    rw [HX.out.drew.cell, ← hj]
    have h := (show (xs.take (n * 3))[k * 3 + j]? = (vals .i64 bs)[k * 3 + j]? from by rw [HT.out])
    rw [List.getElem?_take_of_lt (by omega)] at h
    rw [h]
    simp [vals]
  have hfit : (k + 1) * 3 + (vals .i64 (bs.drop (k * 3))).length ≤ xs.length := by rw [vals_length, List.length_drop, HBL.out, HXL.out]; omega
  have HX1 := (show Hid (Blk (w.drew.setCells g ((k + 1) * 3) (vals .i64 (bs.drop (k * 3)))) g 53 (lay xs ((k + 1) * 3) (vals .i64 (bs.drop (k * 3))))) from Blk.setCells _ _ HX.out.drew hfit)
  have HK1 := (show Hid (Kept (fun b => b = g) w (w.drew.setCells g ((k + 1) * 3) (vals .i64 (bs.drop (k * 3))))) from Kept.setCells (R := fun b => b = g) (.inr rfl) _ _ (Kept.refl _ _).drew)
  have HL1 := (show Hid ((lay xs ((k + 1) * 3) (vals .i64 (bs.drop (k * 3)))).length = c * 3) from (lay_length _ _ _ hfit).trans HXL.out)
  generalize w.drew.setCells g ((k + 1) * 3) (vals .i64 (bs.drop (k * 3))) = w1 at HX1 HK1 ⊢
  have HB1 := (show Hid (Blk w1 vb 53 [.int .i64 p, .int .i64 q, .int .i64 r]) from HB.out.kept HK1.out hap)
  refine hK.out _ _ (fun _ => trivial) ?_
  clear hK K
  try simp only [Act.put, sA, s0, sS]
  refine wpAnyV_done (by kernel_rfl) ?_
  have hcp : ∀ ty, (Builtin.copy_ #[24, 24] ty #[.slice (some ⟨g, k * 3, none⟩) (n + 1 - k) (c - k), .slice (some ⟨vb, 0, none⟩) 1 1]).run Try.prog w1 = .ok (goInt 1) (w1.setCells g (k * 3) [.int .i64 p, .int .i64 q, .int .i64 r]) := fun ty =>
    run_copy_m w1 _ _ ty 53 3 g (k * 3) (n + 1 - k) (c - k) ⟨vb, 0, none⟩ 1 1 1 _ Try.underlying24 hsz (by simp only [Nat.min_def]; split <;> omega) rfl (fun j v hj => by rw [Addr.add_lit, Nat.zero_add, HB1.out.cell]; exact hj) (fun j hj => by rw [HX1.out.cell, List.getElem?_eq_getElem (by rw [HL1.out]; simp at hj; omega)]; rfl) (fun j _ => HX1.out.frozen _) (by simp [Value.oneCell'])
  go_wp2
  have hfit2 : k * 3 + [Value.int .i64 p, .int .i64 q, .int .i64 r].length ≤ (lay xs ((k + 1) * 3) (vals .i64 (bs.drop (k * 3)))).length := by rw [HL1.out]; simp; omega
  go_ret
  refine ⟨rfl, ?_, Kept.setCells (R := fun b => b = g) (.inr rfl) _ _ HK1.out⟩
  refine ownF_of_blk (Blk.setCells _ _ HX1.out hfit2) (by rw [lay_length _ _ _ hfit2]; exact HL1.out) (by omega) (by unfold maxLen; omega) ?_
  rw [show (k + 1) * 3 = k * 3 + 3 from by omega]
  exact cells_ins HXL.out HT.out HBL.out (by omega) (by omega)
theorem cells_ins2 {ys : List Value} {bs : List Int} {n c k : Nat} {p q r : Int} (hl : ys.length = c * 3) (ht : ys.take (k * 3) = vals .i64 (bs.take (k * 3))) (hb : bs.length = n * 3) (hk : k ≤ n) (hc : n + 1 ≤ c) :
    (lay (lay ys (k * 3) [.int .i64 p, .int .i64 q, .int .i64 r]) (k * 3 + 3) (vals .i64 (bs.drop (k * 3)))).take ((n + 1) * 3) = vals .i64 (bs.take (k * 3) ++ (p :: q :: r :: bs.drop (k * 3))) := by
  have hd : (vals .i64 (bs.drop (k * 3))).length = n * 3 - k * 3 := by rw [vals_length, List.length_drop, hb]
  have e1 : (lay ys (k * 3) [.int .i64 p, .int .i64 q, .int .i64 r]).take (k * 3 + 3) = vals .i64 (bs.take (k * 3)) ++ [.int .i64 p, .int .i64 q, .int .i64 r] := by
    unfold lay
    rw [ht, ← List.append_assoc, List.take_append_of_le_length (by simp [vals_length, hb]; omega), List.take_of_length_le (by simp [vals_length, hb]; omega)]
  have e2 : ∀ zs : List Value, zs.length = c * 3 → (lay zs (k * 3 + 3) (vals .i64 (bs.drop (k * 3)))).take ((n + 1) * 3) = zs.take (k * 3 + 3) ++ vals .i64 (bs.drop (k * 3)) := fun zs hz => by
    unfold lay
    rw [← List.append_assoc, List.take_append_of_le_length (by simp only [List.length_append, List.length_take, hd]; omega), List.take_of_length_le (by simp only [List.length_append, List.length_take, hd]; omega)]
  rw [e2 _ (by rw [lay_length _ _ _ (by simp; omega)]; exact hl), e1]
  simp [vals]
/-- There is no room: a new row. -/
theorem insertGrow_any (g n k vb : Nat) (bs : List Int) (p q r : Int) (w : World) (hn : n ≤ 1048576) (hk : k < n) (ho : OwnF 3 53 w g n n bs) (hb : Blk w vb 53 [.int .i64 p, .int .i64 q, .int .i64 r]) :
    Calls Try.prog 58 #[.slice (some ⟨g, 0, none⟩) n n, .int .i64 k, .slice (some ⟨vb, 0, none⟩) 1 1] w fun e w' => ∃ c', e = .returned (.slice (some ⟨w.heap.size, 0, none⟩) (n + 1) c') ∧ OwnF 3 53 w' w.heap.size (n + 1) c' (bs.take (k * 3) ++ (p :: q :: r :: bs.drop (k * 3))) ∧ Same w w' := by
  obtain ⟨i0, hi, hz0, hz1, hz2⟩ := info_parts Try.infoHold
  have hsz : (Try.prog.info? 53).map (·.size) = some 3 := by rw [hi]; simp [hz1]
  have hbl := ho.len
  obtain ⟨xs, hx, hxl, hxt, hnc, hcm⟩ := ho.blk
  have hlt := ho.lt
  have hcl : ∀ (wx : World), Same w wx → ∀ j v, (vals .i64 (bs.drop (k * 3)))[j]? = some v → wx.cell? ((⟨g, k * 3, none⟩ : Addr).add j) = some v := fun wx hs j v hj => by
    rw [Addr.add_lit]
    have hj2 : j < (vals .i64 (bs.drop (k * 3))).length := (List.getElem?_eq_some_iff.1 hj).1
    rw [vals_length, List.length_drop, hbl] at hj2
    have h := (show (xs.take (n * 3))[k * 3 + j]? = (vals .i64 bs)[k * 3 + j]? from by rw [hxt])
    rw [List.getElem?_take_of_lt (by omega)] at h
    rw [(hx.same hs).cell, ← hj, h]
    simp [vals]
  have hold : (Builtin.firstCells i0.size k (.slice (some ⟨g, 0, none⟩) k n)).run Try.prog w.drew = .ok (vals .i64 (bs.take (k * 3))).toArray w.drew := by
    rw [hz1]
    exact run_firstCells_some (P := Try.prog) (w := w.drew) 3 k ⟨g, 0, none⟩ k n (vals .i64 (bs.take (k * 3))) (by rw [vals_length, List.length_take]; omega) (fun j v hj => by
      rw [Addr.add_lit, Nat.zero_add]
      have hj2 : j < (vals .i64 (bs.take (k * 3))).length := (List.getElem?_eq_some_iff.1 hj).1
      rw [vals_length, List.length_take] at hj2
      have h := (show (xs.take (n * 3))[j]? = (vals .i64 bs)[j]? from by rw [hxt])
      rw [List.getElem?_take_of_lt (by omega)] at h
      rw [hx.drew.cell, ← hj, h]
      simp [vals, List.getElem?_take]
      omega)
  obtain ⟨G, hG⟩ : ∃ G, G = grownCap w (n + 1) n 53 := ⟨_, rfl⟩
  have hGn : n + 1 ≤ G := by rw [hG]; exact grownCap_ge w _ _ _
  have hGm : G ≤ 9223372036854775807 := by
    have := grownCap_le_maxLen w (n + 1) n 53 (by unfold maxLen; omega)
    rw [← hG] at this
    unfold maxLen at this
    omega
  obtain ⟨ys, hys⟩ : ∃ ys : List Value, ys = vals .i64 (bs.take (k * 3)) ++ ((Builtin.zeroCells (Value.agg #[.int .i64 0, .int .i64 0, .int .i64 0]).cells (n + 1 - k)).toList ++ (Builtin.zeroCells (Value.agg #[.int .i64 0, .int .i64 0, .int .i64 0]).cells (G - (n + 1))).toList) := ⟨_, rfl⟩
  have hyl : ys.length = G * 3 := by
    rw [hys]
    simp [Builtin.zeroCells, Value.cells, vals_length, hbl]
    omega
  have hyt : ys.take (k * 3) = vals .i64 (bs.take (k * 3)) := by
    rw [hys, List.take_append_of_le_length (by simp [vals_length, hbl]; omega), List.take_of_length_le (by simp [vals_length, hbl]; omega)]
  obtain ⟨W1, hW1⟩ : ∃ W1, W1 = w.drew.alloc (.cells ys.toArray 53) := ⟨_, rfl⟩
  have happ : ∀ ty, (Builtin.append_ #[24, 3] ty #[.slice (some ⟨g, 0, none⟩) k n, .int .i64 ((n : Int) + 1 - (k : Int))]).run Try.prog w = .ok (.slice (some ⟨w.heap.size, 0, none⟩) (n + 1) G) W1 := fun ty => by
    have h := Lib.run_append_grow_zeros (P := Try.prog) w 24 3 ty 53 i0 _ .i64 .i64 Try.underlying24 Try.underlying3 hi hz0 (some ⟨g, 0, none⟩) k n (vals .i64 (bs.take (k * 3))) hold (n + 1 - k) (by omega) (by omega) (by omega) (by omega) (by rw [hz2]; omega) (by rw [hz2, show k + (n + 1 - k) = n + 1 from by omega]; exact growslice_fits (by omega) (by omega))
    rw [show k + (n + 1 - k) = n + 1 from by omega] at h
    rw [show ((n : Int) + 1 - (k : Int)) = ((n + 1 - k : Nat) : Int) from by omega, h, hW1, hys, ← hG, Array.append_assoc]
    congr 3
    apply Array.toList_inj.1
    simp only [Array.toList_append, List.toList_toArray]
  have HY := (show Hid (Blk W1 w.heap.size 53 ys) from by rw [hW1]; exact Blk.newL w.drew ys 53)
  have HK1 := (show Hid (Same w W1) from by rw [hW1]; exact (Kept.refl _ _).drew.alloc _)
  have HB1 := (show Hid (Blk W1 vb 53 [.int .i64 p, .int .i64 q, .int .i64 r]) from hb.same HK1.out)
  have HCL := hid hcl
  have HYL := hid hyl
  have HYT := hid hyt
  have HBL := hid hbl
  have hfit : k * 3 + [Value.int .i64 p, .int .i64 q, .int .i64 r].length ≤ ys.length := by rw [hyl]; simp; omega
  obtain ⟨W2, hW2⟩ : ∃ W2, W2 = W1.setCells w.heap.size (k * 3) [.int .i64 p, .int .i64 q, .int .i64 r] := ⟨_, rfl⟩
  have hcp : ∀ ty, (Builtin.copy_ #[24, 24] ty #[.slice (some ⟨w.heap.size, k * 3, none⟩) (n + 1 - k) (G - k), .slice (some ⟨vb, 0, none⟩) 1 1]).run Try.prog W1 = .ok (goInt 1) W2 := fun ty => by
    rw [hW2]
    exact run_copy_m W1 _ _ ty 53 3 w.heap.size (k * 3) (n + 1 - k) (G - k) ⟨vb, 0, none⟩ 1 1 1 _ Try.underlying24 hsz (by simp only [Nat.min_def]; split <;> omega) rfl (fun j v hj => by rw [Addr.add_lit, Nat.zero_add, HB1.out.cell]; exact hj) (fun j hj => by rw [HY.out.cell, List.getElem?_eq_getElem (by omega)]; rfl) (fun j _ => HY.out.frozen _) (by simp [Value.oneCell'])
  have HY2 := (show Hid (Blk W2 w.heap.size 53 (lay ys (k * 3) [.int .i64 p, .int .i64 q, .int .i64 r])) from by rw [hW2]; exact Blk.setCells _ _ HY.out hfit)
  have HK2 := (show Hid (Same w W2) from by rw [hW2]; exact Kept.setCells (R := fun _ => False) (.inl (Nat.le_refl _)) _ _ HK1.out)
  have HL2 := (show Hid ((lay ys (k * 3) [.int .i64 p, .int .i64 q, .int .i64 r]).length = G * 3) from (lay_length _ _ _ hfit).trans hyl)
  have hw1 : IntKind.i64.wrap ((k : Int) + 1) = ((k + 1 : Nat) : Int) := by rw [IntKind.wrap_i64]; omega
  have hw2 : IntKind.i64.wrap ((n : Int) + 1) = (n : Int) + 1 := by rw [IntKind.wrap_i64]; omega
  have hw3 : IntKind.i64.wrap ((n : Int) + 1 - (k : Int)) = (n : Int) + 1 - (k : Int) := by rw [IntKind.wrap_i64]; omega
  have h1 : ¬ ((k : Int) = (n : Int)) := by omega
  have hkn : ¬ (n = k) := by omega
  have hGk : ¬ (G = k) := by omega
  have HAP := hid happ
  clear ho hx hb hxt hxl hbl hcl hold hG hys hyl hyt hW1 hW2 hi hz0 hz1 hz2 hfit happ hlt
  go_enter Try.func58, Try.ntmps58
  go_wp2_with (at_builtin; refine Lib.wpList_append_run _ rfl _ _ _ _ rfl _ _ rfl rfl _ _ (HAP.out _) ?_)
  have hS : (fun _ : World => True) W2.drew := trivial
  refine wp_region_V (fun _ : World => True) 99 9 rfl (by kernel_rfl) ?_
  refine tk 0 46 hS ?_
  refine tk 1 47 hS ?_
  refine tk 2 48 hS ?_
  refine tk 3 49 hS ?_
  refine tkV 4 50 (.slice (some ⟨w.heap.size, (k + 1) * 3, none⟩) (n - k) (G - (k + 1))) hS ?_ (hy := by intro w hSw; go_simp; rw [if_pos (by omega), if_neg (by omega)])
  refine tk 5 51 hS ?_
  refine tk 6 52 hS ?_
  refine tkV 7 53 (.slice (some ⟨g, k * 3, none⟩) (n - k) (n - k)) hS ?_ (hy := by intro w hSw; go_simp; intro hlt; omega)
  refine wpAnyV_one (i := 8) (by kernel_rfl) rfl (fun K hK => ?_)
  have hfit2 : (k + 1) * 3 + (vals .i64 (bs.drop (k * 3))).length ≤ (lay ys (k * 3) [.int .i64 p, .int .i64 q, .int .i64 r]).length := by rw [HL2.out, vals_length, List.length_drop, HBL.out]; omega
  refine step_copy_m (B := w.heap.size) (off := (k + 1) * 3) (dl := n - k) (dc := G - (k + 1)) (sl := n - k) (sc := n - k) (m := 3) (c := n - k) (ad := ⟨g, k * 3, none⟩) rfl (.tmp 50) (.tmp 53) 24 rfl Try.underlying24 hsz (vals .i64 (bs.drop (k * 3))) (HY2.out.drew) rfl rfl (by simp only [Nat.min_def]; split <;> omega) (by rw [vals_length, List.length_drop, HBL.out]; omega) (HCL.out _ HK2.out.drew) hfit2 vals_one ?_
  have HX1 := (show Hid (Blk (W2.drew.setCells w.heap.size ((k + 1) * 3) (vals .i64 (bs.drop (k * 3)))) w.heap.size 53 (lay (lay ys (k * 3) [.int .i64 p, .int .i64 q, .int .i64 r]) ((k + 1) * 3) (vals .i64 (bs.drop (k * 3))))) from Blk.setCells _ _ HY2.out.drew hfit2)
  have HK3 := (show Hid (Same w (W2.drew.setCells w.heap.size ((k + 1) * 3) (vals .i64 (bs.drop (k * 3))))) from Kept.setCells (R := fun _ => False) (.inl (Nat.le_refl _)) _ _ HK2.out.drew)
  generalize W2.drew.setCells w.heap.size ((k + 1) * 3) (vals .i64 (bs.drop (k * 3))) = w3 at HX1 HK3 ⊢
  refine hK.out _ _ (fun _ => trivial) ?_
  clear hK K
  try simp only [Act.put, sA, s0, sS]
  refine wpAnyV_done (by kernel_rfl) ?_
  go_wp2
  go_ret
  refine ⟨G, rfl, ?_, HK3.out⟩
  refine ownF_of_blk HX1.out (by rw [lay_length _ _ _ hfit2]; exact HL2.out) (by omega) (by unfold maxLen; omega) ?_
  rw [show (k + 1) * 3 = k * 3 + 3 from by omega]
  exact cells_ins2 HYL.out HYT.out HBL.out (by omega) (by omega)
end Go.Proofs.Ytagcefbnhpkdiab
