import Derived.Test.YtmpfpgelaipmnaaG08
import Derived.Test.YtmpfpgelaipmnaaVariad
import Derived.Test.YtmpfpgelaipmnaaTyMHoldS
import Derived.Test.YtmpfpgelaipmnaaG00
import Derived.Test.YtmpfpgelaipmnaaG04
import Derived.Lib.Overlaps
import Derived.Lib.AppendZerosOnto
import Derived.Laws.Externs
import Derived.Deep.DeepCutAuto
namespace Go.Proofs.Ytmpfpgelaipmnaa
set_option maxRecDepth 100000
set_option maxHeartbeats 4000000
open Go.RowKit
set_option linter.unusedVariables false
set_option linter.unusedSimpArgs false
theorem OwnF.blk {e : TypeId} {w : World} {g n c : Nat} {bs : List Int} (h : OwnF 3 e w g n c bs) : ∃ xs, Blk w g e xs ∧ xs.length = c * 3 ∧ xs.take (n * 3) = vals .i64 bs ∧ n ≤ c ∧ c ≤ maxLen := by
  rcases h.2 with ⟨h2, _⟩ | ⟨g', cap, cur, hv, hb, hgg, hc, hm, hs, ht⟩
  · cases h2
  · injection hv with a1 a2 a3
    injection a1 with a1
    injection a1 with a1
    subst a1 a3
    exact ⟨cur.toList, by unfold Blk; rw [Array.toArray_toList]; exact hgg, by rw [Array.length_toList]; exact hs, ht, hc, hm⟩
theorem ownF_of_blk {e : TypeId} {w : World} {g n c : Nat} {xs : List Value} {bs : List Int} (hb : Blk w g e xs) (hl : xs.length = c * 3) (hn : n ≤ c) (hc : c ≤ maxLen) (ht : xs.take (n * 3) = vals .i64 bs) : OwnF 3 e w g n c bs := by
  refine ⟨?_, .inr ⟨g, c, xs.toArray, rfl, Nat.zero_le _, hb, hn, hc, ?_, ?_⟩⟩
  · rw [← ht, List.length_take, hl]
    have : n * 3 ≤ c * 3 := Nat.mul_le_mul_right 3 hn
    omega
  · rw [List.size_toArray]; exact hl
  · rw [List.toList_toArray]; exact ht
theorem insertEnd_any (xa : Option Addr) (n c vb : Nat) (bs : List Int) (p q r : Int) (w : World) (hn : n ≤ 1048576) (ho : OwnL w (FR.rows 3 ⟨45, xa, n, c, bs⟩)) (hb : Blk w vb 45 [.int .i64 p, .int .i64 q, .int .i64 r]) :
    Calls Try.prog 45 #[.slice xa n c, .int .i64 n, .slice (some ⟨vb, 0, none⟩) 1 1] w fun e w' => ∃ a' c', e = .returned (.slice a' (n + 1) c') ∧ OwnL w' (FR.rows 3 ⟨45, a', n + 1, c', bs ++ [p, q, r]⟩) ∧ (∀ b, FootL (FR.rows 3 ⟨45, a', n + 1, c', bs ++ [p, q, r]⟩) b → FootL (FR.rows 3 ⟨45, xa, n, c, bs⟩) b ∨ w.heap.size ≤ b) ∧ Kept (FootL (FR.rows 3 ⟨45, xa, n, c, bs⟩)) w w' := by
  obtain ⟨i0, hi, hz0, hz1, hz2⟩ := info_parts Try.infoHold
  have HO := (show Hid (w.ownsRow 0 45 3 (.slice xa n c) n (vals .i64 bs)) from FR.own_one ho)
  have hnc : n ≤ c := by
    rcases FR.own_form ho with ⟨h1, _, _⟩ | ⟨g, _, h2, _⟩
    · dsimp only at h1; omega
    · exact h2
  have hcm : c ≤ 9223372036854775807 := by
    rcases FR.own_form ho with ⟨_, _, h1⟩ | ⟨g, _, _, h2, _⟩
    · dsimp only at h1; omega
    · dsimp only at h2; unfold maxLen at h2; omega
  have hnone : xa = none → n = 0 := by
    intro h
    rcases FR.own_form ho with ⟨h1, _, _⟩ | ⟨g, h1, _⟩
    · exact h1
    · dsimp only at h1; rw [h] at h1; cases h1
  have HN := hid hnone
  have HB := hid hb
  have HFT : Hid (∀ b, FootL (FR.rows 3 ⟨45, xa, n, c, bs⟩) b ↔ (Value.slice xa n c).ownBlock = some b) := fun b => FootL_one _ _
  clear ho hb hnone
  have fin : ∀ (g5 cap5 : Nat) (w5 : World), Hid (w5.ownsRow 0 45 3 (.slice (some ⟨g5, 0, none⟩) (n + 1) cap5) (n + 1) (vals .i64 bs ++ [.int .i64 p, .int .i64 q, .int .i64 r])) → Hid (w.grownBy w5 (Value.slice xa n c).ownBlock) → Hid ((Value.slice xa n c).ownBlock = some g5 ∨ g5 = w.heap.size) →
      ∃ a' c', Ending.returned (.slice (some ⟨g5, 0, none⟩) (n + 1) cap5) = .returned (.slice a' (n + 1) c') ∧ OwnL w5 (FR.rows 3 ⟨45, a', n + 1, c', bs ++ [p, q, r]⟩) ∧ (∀ b, FootL (FR.rows 3 ⟨45, a', n + 1, c', bs ++ [p, q, r]⟩) b → FootL (FR.rows 3 ⟨45, xa, n, c, bs⟩) b ∨ w.heap.size ≤ b) ∧ Kept (FootL (FR.rows 3 ⟨45, xa, n, c, bs⟩)) w w5 := fun g5 cap5 w5 H1 H2 H3 =>
    ⟨_, _, rfl, (OwnF.of_app3 H1.out).out, fun b hb => by
      have h1 := FootL_fr hb
      subst h1
      rcases H3.out with h | h
      · exact .inl ((HFT.out _).2 h)
      · exact .inr (by omega), (Kept.refl _ _).grown H2.out (fun i e => .inr ((HFT.out i).2 e))⟩
  by_cases hcn : c = n
  · obtain rfl : n = c := hcn.symm
    go_enter Try.func45, Try.ntmps45
    go_wp2_with (at_builtin; go_loud (refine wpList_append_lies _ rfl (.tmp 23) (.tmp 24) 35 rfl 0 45 i0 _ 3 24 Try.underlying35 hi hz0 hz1 hz2 rfl (by omega) (.slice xa n n) n (vals .i64 bs) rfl (by exact HO.out) ⟨vb, 0, none⟩ 1 1 [.int .i64 p, .int .i64 q, .int .i64 r] rfl rfl (World.news_of_block (cs := #[.int .i64 p, .int .i64 q, .int .i64 r]) (t := 45) (fr := (0, 0)) (by exact HB.out)) (by simp [Value.oneCell']) (by omega) (by unfold maxLen; omega) (by omega) (Nat.zero_le _) w.heap.size rfl ?_); intro g5 cap5 w5 hown5 hgrow5 hat5 hlt5; have H1 := hid hown5; have H2 := hid hgrow5; have H3 := hid hat5; clear hown5 hgrow5 hat5)
    go_ret
    exact fin _ _ _ H1 H2 H3
  · have hcn' : ¬ (n = c) := fun h => hcn h.symm
    go_enter Try.func45, Try.ntmps45
    go_wp2_with (at_builtin; go_loud (refine wpList_append_lies _ rfl (.tmp 23) (.tmp 24) 35 rfl 0 45 i0 _ 3 24 Try.underlying35 hi hz0 hz1 hz2 rfl (by omega) (.slice xa n c) n (vals .i64 bs) rfl (by exact HO.out) ⟨vb, 0, none⟩ 1 1 [.int .i64 p, .int .i64 q, .int .i64 r] rfl rfl (World.news_of_block (cs := #[.int .i64 p, .int .i64 q, .int .i64 r]) (t := 45) (fr := (0, 0)) (by exact HB.out)) (by simp [Value.oneCell']) (by omega) (by unfold maxLen; omega) (by omega) (Nat.zero_le _) w.heap.size rfl ?_); intro g5 cap5 w5 hown5 hgrow5 hat5 hlt5; have H1 := hid hown5; have H2 := hid hgrow5; have H3 := hid hat5; clear hown5 hgrow5 hat5)
    go_ret
    exact fin _ _ _ H1 H2 H3
theorem lay2 (xs V D : List Value) (o v : Nat) (hv : V.length = v) (hl : o + v + D.length ≤ xs.length) : lay (lay xs (o + v) D) o V = xs.take o ++ (V ++ (D ++ xs.drop (o + v + D.length))) := by
  unfold lay
  rw [List.take_append_of_le_length (by rw [List.length_take]; omega), List.take_take, show min o (o + v) = o from by omega, hv, List.drop_left' (by rw [List.length_take]; omega)]
theorem cells_ins {xs : List Value} {bs : List Int} {n c k : Nat} {p q r : Int} (hl : xs.length = c * 3) (ht : xs.take (n * 3) = vals .i64 bs) (hb : bs.length = n * 3) (hk : k ≤ n) (hc : n + 1 ≤ c) :
    (lay (lay xs (k * 3 + 3) (vals .i64 (bs.drop (k * 3)))) (k * 3) [.int .i64 p, .int .i64 q, .int .i64 r]).take ((n + 1) * 3) = vals .i64 (bs.take (k * 3) ++ (p :: q :: r :: bs.drop (k * 3))) := by
  have hd : (vals .i64 (bs.drop (k * 3))).length = n * 3 - k * 3 := by rw [vals_length, List.length_drop, hb]
  rw [lay2 xs [.int .i64 p, .int .i64 q, .int .i64 r] (vals .i64 (bs.drop (k * 3))) (k * 3) 3 rfl (by omega)]
  have e1 : xs.take (k * 3) = vals .i64 (bs.take (k * 3)) := by
    have h := congrArg (List.take (k * 3)) ht
    rw [List.take_take, show min (k * 3) (n * 3) = k * 3 from by omega] at h
    rw [h]
    simp [vals]
  rw [e1, ← List.append_assoc, ← List.append_assoc, List.take_append_of_le_length (by simp [hd, vals_length, hb]; omega), List.take_of_length_le (by simp [hd, vals_length, hb]; omega)]
  simp [vals]
theorem insertRoom_any (g n c k vb : Nat) (bs : List Int) (p q r : Int) (w : World) (hn : n ≤ 1048576) (hk : k < n) (hc : n + 1 ≤ c) (ho : OwnF 3 45 w g n c bs) (hb : Blk w vb 45 [.int .i64 p, .int .i64 q, .int .i64 r]) (hap : vb ≠ g) :
    Calls Try.prog 45 #[.slice (some ⟨g, 0, none⟩) n c, .int .i64 k, .slice (some ⟨vb, 0, none⟩) 1 1] w fun e w' => e = .returned (.slice (some ⟨g, 0, none⟩) (n + 1) c) ∧ OwnF 3 45 w' g (n + 1) c (bs.take (k * 3) ++ (p :: q :: r :: bs.drop (k * 3))) ∧ Kept (fun b => b = g) w w' := by
  obtain ⟨i0, hi, hz0, hz1, hz2⟩ := info_parts Try.infoHold
  have hsz : (Try.prog.info? 45).map (·.size) = some 3 := by rw [hi]; simp [hz1]
  have hszr : ∀ w : World, (Go.sizeOf 45).run Try.prog w = .ok 3 w := fun w => by simp [Go.sizeOf, typeInfo, hi, hz1]
  have hbl := ho.len
  obtain ⟨xs, hx, hxl, hxt, hnc, hcm⟩ := ho.blk
  unfold maxLen at hcm
  have hov : ∀ lb cb, (callFunc 51 #[.slice (some ⟨vb, 0, none⟩) 1 1, .slice (some ⟨g, (k + 1) * 3, none⟩) lb cb]).run Try.prog w = .ok (.value (.bool false)) w := fun lb cb => by
    rw [run_callFunc_extern Try.func51 (by kernel_rfl) (by kernel_rfl) (by kernel_rfl) (e := Extern.SlicesOverlaps.overlaps #[35, 35] #[4]) (by kernel_rfl),
      Lib.run_overlaps_apart w 35 4 45 Try.underlying35 3 hszr ⟨vb, 0, none⟩ ⟨g, (k + 1) * 3, none⟩ 1 1 lb cb hap 45 45 3 xs.length (by unfold World.shape?; rw [show w.heap[vb]? = _ from hb]; rfl) (by unfold World.shape?; rw [show w.heap[g]? = _ from hx]; simp) (by omega) (hb.frozen _) (hb.frozen _)]
    rfl
  have HX := hid hx
  have HB := hid hb
  have HT := hid hxt
  have HXL := hid hxl
  have HBL := hid hbl
  have hw1 : IntKind.i64.wrap ((k : Int) + 1) = ((k + 1 : Nat) : Int) := by rw [IntKind.wrap_i64]; omega
  have hw2 : IntKind.i64.wrap ((n : Int) + 1) = ((n + 1 : Nat) : Int) := by rw [IntKind.wrap_i64]; omega
  have h1 : ¬ ((k : Int) = (n : Int)) := by omega
  have h2 : ¬ ((c : Int) < (n : Int) + 1) := by omega
  clear ho hx hb hxt hxl hbl
  go_enter Try.func45, Try.ntmps45
  go_wp2_with (simp only [hov])
  have hS : (fun _ : World => True) w.drew := trivial
  refine wp_region_V (fun _ : World => True) 99 9 rfl (by kernel_rfl) ?_
  refine tk 0 69 hS ?_
  refine tk 1 70 hS ?_
  refine tk 2 71 hS ?_
  refine tk 3 72 hS ?_
  refine tkV 4 73 (.slice (some ⟨g, (k + 1) * 3, none⟩) (n - k) (c - (k + 1))) hS ?_ (hy := by intro w hSw; go_simp; rw [if_pos (by omega), if_neg (by omega)])
  refine tk 5 74 hS ?_
  refine tk 6 75 hS ?_
  refine tkV 7 76 (.slice (some ⟨g, k * 3, none⟩) (n + 1 - k) (c - k)) hS ?_ (hy := by intro w hSw; go_simp; rw [if_pos (by omega), if_neg (by omega)])
  refine wpAnyV_one (i := 8) (by kernel_rfl) rfl (fun K hK => ?_)
  refine step_copy_m (B := g) (off := (k + 1) * 3) (dl := n - k) (dc := c - (k + 1)) (sl := n + 1 - k) (sc := c - k) (m := 3) (c := n - k) (ad := ⟨g, k * 3, none⟩) rfl (.tmp 73) (.tmp 76) 35 rfl Try.underlying35 hsz (vals .i64 (bs.drop (k * 3))) (HX.out.drew) rfl rfl (by simp only [Nat.min_def]; split <;> omega) (by rw [vals_length, List.length_drop, HBL.out]; omega) (fun j v hj => ?_) (by rw [vals_length, List.length_drop, HBL.out, HXL.out]; omega) vals_one ?_
  · rw [Addr.add_lit]
    have hj2 : j < (vals .i64 (bs.drop (k * 3))).length := (List.getElem?_eq_some_iff.1 hj).1
    rw [vals_length, List.length_drop, HBL.out] at hj2
    rw [HX.out.drew.cell, ← hj]
    have h := (show (xs.take (n * 3))[k * 3 + j]? = (vals .i64 bs)[k * 3 + j]? from by rw [HT.out])
    rw [List.getElem?_take_of_lt (by omega)] at h
    rw [h]
    simp [vals]
  have hfit : (k + 1) * 3 + (vals .i64 (bs.drop (k * 3))).length ≤ xs.length := by rw [vals_length, List.length_drop, HBL.out, HXL.out]; omega
  have HX1 := (show Hid (Blk (w.drew.setCells g ((k + 1) * 3) (vals .i64 (bs.drop (k * 3)))) g 45 (lay xs ((k + 1) * 3) (vals .i64 (bs.drop (k * 3))))) from Blk.setCells _ _ HX.out.drew hfit)
  have HK1 := (show Hid (Kept (fun b => b = g) w (w.drew.setCells g ((k + 1) * 3) (vals .i64 (bs.drop (k * 3))))) from Kept.setCells (R := fun b => b = g) (.inr rfl) _ _ (Kept.refl _ _).drew)
  have HL1 := (show Hid ((lay xs ((k + 1) * 3) (vals .i64 (bs.drop (k * 3)))).length = c * 3) from (lay_length _ _ _ hfit).trans HXL.out)
  generalize w.drew.setCells g ((k + 1) * 3) (vals .i64 (bs.drop (k * 3))) = w1 at HX1 HK1 ⊢
  have HB1 := (show Hid (Blk w1 vb 45 [.int .i64 p, .int .i64 q, .int .i64 r]) from HB.out.kept HK1.out hap)
  refine hK.out _ _ (fun _ => trivial) ?_
  clear hK K
  try simp only [Act.put, sA, s0, sS]
  refine wpAnyV_done (by kernel_rfl) ?_
  have hcp : ∀ ty, (Builtin.copy_ #[35, 35] ty #[.slice (some ⟨g, k * 3, none⟩) (n + 1 - k) (c - k), .slice (some ⟨vb, 0, none⟩) 1 1]).run Try.prog w1 = .ok (goInt 1) (w1.setCells g (k * 3) [.int .i64 p, .int .i64 q, .int .i64 r]) := fun ty =>
    run_copy_m w1 _ _ ty 45 3 g (k * 3) (n + 1 - k) (c - k) ⟨vb, 0, none⟩ 1 1 1 _ Try.underlying35 hsz (by simp only [Nat.min_def]; split <;> omega) rfl (fun j v hj => by rw [Addr.add_lit, Nat.zero_add, HB1.out.cell]; exact hj) (fun j hj => by rw [HX1.out.cell, List.getElem?_eq_getElem (by rw [HL1.out]; simp at hj; omega)]; rfl) (fun j _ => HX1.out.frozen _) (by simp [Value.oneCell'])
  go_wp2
  have hfit2 : k * 3 + [Value.int .i64 p, .int .i64 q, .int .i64 r].length ≤ (lay xs ((k + 1) * 3) (vals .i64 (bs.drop (k * 3)))).length := by rw [HL1.out]; simp; omega
  go_ret
  refine ⟨rfl, ?_, Kept.setCells (R := fun b => b = g) (.inr rfl) _ _ HK1.out⟩
  refine ownF_of_blk (Blk.setCells _ _ HX1.out hfit2) (by rw [lay_length _ _ _ hfit2]; exact HL1.out) (by omega) (by unfold maxLen; omega) ?_
  rw [show (k + 1) * 3 = k * 3 + 3 from by omega]
  exact cells_ins HXL.out HT.out HBL.out (by omega) (by omega)
theorem cells_ins2 {ys : List Value} {bs : List Int} {n c k : Nat} {p q r : Int} (hl : ys.length = c * 3) (ht : ys.take (k * 3) = vals .i64 (bs.take (k * 3))) (hb : bs.length = n * 3) (hk : k ≤ n) (hc : n + 1 ≤ c) :
    (lay (lay ys (k * 3) [.int .i64 p, .int .i64 q, .int .i64 r]) (k * 3 + 3) (vals .i64 (bs.drop (k * 3)))).take ((n + 1) * 3) = vals .i64 (bs.take (k * 3) ++ (p :: q :: r :: bs.drop (k * 3))) := by
  have hd : (vals .i64 (bs.drop (k * 3))).length = n * 3 - k * 3 := by rw [vals_length, List.length_drop, hb]
  have e1 : (lay ys (k * 3) [.int .i64 p, .int .i64 q, .int .i64 r]).take (k * 3 + 3) = vals .i64 (bs.take (k * 3)) ++ [.int .i64 p, .int .i64 q, .int .i64 r] := by
    unfold lay
    rw [ht, ← List.append_assoc, List.take_append_of_le_length (by simp [vals_length, hb]; omega), List.take_of_length_le (by simp [vals_length, hb]; omega)]
  have e2 : ∀ zs : List Value, zs.length = c * 3 → (lay zs (k * 3 + 3) (vals .i64 (bs.drop (k * 3)))).take ((n + 1) * 3) = zs.take (k * 3 + 3) ++ vals .i64 (bs.drop (k * 3)) := fun zs hz => by
    unfold lay
    rw [← List.append_assoc, List.take_append_of_le_length (by simp only [List.length_append, List.length_take, hd]; omega), List.take_of_length_le (by simp only [List.length_append, List.length_take, hd]; omega)]
  rw [e2 _ (by rw [lay_length _ _ _ (by simp; omega)]; exact hl), e1]
  simp [vals]
theorem insertGrow_any (g n k vb : Nat) (bs : List Int) (p q r : Int) (w : World) (hn : n ≤ 1048576) (hk : k < n) (ho : OwnF 3 45 w g n n bs) (hb : Blk w vb 45 [.int .i64 p, .int .i64 q, .int .i64 r]) :
    Calls Try.prog 45 #[.slice (some ⟨g, 0, none⟩) n n, .int .i64 k, .slice (some ⟨vb, 0, none⟩) 1 1] w fun e w' => ∃ c', e = .returned (.slice (some ⟨w.heap.size, 0, none⟩) (n + 1) c') ∧ OwnF 3 45 w' w.heap.size (n + 1) c' (bs.take (k * 3) ++ (p :: q :: r :: bs.drop (k * 3))) ∧ Same w w' := by
  obtain ⟨i0, hi, hz0, hz1, hz2⟩ := info_parts Try.infoHold
  have hsz : (Try.prog.info? 45).map (·.size) = some 3 := by rw [hi]; simp [hz1]
  have hbl := ho.len
  obtain ⟨xs, hx, hxl, hxt, hnc, hcm⟩ := ho.blk
  have hlt := ho.lt
  have hcl : ∀ (wx : World), Same w wx → ∀ j v, (vals .i64 (bs.drop (k * 3)))[j]? = some v → wx.cell? ((⟨g, k * 3, none⟩ : Addr).add j) = some v := fun wx hs j v hj => by
    rw [Addr.add_lit]
    have hj2 : j < (vals .i64 (bs.drop (k * 3))).length := (List.getElem?_eq_some_iff.1 hj).1
    rw [vals_length, List.length_drop, hbl] at hj2
    have h := (show (xs.take (n * 3))[k * 3 + j]? = (vals .i64 bs)[k * 3 + j]? from by rw [hxt])
    rw [List.getElem?_take_of_lt (by omega)] at h
    rw [(hx.same hs).cell, ← hj, h]
    simp [vals]
  have hold : (Builtin.firstCells i0.size k (.slice (some ⟨g, 0, none⟩) k n)).run Try.prog w.drew = .ok (vals .i64 (bs.take (k * 3))).toArray w.drew := by
    rw [hz1]
    exact run_firstCells_some (P := Try.prog) (w := w.drew) 3 k ⟨g, 0, none⟩ k n (vals .i64 (bs.take (k * 3))) (by rw [vals_length, List.length_take]; omega) (fun j v hj => by
      rw [Addr.add_lit, Nat.zero_add]
      have hj2 : j < (vals .i64 (bs.take (k * 3))).length := (List.getElem?_eq_some_iff.1 hj).1
      rw [vals_length, List.length_take] at hj2
      have h := (show (xs.take (n * 3))[j]? = (vals .i64 bs)[j]? from by rw [hxt])
      rw [List.getElem?_take_of_lt (by omega)] at h
      rw [hx.drew.cell, ← hj, h]
      simp [vals, List.getElem?_take]
      omega)
  obtain ⟨G, hG⟩ : ∃ G, G = grownCap w (n + 1) n 45 := ⟨_, rfl⟩
  have hGn : n + 1 ≤ G := by rw [hG]; exact grownCap_ge w _ _ _
  have hGm : G ≤ 9223372036854775807 := by
    have := grownCap_le_maxLen w (n + 1) n 45 (by unfold maxLen; omega)
    rw [← hG] at this
    unfold maxLen at this
    omega
  obtain ⟨ys, hys⟩ : ∃ ys : List Value, ys = vals .i64 (bs.take (k * 3)) ++ ((Builtin.zeroCells (Value.agg #[.int .i64 0, .int .i64 0, .int .i64 0]).cells (n + 1 - k)).toList ++ (Builtin.zeroCells (Value.agg #[.int .i64 0, .int .i64 0, .int .i64 0]).cells (G - (n + 1))).toList) := ⟨_, rfl⟩
  have hyl : ys.length = G * 3 := by
    rw [hys]
    simp [Builtin.zeroCells, Value.cells, vals_length, hbl]
    omega
  have hyt : ys.take (k * 3) = vals .i64 (bs.take (k * 3)) := by
    rw [hys, List.take_append_of_le_length (by simp [vals_length, hbl]; omega), List.take_of_length_le (by simp [vals_length, hbl]; omega)]
  obtain ⟨W1, hW1⟩ : ∃ W1, W1 = w.drew.alloc (.cells ys.toArray 45) := ⟨_, rfl⟩
  have happ : ∀ ty, (Builtin.append_ #[35, 3] ty #[.slice (some ⟨g, 0, none⟩) k n, .int .i64 ((n : Int) + 1 - (k : Int))]).run Try.prog w = .ok (.slice (some ⟨w.heap.size, 0, none⟩) (n + 1) G) W1 := fun ty => by
    have h := Lib.run_append_grow_zeros (P := Try.prog) w 35 3 ty 45 i0 _ .i64 .i64 Try.underlying35 Try.underlying3 hi hz0 (some ⟨g, 0, none⟩) k n (vals .i64 (bs.take (k * 3))) hold (n + 1 - k) (by omega) (by omega) (by omega) (by omega) (by rw [hz2]; omega) (by rw [hz2, show k + (n + 1 - k) = n + 1 from by omega]; exact growslice_fits (by omega) (by omega))
    rw [show k + (n + 1 - k) = n + 1 from by omega] at h
    rw [show ((n : Int) + 1 - (k : Int)) = ((n + 1 - k : Nat) : Int) from by omega, h, hW1, hys, ← hG, Array.append_assoc]
    congr 3
    apply Array.toList_inj.1
    simp only [Array.toList_append, List.toList_toArray]
  have HY := (show Hid (Blk W1 w.heap.size 45 ys) from by rw [hW1]; exact Blk.newL w.drew ys 45)
  have HK1 := (show Hid (Same w W1) from by rw [hW1]; exact (Kept.refl _ _).drew.alloc _)
  have HB1 := (show Hid (Blk W1 vb 45 [.int .i64 p, .int .i64 q, .int .i64 r]) from hb.same HK1.out)
  have HCL := hid hcl
  have HYL := hid hyl
  have HYT := hid hyt
  have HBL := hid hbl
  have hfit : k * 3 + [Value.int .i64 p, .int .i64 q, .int .i64 r].length ≤ ys.length := by rw [hyl]; simp; omega
  obtain ⟨W2, hW2⟩ : ∃ W2, W2 = W1.setCells w.heap.size (k * 3) [.int .i64 p, .int .i64 q, .int .i64 r] := ⟨_, rfl⟩
  have hcp : ∀ ty, (Builtin.copy_ #[35, 35] ty #[.slice (some ⟨w.heap.size, k * 3, none⟩) (n + 1 - k) (G - k), .slice (some ⟨vb, 0, none⟩) 1 1]).run Try.prog W1 = .ok (goInt 1) W2 := fun ty => by
    rw [hW2]
    exact run_copy_m W1 _ _ ty 45 3 w.heap.size (k * 3) (n + 1 - k) (G - k) ⟨vb, 0, none⟩ 1 1 1 _ Try.underlying35 hsz (by simp only [Nat.min_def]; split <;> omega) rfl (fun j v hj => by rw [Addr.add_lit, Nat.zero_add, HB1.out.cell]; exact hj) (fun j hj => by rw [HY.out.cell, List.getElem?_eq_getElem (by omega)]; rfl) (fun j _ => HY.out.frozen _) (by simp [Value.oneCell'])
  have HY2 := (show Hid (Blk W2 w.heap.size 45 (lay ys (k * 3) [.int .i64 p, .int .i64 q, .int .i64 r])) from by rw [hW2]; exact Blk.setCells _ _ HY.out hfit)
  have HK2 := (show Hid (Same w W2) from by rw [hW2]; exact Kept.setCells (R := fun _ => False) (.inl (Nat.le_refl _)) _ _ HK1.out)
  have HL2 := (show Hid ((lay ys (k * 3) [.int .i64 p, .int .i64 q, .int .i64 r]).length = G * 3) from (lay_length _ _ _ hfit).trans hyl)
  have hw1 : IntKind.i64.wrap ((k : Int) + 1) = ((k + 1 : Nat) : Int) := by rw [IntKind.wrap_i64]; omega
  have hw2 : IntKind.i64.wrap ((n : Int) + 1) = (n : Int) + 1 := by rw [IntKind.wrap_i64]; omega
  have hw3 : IntKind.i64.wrap ((n : Int) + 1 - (k : Int)) = (n : Int) + 1 - (k : Int) := by rw [IntKind.wrap_i64]; omega
  have h1 : ¬ ((k : Int) = (n : Int)) := by omega
  have hkn : ¬ (n = k) := by omega
  have hGk : ¬ (G = k) := by omega
  have HAP := hid happ
  clear ho hx hb hxt hxl hbl hcl hold hG hys hyl hyt hW1 hW2 hi hz0 hz1 hz2 hfit happ hlt
  go_enter Try.func45, Try.ntmps45
  go_wp2_with (at_builtin; refine Lib.wpList_append_run _ rfl _ _ _ _ rfl _ _ rfl rfl _ _ (HAP.out _) ?_)
  have hS : (fun _ : World => True) W2.drew := trivial
  refine wp_region_V (fun _ : World => True) 99 9 rfl (by kernel_rfl) ?_
  refine tk 0 46 hS ?_
  refine tk 1 47 hS ?_
  refine tk 2 48 hS ?_
  refine tk 3 49 hS ?_
  refine tkV 4 50 (.slice (some ⟨w.heap.size, (k + 1) * 3, none⟩) (n - k) (G - (k + 1))) hS ?_ (hy := by intro w hSw; go_simp; rw [if_pos (by omega), if_neg (by omega)])
  refine tk 5 51 hS ?_
  refine tk 6 52 hS ?_
  refine tkV 7 53 (.slice (some ⟨g, k * 3, none⟩) (n - k) (n - k)) hS ?_ (hy := by intro w hSw; go_simp; intro hlt; omega)
  refine wpAnyV_one (i := 8) (by kernel_rfl) rfl (fun K hK => ?_)
  have hfit2 : (k + 1) * 3 + (vals .i64 (bs.drop (k * 3))).length ≤ (lay ys (k * 3) [.int .i64 p, .int .i64 q, .int .i64 r]).length := by rw [HL2.out, vals_length, List.length_drop, HBL.out]; omega
  refine step_copy_m (B := w.heap.size) (off := (k + 1) * 3) (dl := n - k) (dc := G - (k + 1)) (sl := n - k) (sc := n - k) (m := 3) (c := n - k) (ad := ⟨g, k * 3, none⟩) rfl (.tmp 50) (.tmp 53) 35 rfl Try.underlying35 hsz (vals .i64 (bs.drop (k * 3))) (HY2.out.drew) rfl rfl (by simp only [Nat.min_def]; split <;> omega) (by rw [vals_length, List.length_drop, HBL.out]; omega) (HCL.out _ HK2.out.drew) hfit2 vals_one ?_
  have HX1 := (show Hid (Blk (W2.drew.setCells w.heap.size ((k + 1) * 3) (vals .i64 (bs.drop (k * 3)))) w.heap.size 45 (lay (lay ys (k * 3) [.int .i64 p, .int .i64 q, .int .i64 r]) ((k + 1) * 3) (vals .i64 (bs.drop (k * 3))))) from Blk.setCells _ _ HY2.out.drew hfit2)
  have HK3 := (show Hid (Same w (W2.drew.setCells w.heap.size ((k + 1) * 3) (vals .i64 (bs.drop (k * 3))))) from Kept.setCells (R := fun _ => False) (.inl (Nat.le_refl _)) _ _ HK2.out.drew)
  generalize W2.drew.setCells w.heap.size ((k + 1) * 3) (vals .i64 (bs.drop (k * 3))) = w3 at HX1 HK3 ⊢
  refine hK.out _ _ (fun _ => trivial) ?_
  clear hK K
  try simp only [Act.put, sA, s0, sS]
  refine wpAnyV_done (by kernel_rfl) ?_
  go_wp2
  go_ret
  refine ⟨G, rfl, ?_, HK3.out⟩
  refine ownF_of_blk HX1.out (by rw [lay_length _ _ _ hfit2]; exact HL2.out) (by omega) (by unfold maxLen; omega) ?_
  rw [show (k + 1) * 3 = k * 3 + 3 from by omega]
  exact cells_ins2 HYL.out HYT.out HBL.out (by omega) (by omega)
end Go.Proofs.Ytmpfpgelaipmnaa

namespace Go.Proofs.Ytmpfpgelaipmnaa
set_option maxRecDepth 100000
set_option maxHeartbeats 4000000
open Go.RowKit
set_option linter.unusedVariables false
set_option linter.unusedSimpArgs false
theorem insertH_any (xa : Option Addr) (n c k vb : Nat) (bs : List Int) (p q r : Int) (w : World) (hn : n ≤ 1048576) (hk : k ≤ n) (ho : OwnL w (FR.rows 3 ⟨45, xa, n, c, bs⟩)) (hb : Blk w vb 45 [.int .i64 p, .int .i64 q, .int .i64 r]) (hap : ∀ b, FootL (FR.rows 3 ⟨45, xa, n, c, bs⟩) b → vb ≠ b) :
    Calls Try.prog 45 #[.slice xa n c, .int .i64 k, .slice (some ⟨vb, 0, none⟩) 1 1] w fun e w' => ∃ a' c', e = .returned (.slice a' (n + 1) c') ∧ OwnL w' (FR.rows 3 ⟨45, a', n + 1, c', bs.take (k * 3) ++ (p :: q :: r :: bs.drop (k * 3))⟩) ∧ (∀ b, FootL (FR.rows 3 ⟨45, a', n + 1, c', bs.take (k * 3) ++ (p :: q :: r :: bs.drop (k * 3))⟩) b → FootL (FR.rows 3 ⟨45, xa, n, c, bs⟩) b ∨ w.heap.size ≤ b) ∧ Kept (FootL (FR.rows 3 ⟨45, xa, n, c, bs⟩)) w w' := by
  have hl : bs.length = n * 3 := FR.own_len ho
  by_cases hkn : k = n
  · subst hkn
    have h := insertEnd_any xa k c vb bs p q r w hn ho hb
    rw [List.take_of_length_le (by omega), List.drop_eq_nil_of_le (by omega)]
    exact h
  rcases FR.own_form ho with ⟨h1, _, _⟩ | ⟨g, h1, h2, h3, h4⟩
  · dsimp only at h1; omega
  dsimp only at h1 h2 h3 h4
  subst h1
  have hf : FootL (FR.rows 3 ⟨45, some ⟨g, 0, none⟩, n, c, bs⟩) g := (FootL_one _ _).2 rfl
  by_cases hc : n + 1 ≤ c
  · refine (insertRoom_any g n c k vb bs p q r w hn (by omega) hc h4 hb (hap g hf)).mono ?_
    rintro e w1 ⟨rfl, ho1, hk1⟩
    exact ⟨_, _, rfl, ho1.out, fun b hb1 => by have := FootL_fr hb1; subst this; exact .inl hf, hk1.mono (fun b _ e => by subst e; exact hf)⟩
  · obtain rfl : c = n := by omega
    refine (insertGrow_any g c k vb bs p q r w hn (by omega) h4 hb).mono ?_
    rintro e w1 ⟨c', rfl, ho1, hk1⟩
    exact ⟨_, _, rfl, ho1.out, fun b hb1 => by have := FootL_fr hb1; subst this; exact .inr (Nat.le_refl _), hk1.mono (fun b _ e => e.elim)⟩
theorem flat_set (ls : List T3) (k : Nat) (h : k < ls.length) (p q r : Int) : (((flat3 ls).set (k * 3) p).set (k * 3 + 1) q).set (k * 3 + 2) r = flat3 (ls.set k (p, q, r)) := by
  induction ls generalizing k with
  | nil => simp at h
  | cons a t ih =>
    obtain ⟨a1, a2, a3⟩ := a
    cases k with
    | zero => simp [flat3]
    | succ k =>
      have := ih k (by simpa using h)
      rw [show (k + 1) * 3 = k * 3 + 3 from by omega]
      simp only [flat3, List.set_cons_succ]
      rw [← this]
theorem flat_take (ls : List T3) (k : Nat) (h : k ≤ ls.length) : (flat3 ls).take (k * 3) = flat3 (ls.take k) := by
  induction ls generalizing k with
  | nil => obtain rfl : k = 0 := by simpa using h
           rfl
  | cons a t ih =>
    obtain ⟨a1, a2, a3⟩ := a
    cases k with
    | zero => simp [flat3]
    | succ k =>
      have := ih k (by simpa using h)
      rw [show (k + 1) * 3 = k * 3 + 3 from by omega]
      simp only [flat3, List.take_succ_cons]
      rw [← this]
theorem flat_drop (ls : List T3) (k : Nat) (h : k ≤ ls.length) : (flat3 ls).drop (k * 3) = flat3 (ls.drop k) := by
  induction ls generalizing k with
  | nil => obtain rfl : k = 0 := by simpa using h
           rfl
  | cons a t ih =>
    obtain ⟨a1, a2, a3⟩ := a
    cases k with
    | zero => simp [flat3]
    | succ k =>
      have := ih k (by simpa using h)
      rw [show (k + 1) * 3 = k * 3 + 3 from by omega]
      simp only [flat3, List.drop_succ_cons]
      rw [← this]
theorem implHoldTake_any (x : FR) (txn id be af : Int) (w : World) (hv : RdF 3 w x) :
    Calls Try.prog 24 #[x.v, .int .i64 txn, .int .i64 id, .int .i64 be, .int .i64 af] w fun e w' => ∃ y : FR, e = .returned y.v ∧ y.bs = takeH (tri x.bs) txn id be af ∧ (∀ b, FootL (FR.rows 3 y) b → w.heap.size ≤ b) ∧ OwnL w' (FR.rows 3 y) ∧ Same w w' := by
  have k0 := implHoldsFault_any x w hv
  have k1 := isTxn8_any txn
  have k2 := isId8_any id
  have k3 := isLength_any be
  have k4 := isLength_any af
  have HV := hid hv
  obtain ⟨xe, xa, n, xc, bs⟩ := x
  have hbl : bs.length = n * 3 := hv.2.1
  dsimp only [FR.v] at k0 ⊢
  clear hv
  obtain ⟨R, hR⟩ : ∃ R, takeH (tri bs) txn id be af = R := ⟨_, rfl⟩
  rw [hR]
  unfold takeH at hR
  obtain ⟨q, hq⟩ : ∃ q, holdsF (tri bs) = q := ⟨_, rfl⟩
  rw [hq] at k0 hR
  have fin : ∀ w1, Same w w1 → R = [] → ∃ y : FR, Ending.returned (.slice none 0 0) = .returned y.v ∧ y.bs = R ∧ (∀ b, FootL (FR.rows 3 y) b → w.heap.size ≤ b) ∧ OwnL w1 (FR.rows 3 y) ∧ Same w w1 := fun w1 hk hr =>
    ⟨⟨45, none, 0, 0, []⟩, rfl, hr.symm, fun b hb => by have := (FootL_one _ _).1 hb; simp [FR.v, Value.ownBlock] at this, FR.own_nil _, hk⟩
  by_cases h0 : q = 0
  case neg =>
    rw [if_neg (fun h => h0 h.1)] at hR
    clear k1 k2 k3 k4 hq hbl
    go_enter Try.func24, Try.ntmps24
    go_wp2_with fail
    refine k0.mono ?_
    rintro e w1 ⟨rfl, hk1⟩
    go_wp2
    go_ret
    exact fin _ hk1 hR.symm
  subst h0
  cases f0 : inB txn 1 2147483647 with
  | false =>
    rw [f0] at k1 hR
    rw [if_neg (by simp)] at hR
    clear hq hbl
    go_enter Try.func24, Try.ntmps24
    go_wp2_with fail
    refine k0.mono ?_
    rintro e w1 ⟨rfl, hk1⟩
    go_wp2_with fail
    refine (k1 _).mono ?_
    rintro e w2 ⟨rfl, rfl⟩
    go_wp2
    go_ret
    exact fin _ hk1 hR.symm
  | true =>
  rw [f0] at k1 hR
  cases f1 : inB id 0 511 with
  | false =>
    rw [f1] at k2 hR
    rw [if_neg (by simp)] at hR
    clear hq hbl
    go_enter Try.func24, Try.ntmps24
    go_wp2_with fail
    refine k0.mono ?_
    rintro e w1 ⟨rfl, hk1⟩
    go_wp2_with fail
    refine (k1 _).mono ?_
    rintro e w2 ⟨rfl, rfl⟩
    go_wp2_with fail
    refine (k2 _).mono ?_
    rintro e w2 ⟨rfl, rfl⟩
    go_wp2
    go_ret
    exact fin _ hk1 hR.symm
  | true =>
  rw [f1] at k2 hR
  cases f2 : inB be (-1) 1000 with
  | false =>
    rw [f2] at k3 hR
    rw [if_neg (by simp)] at hR
    clear hq hbl
    go_enter Try.func24, Try.ntmps24
    go_wp2_with fail
    refine k0.mono ?_
    rintro e w1 ⟨rfl, hk1⟩
    go_wp2_with fail
    refine (k1 _).mono ?_
    rintro e w2 ⟨rfl, rfl⟩
    go_wp2_with fail
    refine (k2 _).mono ?_
    rintro e w2 ⟨rfl, rfl⟩
    go_wp2_with fail
    refine (k3 _).mono ?_
    rintro e w2 ⟨rfl, rfl⟩
    go_wp2
    go_ret
    exact fin _ hk1 hR.symm
  | true =>
  rw [f2] at k3 hR
  cases f3 : inB af (-1) 1000 with
  | false =>
    rw [f3] at k4 hR
    rw [if_neg (by simp)] at hR
    clear hq hbl
    go_enter Try.func24, Try.ntmps24
    go_wp2_with fail
    refine k0.mono ?_
    rintro e w1 ⟨rfl, hk1⟩
    go_wp2_with fail
    refine (k1 _).mono ?_
    rintro e w2 ⟨rfl, rfl⟩
    go_wp2_with fail
    refine (k2 _).mono ?_
    rintro e w2 ⟨rfl, rfl⟩
    go_wp2_with fail
    refine (k3 _).mono ?_
    rintro e w2 ⟨rfl, rfl⟩
    go_wp2_with fail
    refine (k4 _).mono ?_
    rintro e w2 ⟨rfl, rfl⟩
    go_wp2
    go_ret
    exact fin _ hk1 hR.symm
  | true =>
  rw [f3] at k4 hR
  rw [if_pos ⟨rfl, rfl, rfl, rfl, rfl⟩] at hR
  have hn := holdsF_len hq
  rw [tri_length n bs hbl] at hn
  have HRI := hid (holdsF_ris hq)
  have HR := hid hR
  have HBL := hid hbl
  obtain ⟨e1, e2⟩ := (show -1 ≤ be ∧ be ≤ 1000 from by simpa [inB] using f2)
  obtain ⟨e3, e4⟩ := (show -1 ≤ af ∧ af ≤ 1000 from by simpa [inB] using f3)
  clear hR hbl f0 f1 f2 f3 fin
  have HMO : Hid (mostH (tri bs) id be af = maxI (holdOf id (tri bs)) (grI 0 [be, af])) := by
    unfold Hid mostH maxI
    simp only [grI]
    repeat' split
    all_goals omega
  have kg := fun (wx : World) h => greatest_any 0 (.slice (some ⟨wx.heap.size, 0, none⟩) 2 2) [be, af] (wx.alloc (.cells #[.int .i64 be, .int .i64 af] 2)) h
  have HRD : Hid (∀ wx : World, Rd .i64 (wx.alloc (.cells #[.int .i64 be, .int .i64 af] 2)) (.slice (some ⟨wx.heap.size, 0, none⟩) 2 2) [be, af]) := fun wx => rd_new wx 2 [be, af] (by unfold maxLen; simp)
  obtain ⟨m0, hm0⟩ : ∃ m0, grI 0 [be, af] = m0 := ⟨_, rfl⟩
  simp only [hm0] at kg
  rw [hm0] at HMO
  have HM0 : Hid (0 ≤ m0) := by
    unfold Hid
    rw [← hm0]
    simp only [grI]
    repeat' split
    all_goals omega
  clear hm0
  go_enter Try.func24, Try.ntmps24
  go_wp2_with fail
  refine k0.mono ?_
  rintro e w1 ⟨rfl, hk1⟩
  have HK1 := hid hk1
  clear hk1 k0 hq
  go_wp2_with fail
  refine (k1 _).mono ?_
  rintro e wz ⟨rfl, rfl⟩
  go_wp2_with fail
  refine (k2 _).mono ?_
  rintro e wz ⟨rfl, rfl⟩
  go_wp2_with fail
  refine (k3 _).mono ?_
  rintro e wz ⟨rfl, rfl⟩
  go_wp2_with fail
  refine (k4 _).mono ?_
  rintro e wz ⟨rfl, rfl⟩
  clear k1 k2 k3 k4
  go_wp2_with fail
  refine (kg _ (HRD.out _)).mono ?_
  rintro e w2 ⟨rfl, hk2⟩
  have HK2 := hid ((HK1.out.alloc (.cells #[.int .i64 be, .int .i64 af] 2)).trans hk2)
  clear hk2 kg HRD HK1
  go_wp2_with fail
  have HB3 := (show Hid (Blk (w2.alloc (.cells #[.int .i64 id, .int .i64 txn, .int .i64 m0] 45)) w2.heap.size 45 [.int .i64 id, .int .i64 txn, .int .i64 m0]) from Blk.newL w2 _ _)
  have HK3 := (show Hid (Same w (w2.alloc (.cells #[.int .i64 id, .int .i64 txn, .int .i64 m0] 45))) from HK2.out.alloc _)
  have hw2 : w.heap.size ≤ w2.heap.size := HK2.out.size
  generalize w2.alloc (.cells #[.int .i64 id, .int .i64 txn, .int .i64 m0] 45) = w3 at HB3 HK3 ⊢
  generalize w2.heap.size = tb at HB3 hw2 ⊢
  clear HK2
  have kc := cloneH_any ⟨xe, xa, n, xc, bs⟩ w3 (by dsimp only; omega) (HV.out.same HK3.out)
  dsimp only [FR.v] at kc
  refine kc.mono ?_
  rintro e w4 ⟨ya, yc, rfl, ho, hfr, hk4⟩
  have hw3 := HB3.out.lt
  have kf := findHold_any ⟨45, ya, n, yc, bs⟩ id w4 (FR.own_rd ho) (by dsimp only; omega) HRI.out
  dsimp only [FR.v] at kf
  have HO := hid ho
  have HFR : Hid (∀ b, FootL (FR.rows 3 ⟨45, ya, n, yc, bs⟩) b → w3.heap.size ≤ b) := hfr
  have HK4 := hid (HK3.out.trans hk4)
  have HB4 := hid (HB3.out.same hk4)
  have hw34 := HK3.out.size
  clear kc ho hfr hk4 HB3 HK3
  go_wp2_with fail
  refine kf.mono ?_
  rintro e w5 ⟨k, rfl, hlb, hk5⟩
  have HLB := hid hlb
  have HO5 := hid (HO.out.same hk5)
  have HK5 := hid (HK4.out.trans hk5)
  have HB5 := hid (HB4.out.same hk5)
  obtain ⟨b0, b1, b2⟩ := HB5.out.all3
  have hkn : k ≤ n := by have := hlb.1; rw [tri_length n bs HBL.out] at this; exact this
  have HHO := hid (holdOf_lb id (tri bs) k HRI.out hlb)
  have HIN : ∀ m, Hid (insH (id, txn, m) false (tri bs) = if fndH id (tri bs) k = true then (tri bs).set k (id, txn, m) else (tri bs).take k ++ (id, txn, m) :: (tri bs).drop k) := fun m => insH_lb (id, txn, m) (tri bs) k HRI.out hlb
  clear kf hlb hk5 HO HK4 HB4
  cases hfd : fndH id (tri bs) k with
  | false =>
    rw [hfd] at HHO
    simp only [hfd] at HIN
    have HRR : Hid (R = bs.take (k * 3) ++ (id :: txn :: m0 :: bs.drop (k * 3))) := by
      have h1 := HHO.out
      rw [if_neg Bool.false_ne_true] at h1
      have h2 := HMO.out
      rw [h1, show maxI (-1) m0 = m0 from by
        unfold maxI
        rw [if_neg (by
          have := HM0.out
          omega)]] at h2
      have h3 := (HIN m0).out
      rw [if_neg Bool.false_ne_true] at h3
      have hll : k ≤ (tri bs).length := by rw [tri_length n bs HBL.out]; exact hkn
      unfold Hid
      rw [← HR.out, h2, h3, flat3_append]
      have e1 := flat_take (tri bs) k hll
      have e2 := flat_drop (tri bs) k hll
      rw [flat3_tri n bs HBL.out] at e1 e2
      rw [e1, e2]
      rfl
    clear HHO HIN HMO hfd
    go_wp2_with fail
    have ki := insertH_any ya n yc k w5.heap.size bs id txn m0 (w5.alloc (.cells #[.int .i64 id, .int .i64 txn, .int .i64 m0] 45)) (by omega) hkn (HO5.out.same ((Kept.refl _ _).alloc _)) (Blk.newL w5 _ _) (fun b hb e => by have := HO5.out.lt b hb; omega)
    have HK6 := (show Hid (Same w (w5.alloc (.cells #[.int .i64 id, .int .i64 txn, .int .i64 m0] 45))) from HK5.out.alloc _)
    have hs6 : w.heap.size ≤ (w5.alloc (.cells #[.int .i64 id, .int .i64 txn, .int .i64 m0] 45)).heap.size := HK6.out.size
    refine ki.mono ?_
    rintro e w7 ⟨za, zc, rfl, ho7, hf7, hk7⟩
    have HO7 := hid ho7
    have HF7 : Hid (∀ b, FootL (FR.rows 3 ⟨45, za, n + 1, zc, bs.take (k * 3) ++ (id :: txn :: m0 :: bs.drop (k * 3))⟩) b → w.heap.size ≤ b) := fun b hb => by
      rcases hf7 b hb with h | h
      · exact Nat.le_trans hw34 (HFR.out b h)
      · exact Nat.le_trans hs6 h
    have HK7 : Hid (Same w w7) := HK6.out.next hk7 (fun i hi h => absurd (HFR.out i h) (by omega))
    clear ki ho7 hf7 hk7 b0 b1 b2
    go_wp2
    go_ret
    exact ⟨⟨45, za, n + 1, zc, bs.take (k * 3) ++ (id :: txn :: m0 :: bs.drop (k * 3))⟩, rfl, HRR.out.symm, HF7.out, HO7.out, HK7.out⟩
  | true =>
    obtain ⟨hkl, hki⟩ := fndH_some hfd
    have hkn2 : k < n := by rw [tri_length n bs HBL.out] at hkl; exact hkl
    rcases FR.own_form HO5.out with ⟨h1, _, _⟩ | ⟨g, h1, h2, h3, h4⟩
    · dsimp only at h1; omega
    dsimp only at h1 h2 h3 h4
    subst h1
    have HO6 := hid h4
    clear h4
    obtain ⟨⟨x1, y1, z1⟩, hx1⟩ : ∃ q, (tri bs)[k] = q := ⟨_, rfl⟩
    obtain ⟨da0, da1, da2⟩ := (FR.own_rd HO5.out).tri k hkl _ _ _ hx1
    rw [Nat.zero_add] at da0 da1 da2
    have hgf := HFR.out g ((FootL_one _ _).2 rfl)
    have htg : tb ≠ g := by omega
    obtain ⟨m1, hm1⟩ : ∃ m1, grI m0 [z1] = m1 := ⟨_, rfl⟩
    have HRR : Hid (R = ((bs.set (k * 3) id).set (k * 3 + 1) txn).set (k * 3 + 2) m1) := by
      have h1 := HHO.out
      rw [if_pos hfd, show (tri bs).getD k (0, 0, 0) = (x1, y1, z1) from by rw [← hx1]; simp [List.getD, hkl]] at h1
      have h2 := HMO.out
      rw [h1] at h2
      have h3 := (HIN m1).out
      rw [if_pos hfd] at h3
      have e1 : maxI z1 m0 = m1 := by rw [← hm1]; rfl
      dsimp only at h2
      rw [e1] at h2
      unfold Hid
      rw [← HR.out, h2, h3, ← flat_set _ _ hkl, flat3_tri n bs HBL.out]
    have kg := fun (wx : World) h => greatest_any m0 (.slice (some ⟨wx.heap.size, 0, none⟩) 1 1) [z1] (wx.alloc (.cells #[.int .i64 z1] 2)) h
    have HRD : Hid (∀ wx : World, Rd .i64 (wx.alloc (.cells #[.int .i64 z1] 2)) (.slice (some ⟨wx.heap.size, 0, none⟩) 1 1) [z1]) := fun wx => rd_new wx 2 [z1] (by unfold maxLen; simp)
    simp only [hm1] at kg
    clear HHO HIN HMO hfd hm1 hx1 hki hkl
    go_wp2_with fail
    have hS : (fun wx : World => wx.cell? ⟨tb, 2, none⟩ = some (.int .i64 m0) ∧ wx.cell? ⟨g, k * 3 + 2, none⟩ = some (.int .i64 z1)) w5.drew := ⟨b2, da2⟩
    refine wp_region_V (fun wx : World => wx.cell? ⟨tb, 2, none⟩ = some (.int .i64 m0) ∧ wx.cell? ⟨g, k * 3 + 2, none⟩ = some (.int .i64 z1)) 10 11 rfl (by kernel_rfl) ?_
    refine tk 0 60 hS ?_
    refine tk 1 61 hS ?_
    refine tk 2 62 hS ?_
    refine tk 3 63 hS ?_
    refine tk 4 64 hS ?_
    refine tk 5 65 hS ?_
    refine tk 6 66 hS ?_
    refine wpAnyV_one (i := 7) (by kernel_rfl) rfl (fun K hK => ?_)
    go_simp
    have k7 : Calls Try.prog 42 #[.int .i64 m0, .slice (some ⟨w5.heap.size, 0, none⟩) 1 1] (w5.alloc (.cells #[.int .i64 z1] 2)).drew fun e w' => e = .returned (.int .i64 m1) ∧ Same (w5.alloc (.cells #[.int .i64 z1] 2)).drew w' := kg w5.drew (HRD.out _)
    have HKa : Hid (Same w5 (w5.alloc (.cells #[.int .i64 z1] 2)).drew) := ((Kept.refl _ _).alloc _).drew
    generalize (w5.alloc (.cells #[.int .i64 z1] 2)).drew = w6 at k7 HKa ⊢
    have hS : (fun wx : World => wx.cell? ⟨tb, 2, none⟩ = some (.int .i64 m0) ∧ wx.cell? ⟨g, k * 3 + 2, none⟩ = some (.int .i64 z1)) w6 := ⟨HKa.out.cellOf b2 (fun h => h), HKa.out.cellOf da2 (fun h => h)⟩
    refine hK.out _ _ (fun _ => hS) ?_
    clear hK K kg HRD
    try simp only [Act.put, sA, s0, sS]
    refine wpAnyV_one (i := 8) (by kernel_rfl) rfl (fun K hK => ?_)
    go_simp
    refine k7.mono ?_
    rintro e w7 ⟨rfl, hk7⟩
    have HK57 := hid (HKa.out.trans hk7)
    have HK7 := hid (HK5.out.trans HK57.out)
    have HO7 := hid (HO6.out.same HK57.out)
    have HB7 := hid (HB5.out.same HK57.out)
    have hS : (fun wx : World => wx.cell? ⟨tb, 2, none⟩ = some (.int .i64 m0) ∧ wx.cell? ⟨g, k * 3 + 2, none⟩ = some (.int .i64 z1)) w7 := ⟨HK57.out.cellOf b2 (fun h => h), HK57.out.cellOf da2 (fun h => h)⟩
    have hf7 : w7.frozen? ⟨tb, 2, none⟩ = false := HB7.out.frozen 2
    obtain ⟨c0, c1, c2⟩ := HB7.out.all3
    refine hK.out _ _ (fun _ => hS) ?_
    clear hK K k7 hk7 b0 b1 b2 da0 da1 da2 HKa
    try simp only [Act.put, sA, s0, sS]
    refine tk 9 69 hS ?_
    refine wpAnyV_one (i := 10) (by kernel_rfl) rfl (fun K hK => ?_)
    go_simp
    refine hK.out _ _ (fun h => absurd rfl h) ?_
    clear hK K
    refine wpAnyV_done (by kernel_rfl) ?_
    try simp only [Act.put, sA, s0, sS]
    have HB8 := (show Hid (Blk (w7.setCell ⟨tb, 2, none⟩ (.int .i64 m1)) tb 45 [.int .i64 id, .int .i64 txn, .int .i64 m1]) from HB7.out.stored 2 (.int .i64 m1))
    have HK78 := (show Hid (Kept (fun b => b = tb) w7 (w7.setCell ⟨tb, 2, none⟩ (.int .i64 m1))) from Kept.setCell (R := fun b => b = tb) (Kept.refl _ _) (.inr rfl) _)
    generalize w7.setCell ⟨tb, 2, none⟩ (.int .i64 m1) = w8 at HB8 HK78 ⊢
    have HK8 := (show Hid (Same w w8) from HK7.out.next HK78.out (fun i hi e => by omega))
    have HO8 := (show Hid (OwnF 3 45 w8 g n yc bs) from HO7.out.kept HK78.out (fun e => htg e.symm))
    clear hS c0 c1 c2 hf7 HB7 HO7 HK7
    obtain ⟨c0, c1, c2⟩ := HB8.out.all3
    have f0 := HO8.out.frozen (k * 3)
    have f1 := HO8.out.frozen (k * 3 + 1)
    have f2 := HO8.out.frozen (k * 3 + 2)
    have d0 := HO8.out.cell (k * 3) (by omega)
    have d1 := HO8.out.cell (k * 3 + 1) (by omega)
    have d2 := HO8.out.cell (k * 3 + 2) (by omega)
    go_wp2
    have HO9 := (show Hid (OwnF 3 45 (((w8.setCell ⟨g, k * 3, none⟩ (.int .i64 id)).setCell ⟨g, k * 3 + 1, none⟩ (.int .i64 txn)).setCell ⟨g, k * 3 + 2, none⟩ (.int .i64 m1)) g n yc (((bs.set (k * 3) id).set (k * 3 + 1) txn).set (k * 3 + 2) m1)) from ((HO8.out.stored (k * 3) id).stored (k * 3 + 1) txn).stored (k * 3 + 2) m1)
    have hgw : w.heap.size ≤ g := Nat.le_trans hw34 hgf
    have HK9 := (show Hid (Same w (((w8.setCell ⟨g, k * 3, none⟩ (.int .i64 id)).setCell ⟨g, k * 3 + 1, none⟩ (.int .i64 txn)).setCell ⟨g, k * 3 + 2, none⟩ (.int .i64 m1))) from ((HK8.out.setCell (.inl hgw) _).setCell (.inl hgw) _).setCell (.inl hgw) _)
    go_ret
    exact ⟨⟨45, some ⟨g, 0, none⟩, n, yc, ((bs.set (k * 3) id).set (k * 3 + 1) txn).set (k * 3 + 2) m1⟩, rfl, HRR.out.symm, fun b hb => by have := FootL_fr hb; omega, HO9.out.out, HK9.out⟩
end Go.Proofs.Ytmpfpgelaipmnaa

namespace Go.Proofs.Ytmpfpgelaipmnaa
set_option maxRecDepth 100000
set_option maxHeartbeats 16000000
open Go.RowKit
set_option linter.unusedVariables false
theorem holdTake_walk (x0 : FR) (s1 : Int) (s2 : Int) (s3 : Int) (s4 : Int) (w : World) (hv0 : RdF 3 w x0) (hB0 : ∀ v ∈ x0.bs, IsI v) :
    Calls Try.prog 8 #[x0.v, .int .i64 s1, .int .i64 s2, .int .i64 s3, .int .i64 s4] w fun e w' => e = .returned (.bool true) ∧ Same w w' := by
  obtain ⟨p0e, p0a, p0n, p0c, p0b⟩ := x0
  have hm0 : p0n ≤ maxLen := hv0.1
  unfold maxLen at hm0
  have hl0 : p0b.length = p0n * 3 := hv0.2.1
  have HV0 := (show Hid (RdF 3 w ⟨p0e, p0a, p0n, p0c, p0b⟩) from hv0)
  clear hv0
  have HB0 := (show Hid (∀ v ∈ p0b, IsI v) from hB0)
  clear hB0
  dsimp only [FR.v]
  go_enter Try.func8, Try.ntmps8
  have HKw : Hid (Same w w) := Kept.refl _ _
  go_wp2_with fail
  refine (szHoldS_any _ p0n _ 1048576 _ (by omega) (by omega) (by unfold maxLen; omega)).mono ?_
  rintro e w1 ⟨sz0, rfl, hr, hww⟩
  have hk : Same w w1 := by rw [hww]; exact Kept.refl _ _
  clear hww
  have hkk : Same w w1 := hk
  have hzw1 := hkk.size
  have HKw1 := (show Hid (Same w w1) from HKw.out.trans hkk)
  clear hkk hk
  rcases hr with ⟨rfl, _⟩ | ⟨hr, hr0⟩
  · go_wp2
    go_ret
    exact ⟨rfl, HKw1.out⟩
  have hp0 : p0n ≤ 1048576 := by omega
  have hsb0 : sz0 ≤ 1048576 := by omega
  clear hr
  go_wp2_with fail
  refine (toHoldS_any ⟨p0e, p0a, p0n, p0c, p0b⟩ _ (by dsimp only; omega) (HV0.out.same HKw1.out)).mono ?_
  rintro e w2 ⟨⟨C0e, C0a, C0n, C0c, C0b⟩, rfl, hd, hn, hf, ho, hk⟩
  dsimp only at hd hn
  replace hd := hd.symm
  replace hn := hn.symm
  subst hd hn
  dsimp only [FR.v]
  have HFC0 := (show Hid (∀ b, FootL (FR.rows 3 ⟨C0e, C0a, p0n, C0c, p0b⟩) b → w1.heap.size ≤ b ∧ b < w2.heap.size) from fun b hb => ⟨hf b hb, ho.lt b hb⟩)
  have HC0w2 := (show Hid (OwnL w2 (FR.rows 3 ⟨C0e, C0a, p0n, C0c, p0b⟩)) from ho)
  clear hf ho
  have hkk : Same w1 w2 := hk
  have hzw2 := hkk.size
  have HKw2 := (show Hid (Same w w2) from HKw1.out.trans hkk)
  clear hkk hk
  go_wp2_with fail
  refine (specHoldTake_any ⟨C0e, C0a, p0n, C0c, p0b⟩ s1 s2 s3 s4 _ (FR.own_rd HC0w2.out)).mono ?_
  rintro e w3 ⟨⟨We, Wa, Wn, Wc, Wb⟩, rfl, hd, hf, ho, hk⟩
  dsimp only at hd
  have hrl : (takeH (tri p0b) s1 s2 s3 s4).length ≤ 16777216 := takeH_small hl0 hp0
  obtain ⟨r0, hR⟩ : ∃ r, takeH (tri p0b) s1 s2 s3 s4 = r := ⟨_, rfl⟩
  have HR : Hid (takeH (tri p0b) s1 s2 s3 s4 = r0) := hR
  rw [hR] at hrl
  clear hR
  rw [HR.out] at hd
  have hd := hd.symm
  subst hd
  dsimp only [FR.v]
  have hlW := FR.own_len ho
  dsimp only at hlW
  have HFW := (show Hid (∀ b, FootL (FR.rows 3 ⟨We, Wa, Wn, Wc, r0⟩) b → w2.heap.size ≤ b ∧ b < w3.heap.size) from fun b hb => ⟨hf b hb, ho.lt b hb⟩)
  have HWw3 := (show Hid (OwnL w3 (FR.rows 3 ⟨We, Wa, Wn, Wc, r0⟩)) from ho)
  clear hf ho
  have hkk : Same w2 w3 := hk
  have hzw3 := hkk.size
  have HC0w3 := (show Hid (OwnL w3 (FR.rows 3 ⟨C0e, C0a, p0n, C0c, p0b⟩)) from HC0w2.out.same hkk)
  have HKw3 := (show Hid (Same w w3) from HKw2.out.trans hkk)
  clear hkk hk
  go_wp2_with fail
  refine (toHoldS_any ⟨p0e, p0a, p0n, p0c, p0b⟩ _ (by dsimp only; omega) (HV0.out.same HKw3.out)).mono ?_
  rintro e w4 ⟨⟨X0e, X0a, X0n, X0c, X0b⟩, rfl, hd, hn, hf, ho, hk⟩
  dsimp only at hd hn
  replace hd := hd.symm
  replace hn := hn.symm
  subst hd hn
  dsimp only [FR.v]
  have HFX0 := (show Hid (∀ b, FootL (FR.rows 3 ⟨X0e, X0a, p0n, X0c, p0b⟩) b → w3.heap.size ≤ b ∧ b < w4.heap.size) from fun b hb => ⟨hf b hb, ho.lt b hb⟩)
  have HX0w4 := (show Hid (OwnL w4 (FR.rows 3 ⟨X0e, X0a, p0n, X0c, p0b⟩)) from ho)
  clear hf ho
  have hkk : Same w3 w4 := hk
  have hzw4 := hkk.size
  have HWw4 := (show Hid (OwnL w4 (FR.rows 3 ⟨We, Wa, Wn, Wc, r0⟩)) from HWw3.out.same hkk)
  have HKw4 := (show Hid (Same w w4) from HKw3.out.trans hkk)
  clear hkk hk
  go_wp2_with fail
  refine (implHoldTake_any ⟨X0e, X0a, p0n, X0c, p0b⟩ s1 s2 s3 s4 _ (FR.own_rd HX0w4.out)).mono ?_
  rintro e w5 ⟨⟨Ge, Ga, Gn, Gc, Gb⟩, rfl, hd, hf, ho, hk⟩
  dsimp only at hd
  rw [HR.out] at hd
  have hd := hd.symm
  subst hd
  dsimp only [FR.v]
  have hlG := FR.own_len ho
  dsimp only at hlG
  have HFG := (show Hid (∀ b, FootL (FR.rows 3 ⟨Ge, Ga, Gn, Gc, r0⟩) b → w4.heap.size ≤ b ∧ b < w5.heap.size) from fun b hb => ⟨hf b hb, ho.lt b hb⟩)
  have HGw5 := (show Hid (OwnL w5 (FR.rows 3 ⟨Ge, Ga, Gn, Gc, r0⟩)) from ho)
  clear hf ho
  have hkk : Same w4 w5 := hk
  have hzw5 := hkk.size
  have HWw5 := (show Hid (OwnL w5 (FR.rows 3 ⟨We, Wa, Wn, Wc, r0⟩)) from HWw4.out.same hkk)
  have HX0w5 := (show Hid (OwnL w5 (FR.rows 3 ⟨X0e, X0a, p0n, X0c, p0b⟩)) from HX0w4.out.same hkk)
  have HKw5 := (show Hid (Same w w5) from HKw4.out.trans hkk)
  clear hkk hk
  go_wp2_with fail
  refine (eqHoldS_own ⟨Ge, Ga, Gn, Gc, r0⟩ ⟨We, Wa, Wn, Wc, r0⟩ _ (by dsimp only; omega) rfl HGw5.out HWw5.out).mono ?_
  rintro e w6 ⟨rfl, hk⟩
  have hkk : Same w5 w6 := hk
  have hzw6 := hkk.size
  have HWw6 := (show Hid (OwnL w6 (FR.rows 3 ⟨We, Wa, Wn, Wc, r0⟩)) from HWw5.out.same hkk)
  have HX0w6 := (show Hid (OwnL w6 (FR.rows 3 ⟨X0e, X0a, p0n, X0c, p0b⟩)) from HX0w5.out.same hkk)
  have HGw6 := (show Hid (OwnL w6 (FR.rows 3 ⟨Ge, Ga, Gn, Gc, r0⟩)) from HGw5.out.same hkk)
  have HKw6 := (show Hid (Same w w6) from HKw5.out.trans hkk)
  clear hkk hk
  go_wp2_with fail
  refine (toHoldS_any ⟨p0e, p0a, p0n, p0c, p0b⟩ _ (by dsimp only; omega) (HV0.out.same HKw6.out)).mono ?_
  rintro e w7 ⟨⟨D0e, D0a, D0n, D0c, D0b⟩, rfl, hd, hn, hf, ho, hk⟩
  dsimp only at hd hn
  replace hd := hd.symm
  replace hn := hn.symm
  subst hd hn
  dsimp only [FR.v]
  have HFD0 := (show Hid (∀ b, FootL (FR.rows 3 ⟨D0e, D0a, p0n, D0c, p0b⟩) b → w6.heap.size ≤ b ∧ b < w7.heap.size) from fun b hb => ⟨hf b hb, ho.lt b hb⟩)
  have HD0w7 := (show Hid (OwnL w7 (FR.rows 3 ⟨D0e, D0a, p0n, D0c, p0b⟩)) from ho)
  clear hf ho
  have hkk : Same w6 w7 := hk
  have hzw7 := hkk.size
  have HWw7 := (show Hid (OwnL w7 (FR.rows 3 ⟨We, Wa, Wn, Wc, r0⟩)) from HWw6.out.same hkk)
  have HX0w7 := (show Hid (OwnL w7 (FR.rows 3 ⟨X0e, X0a, p0n, X0c, p0b⟩)) from HX0w6.out.same hkk)
  have HGw7 := (show Hid (OwnL w7 (FR.rows 3 ⟨Ge, Ga, Gn, Gc, r0⟩)) from HGw6.out.same hkk)
  have HKw7 := (show Hid (Same w w7) from HKw6.out.trans hkk)
  clear hkk hk
  go_wp2_with fail
  refine (eqHoldS_own ⟨X0e, X0a, p0n, X0c, p0b⟩ ⟨D0e, D0a, p0n, D0c, p0b⟩ _ (by dsimp only; omega) rfl HX0w7.out HD0w7.out).mono ?_
  rintro e w8 ⟨rfl, hk⟩
  have hkk : Same w7 w8 := hk
  have hzw8 := hkk.size
  have HWw8 := (show Hid (OwnL w8 (FR.rows 3 ⟨We, Wa, Wn, Wc, r0⟩)) from HWw7.out.same hkk)
  have HX0w8 := (show Hid (OwnL w8 (FR.rows 3 ⟨X0e, X0a, p0n, X0c, p0b⟩)) from HX0w7.out.same hkk)
  have HGw8 := (show Hid (OwnL w8 (FR.rows 3 ⟨Ge, Ga, Gn, Gc, r0⟩)) from HGw7.out.same hkk)
  have HKw8 := (show Hid (Same w w8) from HKw7.out.trans hkk)
  clear hkk hk
  have hE0 : (0 : Int) ≤ 1 := by omega
  have hE0b : (1 : Int) ≤ 1 := by omega
  go_wp2_with fail
  refine (markHoldS_own ⟨X0e, X0a, p0n, X0c, p0b⟩ 1 _ (by omega) (by dsimp only; omega) HX0w8.out).mono ?_
  rintro e w9 ⟨rfl, _, hk⟩
  dsimp only
  obtain ⟨E1, hE⟩ : ∃ E : Int, 1 + (p0b.length : Int) = E := ⟨_, rfl⟩
  have hE1 : 0 ≤ E1 := by omega
  have hE1b : E1 ≤ 7000001 := by omega
  rw [hE]
  clear hE
  have hzw9 := hk.size
  have HWw9 := (show Hid (OwnL w9 (FR.rows 3 ⟨We, Wa, Wn, Wc, r0⟩)) from HWw8.out.kept hk (fun b hb e => by have h1 := HFX0.out _ e; have h2 := HFW.out b hb; omega))
  have HGw9 := (show Hid (OwnL w9 (FR.rows 3 ⟨Ge, Ga, Gn, Gc, r0⟩)) from HGw8.out.kept hk (fun b hb e => by have h1 := HFX0.out _ e; have h2 := HFG.out b hb; omega))
  have HKw9 := (show Hid (Same w w9) from HKw8.out.next hk (fun b hb e => by have h1 := HFX0.out _ e; omega))
  clear hk
  have hEn : ¬ E1 < 0 := by omega
  go_wp2_with fail
  refine (eqHoldS_own ⟨Ge, Ga, Gn, Gc, r0⟩ ⟨We, Wa, Wn, Wc, r0⟩ _ (by dsimp only; omega) rfl HGw9.out HWw9.out).mono ?_
  rintro e w10 ⟨rfl, hk⟩
  have hkk : Same w9 w10 := hk
  have hzw10 := hkk.size
  have HWw10 := (show Hid (OwnL w10 (FR.rows 3 ⟨We, Wa, Wn, Wc, r0⟩)) from HWw9.out.same hkk)
  have HGw10 := (show Hid (OwnL w10 (FR.rows 3 ⟨Ge, Ga, Gn, Gc, r0⟩)) from HGw9.out.same hkk)
  have HKw10 := (show Hid (Same w w10) from HKw9.out.trans hkk)
  clear hkk hk
  have hM2 : ¬ (1 + (r0.length : Int)) < 0 := by omega
  go_wp2_with fail
  refine (markHoldS_own ⟨Ge, Ga, Gn, Gc, r0⟩ 1 _ (by omega) (by dsimp only; omega) HGw10.out).mono ?_
  rintro e w11 ⟨rfl, ho, hk⟩
  dsimp only
  have hzw11 := hk.size
  have HWw11 := (show Hid (OwnL w11 (FR.rows 3 ⟨We, Wa, Wn, Wc, r0⟩)) from HWw10.out.kept hk (fun b hb e => by have h1 := HFG.out _ e; have h2 := HFW.out b hb; omega))
  have HKw11 := (show Hid (Same w w11) from HKw10.out.next hk (fun b hb e => by have h1 := HFG.out _ e; omega))
  have HUw11 := (show Hid (OwnL w11 (FR.rows 3 (FR.marked ⟨Ge, Ga, Gn, Gc, r0⟩ 1))) from ho)
  clear hk ho
  have HFU := (show Hid (∀ b, FootL (FR.rows 3 (FR.marked ⟨Ge, Ga, Gn, Gc, r0⟩ 1)) b → _ ∧ _) from fun b hb => HFG.out b ((FR.foot_marked 3 _ _ b).1 hb))
  go_wp2_with fail
  refine (heldHoldS_own ⟨Ge, Ga, Gn, Gc, r0⟩ 1 _ (by omega) (by dsimp only; omega) HUw11.out).mono ?_
  rintro e w12 ⟨rfl, hk⟩
  dsimp only
  have hkk : Same w11 w12 := hk
  have hzw12 := hkk.size
  have HWw12 := (show Hid (OwnL w12 (FR.rows 3 ⟨We, Wa, Wn, Wc, r0⟩)) from HWw11.out.same hkk)
  have HUw12 := (show Hid (OwnL w12 (FR.rows 3 (FR.marked ⟨Ge, Ga, Gn, Gc, r0⟩ 1))) from HUw11.out.same hkk)
  have HKw12 := (show Hid (Same w w12) from HKw11.out.trans hkk)
  clear hkk hk
  go_wp2_with fail
  refine (toHoldS_any ⟨p0e, p0a, p0n, p0c, p0b⟩ _ (by dsimp only; omega) (HV0.out.same HKw12.out)).mono ?_
  rintro e w13 ⟨⟨J0e, J0a, J0n, J0c, J0b⟩, rfl, hd, hn, hf, ho, hk⟩
  dsimp only at hd hn
  replace hd := hd.symm
  replace hn := hn.symm
  subst hd hn
  dsimp only [FR.v]
  have HFJ0 := (show Hid (∀ b, FootL (FR.rows 3 ⟨J0e, J0a, p0n, J0c, p0b⟩) b → w12.heap.size ≤ b ∧ b < w13.heap.size) from fun b hb => ⟨hf b hb, ho.lt b hb⟩)
  have HJ0w13 := (show Hid (OwnL w13 (FR.rows 3 ⟨J0e, J0a, p0n, J0c, p0b⟩)) from ho)
  clear hf ho
  have hkk : Same w12 w13 := hk
  have hzw13 := hkk.size
  have HWw13 := (show Hid (OwnL w13 (FR.rows 3 ⟨We, Wa, Wn, Wc, r0⟩)) from HWw12.out.same hkk)
  have HUw13 := (show Hid (OwnL w13 (FR.rows 3 (FR.marked ⟨Ge, Ga, Gn, Gc, r0⟩ 1))) from HUw12.out.same hkk)
  have HKw13 := (show Hid (Same w w13) from HKw12.out.trans hkk)
  clear hkk hk
  go_wp2_with fail
  refine (implHoldTake_any ⟨J0e, J0a, p0n, J0c, p0b⟩ s1 s2 s3 s4 _ (FR.own_rd HJ0w13.out)).mono ?_
  rintro e w14 ⟨⟨Le, La, Ln, Lc, Lb⟩, rfl, hd, hf, ho, hk⟩
  dsimp only at hd
  rw [HR.out] at hd
  have hd := hd.symm
  subst hd
  dsimp only [FR.v]
  have hlL := FR.own_len ho
  dsimp only at hlL
  have HFL := (show Hid (∀ b, FootL (FR.rows 3 ⟨Le, La, Ln, Lc, r0⟩) b → w13.heap.size ≤ b ∧ b < w14.heap.size) from fun b hb => ⟨hf b hb, ho.lt b hb⟩)
  have HLw14 := (show Hid (OwnL w14 (FR.rows 3 ⟨Le, La, Ln, Lc, r0⟩)) from ho)
  clear hf ho
  have hkk : Same w13 w14 := hk
  have hzw14 := hkk.size
  have HWw14 := (show Hid (OwnL w14 (FR.rows 3 ⟨We, Wa, Wn, Wc, r0⟩)) from HWw13.out.same hkk)
  have HUw14 := (show Hid (OwnL w14 (FR.rows 3 (FR.marked ⟨Ge, Ga, Gn, Gc, r0⟩ 1))) from HUw13.out.same hkk)
  have HJ0w14 := (show Hid (OwnL w14 (FR.rows 3 ⟨J0e, J0a, p0n, J0c, p0b⟩)) from HJ0w13.out.same hkk)
  have HKw14 := (show Hid (Same w w14) from HKw13.out.trans hkk)
  clear hkk hk
  go_wp2_with fail
  refine (eqHoldS_own ⟨Le, La, Ln, Lc, r0⟩ ⟨We, Wa, Wn, Wc, r0⟩ _ (by dsimp only; omega) rfl HLw14.out HWw14.out).mono ?_
  rintro e w15 ⟨rfl, hk⟩
  have hkk : Same w14 w15 := hk
  have hzw15 := hkk.size
  have HWw15 := (show Hid (OwnL w15 (FR.rows 3 ⟨We, Wa, Wn, Wc, r0⟩)) from HWw14.out.same hkk)
  have HUw15 := (show Hid (OwnL w15 (FR.rows 3 (FR.marked ⟨Ge, Ga, Gn, Gc, r0⟩ 1))) from HUw14.out.same hkk)
  have HLw15 := (show Hid (OwnL w15 (FR.rows 3 ⟨Le, La, Ln, Lc, r0⟩)) from HLw14.out.same hkk)
  have HKw15 := (show Hid (Same w w15) from HKw14.out.trans hkk)
  clear hkk hk
  go_wp2_with fail
  refine (heldHoldS_own ⟨Ge, Ga, Gn, Gc, r0⟩ 1 _ (by omega) (by dsimp only; omega) HUw15.out).mono ?_
  rintro e w16 ⟨rfl, hk⟩
  dsimp only
  have hkk : Same w15 w16 := hk
  have hzw16 := hkk.size
  have HUw16 := (show Hid (OwnL w16 (FR.rows 3 (FR.marked ⟨Ge, Ga, Gn, Gc, r0⟩ 1))) from HUw15.out.same hkk)
  have HKw16 := (show Hid (Same w w16) from HKw15.out.trans hkk)
  clear hkk hk
  go_wp2
  go_ret
  exact ⟨rfl, HKw16.out⟩
end Go.Proofs.Ytmpfpgelaipmnaa

namespace Go.Proofs.Ytmpfpgelaipmnaa.fnExactHoldTake
open Go.ChangeShapes Go.WideShapes Go.ChangeAt Go.RowKit
set_option linter.unusedVariables false
theorem own : ownKnob Try.prog.godebug = none := by kernel_rfl
theorem laidOut : laidOutB Try.prog = true := by kernel_rfl
set_option maxRecDepth 100000 in
theorem lifted (os : Os) (started : os.Started) (H : Type) (enc : TypeId × Value → H) :
    ReturnsInHanded {} Try.checked os 8 .any (Rows.fnExactHoldTakeSpec.pre6 enc Try.prog Try.f8 Rows.fnExactHoldTakeRow.domain false) (Rows.fnExactHoldTakeSpec.post enc Try.prog Try.f8 false true false false) := by
  refine returnsInHanded_of_change (C := Try.checked) own started (by kernel_rfl) Try.func8
    (ChangeSpec.witness6 (enc := enc) (C := Try.checked) false ⟨#[], #[.slice none 0 0, .int .i64 0, .int .i64 0, .int .i64 0, .int .i64 0], []⟩ 8 (by kernel_rfl) (by kernel_rfl) (by kernel_rfl) (by kernel_rfl)) ?_
  intro W base args ds gs before hval0 hW hcnd _
  have hval : ∀ (j : Nat) t v, Try.f8.params[j]? = some t → args[j]? = some v → Value.okWide Try.prog W .any base t v := hval0
  have hW' := hW
  obtain ⟨p, q, hA0, hV, rfl, hfz, hnd⟩ := hW
  have hA : DataW.TrodAll enc Try.prog W 0 (fun _ => true) true Try.f8.params.toList args.toList ds p := hA0
  rw [Try.params8] at hA hval
  obtain ⟨v0, vs0, d0, ds0, p0, q0, hargs, rfl, rfl, h0, r0⟩ := trodAll_cons hA
  obtain ⟨v1, vs1, d1, ds1, p1, q1, rfl, rfl, rfl, h1, r1⟩ := trodAll_cons r0
  obtain ⟨v2, vs2, d2, ds2, p2, q2, rfl, rfl, rfl, h2, r2⟩ := trodAll_cons r1
  obtain ⟨v3, vs3, d3, ds3, p3, q3, rfl, rfl, rfl, h3, r3⟩ := trodAll_cons r2
  obtain ⟨v4, vs4, d4, ds4, p4, q4, rfl, rfl, rfl, h4, r4⟩ := trodAll_cons r3
  obtain ⟨rfl, rfl, rfl⟩ := trodAll_nil r4
  obtain rfl : args = #[v0, v1, v2, v3, v4] := by cases args; simp_all
  obtain ⟨rfl, rfl⟩ := trodVars_none hV
  have k0 := h0
  have lt0 : ∀ x ∈ p0, x.block < W.heap.size := by obtain ⟨m, hm⟩ := k0; exact DataW.trod_lt m _ _ _ hm
  obtain ⟨x0, rfl, rd0, bd0⟩ := open_holdS (hval 0 32 v0 rfl rfl) h0
  obtain ⟨a1, rfl, rfl, rfl, w1⟩ := open_int Try.underlying2 (hval 1 2 v1 rfl rfl) h1
  obtain ⟨a2, rfl, rfl, rfl, w2⟩ := open_int Try.underlying2 (hval 2 2 v2 rfl rfl) h2
  obtain ⟨a3, rfl, rfl, rfl, w3⟩ := open_int Try.underlying2 (hval 3 2 v3 rfl rfl) h3
  obtain ⟨a4, rfl, rfl, rfl, w4⟩ := open_int Try.underlying2 (hval 4 2 v4 rfl rfl) h4
  clear hA0 hval0
  refine (holdTake_walk x0 a1 a2 a3 a4 W rd0 bd0).mono fun e W' ⟨he, hk⟩ => ?_
  have bel : Below W.heap.size W W' := hk.below (Nat.le_refl _) (fun _ _ => id)
  subst he
  exact ⟨_, rfl, _, _, _, [], _, [], hW', trodAll_mk1 (shut_bool Try.underlying4 _), (trodAll_cons_mk (Below.trod laidOut (by kernel_rfl) (of_decide_eq_true (by kernel_rfl)) k0 bel lt0) (trodAll_cons_mk (shut_int Try.underlying2 w1) (trodAll_cons_mk (shut_int Try.underlying2 w2) (trodAll_cons_mk (shut_int Try.underlying2 w3) (trodAll_cons_mk (shut_int Try.underlying2 w4) trodAll_mk0))))), rfl, bel.frame _, fun h => by cases h⟩
theorem over : Rows.fnExactHoldTakeRow.holds Try.pinned (OpenSpec.ofChange Rows.fnExactHoldTakeSpec) :=
  OpenClaim.holds_of_wide 8 Try.f8 rfl rfl rfl rfl rfl rfl rfl ⟨rfl, rfl, rfl, rfl, rfl⟩ rfl rfl rfl rfl rfl (by kernel_rfl) Try.func8 (by kernel_rfl)
    (of_decide_eq_true (by kernel_rfl)) (by unfold Func.isWrapper; first | (rw [if_pos (by decide +kernel)]; kernel_rfl) | (rw [if_neg (by decide +kernel)]; exact ⟨rfl, rfl⟩))
    (fun os started H enc _ => lifted os started H enc)
end Go.Proofs.Ytmpfpgelaipmnaa.fnExactHoldTake
namespace Go.Proofs.Ytmpfpgelaipmnaa
theorem holdTake_proved : Rows.FnExactHoldTakeSaid := fnExactHoldTake.over
#print axioms holdTake_proved
end Go.Proofs.Ytmpfpgelaipmnaa
