import Derived.Test.YtmpfpgelaipmnabG00
import Derived.Test.YtmpfpgelaipmnabG01
import Derived.Test.YtmpfpgelaipmnabHoldFind
import Derived.Deep.MidRow
import Derived.Deep.WholeRow
import Derived.Laws.IdiomCopy
import Derived.Great.BuildSlice
import Derived.Lib.Overlaps
import Derived.Lib.AppendZerosOnto
import Derived.Laws.Externs
namespace Go.Proofs.Ytmpfpgelaipmnab
set_option linter.unusedVariables false
set_option linter.unusedSimpArgs false
set_option maxRecDepth 100000
set_option maxHeartbeats 4000000
open Go.RowKit
theorem addr_add (B o j : Nat) : (⟨B, o, none⟩ : Addr).add j = ⟨B, o + j, none⟩ := by unfold Addr.add; split <;> simp_all
theorem Blk.loads {P : Program} {w : World} {B : Nat} {e : TypeId} {xs : List Value} (h : Blk w B e xs) (o n : Nat) (hn : o + n ≤ xs.length) : (loadCellsFrom ⟨B, o, none⟩ 0 n #[]).run P w = .ok ((xs.drop o).take n).toArray w := by
  have hl : ((xs.drop o).take n).length = n := by simp; omega
  have := run_loadCells_list (P := P) w ⟨B, o, none⟩ ((xs.drop o).take n) (fun j v hv => by
    rw [addr_add, h.cell]
    have hj : j < n := by have := (List.getElem?_eq_some_iff.1 hv).1; omega
    rw [List.getElem?_take_of_lt hj, List.getElem?_drop] at hv
    exact hv)
  simpa [loadCells, hl] using this
theorem Blk.setCells {B : Nat} {e : TypeId} : ∀ (vs : List Value) (o : Nat) {w : World} {xs : List Value}, Blk w B e xs → o + vs.length ≤ xs.length → Blk (w.setCells B o vs) B e (lay xs o vs)
  | [], o, w, xs, h, _ => by rw [lay_nil]; exact h
  | v :: vs, o, w, xs, h, hl => by
    simp only [List.length_cons] at hl
    have := Blk.setCells vs (o + 1) (h.stored o v) (by rw [List.length_set]; omega)
    rw [lay_cons _ _ _ _ hl] at this
    exact this
theorem Kept.setCells {R : Nat → Prop} {a : World} {B : Nat} (hB : a.heap.size ≤ B ∨ R B) : ∀ (vs : List Value) (o : Nat) {b : World}, Kept R a b → Kept R a (b.setCells B o vs)
  | [], _, _, h => h
  | v :: vs, o, b, h => Kept.setCells hB vs (o + 1) (h.setCell (p := ⟨B, o, none⟩) hB v)
theorem Blk.stores {P : Program} {w : World} {B : Nat} {e : TypeId} {xs : List Value} (h : Blk w B e xs) (o : Nat) (vs : List Value) (hn : o + vs.length ≤ xs.length) (h1 : ∀ v ∈ vs, v.oneCell' = true) : (storeCells ⟨B, o, none⟩ vs 0).run P w = .ok () (w.setCells B o vs) := by
  have := run_storeCells_cells (P := P) B o vs 0 w (fun j hj => by rw [Nat.add_zero, h.cell, List.getElem?_eq_getElem (by omega)]; rfl) (fun j _ => h.frozen _) h1
  simpa using this
theorem Blk.range {w : World} {B : Nat} {e : TypeId} {xs : List Value} (h : Blk w B e xs) (o : Nat) (cs : List Value) (hc : ∀ j v, cs[j]? = some v → xs[o + j]? = some v) : w.rangeAt B o cs := fun j v hv => by
  rw [h.cell]
  exact hc j v hv
theorem Blk.there {w : World} {B : Nat} {e : TypeId} {xs : List Value} (h : Blk w B e xs) (o n : Nat) (hn : o + n ≤ xs.length) : w.there B o n := fun j hj => ⟨by rw [h.cell, List.getElem?_eq_getElem (by omega)]; rfl, h.frozen _⟩
theorem run_copy_m {P : Program} (w : World) (dT sT ty elem : TypeId) (m b o dLen dCap : Nat) (a : Addr) (sLen sCap c : Nat) (cs : List Value)
    (hu : P.underlying dT = some (.slice elem)) (hs : (P.info? elem).map (·.size) = some m) (hc0 : Nat.min sLen dLen = c) (hn : c * m = cs.length)
    (hsrc : ∀ j v, cs[j]? = some v → w.cell? (a.add j) = some v) (hc : ∀ j, j < cs.length → (w.cell? ⟨b, o + j, none⟩).isSome = true) (hf : ∀ j, j < cs.length → w.frozen? ⟨b, o + j, none⟩ = false) (h1 : ∀ v ∈ cs, v.oneCell' = true) :
    (Builtin.copy_ #[dT, sT] ty #[.slice (some ⟨b, o, none⟩) dLen dCap, .slice (some a) sLen sCap]).run P w = .ok (goInt c) (w.setCells b o cs) := by
  have hl := run_loadCells_list (P := P) w a cs hsrc
  have hst := run_storeCells_cells (P := P) b o cs 0 w (by simpa using hc) (by simpa using hf) h1
  cases hq : P.info? elem with
  | none => simp [hq] at hs
  | some i =>
    have hi : i.size = m := by simpa [hq] using hs
    simp [Builtin.copy_, run_underlying hu, Builtin.lenOf, Builtin.firstCells, sizeOf, typeInfo, hq, hi, hc0, hn, hl, hst]
section
variable {P : Program} {ops : Array Oper} {o : Oper} {a : Act} {w : World} {K : Act → World → Prop} {Q : Exit → Act → World → Prop} {E : Prop}
theorem step_copy_m {B off dl dc sl sc m c : Nat} {e tb : TypeId} {ad : Addr} {xs : List Value} (hgd : o.guard = none) (d s : Operand) (T : TypeId) (ho : o.op = .call { callee := .builtin .copy, args := #[d, s], argTypes := #[T, T] })
    (hu : P.underlying T = some (.slice tb)) (hsz : (P.info? tb).map (·.size) = some m) (cs : List Value) (hb : Blk w B e xs) (hd : a.eval d = .slice (some ⟨B, off, none⟩) dl dc) (hs : a.eval s = .slice (some ad) sl sc)
    (hc0 : Nat.min sl dl = c) (hn : c * m = cs.length) (hsrc : ∀ j v, cs[j]? = some v → w.cell? (ad.add j) = some v) (hfit : off + cs.length ≤ xs.length) (h1 : ∀ v ∈ cs, v.oneCell' = true)
    (h : K (a.put o.dst (goInt c)) (w.setCells B off cs)) :
    if Region.wanted o (yielded ops a.tmps) = true then Oper.wp P o a w K Q else E := by
  have hw : Region.wanted o (yielded ops a.tmps) = true := by simp [Region.wanted, hgd]
  rw [if_pos hw]
  have hrun := run_copy_m (P := P) w T T o.type tb m B off dl dc ad sl sc c cs hu hsz hc0 hn hsrc (fun j hj => by rw [hb.cell, List.getElem?_eq_getElem (by omega)]; rfl) (fun j _ => hb.frozen _) h1
  unfold Oper.wp
  simp [execOp, ho, resolve, invoke, builtin, hd, hs, hrun, Result.andThen]
  exact h
end
theorem OwnF.blk {e : TypeId} {w : World} {g n c : Nat} {bs : List Int} (h : OwnF 3 e w g n c bs) : ∃ xs, Blk w g e xs ∧ xs.length = c * 3 ∧ xs.take (n * 3) = vals .i64 bs ∧ n ≤ c ∧ c ≤ maxLen := by
  rcases h.2 with ⟨h2, _⟩ | ⟨g', cap, cur, hv, hb, hgg, hc, hm, hs, ht⟩
  · cases h2
  · injection hv with a1 a2 a3
    injection a1 with a1
    injection a1 with a1
    subst a1 a3
    exact ⟨cur.toList, by unfold Blk; rw [Array.toArray_toList]; exact hgg, by rw [Array.length_toList]; exact hs, ht, hc, hm⟩
theorem ownF_of_blk {e : TypeId} {w : World} {g n c : Nat} {xs : List Value} {bs : List Int} (hb : Blk w g e xs) (hl : xs.length = c * 3) (hn : n ≤ c) (hc : c ≤ maxLen) (ht : xs.take (n * 3) = vals .i64 bs) : OwnF 3 e w g n c bs := by
  refine ⟨?_, .inr ⟨g, c, xs.toArray, rfl, Nat.zero_le _, hb, hn, hc, ?_, ?_⟩⟩
  · rw [← ht, List.length_take, hl]
    have : n * 3 ≤ c * 3 := Nat.mul_le_mul_right 3 hn
    omega
  · rw [List.size_toArray]; exact hl
  · rw [List.toList_toArray]; exact ht
theorem insertEnd_any (xa : Option Addr) (n c vb : Nat) (bs : List Int) (p q r : Int) (w : World) (hn : n ≤ 1048576) (ho : OwnL w (FR.rows 3 ⟨53, xa, n, c, bs⟩)) (hb : Blk w vb 53 [.int .i64 p, .int .i64 q, .int .i64 r]) :
    Calls Try.prog 58 #[.slice xa n c, .int .i64 n, .slice (some ⟨vb, 0, none⟩) 1 1] w fun e w' => ∃ a' c', e = .returned (.slice a' (n + 1) c') ∧ OwnL w' (FR.rows 3 ⟨53, a', n + 1, c', bs ++ [p, q, r]⟩) ∧ (∀ b, FootL (FR.rows 3 ⟨53, a', n + 1, c', bs ++ [p, q, r]⟩) b → FootL (FR.rows 3 ⟨53, xa, n, c, bs⟩) b ∨ w.heap.size ≤ b) ∧ Kept (FootL (FR.rows 3 ⟨53, xa, n, c, bs⟩)) w w' := by
  obtain ⟨i0, hi, hz0, hz1, hz2⟩ := info_parts Try.infoHold
  have HO := (show Hid (w.ownsRow 0 53 3 (.slice xa n c) n (vals .i64 bs)) from FR.own_one ho)
  have hnc : n ≤ c := by
    rcases FR.own_form ho with ⟨h1, _, _⟩ | ⟨g, _, h2, _⟩
    · dsimp only at h1; omega
    · exact h2
  have hcm : c ≤ 9223372036854775807 := by
    rcases FR.own_form ho with ⟨_, _, h1⟩ | ⟨g, _, _, h2, _⟩
    · dsimp only at h1; omega
    · dsimp only at h2; unfold maxLen at h2; omega
  have hnone : xa = none → n = 0 := by
    intro h
    rcases FR.own_form ho with ⟨h1, _, _⟩ | ⟨g, h1, _⟩
    · exact h1
    · dsimp only at h1; rw [h] at h1; cases h1
  have HN := hid hnone
  have HB := hid hb
  have HFT : Hid (∀ b, FootL (FR.rows 3 ⟨53, xa, n, c, bs⟩) b ↔ (Value.slice xa n c).ownBlock = some b) := fun b => FootL_one _ _
  clear ho hb hnone
  have fin : ∀ (g5 cap5 : Nat) (w5 : World), Hid (w5.ownsRow 0 53 3 (.slice (some ⟨g5, 0, none⟩) (n + 1) cap5) (n + 1) (vals .i64 bs ++ [.int .i64 p, .int .i64 q, .int .i64 r])) → Hid (w.grownBy w5 (Value.slice xa n c).ownBlock) → Hid ((Value.slice xa n c).ownBlock = some g5 ∨ g5 = w.heap.size) →
      ∃ a' c', Ending.returned (.slice (some ⟨g5, 0, none⟩) (n + 1) cap5) = .returned (.slice a' (n + 1) c') ∧ OwnL w5 (FR.rows 3 ⟨53, a', n + 1, c', bs ++ [p, q, r]⟩) ∧ (∀ b, FootL (FR.rows 3 ⟨53, a', n + 1, c', bs ++ [p, q, r]⟩) b → FootL (FR.rows 3 ⟨53, xa, n, c, bs⟩) b ∨ w.heap.size ≤ b) ∧ Kept (FootL (FR.rows 3 ⟨53, xa, n, c, bs⟩)) w w5 := fun g5 cap5 w5 H1 H2 H3 =>
    ⟨_, _, rfl, (OwnF.of_app3 H1.out).out, fun b hb => by
      have h1 := FootL_fr hb
      subst h1
      rcases H3.out with h | h
      · exact .inl ((HFT.out _).2 h)
      · exact .inr (by omega), (Kept.refl _ _).grown H2.out (fun i e => .inr ((HFT.out i).2 e))⟩
  by_cases hcn : c = n
  · obtain rfl : n = c := hcn.symm
    go_enter Try.func58, Try.ntmps58
    go_wp2_with (at_builtin; go_loud (refine wpList_append_lies _ rfl (.tmp 23) (.tmp 24) 24 rfl 0 53 i0 _ 3 24 Try.underlying24 hi hz0 hz1 hz2 rfl (by omega) (.slice xa n n) n (vals .i64 bs) rfl (by exact HO.out) ⟨vb, 0, none⟩ 1 1 [.int .i64 p, .int .i64 q, .int .i64 r] rfl rfl (World.news_of_block (cs := #[.int .i64 p, .int .i64 q, .int .i64 r]) (t := 53) (fr := (0, 0)) (by exact HB.out)) (by simp [Value.oneCell']) (by omega) (by unfold maxLen; omega) (by omega) (Nat.zero_le _) w.heap.size rfl ?_); intro g5 cap5 w5 hown5 hgrow5 hat5 hlt5; have H1 := hid hown5; have H2 := hid hgrow5; have H3 := hid hat5; clear hown5 hgrow5 hat5)
    go_ret
    exact fin _ _ _ H1 H2 H3
  · have hcn' : ¬ (n = c) := fun h => hcn h.symm
    go_enter Try.func58, Try.ntmps58
    go_wp2_with (at_builtin; go_loud (refine wpList_append_lies _ rfl (.tmp 23) (.tmp 24) 24 rfl 0 53 i0 _ 3 24 Try.underlying24 hi hz0 hz1 hz2 rfl (by omega) (.slice xa n c) n (vals .i64 bs) rfl (by exact HO.out) ⟨vb, 0, none⟩ 1 1 [.int .i64 p, .int .i64 q, .int .i64 r] rfl rfl (World.news_of_block (cs := #[.int .i64 p, .int .i64 q, .int .i64 r]) (t := 53) (fr := (0, 0)) (by exact HB.out)) (by simp [Value.oneCell']) (by omega) (by unfold maxLen; omega) (by omega) (Nat.zero_le _) w.heap.size rfl ?_); intro g5 cap5 w5 hown5 hgrow5 hat5 hlt5; have H1 := hid hown5; have H2 := hid hgrow5; have H3 := hid hat5; clear hown5 hgrow5 hat5)
    go_ret
    exact fin _ _ _ H1 H2 H3
theorem lay2 (xs V D : List Value) (o v : Nat) (hv : V.length = v) (hl : o + v + D.length ≤ xs.length) : lay (lay xs (o + v) D) o V = xs.take o ++ (V ++ (D ++ xs.drop (o + v + D.length))) := by
  unfold lay
  rw [List.take_append_of_le_length (by rw [List.length_take]; omega), List.take_take, show min o (o + v) = o from by omega, hv, List.drop_left' (by rw [List.length_take]; omega)]
theorem cells_ins {xs : List Value} {bs : List Int} {n c k : Nat} {p q r : Int} (hl : xs.length = c * 3) (ht : xs.take (n * 3) = vals .i64 bs) (hb : bs.length = n * 3) (hk : k ≤ n) (hc : n + 1 ≤ c) :
    (lay (lay xs (k * 3 + 3) (vals .i64 (bs.drop (k * 3)))) (k * 3) [.int .i64 p, .int .i64 q, .int .i64 r]).take ((n + 1) * 3) = vals .i64 (bs.take (k * 3) ++ (p :: q :: r :: bs.drop (k * 3))) := by
  have hd : (vals .i64 (bs.drop (k * 3))).length = n * 3 - k * 3 := by rw [vals_length, List.length_drop, hb]
  rw [lay2 xs [.int .i64 p, .int .i64 q, .int .i64 r] (vals .i64 (bs.drop (k * 3))) (k * 3) 3 rfl (by omega)]
  have e1 : xs.take (k * 3) = vals .i64 (bs.take (k * 3)) := by
    have h := congrArg (List.take (k * 3)) ht
    rw [List.take_take, show min (k * 3) (n * 3) = k * 3 from by omega] at h
    rw [h]
    simp [vals]
  rw [e1, ← List.append_assoc, ← List.append_assoc, List.take_append_of_le_length (by simp [hd, vals_length, hb]; omega), List.take_of_length_le (by simp [hd, vals_length, hb]; omega)]
  simp [vals]
theorem insertRoom_any (g n c k vb : Nat) (bs : List Int) (p q r : Int) (w : World) (hn : n ≤ 1048576) (hk : k < n) (hc : n + 1 ≤ c) (ho : OwnF 3 53 w g n c bs) (hb : Blk w vb 53 [.int .i64 p, .int .i64 q, .int .i64 r]) (hap : vb ≠ g) :
    Calls Try.prog 58 #[.slice (some ⟨g, 0, none⟩) n c, .int .i64 k, .slice (some ⟨vb, 0, none⟩) 1 1] w fun e w' => e = .returned (.slice (some ⟨g, 0, none⟩) (n + 1) c) ∧ OwnF 3 53 w' g (n + 1) c (bs.take (k * 3) ++ (p :: q :: r :: bs.drop (k * 3))) ∧ Kept (fun b => b = g) w w' := by
  obtain ⟨i0, hi, hz0, hz1, hz2⟩ := info_parts Try.infoHold
  have hsz : (Try.prog.info? 53).map (·.size) = some 3 := by rw [hi]; simp [hz1]
  have hszr : ∀ w : World, (Go.sizeOf 53).run Try.prog w = .ok 3 w := fun w => by simp [Go.sizeOf, typeInfo, hi, hz1]
  have hbl := ho.len
  obtain ⟨xs, hx, hxl, hxt, hnc, hcm⟩ := ho.blk
  unfold maxLen at hcm
  have hov : ∀ lb cb, (callFunc 75 #[.slice (some ⟨vb, 0, none⟩) 1 1, .slice (some ⟨g, (k + 1) * 3, none⟩) lb cb]).run Try.prog w = .ok (.value (.bool false)) w := fun lb cb => by
    rw [run_callFunc_extern Try.func75 (by kernel_rfl) (by kernel_rfl) (by kernel_rfl) (e := Extern.SlicesOverlaps.overlaps #[24, 24] #[4]) (by kernel_rfl),
      Lib.run_overlaps_apart w 24 4 53 Try.underlying24 3 hszr ⟨vb, 0, none⟩ ⟨g, (k + 1) * 3, none⟩ 1 1 lb cb hap 53 53 3 xs.length (by unfold World.shape?; rw [show w.heap[vb]? = _ from hb]; rfl) (by unfold World.shape?; rw [show w.heap[g]? = _ from hx]; simp) (by omega) (hb.frozen _) (hb.frozen _)]
    rfl
  have HX := hid hx
  have HB := hid hb
  have HT := hid hxt
  have HXL := hid hxl
  have HBL := hid hbl
  have hw1 : IntKind.i64.wrap ((k : Int) + 1) = ((k + 1 : Nat) : Int) := by rw [IntKind.wrap_i64]; omega
  have hw2 : IntKind.i64.wrap ((n : Int) + 1) = ((n + 1 : Nat) : Int) := by rw [IntKind.wrap_i64]; omega
  have h1 : ¬ ((k : Int) = (n : Int)) := by omega
  have h2 : ¬ ((c : Int) < (n : Int) + 1) := by omega
  clear ho hx hb hxt hxl hbl
  go_enter Try.func58, Try.ntmps58
  go_wp2_with (simp only [hov])
  have hS : (fun _ : World => True) w.drew := trivial
  refine wp_region_V (fun _ : World => True) 99 9 rfl (by kernel_rfl) ?_
  refine tk 0 69 hS ?_
  refine tk 1 70 hS ?_
  refine tk 2 71 hS ?_
  refine tk 3 72 hS ?_
  refine tkV 4 73 (.slice (some ⟨g, (k + 1) * 3, none⟩) (n - k) (c - (k + 1))) hS ?_ (hy := by intro w hSw; go_simp; rw [if_pos (by omega), if_neg (by omega)])
  refine tk 5 74 hS ?_
  refine tk 6 75 hS ?_
  refine tkV 7 76 (.slice (some ⟨g, k * 3, none⟩) (n + 1 - k) (c - k)) hS ?_ (hy := by intro w hSw; go_simp; rw [if_pos (by omega), if_neg (by omega)])
  refine wpAnyV_one (i := 8) (by kernel_rfl) rfl (fun K hK => ?_)
  refine step_copy_m (B := g) (off := (k + 1) * 3) (dl := n - k) (dc := c - (k + 1)) (sl := n + 1 - k) (sc := c - k) (m := 3) (c := n - k) (ad := ⟨g, k * 3, none⟩) rfl (.tmp 73) (.tmp 76) 24 rfl Try.underlying24 hsz (vals .i64 (bs.drop (k * 3))) (HX.out.drew) rfl rfl (by simp only [Nat.min_def]; split <;> omega) (by rw [vals_length, List.length_drop, HBL.out]; omega) (fun j v hj => ?_) (by rw [vals_length, List.length_drop, HBL.out, HXL.out]; omega) vals_one ?_
  · rw [Addr.add_lit]
    have hj2 : j < (vals .i64 (bs.drop (k * 3))).length := (List.getElem?_eq_some_iff.1 hj).1
    rw [vals_length, List.length_drop, HBL.out] at hj2
    rw [HX.out.drew.cell, ← hj]
    have h := (show (xs.take (n * 3))[k * 3 + j]? = (vals .i64 bs)[k * 3 + j]? from by rw [HT.out])
    rw [List.getElem?_take_of_lt (by omega)] at h
    rw [h]
    simp [vals]
  have hfit : (k + 1) * 3 + (vals .i64 (bs.drop (k * 3))).length ≤ xs.length := by rw [vals_length, List.length_drop, HBL.out, HXL.out]; omega
  have HX1 := (show Hid (Blk (w.drew.setCells g ((k + 1) * 3) (vals .i64 (bs.drop (k * 3)))) g 53 (lay xs ((k + 1) * 3) (vals .i64 (bs.drop (k * 3))))) from Blk.setCells _ _ HX.out.drew hfit)
  have HK1 := (show Hid (Kept (fun b => b = g) w (w.drew.setCells g ((k + 1) * 3) (vals .i64 (bs.drop (k * 3))))) from Kept.setCells (R := fun b => b = g) (.inr rfl) _ _ (Kept.refl _ _).drew)
  have HL1 := (show Hid ((lay xs ((k + 1) * 3) (vals .i64 (bs.drop (k * 3)))).length = c * 3) from (lay_length _ _ _ hfit).trans HXL.out)
  generalize w.drew.setCells g ((k + 1) * 3) (vals .i64 (bs.drop (k * 3))) = w1 at HX1 HK1 ⊢
  have HB1 := (show Hid (Blk w1 vb 53 [.int .i64 p, .int .i64 q, .int .i64 r]) from HB.out.kept HK1.out hap)
  refine hK.out _ _ (fun _ => trivial) ?_
  clear hK K
  try simp only [Act.put, sA, s0, sS]
  refine wpAnyV_done (by kernel_rfl) ?_
  have hcp : ∀ ty, (Builtin.copy_ #[24, 24] ty #[.slice (some ⟨g, k * 3, none⟩) (n + 1 - k) (c - k), .slice (some ⟨vb, 0, none⟩) 1 1]).run Try.prog w1 = .ok (goInt 1) (w1.setCells g (k * 3) [.int .i64 p, .int .i64 q, .int .i64 r]) := fun ty =>
    run_copy_m w1 _ _ ty 53 3 g (k * 3) (n + 1 - k) (c - k) ⟨vb, 0, none⟩ 1 1 1 _ Try.underlying24 hsz (by simp only [Nat.min_def]; split <;> omega) rfl (fun j v hj => by rw [Addr.add_lit, Nat.zero_add, HB1.out.cell]; exact hj) (fun j hj => by rw [HX1.out.cell, List.getElem?_eq_getElem (by rw [HL1.out]; simp at hj; omega)]; rfl) (fun j _ => HX1.out.frozen _) (by simp [Value.oneCell'])
  go_wp2
  have hfit2 : k * 3 + [Value.int .i64 p, .int .i64 q, .int .i64 r].length ≤ (lay xs ((k + 1) * 3) (vals .i64 (bs.drop (k * 3)))).length := by rw [HL1.out]; simp; omega
  go_ret
  refine ⟨rfl, ?_, Kept.setCells (R := fun b => b = g) (.inr rfl) _ _ HK1.out⟩
  refine ownF_of_blk (Blk.setCells _ _ HX1.out hfit2) (by rw [lay_length _ _ _ hfit2]; exact HL1.out) (by omega) (by unfold maxLen; omega) ?_
  rw [show (k + 1) * 3 = k * 3 + 3 from by omega]
  exact cells_ins HXL.out HT.out HBL.out (by omega) (by omega)
theorem cells_ins2 {ys : List Value} {bs : List Int} {n c k : Nat} {p q r : Int} (hl : ys.length = c * 3) (ht : ys.take (k * 3) = vals .i64 (bs.take (k * 3))) (hb : bs.length = n * 3) (hk : k ≤ n) (hc : n + 1 ≤ c) :
    (lay (lay ys (k * 3) [.int .i64 p, .int .i64 q, .int .i64 r]) (k * 3 + 3) (vals .i64 (bs.drop (k * 3)))).take ((n + 1) * 3) = vals .i64 (bs.take (k * 3) ++ (p :: q :: r :: bs.drop (k * 3))) := by
  have hd : (vals .i64 (bs.drop (k * 3))).length = n * 3 - k * 3 := by rw [vals_length, List.length_drop, hb]
  have e1 : (lay ys (k * 3) [.int .i64 p, .int .i64 q, .int .i64 r]).take (k * 3 + 3) = vals .i64 (bs.take (k * 3)) ++ [.int .i64 p, .int .i64 q, .int .i64 r] := by
    unfold lay
    rw [ht, ← List.append_assoc, List.take_append_of_le_length (by simp [vals_length, hb]; omega), List.take_of_length_le (by simp [vals_length, hb]; omega)]
  have e2 : ∀ zs : List Value, zs.length = c * 3 → (lay zs (k * 3 + 3) (vals .i64 (bs.drop (k * 3)))).take ((n + 1) * 3) = zs.take (k * 3 + 3) ++ vals .i64 (bs.drop (k * 3)) := fun zs hz => by
    unfold lay
    rw [← List.append_assoc, List.take_append_of_le_length (by simp only [List.length_append, List.length_take, hd]; omega), List.take_of_length_le (by simp only [List.length_append, List.length_take, hd]; omega)]
  rw [e2 _ (by rw [lay_length _ _ _ (by simp; omega)]; exact hl), e1]
  simp [vals]
theorem insertGrow_any (g n k vb : Nat) (bs : List Int) (p q r : Int) (w : World) (hn : n ≤ 1048576) (hk : k < n) (ho : OwnF 3 53 w g n n bs) (hb : Blk w vb 53 [.int .i64 p, .int .i64 q, .int .i64 r]) :
    Calls Try.prog 58 #[.slice (some ⟨g, 0, none⟩) n n, .int .i64 k, .slice (some ⟨vb, 0, none⟩) 1 1] w fun e w' => ∃ c', e = .returned (.slice (some ⟨w.heap.size, 0, none⟩) (n + 1) c') ∧ OwnF 3 53 w' w.heap.size (n + 1) c' (bs.take (k * 3) ++ (p :: q :: r :: bs.drop (k * 3))) ∧ Same w w' := by
  obtain ⟨i0, hi, hz0, hz1, hz2⟩ := info_parts Try.infoHold
  have hsz : (Try.prog.info? 53).map (·.size) = some 3 := by rw [hi]; simp [hz1]
  have hbl := ho.len
  obtain ⟨xs, hx, hxl, hxt, hnc, hcm⟩ := ho.blk
  have hlt := ho.lt
  have hcl : ∀ (wx : World), Same w wx → ∀ j v, (vals .i64 (bs.drop (k * 3)))[j]? = some v → wx.cell? ((⟨g, k * 3, none⟩ : Addr).add j) = some v := fun wx hs j v hj => by
    rw [Addr.add_lit]
    have hj2 : j < (vals .i64 (bs.drop (k * 3))).length := (List.getElem?_eq_some_iff.1 hj).1
    rw [vals_length, List.length_drop, hbl] at hj2
    have h := (show (xs.take (n * 3))[k * 3 + j]? = (vals .i64 bs)[k * 3 + j]? from by rw [hxt])
    rw [List.getElem?_take_of_lt (by omega)] at h
    rw [(hx.same hs).cell, ← hj, h]
    simp [vals]
  have hold : (Builtin.firstCells i0.size k (.slice (some ⟨g, 0, none⟩) k n)).run Try.prog w.drew = .ok (vals .i64 (bs.take (k * 3))).toArray w.drew := by
    rw [hz1]
    exact run_firstCells_some (P := Try.prog) (w := w.drew) 3 k ⟨g, 0, none⟩ k n (vals .i64 (bs.take (k * 3))) (by rw [vals_length, List.length_take]; omega) (fun j v hj => by
      rw [Addr.add_lit, Nat.zero_add]
      have hj2 : j < (vals .i64 (bs.take (k * 3))).length := (List.getElem?_eq_some_iff.1 hj).1
      rw [vals_length, List.length_take] at hj2
      have h := (show (xs.take (n * 3))[j]? = (vals .i64 bs)[j]? from by rw [hxt])
      rw [List.getElem?_take_of_lt (by omega)] at h
      rw [hx.drew.cell, ← hj, h]
      simp [vals, List.getElem?_take]
      omega)
  obtain ⟨G, hG⟩ : ∃ G, G = grownCap w (n + 1) n 53 := ⟨_, rfl⟩
  have hGn : n + 1 ≤ G := by rw [hG]; exact grownCap_ge w _ _ _
  have hGm : G ≤ 9223372036854775807 := by
    have := grownCap_le_maxLen w (n + 1) n 53 (by unfold maxLen; omega)
    rw [← hG] at this
    unfold maxLen at this
    omega
  obtain ⟨ys, hys⟩ : ∃ ys : List Value, ys = vals .i64 (bs.take (k * 3)) ++ ((Builtin.zeroCells (Value.agg #[.int .i64 0, .int .i64 0, .int .i64 0]).cells (n + 1 - k)).toList ++ (Builtin.zeroCells (Value.agg #[.int .i64 0, .int .i64 0, .int .i64 0]).cells (G - (n + 1))).toList) := ⟨_, rfl⟩
  have hyl : ys.length = G * 3 := by
    rw [hys]
    simp [Builtin.zeroCells, Value.cells, vals_length, hbl]
    omega
  have hyt : ys.take (k * 3) = vals .i64 (bs.take (k * 3)) := by
    rw [hys, List.take_append_of_le_length (by simp [vals_length, hbl]; omega), List.take_of_length_le (by simp [vals_length, hbl]; omega)]
  obtain ⟨W1, hW1⟩ : ∃ W1, W1 = w.drew.alloc (.cells ys.toArray 53) := ⟨_, rfl⟩
  have happ : ∀ ty, (Builtin.append_ #[24, 3] ty #[.slice (some ⟨g, 0, none⟩) k n, .int .i64 ((n : Int) + 1 - (k : Int))]).run Try.prog w = .ok (.slice (some ⟨w.heap.size, 0, none⟩) (n + 1) G) W1 := fun ty => by
    have h := Lib.run_append_grow_zeros (P := Try.prog) w 24 3 ty 53 i0 _ .i64 .i64 Try.underlying24 Try.underlying3 hi hz0 (some ⟨g, 0, none⟩) k n (vals .i64 (bs.take (k * 3))) hold (n + 1 - k) (by omega) (by omega) (by omega) (by omega) (by rw [hz2]; omega) (by rw [hz2, show k + (n + 1 - k) = n + 1 from by omega]; exact growslice_fits (by omega) (by omega))
    rw [show k + (n + 1 - k) = n + 1 from by omega] at h
    rw [show ((n : Int) + 1 - (k : Int)) = ((n + 1 - k : Nat) : Int) from by omega, h, hW1, hys, ← hG, Array.append_assoc]
    congr 3
    apply Array.toList_inj.1
    simp only [Array.toList_append, List.toList_toArray]
  have HY := (show Hid (Blk W1 w.heap.size 53 ys) from by rw [hW1]; exact Blk.newL w.drew ys 53)
  have HK1 := (show Hid (Same w W1) from by rw [hW1]; exact (Kept.refl _ _).drew.alloc _)
  have HB1 := (show Hid (Blk W1 vb 53 [.int .i64 p, .int .i64 q, .int .i64 r]) from hb.same HK1.out)
  have HCL := hid hcl
  have HYL := hid hyl
  have HYT := hid hyt
  have HBL := hid hbl
  have hfit : k * 3 + [Value.int .i64 p, .int .i64 q, .int .i64 r].length ≤ ys.length := by rw [hyl]; simp; omega
  obtain ⟨W2, hW2⟩ : ∃ W2, W2 = W1.setCells w.heap.size (k * 3) [.int .i64 p, .int .i64 q, .int .i64 r] := ⟨_, rfl⟩
  have hcp : ∀ ty, (Builtin.copy_ #[24, 24] ty #[.slice (some ⟨w.heap.size, k * 3, none⟩) (n + 1 - k) (G - k), .slice (some ⟨vb, 0, none⟩) 1 1]).run Try.prog W1 = .ok (goInt 1) W2 := fun ty => by
    rw [hW2]
    exact run_copy_m W1 _ _ ty 53 3 w.heap.size (k * 3) (n + 1 - k) (G - k) ⟨vb, 0, none⟩ 1 1 1 _ Try.underlying24 hsz (by simp only [Nat.min_def]; split <;> omega) rfl (fun j v hj => by rw [Addr.add_lit, Nat.zero_add, HB1.out.cell]; exact hj) (fun j hj => by rw [HY.out.cell, List.getElem?_eq_getElem (by omega)]; rfl) (fun j _ => HY.out.frozen _) (by simp [Value.oneCell'])
  have HY2 := (show Hid (Blk W2 w.heap.size 53 (lay ys (k * 3) [.int .i64 p, .int .i64 q, .int .i64 r])) from by rw [hW2]; exact Blk.setCells _ _ HY.out hfit)
  have HK2 := (show Hid (Same w W2) from by rw [hW2]; exact Kept.setCells (R := fun _ => False) (.inl (Nat.le_refl _)) _ _ HK1.out)
  have HL2 := (show Hid ((lay ys (k * 3) [.int .i64 p, .int .i64 q, .int .i64 r]).length = G * 3) from (lay_length _ _ _ hfit).trans hyl)
  have hw1 : IntKind.i64.wrap ((k : Int) + 1) = ((k + 1 : Nat) : Int) := by rw [IntKind.wrap_i64]; omega
  have hw2 : IntKind.i64.wrap ((n : Int) + 1) = (n : Int) + 1 := by rw [IntKind.wrap_i64]; omega
  have hw3 : IntKind.i64.wrap ((n : Int) + 1 - (k : Int)) = (n : Int) + 1 - (k : Int) := by rw [IntKind.wrap_i64]; omega
  have h1 : ¬ ((k : Int) = (n : Int)) := by omega
  have hkn : ¬ (n = k) := by omega
  have hGk : ¬ (G = k) := by omega
  have HAP := hid happ
  clear ho hx hb hxt hxl hbl hcl hold hG hys hyl hyt hW1 hW2 hi hz0 hz1 hz2 hfit happ hlt
  go_enter Try.func58, Try.ntmps58
  go_wp2_with (at_builtin; refine Lib.wpList_append_run _ rfl _ _ _ _ rfl _ _ rfl rfl _ _ (HAP.out _) ?_)
  have hS : (fun _ : World => True) W2.drew := trivial
  refine wp_region_V (fun _ : World => True) 99 9 rfl (by kernel_rfl) ?_
  refine tk 0 46 hS ?_
  refine tk 1 47 hS ?_
  refine tk 2 48 hS ?_
  refine tk 3 49 hS ?_
  refine tkV 4 50 (.slice (some ⟨w.heap.size, (k + 1) * 3, none⟩) (n - k) (G - (k + 1))) hS ?_ (hy := by intro w hSw; go_simp; rw [if_pos (by omega), if_neg (by omega)])
  refine tk 5 51 hS ?_
  refine tk 6 52 hS ?_
  refine tkV 7 53 (.slice (some ⟨g, k * 3, none⟩) (n - k) (n - k)) hS ?_ (hy := by intro w hSw; go_simp; intro hlt; omega)
  refine wpAnyV_one (i := 8) (by kernel_rfl) rfl (fun K hK => ?_)
  have hfit2 : (k + 1) * 3 + (vals .i64 (bs.drop (k * 3))).length ≤ (lay ys (k * 3) [.int .i64 p, .int .i64 q, .int .i64 r]).length := by rw [HL2.out, vals_length, List.length_drop, HBL.out]; omega
  refine step_copy_m (B := w.heap.size) (off := (k + 1) * 3) (dl := n - k) (dc := G - (k + 1)) (sl := n - k) (sc := n - k) (m := 3) (c := n - k) (ad := ⟨g, k * 3, none⟩) rfl (.tmp 50) (.tmp 53) 24 rfl Try.underlying24 hsz (vals .i64 (bs.drop (k * 3))) (HY2.out.drew) rfl rfl (by simp only [Nat.min_def]; split <;> omega) (by rw [vals_length, List.length_drop, HBL.out]; omega) (HCL.out _ HK2.out.drew) hfit2 vals_one ?_
  have HX1 := (show Hid (Blk (W2.drew.setCells w.heap.size ((k + 1) * 3) (vals .i64 (bs.drop (k * 3)))) w.heap.size 53 (lay (lay ys (k * 3) [.int .i64 p, .int .i64 q, .int .i64 r]) ((k + 1) * 3) (vals .i64 (bs.drop (k * 3))))) from Blk.setCells _ _ HY2.out.drew hfit2)
  have HK3 := (show Hid (Same w (W2.drew.setCells w.heap.size ((k + 1) * 3) (vals .i64 (bs.drop (k * 3))))) from Kept.setCells (R := fun _ => False) (.inl (Nat.le_refl _)) _ _ HK2.out.drew)
  generalize W2.drew.setCells w.heap.size ((k + 1) * 3) (vals .i64 (bs.drop (k * 3))) = w3 at HX1 HK3 ⊢
  refine hK.out _ _ (fun _ => trivial) ?_
  clear hK K
  try simp only [Act.put, sA, s0, sS]
  refine wpAnyV_done (by kernel_rfl) ?_
  go_wp2
  go_ret
  refine ⟨G, rfl, ?_, HK3.out⟩
  refine ownF_of_blk HX1.out (by rw [lay_length _ _ _ hfit2]; exact HL2.out) (by omega) (by unfold maxLen; omega) ?_
  rw [show (k + 1) * 3 = k * 3 + 3 from by omega]
  exact cells_ins2 HYL.out HYT.out HBL.out (by omega) (by omega)
theorem flat_setD (ls : List T3) (k : Nat) (h : k < ls.length) (p q r : Int) : (((flat3 ls).set (k * 3) p).set (k * 3 + 1) q).set (k * 3 + 2) r = flat3 (ls.set k (p, q, r)) := by
  induction ls generalizing k with
  | nil => simp at h
  | cons a t ih =>
    obtain ⟨a1, a2, a3⟩ := a
    cases k with
    | zero => simp [flat3]
    | succ k =>
      have := ih k (by simpa using h)
      rw [show (k + 1) * 3 = k * 3 + 3 from by omega]
      simp only [flat3, List.set_cons_succ]
      rw [← this]
theorem flat_takeD (ls : List T3) (k : Nat) (h : k ≤ ls.length) : (flat3 ls).take (k * 3) = flat3 (ls.take k) := by
  induction ls generalizing k with
  | nil => obtain rfl : k = 0 := by simpa using h
           rfl
  | cons a t ih =>
    obtain ⟨a1, a2, a3⟩ := a
    cases k with
    | zero => simp [flat3]
    | succ k =>
      have := ih k (by simpa using h)
      rw [show (k + 1) * 3 = k * 3 + 3 from by omega]
      simp only [flat3, List.take_succ_cons]
      rw [← this]
def Asks3c (fid : FuncId) (cp : Value) (f : T3 → Bool) (S : World → Prop) : Prop :=
  ∀ (p : T3) (wx : World), S wx → Calls Try.prog fid #[.agg #[.int .i64 p.1, .int .i64 p.2.1, .int .i64 p.2.2], cp] wx fun e w' => e = .returned (.bool (f p)) ∧ Same wx w'
theorem idxF3_spec (f : T3 → Bool) : ∀ (ps : List T3) (k : Nat), (idxF3 f k ps = -1 ∧ ∀ p ∈ ps, f p = false) ∨ ∃ (i : Nat) (h : i < ps.length), idxF3 f k ps = ((k + i : Nat) : Int) ∧ f ps[i] = true ∧ ∀ p ∈ ps.take i, f p = false
  | [], k => .inl ⟨rfl, fun p hp => by simp at hp⟩
  | q :: t, k => by
    by_cases hq : f q = true
    · exact .inr ⟨0, by simp, by simp [idxF3, hq], hq, fun p hp => by simp at hp⟩
    · have hq' : f q = false := by simpa using hq
      have e : idxF3 f k (q :: t) = idxF3 f (k + 1) t := if_neg hq
      rcases idxF3_spec f t (k + 1) with ⟨h1, h2⟩ | ⟨i, h, h1, h2, h3⟩
      · exact .inl ⟨by rw [e, h1], fun p hp => by
          rcases List.mem_cons.1 hp with rfl | hp
          · exact hq'
          · exact h2 p hp⟩
      · exact .inr ⟨i + 1, by simpa using h, by rw [e, h1]; omega, by simpa using h2, fun p hp => by
          rw [List.take_succ_cons] at hp
          rcases List.mem_cons.1 hp with rfl | hp
          · exact hq'
          · exact h3 p hp⟩
theorem indexHc_any (fid : FuncId) (cp : Value) (f : T3 → Bool) (S : World → Prop) (x : FR) (w : World) (hv : RdF 3 w x) (hent : Enters8 fid) (hS : S w) (hSs : ∀ wx wy, S wx → Same wx wy → S wy) (hf : Asks3c fid cp f S) :
    Calls Try.prog 63 #[x.v, .func (.func fid) #[] #[cp]] w fun e w' => e = .returned (.int .i64 (idxF3 f 0 (tri x.bs))) ∧ Same w w' := by
  obtain ⟨xe, xa, n, xc, bs⟩ := x
  have hm : n ≤ maxLen := hv.1
  unfold maxLen at hm
  have hl := tri_length n bs hv.2.1
  dsimp only [FR.v]
  have HSS := hid hSs
  have HS0 := hid hS
  have HV := hid hv
  have HF : Hid (Asks3c fid cp f S) := hf
  obtain ⟨R, hR⟩ : ∃ R, idxF3 f 0 (tri bs) = R := ⟨_, rfl⟩
  have HR : Hid (idxF3 f 0 ((tri bs).drop 0) = R) := by rw [List.drop_zero]; exact hR
  rw [hR]
  have HL := hid hl
  clear hv hf hR hl hS hSs
  have hent' : ∀ (args : Array Value) (wx : World), (callFunc fid args).run Try.prog wx = .ok (.enter fid args) wx := hent
  clear hent
  go_enter Try.func63, Try.ntmps63
  go_wp2
  go_loopw [8] (fun i wr => ∃ k : Nat, k ≤ n ∧ i = .int .i64 k ∧ Hid (idxF3 f k ((tri bs).drop k) = R) ∧ Hid (Same w wr)) (fun i _ => n - (intOf i).toNat)
  case atStart => exact ⟨0, Nat.zero_le _, rfl, HR, Kept.refl _ _⟩
  case round =>
    obtain ⟨k, hk, rfl, HA, HK⟩ := hrel
    by_cases hlt : k < n
    · obtain ⟨b, off, ha, hc⟩ := HV.out.some (show 0 < n by omega)
      dsimp only at ha hc
      subst ha
      have hla : k < (tri bs).length := by rw [HL.out]; omega
      have HA2 : Hid ((if f (tri bs)[k] = true then (k : Int) else idxF3 f (k + 1) ((tri bs).drop (k + 1))) = R) := by have h := HA.out; rw [idxF3_at hla] at h; exact h
      have kf := HF.out (tri bs)[k] wr (HSS.out w wr HS0.out HK.out)
      obtain ⟨⟨x, y, z⟩, hxa⟩ : ∃ q, (tri bs)[k] = q := ⟨_, rfl⟩
      obtain ⟨da0, da1, da2⟩ := (HV.out.same HK.out).tri k hla _ _ _ hxa
      rw [hxa] at kf HA2
      dsimp only at kf
      cases hb : f (x, y, z) with
      | true =>
        have HE : Hid ((k : Int) = R) := by have h := HA2.out; rw [if_pos hb] at h; exact h
        rw [hb] at kf
        clear HA2 HA hb hxa
        go_wp2_with fail
        refine kf.mono ?_
        rintro e w1 ⟨rfl, hk1⟩
        have HK1 := hid (HK.out.trans hk1)
        clear da0 da1 da2 kf hk1
        go_wp2
        go_ret
        exact ⟨by rw [← HE.out]; rfl, HK1.out⟩
      | false =>
        have HE : Hid (idxF3 f (k + 1) ((tri bs).drop (k + 1)) = R) := by have h := HA2.out; rw [if_neg (by simp [hb])] at h; exact h
        rw [hb] at kf
        clear HA2 HA hb hxa
        go_wp2_with fail
        refine kf.mono ?_
        rintro e w1 ⟨rfl, hk1⟩
        have HK1 := hid (HK.out.trans hk1)
        clear da0 da1 da2 kf hk1
        go_wp2
        go_roundw
        case rel => exact ⟨k + 1, by omega, by go_num, HE, HK1⟩
        case measure => simp [intOf]; omega
    · obtain rfl : n = k := by omega
      have he : (-1 : Int) = R := by have h := HA.out; rw [← HL.out, idxF3_end] at h; exact h
      go_wp2
      go_ret
      exact ⟨by rw [← he]; rfl, HK.out⟩
theorem deleteH_any (fid : FuncId) (cp : Value) (f : T3 → Bool) (S : World → Prop) (xa : Option Addr) (n c : Nat) (hs : List T3) (w : World) (hn : n ≤ 1048576) (ho : OwnL w (FR.rows 3 ⟨53, xa, n, c, flat3 hs⟩)) (hS : S w)
    (hSk : ∀ wx wy, S wx → Kept (FootL (FR.rows 3 ⟨53, xa, n, c, flat3 hs⟩)) wx wy → S wy) (hent : Enters8 fid) (hf : Asks3c fid cp f S) :
    Calls Try.prog 33 #[.slice xa n c, .func (.func fid) #[] #[cp]] w fun e w' => ∃ m, e = .returned (.slice xa m c) ∧ OwnL w' (FR.rows 3 ⟨53, xa, m, c, flat3 (hs.filter (fun p => !f p))⟩) ∧ Kept (FootL (FR.rows 3 ⟨53, xa, n, c, flat3 hs⟩)) w w' := by
  have k0 := indexHc_any fid cp f S ⟨53, xa, n, c, flat3 hs⟩ w (FR.own_rd ho) hent hS (fun wx wy h1 h2 => hSk wx wy h1 (h2.mono (fun b _ e => e.elim))) hf
  have hlen : hs.length = n := by have := FR.own_len ho; dsimp only at this; rw [flat3_length] at this; omega
  dsimp only [FR.v] at k0
  rw [tri_flat3] at k0
  have hent' : ∀ (args : Array Value) (wx : World), (callFunc fid args).run Try.prog wx = .ok (.enter fid args) wx := hent
  rcases idxF3_spec f hs 0 with ⟨h1, h2⟩ | ⟨i, hi, h1, h2, h3⟩
  · rw [h1] at k0
    have hfil : hs.filter (fun p => !f p) = hs := List.filter_eq_self.2 (fun p hp => by simp [h2 p hp])
    have HO := hid ho
    rw [hfil]
    clear hfil h1 h2 ho hSk hf hS
    go_enter Try.func33, Try.ntmps33
    go_wp2_with fail
    refine k0.mono ?_
    rintro e w1 ⟨rfl, hk1⟩
    have HK1 := hid hk1
    clear hk1
    go_wp2
    go_ret
    exact ⟨n, rfl, HO.out.same HK1.out, HK1.out.mono (fun b _ e => e.elim)⟩
  rw [h1, Nat.zero_add] at k0
  rcases FR.own_form ho with ⟨h, _, _⟩ | ⟨g, hg, hnc, hcm, hof⟩
  · dsimp only at h; omega
  dsimp only at hg hnc hcm hof
  unfold maxLen at hcm
  subst hg
  have hft : ∀ b, FootL (FR.rows 3 ⟨53, some ⟨g, 0, none⟩, n, c, flat3 hs⟩) b ↔ b = g := fun b => ⟨fun h => (FootL_fr h).symm, fun h => (FootL_one _ _).2 (by rw [h]; rfl)⟩
  have HSK : Hid (∀ wx wy, S wx → Kept (fun b => b = g) wx wy → S wy) := fun wx wy h1 h2 => hSk wx wy h1 (h2.mono (fun b _ e => (hft b).2 e))
  suffices HH : Calls Try.prog 33 #[.slice (some ⟨g, 0, none⟩) n c, .func (.func fid) #[] #[cp]] w fun e w' => ∃ m, e = .returned (.slice (some ⟨g, 0, none⟩) m c) ∧ OwnF 3 53 w' g m c (flat3 (hs.filter (fun p => !f p))) ∧ Kept (fun b => b = g) w w' by
    refine HH.mono ?_
    rintro e w' ⟨m, rfl, h1, h2⟩
    exact ⟨m, rfl, h1.out, h2.mono (fun b _ e => (hft b).2 e)⟩
  have HOF := hid hof
  have HF := hid hf
  have HS0 := hid hS
  have HI : Hid (hs.take i = (hs.take (i + 1)).filter (fun p => !f p)) := by
    unfold Hid
    rw [List.take_succ_eq_append_getElem hi, List.filter_append, List.filter_eq_self.2 (fun p hp => by simp [h3 p hp])]
    simp [h2]
  have HLN := hid hlen
  have hin : i < n := by omega
  clear h1 h2 h3 ho hof hSk hf hS hft hlen
  go_enter Try.func33, Try.ntmps33
  go_wp2_with fail
  refine k0.mono ?_
  rintro e w1 ⟨rfl, hk1⟩
  have HK1 : Hid (Kept (fun b => b = g) w w1) := hk1.mono (fun b _ e => e.elim)
  have HO1 := hid (HOF.out.same hk1)
  clear hk1 k0
  have hi1 : ((i : Int) == -1) = false := by simp
  go_wp2_with fail
  go_loopw [5, 6] (fun u v wr => ∃ (a b : Nat) (ls : List T3), a < b ∧ b ≤ n ∧ u = .int .i64 a ∧ v = .int .i64 b ∧ Hid (OwnF 3 53 wr g n c (flat3 ls)) ∧ Hid (ls.length = n ∧ ls.take a = (hs.take b).filter (fun p => !f p) ∧ ls.drop b = hs.drop b) ∧ Hid (Kept (fun b => b = g) w wr)) (fun _ v _ => n - (intOf v).toNat)
  case atStart => exact ⟨i, i + 1, hs, by omega, by omega, rfl, by go_num, HO1, ⟨HLN.out, HI.out, rfl⟩, HK1⟩
  case round =>
    obtain ⟨a, b, ls, hab, hbn, rfl, rfl, HO, HL, HK⟩ := hrel
    by_cases hlt : b < n
    · have hbl : b < ls.length := by rw [HL.out.1]; exact hlt
      have hbh : b < hs.length := by rw [HLN.out]; exact hlt
      have hlb : ls[b] = hs[b] := by
        have h := congrArg (fun l : List T3 => l[0]?) HL.out.2.2
        simp only [List.getElem?_drop, Nat.add_zero, List.getElem?_eq_getElem hbl, List.getElem?_eq_getElem hbh] at h
        exact Option.some.inj h
      obtain ⟨⟨x, y, z⟩, hx⟩ : ∃ q, hs[b] = q := ⟨_, rfl⟩
      have hd := FR.own_rd HO.out.out
      obtain ⟨da0, da1, da2⟩ := hd.tri b (by rw [tri_flat3]; exact hbl) x y z (by simp only [tri_flat3]; rw [hlb, hx])
      rw [Nat.zero_add] at da0 da1 da2
      have HB := (show Hid (Blk (wr.alloc (.cells #[.int .i64 x, .int .i64 y, .int .i64 z] 53)) wr.heap.size 53 [.int .i64 x, .int .i64 y, .int .i64 z]) from Blk.newL wr _ _)
      have HKa := (show Hid (Same wr (wr.alloc (.cells #[.int .i64 x, .int .i64 y, .int .i64 z] 53))) from (Kept.refl _ _).alloc _)
      have kf := HF.out (x, y, z) (wr.alloc (.cells #[.int .i64 x, .int .i64 y, .int .i64 z] 53)) (HSK.out _ _ (HSK.out _ _ HS0.out HK.out) (HKa.out.mono (fun b _ e => e.elim)))
      dsimp only at kf
      have hgl := HO.out.lt
      have HX := hid hx
      obtain ⟨c0, c1, c2⟩ := HB.out.all3
      clear hx hlb hd
      cases hfx : f (x, y, z) with
      | true =>
        rw [hfx] at kf
        have HL2 : Hid (ls.length = n ∧ ls.take a = (hs.take (b + 1)).filter (fun p => !f p) ∧ ls.drop (b + 1) = hs.drop (b + 1)) := by
          refine ⟨HL.out.1, ?_, ?_⟩
          · rw [List.take_succ_eq_append_getElem hbh, List.filter_append, HX.out, HL.out.2.1]
            simp [hfx]
          · have h := congrArg (List.drop 1) HL.out.2.2
            rwa [List.drop_drop, List.drop_drop] at h
        clear HL hfx
        go_wp2_with fail
        refine kf.mono ?_
        rintro e w2 ⟨rfl, hk2⟩
        have HK2 : Hid (Kept (fun b => b = g) w w2) := HK.out.next (HKa.out.trans hk2) (fun i _ e => e.elim)
        have HO2 := hid (HO.out.same (HKa.out.trans hk2))
        clear hk2 kf da0 da1 da2 c0 c1 c2
        go_wp2
        go_roundw
        case rel => exact ⟨a, b + 1, ls, by omega, by omega, rfl, by go_num, HO2, HL2, HK2⟩
        case measure => simp [intOf]; omega
      | false =>
        rw [hfx] at kf
        have hal : a < ls.length := by omega
        have HL2 : Hid ((ls.set a (x, y, z)).length = n ∧ (ls.set a (x, y, z)).take (a + 1) = (hs.take (b + 1)).filter (fun p => !f p) ∧ (ls.set a (x, y, z)).drop (b + 1) = hs.drop (b + 1)) := by
          refine ⟨by rw [List.length_set]; exact HL.out.1, ?_, ?_⟩
          · rw [List.take_succ_eq_append_getElem (by rw [List.length_set]; exact hal), List.getElem_set_self, List.take_set_of_le (Nat.le_refl _), List.take_succ_eq_append_getElem hbh, List.filter_append, HX.out, HL.out.2.1]
            simp [hfx]
          · rw [List.drop_set_of_lt (by omega)]
            have h := congrArg (List.drop 1) HL.out.2.2
            rwa [List.drop_drop, List.drop_drop] at h
        clear HL hfx
        go_wp2_with fail
        refine kf.mono ?_
        rintro e w2 ⟨rfl, hk2⟩
        have HK2 : Hid (Kept (fun b => b = g) w w2) := HK.out.next (HKa.out.trans hk2) (fun i _ e => e.elim)
        have HO2 := hid (HO.out.same (HKa.out.trans hk2))
        have HB2 := hid (HB.out.same hk2)
        clear hk2 kf da0 da1 da2 c0 c1 c2
        obtain ⟨c0, c1, c2⟩ := HB2.out.all3
        have f0 := HO2.out.frozen (a * 3)
        have f1 := HO2.out.frozen (a * 3 + 1)
        have f2 := HO2.out.frozen (a * 3 + 2)
        have d0 := HO2.out.cell (a * 3) (by omega)
        have d1 := HO2.out.cell (a * 3 + 1) (by omega)
        have d2 := HO2.out.cell (a * 3 + 2) (by omega)
        go_wp2
        have HO3 := (show Hid (OwnF 3 53 (((w2.setCell ⟨g, a * 3, none⟩ (.int .i64 x)).setCell ⟨g, a * 3 + 1, none⟩ (.int .i64 y)).setCell ⟨g, a * 3 + 2, none⟩ (.int .i64 z)) g n c (flat3 (ls.set a (x, y, z)))) from by
          unfold Hid
          rw [← flat_setD ls a hal x y z]
          exact ((HO2.out.stored (a * 3) x).stored (a * 3 + 1) y).stored (a * 3 + 2) z)
        have HK3 := (show Hid (Kept (fun b => b = g) w (((w2.setCell ⟨g, a * 3, none⟩ (.int .i64 x)).setCell ⟨g, a * 3 + 1, none⟩ (.int .i64 y)).setCell ⟨g, a * 3 + 2, none⟩ (.int .i64 z))) from Kept.setCell (R := fun b => b = g) (Kept.setCell (R := fun b => b = g) (Kept.setCell (R := fun b => b = g) HK2.out (.inr rfl) _) (.inr rfl) _) (.inr rfl) _)
        go_roundw
        case rel => exact ⟨a + 1, b + 1, ls.set a (x, y, z), by omega, by omega, by go_num, by go_num, HO3, HL2, HK3⟩
        case measure => simp [intOf]; omega
    · obtain rfl : b = n := by omega
      obtain ⟨xs, hx, hxl, hxt, _, _⟩ := HO.out.blk
      obtain ⟨i0, hi0, hz0, hz1, hz2⟩ := info_parts Try.infoHold
      obtain ⟨zz, hzz⟩ : ∃ zz : List Value, zz = (Builtin.zeroCells (Value.agg #[.int .i64 0, .int .i64 0, .int .i64 0]).cells (b - a)).toList := ⟨_, rfl⟩
      have hzl : zz.length = (b - a) * 3 := by rw [hzz]; simp [Builtin.zeroCells, Value.cells]
      have hz1c : ∀ v ∈ zz, v.oneCell' = true := fun v hv => by
        rw [hzz] at hv
        obtain ⟨j, hj, rfl⟩ := List.getElem_of_mem hv
        have e : ((Value.agg #[.int .i64 0, .int .i64 0, .int .i64 0]).cells) = #[.int .i64 0, .int .i64 0, .int .i64 0] := rfl
        simp [Builtin.zeroCells, e]
        have : j % 3 < 3 := Nat.mod_lt _ (by omega)
        rcases (show j % 3 = 0 ∨ j % 3 = 1 ∨ j % 3 = 2 from by omega) with h | h | h <;> simp [h, Value.oneCell']
      have hfit : a * 3 + zz.length ≤ xs.length := by rw [hzl, hxl]; omega
      have hcl : ∀ ty, (Builtin.clear_ #[24] ty #[.slice (some ⟨g, a * 3, none⟩) (b - a) (c - a)]).run Try.prog wr = .ok (.tuple #[]) (wr.setCells g (a * 3) zz) := fun ty => by
        have hst := hx.stores (P := Try.prog) (a * 3) zz hfit hz1c
        obtain ⟨d, hd⟩ : ∃ d, b - a = d + 1 := ⟨b - a - 1, by omega⟩
        rw [hd] at hzz ⊢
        rw [hzz] at hst ⊢
        simp [Builtin.clear_, run_underlying Try.underlying24, zeroValue, typeInfo, hi0, hz0, hst]
      have HX2 := (show Hid (Blk (wr.setCells g (a * 3) zz) g 53 (lay xs (a * 3) zz)) from Blk.setCells _ _ hx hfit)
      have HK2 := (show Hid (Kept (fun b => b = g) w (wr.setCells g (a * 3) zz)) from Kept.setCells (R := fun b => b = g) (.inr rfl) _ _ HK.out)
      have HL2 := (show Hid ((lay xs (a * 3) zz).length = c * 3) from (lay_length _ _ _ hfit).trans hxl)
      have HT2 : Hid ((lay xs (a * 3) zz).take (a * 3) = vals .i64 (flat3 (hs.filter (fun p => !f p)))) := by
        unfold Hid lay
        rw [List.take_append_of_le_length (by rw [List.length_take]; omega), List.take_take, Nat.min_self]
        have h := congrArg (List.take (a * 3)) hxt
        rw [List.take_take, show min (a * 3) (b * 3) = a * 3 from by omega] at h
        rw [h]
        have h2 := HL.out.2.1
        rw [List.take_of_length_le (l := hs) (by rw [HLN.out]; exact Nat.le_refl _)] at h2
        rw [← h2, ← flat_takeD ls a (by rw [HL.out.1]; omega)]
        simp [vals]
      obtain ⟨W2, hW2⟩ : ∃ W2, wr.setCells g (a * 3) zz = W2 := ⟨_, rfl⟩
      rw [hW2] at HX2 HK2
      simp only [hW2] at hcl
      clear hx hxl hxt hi0 hz0 hz1 hz2 hzz hzl hz1c hfit hW2
      have hca : ¬ (c = a) := by omega
      go_wp2
      go_ret
      exact ⟨a, rfl, ownF_of_blk HX2.out HL2.out (by omega) (by unfold maxLen; omega) HT2.out, HK2.out⟩
theorem holdFree1_any (cb : Nat) (txn : Int) : Asks3c 32 (.pointer (some ⟨cb, 0, none⟩)) (fun p => p.2.1 == txn) (fun wx => wx.cell? ⟨cb, 0, none⟩ = some (.int .i64 txn)) := by
  rintro ⟨x, y, z⟩ w hS
  dsimp only at hS ⊢
  have HB0 := (show Hid (Blk (w.alloc (.cells #[.int .i64 x, .int .i64 y, .int .i64 z] 53)) w.heap.size 53 [.int .i64 x, .int .i64 y, .int .i64 z]) from Blk.newL w _ _)
  have HK0 := hid (sameA w [.int .i64 x, .int .i64 y, .int .i64 z] 53)
  obtain ⟨c0, c1, c2⟩ := HB0.out.all3
  have d0 := HK0.out.cellOf hS (fun h => h)
  go_enter Try.func32, Try.ntmps32
  go_wp2
  go_ret
  exact ⟨rfl, HK0.out⟩
theorem enters_hf : Enters8 32 := fun args wx => by simp [callFunc, go_sem, Try.func32, Try.f32]
theorem implHoldFree_any (x : FR) (txn : Int) (w : World) (hv : RdF 3 w x) :
    Calls Try.prog 11 #[x.v, .int .i64 txn] w fun e w' => ∃ y : FR, e = .returned y.v ∧ y.bs = freeH (tri x.bs) txn ∧ (∀ b, FootL (FR.rows 3 y) b → w.heap.size ≤ b) ∧ OwnL w' (FR.rows 3 y) ∧ Same w w' := by
  have HK0 := hid (sameA w [.int .i64 txn] 2)
  have HB0 := (show Hid (Blk (w.alloc (.cells #[.int .i64 txn] 2)) w.heap.size 2 [.int .i64 txn]) from Blk.newL w _ _)
  have k0 := implHoldsFault_any x _ (hv.same HK0.out)
  obtain ⟨xe, xa, n, xc, bs⟩ := x
  have hbl : bs.length = n * 3 := hv.2.1
  have HV := hid hv
  dsimp only [FR.v] at k0 ⊢
  clear hv
  obtain ⟨R, hR⟩ : ∃ R, freeH (tri bs) txn = R := ⟨_, rfl⟩
  rw [hR]
  unfold freeH at hR
  obtain ⟨q, hq⟩ : ∃ q, holdsF (tri bs) = q := ⟨_, rfl⟩
  rw [hq] at k0 hR
  by_cases h0 : q = 0
  case neg =>
    rw [if_neg h0] at hR
    subst hR
    clear hq hbl
    go_enter Try.func11, Try.ntmps11
    go_wp2_with fail
    refine k0.mono ?_
    rintro e w1 ⟨rfl, hk1⟩
    have HK1 := hid (HK0.out.trans hk1)
    clear hk1
    go_wp2
    go_ret
    exact ⟨⟨53, none, 0, 0, []⟩, rfl, rfl, fun b hb => by have := (FootL_one _ _).1 hb; simp [FR.v, Value.ownBlock] at this, FR.own_nil _, HK1.out⟩
  subst h0
  rw [if_pos rfl] at hR
  have hn := holdsF_len hq
  rw [tri_length n bs hbl] at hn
  have HR := hid hR
  have HBL := hid hbl
  clear hq hR hbl
  go_enter Try.func11, Try.ntmps11
  go_wp2_with fail
  refine k0.mono ?_
  rintro e w1 ⟨rfl, hk1⟩
  have HK1 := hid (HK0.out.trans hk1)
  have HB1 := hid (HB0.out.same hk1)
  clear hk1 k0 HB0 HK0
  have kc := cloneH_any ⟨xe, xa, n, xc, bs⟩ w1 (by dsimp only; omega) (HV.out.same HK1.out)
  dsimp only [FR.v] at kc
  go_wp2_with fail
  refine kc.mono ?_
  rintro e w2 ⟨ya, yc, rfl, ho, hfr, hk2⟩
  have HO : Hid (OwnL w2 (FR.rows 3 ⟨53, ya, n, yc, flat3 (tri bs)⟩)) := by unfold Hid; rw [flat3_tri n bs HBL.out]; exact ho
  have HFR : Hid (∀ b, FootL (FR.rows 3 ⟨53, ya, n, yc, flat3 (tri bs)⟩) b → w1.heap.size ≤ b) := by unfold Hid; rw [flat3_tri n bs HBL.out]; exact hfr
  have HK2 := hid (HK1.out.trans hk2)
  have HB2 := hid (HB1.out.same hk2)
  have hw1 := HK1.out.size
  have hbw := HB1.out.lt
  have kd := deleteH_any 32 (.pointer (some ⟨w.heap.size, 0, none⟩)) (fun p => p.2.1 == txn) (fun wx => wx.cell? ⟨w.heap.size, 0, none⟩ = some (.int .i64 txn)) ya n yc (tri bs) w2 (by omega) HO.out (HB2.out.cell 0) (fun wx wy h1 h2 => h2.cellOf h1 (fun h => by have h2 : w1.heap.size ≤ w.heap.size := HFR.out _ h; omega)) enters_hf (holdFree1_any w.heap.size txn)
  clear kc ho hfr hk2
  go_wp2_with fail
  refine kd.mono ?_
  rintro e w3 ⟨m, rfl, ho3, hk3⟩
  have HO3 := hid ho3
  have HK3 : Hid (Same w w3) := HK2.out.next hk3 (fun i hi h => absurd (HFR.out i h) (by omega))
  have HF3 : Hid (∀ b, FootL (FR.rows 3 ⟨53, ya, m, yc, flat3 ((tri bs).filter (fun p => !(p.2.1 == txn)))⟩) b → w.heap.size ≤ b) := fun b hb => by
    refine Nat.le_trans hw1 (HFR.out b ?_)
    have h1 := (FootL_one _ _).1 hb
    refine (FootL_one _ _).2 ?_
    cases ya with
    | none => simp [FR.v, Value.ownBlock] at h1
    | some ad => simpa [FR.v, Value.ownBlock] using h1
  have HRR : Hid (R = flat3 ((tri bs).filter (fun p => !(p.2.1 == txn)))) := by
    unfold Hid
    rw [← HR.out]
    congr 2
    funext p
    by_cases h : p.2.1 = txn <;> simp [h]
  clear kd ho3 hk3
  go_wp2
  go_ret
  exact ⟨⟨53, ya, m, yc, flat3 ((tri bs).filter (fun p => !(p.2.1 == txn)))⟩, rfl, HRR.out.symm, HF3.out, HO3.out, HK3.out⟩
end Go.Proofs.Ytmpfpgelaipmnab
