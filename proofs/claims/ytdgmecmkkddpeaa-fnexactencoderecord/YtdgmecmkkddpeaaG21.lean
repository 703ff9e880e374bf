import Derived.Test.YtdgmecmkkddpeaaG09
import Derived.Test.YtdgmecmkkddpeaaG00
import Derived.Test.YtdgmecmkkddpeaaG05
import Derived.Test.YtdgmecmkkddpeaaG06
import Derived.Test.YtdgmecmkkddpeaaG01
import Derived.Test.YtdgmecmkkddpeaaG18
import Derived.Deep.AppendLies
namespace Go.Proofs.Ytdgmecmkkddpeaa
set_option linter.unusedVariables false
set_option linter.unusedSimpArgs false
set_option maxRecDepth 100000
set_option maxHeartbeats 2000000
open Go.RowKit
structure Grew (w : World) (v : Value) (w' : World) (v' : Value) : Prop where
 kept : Kept (fun b => v.ownBlock = some b) w w'
 own : ∀ b, v'.ownBlock = some b → v.ownBlock = some b ∨ w.heap.size ≤ b
theorem Grew.trans {w w1 w2 : World} {v v1 v2 : Value} (h : Grew w v w1 v1) (k : Grew w1 v1 w2 v2) : Grew w v w2 v2 := by
 refine ⟨h.kept.next k.kept (fun i hi e => (h.own i e).resolve_right (by omega)), fun b hb => ?_⟩
 rcases k.own b hb with h1 | h1
 ·exact h.own b h1
 ·have := h.kept.size
  exact .inr (by omega)
theorem Grew.of_same {w w' : World} {v : Value} (h : Same w w') : Grew w v w' v := ⟨h.mono (fun _ _ e => absurd e id), fun b hb => .inl hb⟩
theorem Grew.refl (w : World) (v : Value) : Grew w v w v := Grew.of_same (Kept.refl _ _)
theorem Grew.size {w w' : World} {v v' : Value} (h : Grew w v w' v') : w.heap.size ≤ w'.heap.size := h.kept.size
theorem Grew.same {w0 w w' : World} {v v' : Value} (h : Grew w v w' v') (h0 : Same w0 w) (hv : ∀ b, v.ownBlock = some b → w0.heap.size ≤ b) : Same w0 w' :=
 h0.next h.kept (fun i hi e => by have := hv i e; omega)
theorem Grew.fresh {w0 w w' : World} {v v' : Value} (h : Grew w v w' v') (h0 : Same w0 w) (hv : ∀ b, v.ownBlock = some b → w0.heap.size ≤ b) : ∀ b, v'.ownBlock = some b → w0.heap.size ≤ b := fun b hb => by
 rcases h.own b hb with h1 | h1
 ·exact hv b h1
 ·have := h0.size
  omega
theorem run_app {ty : TypeId} {w : World} {v x : Value} {bs ys : List Int} (ho : Own 0 5 .u8 w v bs) (hx : Rd .u8 w x ys) (hl : bs.length + ys.length ≤ 1099511627776) :
  ∃ a n c w', (Builtin.append_ #[22, 22] ty #[v, x]).run Try.prog w = .ok (.slice a n c) w' ∧ Own 0 5 .u8 w' (.slice a n c) (bs ++ ys) ∧ Grew w v w' (.slice a n c) := by
 obtain ⟨i0, hi, hz0, hz1, hz2⟩ := info_parts Try.infoByte'
 have some_case : ∀ (ad : Addr) (c : Nat), (∀ j u, (vals .u8 ys)[j]? = some u → w.cell? (ad.add j) = some u) → ∃ a n c' w', (Builtin.append_ #[22, 22] ty #[v, .slice (some ad) ys.length c]).run Try.prog w = .ok (.slice a n c') w' ∧ Own 0 5 .u8 w' (.slice a n c') (bs ++ ys) ∧ Grew w v w' (.slice a n c') := fun ad c hn => by
  obtain ⟨v', w', hr, h2, h3, _, h5⟩ := run_append_own_at (P := Try.prog) w 0 22 ty 5 i0 (.int .u8 0) 1 1 Try.underlying22 hi hz0 hz1 hz2 rfl (by decide) v bs.length (vals .u8 bs) ho ad ys.length c (vals .u8 ys) (by simp [vals_length]) hn vals_one (by unfold maxLen; omega) (by omega) (Nat.zero_le _)
  have h2' : Own 0 5 .u8 w' v' (bs ++ ys) := by unfold Own; simpa [vals] using h2
  obtain ⟨a, n, c', rfl⟩ := slice_of_own h2'
  refine ⟨a, n, c', w', hr, h2', Kept.of_grown h3 (fun k e => e), fun b hb => ?_⟩
  rcases h5 with h5 | h5
  ·exact .inl (by rw [← h5]; exact hb)
  ·rw [h5] at hb
   exact .inr (by have := Option.some.inj hb; omega)
 rcases hx.2 with ⟨rfl, a, c, rfl, hac⟩ | ⟨b, off, c, rfl, _, hc⟩
 ·cases a with
  | none =>
   obtain rfl : c = 0 := hac rfl
   have hr := run_append_owned_none (P := Try.prog) (w := w) 0 22 ty 5 i0 1 Try.underlying22 hi v bs.length (vals .u8 bs) ho
   obtain ⟨a, n, c', rfl⟩ := slice_of_own ho
   exact ⟨a, n, c', w, hr, by rw [List.append_nil]; exact ho, Grew.refl _ _⟩
  | some ad => exact some_case ad c (fun j u h => by simp [vals] at h)
 ·exact some_case ⟨b, off, none⟩ c (news_of hc)
theorem wp_app {w : World} {o : Oper} {a : Act} {K : Act → World → Prop} {Q : Exit → Act → World → Prop} (s x : Operand)
  (ho : o.op = .call { callee := .builtin .append, args := #[s, x], argTypes := #[22, 22] })
  (v xv : Value) (bs ys : List Int) (hs : a.eval s = v) (hx : a.eval x = xv) (hown : Own 0 5 .u8 w v bs) (hrd : Rd .u8 w xv ys) (hl : bs.length + ys.length ≤ 1099511627776)
  (h : ∀ a' n' c' w', Own 0 5 .u8 w' (.slice a' n' c') (bs ++ ys) → Grew w v w' (.slice a' n' c') → K (a.put o.dst (.slice a' n' c')) w') : o.wp Try.prog a w K Q := by
 obtain ⟨a', n', c', w', hr, h2, h3⟩ := run_app (ty := o.type) hown hrd hl
 unfold Oper.wp execOp
 simp only [ho, resolve, invoke, builtin, Sem.run_bind, Sem.run_pure, Result.andThen_ok, List.map_toArray, List.map_cons, List.map_nil, hs, hx, hr]
 exact h a' n' c' w' h2 h3
theorem wpList_app {w : World} {ops : Array Oper} {rest : List Oper} {o : Oper} {a : Act} {Q : Exit → Act → World → Prop} (hgd : o.guard = none) (s x : Operand)
  (ho : o.op = .call { callee := .builtin .append, args := #[s, x], argTypes := #[22, 22] })
  (v xv : Value) (bs ys : List Int) (hs : a.eval s = v) (hx : a.eval x = xv) (hown : Own 0 5 .u8 w v bs) (hrd : Rd .u8 w xv ys) (hl : bs.length + ys.length ≤ 1099511627776)
  (h : ∀ a' n' c' w', Own 0 5 .u8 w' (.slice a' n' c') (bs ++ ys) → Grew w v w' (.slice a' n' c') → wpList Try.prog ops Q rest (a.put o.dst (.slice a' n' c')) w') : wpList Try.prog ops Q (o :: rest) a w :=
 wpList_plain hgd fun _ hK => wp_app s x ho v xv bs ys hs hx hown hrd hl fun a' n' c' w' h2 h3 => hK _ _ (h a' n' c' w' h2 h3)
theorem step_app {w : World} {ops : Array Oper} {o : Oper} {a : Act} {K : Act → World → Prop} {Q : Exit → Act → World → Prop} {E : Prop} (hgd : o.guard = none) (s x : Operand)
  (ho : o.op = .call { callee := .builtin .append, args := #[s, x], argTypes := #[22, 22] })
  (v xv : Value) (bs ys : List Int) (hs : a.eval s = v) (hx : a.eval x = xv) (hown : Own 0 5 .u8 w v bs) (hrd : Rd .u8 w xv ys) (hl : bs.length + ys.length ≤ 1099511627776)
  (h : ∀ a' n' c' w', Own 0 5 .u8 w' (.slice a' n' c') (bs ++ ys) → Grew w v w' (.slice a' n' c') → K (a.put o.dst (.slice a' n' c')) w') :
  if Region.wanted o (yielded ops a.tmps) = true then Oper.wp Try.prog o a w K Q else E := by
 have hw : Region.wanted o (yielded ops a.tmps) = true := by simp [Region.wanted, hgd]
 rw [if_pos hw]
 exact wp_app s x ho v xv bs ys hs hx hown hrd hl h
theorem rd_one (w : World) (x : Int) : Rd .u8 (w.alloc (.cells #[.int .u8 x] 5)) (.slice (some ⟨w.heap.size, 0, none⟩) 1 1) [x] := by
 have h : Blk (w.alloc (.cells #[.int .u8 x] 5)) w.heap.size 5 (vals .u8 [x]) := Blk.new w #[.int .u8 x] 5
 exact (h.own (by unfold maxLen; simp)).rd
theorem implPut_yes (v n : Int) (w : World) (hi0 : IsI v) (h1 : 1 ≤ n) (h2 : n ≤ 8) (h3 : 0 ≤ v) :
  Calls Try.prog 76 #[.int .i64 v, .int .i64 n] w fun e w' => ∃ a c, e = .returned (.slice a (numB v n).length c) ∧ (∀ b, (Value.slice a (numB v n).length c).ownBlock = some b → w.heap.size ≤ b) ∧
   Own 0 5 .u8 w' (.slice a (numB v n).length c) (numB v n) ∧ Same w w' := by
 obtain ⟨n, rfl⟩ : ∃ m : Nat, n = m := ⟨n.toNat, by omega⟩
 obtain ⟨i0, hi, hz0, hz1, hz2⟩ := info_parts Try.infoByte'
 obtain ⟨hv1, hv2⟩ := hi0
 have h1' : ¬ (n : Int) < 1 := by omega
 have h2' : ¬ (8 : Int) < n := by omega
 have h3' : ¬ v < 0 := by omega
 by_cases hz : v / 256 ^ n = 0
 ·have hz2' : v / 2 ^ (8 * n) = 0 := by rw [pow8]; exact hz
  have hnum : numB v n = lows v n := by unfold numB; rw [if_neg (by simp only [Int.toNat_natCast]; omega)]; simp
  have HN : Hid (numB v n = lows v n) := hnum
  clear hz hnum
  go_enter Try.func76, Try.ntmps76
  go_wp2_with (first
   | (at_make; go_loud (refine wpList_make_full _ rfl _ _ 22 rfl 0 5 i0 (.int .u8 0) 1 Try.underlying22 hi hz0 hz1 .i64 .i64 _ _ n rfl rfl (by first | rfl | simp | omega) (by first | rfl | simp | omega) (by rw [hz2]; omega) (by unfold maxLen; omega) (Nat.zero_le _) ?_); intro w1 hown1 hgrow1; have HO : Hid (Own 0 5 .u8 w1 (.slice (some ⟨w.heap.size, 0, none⟩) n n) (List.replicate n 0)) := own_made (by simpa using hown1); have HK : Hid (Same w w1) := Kept.of_grown hgrow1 (fun k e => by cases e); clear hown1 hgrow1)
   | (go_at_call 83; refine (writeNumber_any w.heap.size 0 n n 5 (vals .u8 (List.replicate n 0)) v _ (Own.blk HO.out) (by simp [vals]) h3 (by omega) (by omega)).mono ?_; rintro e w2 ⟨rfl, hb2, hk2⟩))
  go_ret
  rw [HN.out, lows_length]
  rw [lay_all _ _ (by simp [vals, lows_length])] at hb2
  refine ⟨_, _, rfl, fun b hb => ?_, ?_, HK.out.next hk2 (fun i hi e => by omega)⟩
  ·simp [Value.ownBlock] at hb; omega
  ·have h := Blk.own hb2 (by unfold maxLen; rw [lows_length]; omega)
   rw [lows_length] at h
   exact h
 ·have hz2' : v / 2 ^ (8 * n) ≠ 0 := by rw [pow8]; exact hz
  have hnum : numB v n = [] := by unfold numB; rw [if_pos (by simp only [Int.toNat_natCast]; omega)]
  have HN : Hid (numB v n = []) := hnum
  clear hz hnum
  go_enter Try.func76, Try.ntmps76
  go_wp2
  go_ret
  rw [HN.out]
  exact ⟨none, 0, rfl, fun b hb => by simp [Value.ownBlock] at hb, Own.nil _ _ _ _, Kept.refl _ _⟩
theorem implPut_no (v n : Int) (w : World) (h : n < 1 ∨ 8 < n ∨ v < 0) :
  Calls Try.prog 76 #[.int .i64 v, .int .i64 n] w fun e w' => e = .returned (.slice none 0 0) ∧ w' = w := by
 rcases h with h | h
 ·go_enter Try.func76, Try.ntmps76
  go_wp2
  go_ret
  exact ⟨rfl, rfl⟩
 ·by_cases h1 : n < 1
  ·go_enter Try.func76, Try.ntmps76
   go_wp2
   go_ret
   exact ⟨rfl, rfl⟩
  ·rcases h with h | h
   ·go_enter Try.func76, Try.ntmps76
    go_wp2
    go_ret
    exact ⟨rfl, rfl⟩
   ·by_cases h2 : 8 < n
    ·go_enter Try.func76, Try.ntmps76
     go_wp2
     go_ret
     exact ⟨rfl, rfl⟩
    ·go_enter Try.func76, Try.ntmps76
     go_wp2
     go_ret
     exact ⟨rfl, rfl⟩
theorem implPut_any (v n : Int) (w : World) (hi0 : IsI v) (hi1 : IsI n) :
  Calls Try.prog 76 #[.int .i64 v, .int .i64 n] w fun e w' => ∃ a c, e = .returned (.slice a (numB v n).length c) ∧ (∀ b, (Value.slice a (numB v n).length c).ownBlock = some b → w.heap.size ≤ b) ∧
   Own 0 5 .u8 w' (.slice a (numB v n).length c) (numB v n) ∧ Same w w' := by
 by_cases h : n < 1 ∨ 8 < n ∨ v < 0
 ·refine (implPut_no v n w h).mono ?_
  rintro e w' ⟨rfl, rfl⟩
  have e : numB v n = [] := by unfold numB; rw [if_pos (by omega)]
  rw [e]
  exact ⟨none, 0, rfl, fun b hb => by simp [Value.ownBlock] at hb, Own.nil _ _ _ _, Kept.refl _ _⟩
 ·exact implPut_yes v n w hi0 (by omega) (by omega) (by omega)
theorem l4Put_own (v : Value) (bs : List Int) (x n : Int) (w : World) (hx : IsI x) (hn : IsI n) (hl : bs.length ≤ 1073741824) (ho : Own 0 5 .u8 w v bs) :
  Calls Try.prog 42 #[v, .int .i64 x, .int .i64 n] w fun e w' => ∃ aa nn cc, e = .returned (.slice aa nn cc) ∧ Own 0 5 .u8 w' (.slice aa nn cc) (bs ++ numB x n) ∧ Grew w v w' (.slice aa nn cc) := by
 have hP := specPut_any x n w hx hn
 have hnl := numB_length x n
 have HO := (show Hid (Own 0 5 .u8 w v bs) from ho)
 clear ho
 go_enter Try.func42, Try.ntmps42
 go_wp2_with (first
  | (go_at_call 75; refine hP.mono ?_; rintro e w1 ⟨a1, c1, rfl, hf1, ho1, hk1⟩; have HR1 := (show Hid (Rd .u8 w1 (.slice a1 (numB x n).length c1) (numB x n)) from ho1.rd); have HK1 := (show Hid (Same w w1) from hk1); clear hf1 ho1 hk1)
  | (at_builtin; refine wpList_app rfl (.tmp 7) (.tmp 10) rfl v (.slice a1 (numB x n).length c1) bs (numB x n) rfl rfl (HO.out.same HK1.out) HR1.out (by omega) ?_; intro a2 n2 c2 w2 hown2 hk2; have HF := (show Hid (Own 0 5 .u8 w2 (.slice a2 n2 c2) (bs ++ numB x n)) from hown2); have HK := (show Hid (Grew w v w2 (.slice a2 n2 c2)) from (Grew.of_same HK1.out).trans hk2); clear hown2 hk2))
 go_ret
 exact ⟨a2, n2, c2, rfl, HF.out, HK.out⟩
theorem appendNumber_own (v : Value) (bs : List Int) (x n : Int) (w : World) (hx : IsI x) (hn : IsI n) (hl : bs.length ≤ 1073741824) (ho : Own 0 5 .u8 w v bs) :
  Calls Try.prog 77 #[v, .int .i64 x, .int .i64 n] w fun e w' => ∃ aa nn cc, e = .returned (.slice aa nn cc) ∧ Own 0 5 .u8 w' (.slice aa nn cc) (bs ++ numB x n) ∧ Grew w v w' (.slice aa nn cc) := by
 have hP := implPut_any x n w hx hn
 have hnl := numB_length x n
 have HO := (show Hid (Own 0 5 .u8 w v bs) from ho)
 clear ho
 go_enter Try.func77, Try.ntmps77
 go_wp2_with (first
  | (go_at_call 76; refine hP.mono ?_; rintro e w1 ⟨a1, c1, rfl, hf1, ho1, hk1⟩; have HR1 := (show Hid (Rd .u8 w1 (.slice a1 (numB x n).length c1) (numB x n)) from ho1.rd); have HK1 := (show Hid (Same w w1) from hk1); clear hf1 ho1 hk1)
  | (at_builtin; refine wpList_app rfl (.tmp 7) (.tmp 10) rfl v (.slice a1 (numB x n).length c1) bs (numB x n) rfl rfl (HO.out.same HK1.out) HR1.out (by omega) ?_; intro a2 n2 c2 w2 hown2 hk2; have HF := (show Hid (Own 0 5 .u8 w2 (.slice a2 n2 c2) (bs ++ numB x n)) from hown2); have HK := (show Hid (Grew w v w2 (.slice a2 n2 c2)) from (Grew.of_same HK1.out).trans hk2); clear hown2 hk2))
 go_ret
 exact ⟨a2, n2, c2, rfl, HF.out, HK.out⟩
def partB (u : Bool) (d : List Int) : List Int := if u = true then 1 :: (numB d.length 2 ++ d) else [0]
theorem partB_length (u : Bool) (d : List Int) : (partB u d).length ≤ d.length + 9 := by
 unfold partB
 have := numB_length d.length 2
 split
 ·simp; omega
 ·simp
theorem l4PutSlot_own (v : Value) (bs : List Int) (u : Bool) (dv : Value) (d : List Int) (w : World) (hd : d.length ≤ 1073741824) (hl : bs.length ≤ 1073741000) (hR : ∀ wx, Kept (fun b => v.ownBlock = some b) w wx → Rd .u8 wx dv d) (ho : Own 0 5 .u8 w v bs) :
  Calls Try.prog 43 #[v, .agg #[.bool u, dv]] w fun e w' => ∃ aa nn cc, e = .returned (.slice aa nn cc) ∧ Own 0 5 .u8 w' (.slice aa nn cc) (bs ++ partB u d) ∧ Grew w v w' (.slice aa nn cc) := by
 obtain ⟨da, dc, rfl⟩ := (hR w (Kept.refl _ _)).form
 have HNB := (show Hid (¬ v.ownBlock = some w.heap.size) from fun e => by have := (ho.lt _ e).2; omega)
 have HO := (show Hid (Own 0 5 .u8 w v bs) from ho)
 have HR := (show Hid (∀ wx, Kept (fun b => v.ownBlock = some b) w wx → Rd .u8 wx (.slice da d.length dc) d) from hR)
 clear ho hR
 cases u with
 | false =>
  have HKB := hid (sameA2 w [.bool false, .slice da d.length dc] 31 [.int .u8 0] 5)
  have HX1 := (show Hid (Rd .u8 ((w.alloc (.cells #[.bool false, .slice da d.length dc] 31)).alloc (.cells #[.int .u8 0] 5)) (.slice (some ⟨w.heap.size + 1, 0, none⟩) 1 1) [0]) from by have h := rd_one (w.alloc (.cells #[.bool false, .slice da d.length dc] 31)) 0; simpa [Hid] using h)
  go_enter Try.func43, Try.ntmps43
  go_wp2_with (at_builtin; refine wpList_app rfl (.tmp 8) (.tmp 9) rfl v (.slice (some ⟨w.heap.size + 1, 0, none⟩) 1 1) bs [0] rfl rfl (HO.out.same HKB.out) HX1.out (by simp; omega) ?_; intro a2 n2 c2 w2 hown2 hk2; have HF := (show Hid (Own 0 5 .u8 w2 (.slice a2 n2 c2) (bs ++ [0])) from hown2); have HK := (show Hid (Grew w v w2 (.slice a2 n2 c2)) from (Grew.of_same HKB.out).trans hk2); clear hown2 hk2)
  go_ret
  exact ⟨a2, n2, c2, rfl, HF.out, HK.out⟩
 | true =>
  have HKB := (show Hid (Same w ((w.alloc (.cells #[.bool true, .slice da d.length dc] 31)).drew.alloc (.cells #[.int .u8 1] 5))) from ((Kept.refl _ _).alloc _).drew.alloc _)
  have HX1 := (show Hid (Rd .u8 ((w.alloc (.cells #[.bool true, .slice da d.length dc] 31)).drew.alloc (.cells #[.int .u8 1] 5)) (.slice (some ⟨w.heap.size + 1, 0, none⟩) 1 1) [1]) from by have h := rd_one (w.alloc (.cells #[.bool true, .slice da d.length dc] 31)).drew 1; simpa [Hid] using h)
  have HZB := (show Hid (w.heap.size + 1 ≤ ((w.alloc (.cells #[.bool true, .slice da d.length dc] 31)).drew.alloc (.cells #[.int .u8 1] 5)).heap.size) from by simp [Hid])
  have bA := Blk.newL w [.bool true, .slice da d.length dc] 31
  have bB : Blk ((w.alloc (.cells #[.bool true, .slice da d.length dc] 31)).drew.alloc (.cells #[.int .u8 1] 5)) w.heap.size 31 [.bool true, .slice da d.length dc] := bA.drew.alloc _
  have hnl := numB_length d.length 2
  go_enter Try.func43, Try.ntmps43
  go_wp2_with fail
  have hS : ((fun wx : World => wx.cell? ⟨w.heap.size, 0, none⟩ = some (.bool true) ∧ wx.cell? ⟨w.heap.size, 1, none⟩ = some (.slice da d.length dc))) (w.alloc (.cells #[.bool true, .slice da d.length dc] 31)).drew := by exact ⟨bA.cell 0, bA.cell 1⟩
  refine wp_region_V ((fun wx : World => wx.cell? ⟨w.heap.size, 0, none⟩ = some (.bool true) ∧ wx.cell? ⟨w.heap.size, 1, none⟩ = some (.slice da d.length dc))) 99 11 rfl (by kernel_rfl) ?_
  refine tk 0 11 hS ?_
  refine tk 3 14 hS ?_
  refine tk 4 15 hS ?_
  refine tk 5 16 hS ?_
  refine tk 7 18 hS ?_
  refine tk 8 19 hS ?_
  refine wpAnyV_one (i := 1) (by kernel_rfl) rfl (fun K hK => ?_)
  go_simp
  have hS : ((fun wx : World => wx.cell? ⟨w.heap.size, 0, none⟩ = some (.bool true) ∧ wx.cell? ⟨w.heap.size, 1, none⟩ = some (.slice da d.length dc))) ((w.alloc (.cells #[.bool true, .slice da d.length dc] 31)).drew.alloc (.cells #[.int .u8 1] 5)) := by exact ⟨bB.cell 0, bB.cell 1⟩
  refine hK.out _ _ (fun _ => hS) ?_
  clear hK K
  try simp only [Act.put, sA, s0, sS]
  refine wpAnyV_one (i := 2) (by kernel_rfl) rfl (fun K hK => ?_)
  refine step_app (by rfl) (.tmp 11) (.tmp 12) (by rfl) v (.slice (some ⟨w.heap.size + 1, 0, none⟩) 1 1) bs [1] (by rfl) (by rfl) (HO.out.same HKB.out) HX1.out (by simp; omega) ?_
  intro a2 n2 c2 w2 hown2 hk2
  have HO2 := (show Hid (Own 0 5 .u8 w2 (.slice a2 n2 c2) (bs ++ [1])) from hown2)
  have HG2 := (show Hid (Grew w v w2 (.slice a2 n2 c2)) from (Grew.of_same HKB.out).trans hk2)
  have b2 := bB.kept hk2.kept HNB.out
  have HN2 := (show Hid (¬ (Value.slice a2 n2 c2).ownBlock = some w.heap.size) from fun e => (hk2.own _ e).elim HNB.out (fun h => by have h := Nat.le_trans HZB.out h; omega))
  clear hown2 hk2
  have hS : ((fun wx : World => wx.cell? ⟨w.heap.size, 0, none⟩ = some (.bool true) ∧ wx.cell? ⟨w.heap.size, 1, none⟩ = some (.slice da d.length dc))) w2 := by exact ⟨b2.cell 0, b2.cell 1⟩
  refine hK.out _ _ (fun _ => hS) ?_
  clear hK K
  try simp only [Act.put, sA, s0, sS]
  refine wpAnyV_one (i := 6) (by kernel_rfl) rfl (fun K hK => ?_)
  go_simp
  refine (l4Put_own _ (bs ++ [1]) d.length 2 w2 (by unfold IsI; omega) (by unfold IsI; omega) (by simp; omega) HO2.out).mono ?_
  rintro e w3 ⟨a3, n3, c3, rfl, hown3, hk3⟩
  have HO3 := (show Hid (Own 0 5 .u8 w3 (.slice a3 n3 c3) ((bs ++ [1]) ++ numB d.length 2)) from hown3)
  have HG3 := (show Hid (Grew w v w3 (.slice a3 n3 c3)) from HG2.out.trans hk3)
  have b3 := b2.kept hk3.kept HN2.out
  have HN3 := (show Hid (¬ (Value.slice a3 n3 c3).ownBlock = some w.heap.size) from fun e => (hk3.own _ e).elim HN2.out (fun h => by have h := Nat.lt_of_lt_of_le b2.lt h; omega))
  clear hown3 hk3
  have hS : ((fun wx : World => wx.cell? ⟨w.heap.size, 0, none⟩ = some (.bool true) ∧ wx.cell? ⟨w.heap.size, 1, none⟩ = some (.slice da d.length dc))) w3 := by exact ⟨b3.cell 0, b3.cell 1⟩
  refine hK.out _ _ (fun _ => hS) ?_
  clear hK K
  try simp only [Act.put, sA, s0, sS]
  refine wpAnyV_one (i := 9) (by kernel_rfl) rfl (fun K hK => ?_)
  refine step_app (by rfl) (.tmp 17) (.tmp 19) (by rfl) (.slice a3 n3 c3) (.slice da d.length dc) _ d (by rfl) (by rfl) HO3.out (HR.out _ HG3.out.kept) (by simp; omega) ?_
  intro a4 n4 c4 w4 hown4 hk4
  have HO4 := (show Hid (Own 0 5 .u8 w4 (.slice a4 n4 c4) (((bs ++ [1]) ++ numB d.length 2) ++ d)) from hown4)
  have HG4 := (show Hid (Grew w v w4 (.slice a4 n4 c4)) from HG3.out.trans hk4)
  have b4 := b3.kept hk4.kept HN3.out
  clear hown4 hk4
  have hS : ((fun wx : World => wx.cell? ⟨w.heap.size, 0, none⟩ = some (.bool true) ∧ wx.cell? ⟨w.heap.size, 1, none⟩ = some (.slice da d.length dc))) w4 := by exact ⟨b4.cell 0, b4.cell 1⟩
  refine hK.out _ _ (fun _ => hS) ?_
  clear hK K
  try simp only [Act.put, sA, s0, sS]
  refine tk 10 4 hS ?_
  refine wpAnyV_done (by kernel_rfl) ?_
  go_wp2
  go_ret
  exact ⟨a4, n4, c4, rfl, by simpa [partB] using HO4.out, HG4.out⟩
theorem appendSlot_own (v : Value) (bs : List Int) (u : Bool) (dv : Value) (d : List Int) (w : World) (hd : d.length ≤ 1073741824) (hl : bs.length ≤ 1073741000) (hR : ∀ wx, Kept (fun b => v.ownBlock = some b) w wx → Rd .u8 wx dv d) (ho : Own 0 5 .u8 w v bs) :
  Calls Try.prog 109 #[v, .agg #[.bool u, dv]] w fun e w' => ∃ aa nn cc, e = .returned (.slice aa nn cc) ∧ Own 0 5 .u8 w' (.slice aa nn cc) (bs ++ partB u d) ∧ Grew w v w' (.slice aa nn cc) := by
 obtain ⟨da, dc, rfl⟩ := (hR w (Kept.refl _ _)).form
 have HNB := (show Hid (¬ v.ownBlock = some w.heap.size) from fun e => by have := (ho.lt _ e).2; omega)
 have HO := (show Hid (Own 0 5 .u8 w v bs) from ho)
 have HR := (show Hid (∀ wx, Kept (fun b => v.ownBlock = some b) w wx → Rd .u8 wx (.slice da d.length dc) d) from hR)
 clear ho hR
 cases u with
 | false =>
  have HKB := hid (sameA2 w [.bool false, .slice da d.length dc] 31 [.int .u8 0] 5)
  have HX1 := (show Hid (Rd .u8 ((w.alloc (.cells #[.bool false, .slice da d.length dc] 31)).alloc (.cells #[.int .u8 0] 5)) (.slice (some ⟨w.heap.size + 1, 0, none⟩) 1 1) [0]) from by have h := rd_one (w.alloc (.cells #[.bool false, .slice da d.length dc] 31)) 0; simpa [Hid] using h)
  go_enter Try.func109, Try.ntmps109
  go_wp2_with (at_builtin; refine wpList_app rfl (.tmp 8) (.tmp 9) rfl v (.slice (some ⟨w.heap.size + 1, 0, none⟩) 1 1) bs [0] rfl rfl (HO.out.same HKB.out) HX1.out (by simp; omega) ?_; intro a2 n2 c2 w2 hown2 hk2; have HF := (show Hid (Own 0 5 .u8 w2 (.slice a2 n2 c2) (bs ++ [0])) from hown2); have HK := (show Hid (Grew w v w2 (.slice a2 n2 c2)) from (Grew.of_same HKB.out).trans hk2); clear hown2 hk2)
  go_ret
  exact ⟨a2, n2, c2, rfl, HF.out, HK.out⟩
 | true =>
  have HKB := (show Hid (Same w ((w.alloc (.cells #[.bool true, .slice da d.length dc] 31)).drew.alloc (.cells #[.int .u8 1] 5))) from ((Kept.refl _ _).alloc _).drew.alloc _)
  have HX1 := (show Hid (Rd .u8 ((w.alloc (.cells #[.bool true, .slice da d.length dc] 31)).drew.alloc (.cells #[.int .u8 1] 5)) (.slice (some ⟨w.heap.size + 1, 0, none⟩) 1 1) [1]) from by have h := rd_one (w.alloc (.cells #[.bool true, .slice da d.length dc] 31)).drew 1; simpa [Hid] using h)
  have HZB := (show Hid (w.heap.size + 1 ≤ ((w.alloc (.cells #[.bool true, .slice da d.length dc] 31)).drew.alloc (.cells #[.int .u8 1] 5)).heap.size) from by simp [Hid])
  have bA := Blk.newL w [.bool true, .slice da d.length dc] 31
  have bB : Blk ((w.alloc (.cells #[.bool true, .slice da d.length dc] 31)).drew.alloc (.cells #[.int .u8 1] 5)) w.heap.size 31 [.bool true, .slice da d.length dc] := bA.drew.alloc _
  have hnl := numB_length d.length 2
  go_enter Try.func109, Try.ntmps109
  go_wp2_with fail
  have hS : ((fun wx : World => wx.cell? ⟨w.heap.size, 0, none⟩ = some (.bool true) ∧ wx.cell? ⟨w.heap.size, 1, none⟩ = some (.slice da d.length dc))) (w.alloc (.cells #[.bool true, .slice da d.length dc] 31)).drew := by exact ⟨bA.cell 0, bA.cell 1⟩
  refine wp_region_V ((fun wx : World => wx.cell? ⟨w.heap.size, 0, none⟩ = some (.bool true) ∧ wx.cell? ⟨w.heap.size, 1, none⟩ = some (.slice da d.length dc))) 99 8 rfl (by kernel_rfl) ?_
  refine tk 0 11 hS ?_
  refine tk 3 14 hS ?_
  refine tk 4 15 hS ?_
  refine tk 5 16 hS ?_
  refine wpAnyV_one (i := 1) (by kernel_rfl) rfl (fun K hK => ?_)
  go_simp
  have hS : ((fun wx : World => wx.cell? ⟨w.heap.size, 0, none⟩ = some (.bool true) ∧ wx.cell? ⟨w.heap.size, 1, none⟩ = some (.slice da d.length dc))) ((w.alloc (.cells #[.bool true, .slice da d.length dc] 31)).drew.alloc (.cells #[.int .u8 1] 5)) := by exact ⟨bB.cell 0, bB.cell 1⟩
  refine hK.out _ _ (fun _ => hS) ?_
  clear hK K
  try simp only [Act.put, sA, s0, sS]
  refine wpAnyV_one (i := 2) (by kernel_rfl) rfl (fun K hK => ?_)
  refine step_app (by rfl) (.tmp 11) (.tmp 12) (by rfl) v (.slice (some ⟨w.heap.size + 1, 0, none⟩) 1 1) bs [1] (by rfl) (by rfl) (HO.out.same HKB.out) HX1.out (by simp; omega) ?_
  intro a2 n2 c2 w2 hown2 hk2
  have HO2 := (show Hid (Own 0 5 .u8 w2 (.slice a2 n2 c2) (bs ++ [1])) from hown2)
  have HG2 := (show Hid (Grew w v w2 (.slice a2 n2 c2)) from (Grew.of_same HKB.out).trans hk2)
  have b2 := bB.kept hk2.kept HNB.out
  have HN2 := (show Hid (¬ (Value.slice a2 n2 c2).ownBlock = some w.heap.size) from fun e => (hk2.own _ e).elim HNB.out (fun h => by have h := Nat.le_trans HZB.out h; omega))
  clear hown2 hk2
  have hS : ((fun wx : World => wx.cell? ⟨w.heap.size, 0, none⟩ = some (.bool true) ∧ wx.cell? ⟨w.heap.size, 1, none⟩ = some (.slice da d.length dc))) w2 := by exact ⟨b2.cell 0, b2.cell 1⟩
  refine hK.out _ _ (fun _ => hS) ?_
  clear hK K
  try simp only [Act.put, sA, s0, sS]
  refine wpAnyV_one (i := 6) (by kernel_rfl) rfl (fun K hK => ?_)
  go_simp
  refine (appendNumber_own _ (bs ++ [1]) d.length 2 w2 (by unfold IsI; omega) (by unfold IsI; omega) (by simp; omega) HO2.out).mono ?_
  rintro e w3 ⟨a3, n3, c3, rfl, hown3, hk3⟩
  have HO3 := (show Hid (Own 0 5 .u8 w3 (.slice a3 n3 c3) ((bs ++ [1]) ++ numB d.length 2)) from hown3)
  have HG3 := (show Hid (Grew w v w3 (.slice a3 n3 c3)) from HG2.out.trans hk3)
  have b3 := b2.kept hk3.kept HN2.out
  have HN3 := (show Hid (¬ (Value.slice a3 n3 c3).ownBlock = some w.heap.size) from fun e => (hk3.own _ e).elim HN2.out (fun h => by have h := Nat.lt_of_lt_of_le b2.lt h; omega))
  clear hown3 hk3
  have hS : ((fun wx : World => wx.cell? ⟨w.heap.size, 0, none⟩ = some (.bool true) ∧ wx.cell? ⟨w.heap.size, 1, none⟩ = some (.slice da d.length dc))) w3 := by exact ⟨b3.cell 0, b3.cell 1⟩
  refine hK.out _ _ (fun _ => hS) ?_
  clear hK K
  try simp only [Act.put, sA, s0, sS]
  refine tk 7 0 hS ?_
  refine wpAnyV_done (by kernel_rfl) ?_
  have x0 := b3.c0
  have x1 := b3.c1
  go_wp2_with (at_builtin; refine wpList_app rfl (.tmp 18) (.tmp 20) rfl (.slice a3 n3 c3) (.slice da d.length dc) _ d rfl rfl HO3.out (HR.out _ HG3.out.kept) (by simp; omega) ?_; intro a4 n4 c4 w4 hown4 hk4; have HO4 := (show Hid (Own 0 5 .u8 w4 (.slice a4 n4 c4) (((bs ++ [1]) ++ numB d.length 2) ++ d)) from hown4); have HG4 := (show Hid (Grew w v w4 (.slice a4 n4 c4)) from HG3.out.trans hk4); clear hown4 hk4)
  go_ret
  exact ⟨a4, n4, c4, rfl, by simpa [partB] using HO4.out, HG4.out⟩
def txB (bs : List Int) (i : Nat) : List Int := numB (bs.getD (i * 4) 0) 4 ++ numB (bs.getD (i * 4 + 1) 0) 1 ++ numB (bs.getD (i * 4 + 2) 0) 8 ++ numB (bs.getD (i * 4 + 3) 0) 8
def dyB (bs : List Int) (i : Nat) : List Int := numB (bs.getD (i * 2) 0) 2 ++ numB (bs.getD (i * 2 + 1) 0) 8
def txsB (bs : List Int) (n : Nat) : List Int := (List.range n).flatMap (txB bs)
def dysB (bs : List Int) (n : Nat) : List Int := (List.range n).flatMap (dyB bs)
theorem txsB_succ (bs : List Int) (n : Nat) : txsB bs (n + 1) = txsB bs n ++ txB bs n := by simp [txsB, List.range_succ]
theorem dysB_succ (bs : List Int) (n : Nat) : dysB bs (n + 1) = dysB bs n ++ dyB bs n := by simp [dysB, List.range_succ]
theorem txsB_zero (bs : List Int) : txsB bs 0 = [] := rfl
theorem dysB_zero (bs : List Int) : dysB bs 0 = [] := rfl
theorem txsB_length (bs : List Int) (n : Nat) : (txsB bs n).length ≤ 32 * n := by
 induction n with
 | zero => simp [txsB]
 | succ n ih =>
  rw [txsB_succ, List.length_append]
  have h0 := numB_length (bs.getD (n * 4) 0) 4
  have h1 := numB_length (bs.getD (n * 4 + 1) 0) 1
  have h2 := numB_length (bs.getD (n * 4 + 2) 0) 8
  have h3 := numB_length (bs.getD (n * 4 + 3) 0) 8
  simp only [txB, List.length_append]
  omega
theorem dysB_length (bs : List Int) (n : Nat) : (dysB bs n).length ≤ 16 * n := by
 induction n with
 | zero => simp [dysB]
 | succ n ih =>
  rw [dysB_succ, List.length_append]
  have h0 := numB_length (bs.getD (n * 2) 0) 2
  have h1 := numB_length (bs.getD (n * 2 + 1) 0) 8
  simp only [dyB, List.length_append]
  omega
def headR (kind txn prev : Int) : List Int := ([kind] ++ numB txn 4) ++ numB prev 8
def recBy (kind txn prev page slot : Int) (bu : Bool) (bb : List Int) (au : Bool) (ab : List Int) (un nt : Int) (tx dy im : List Int) : List Int :=
 if kind = 1 then (((headR kind txn prev ++ numB page 2) ++ numB slot 2) ++ partB bu bb) ++ partB au ab
 else if kind = 2 then (((headR kind txn prev ++ numB page 2) ++ numB slot 2) ++ partB au ab) ++ numB un 8
 else if kind = 7 then (((((headR kind txn prev ++ numB nt 4) ++ numB (tx.length / 4 : Nat) 1) ++ txsB tx (tx.length / 4)) ++ numB (dy.length / 2 : Nat) 1) ++ dysB dy (dy.length / 2))
 else if kind = 8 then (headR kind txn prev ++ numB page 2) ++ im
 else headR kind txn prev
def recBd (d : Int × Int × Int × Int × Int × (Bool × List Int) × (Bool × List Int) × Int × Int × List Int × List Int × List Int) : List Int := recBy d.1 d.2.1 d.2.2.1 d.2.2.2.1 d.2.2.2.2.1 d.2.2.2.2.2.1.1 d.2.2.2.2.2.1.2 d.2.2.2.2.2.2.1.1 d.2.2.2.2.2.2.1.2 d.2.2.2.2.2.2.2.1 d.2.2.2.2.2.2.2.2.1 d.2.2.2.2.2.2.2.2.2.1 d.2.2.2.2.2.2.2.2.2.2.1 d.2.2.2.2.2.2.2.2.2.2.2
theorem headR_length (kind txn prev : Int) : (headR kind txn prev).length ≤ 17 := by
 have h0 := numB_length txn 4
 have h1 := numB_length prev 8
 simp only [headR, List.length_append, List.length_singleton]
 omega
theorem orF_zero {a b c : Int} (h : orF a b c = 0) : a = 0 ∧ b = 0 ∧ c = 0 := by
 unfold orF at h
 split at h
 ·omega
 ·split at h
  ·omega
  ·omega
theorem headF_zero {t p : Int} (h : headF t p = 0) : (1 ≤ t ∧ t ≤ 2147483647) ∧ (0 ≤ p ∧ p ≤ 1099511627776) := by
 unfold headF at h
 split at h
 ·omega
 ·split at h
  ·omega
  ·rename_i h1 h2
   simp [isTxnB, isLSN] at h1 h2
   omega
theorem placeF_zero {p s : Int} (h : placeF p s = 0) : (0 ≤ p ∧ p < 16) ∧ (0 ≤ s ∧ s < 32) := by
 unfold placeF at h
 split at h
 ·rename_i h1
  simp [isPageB, isSlotB] at h1
  omega
 ·omega
theorem updF_zero {bu au : Bool} {bn an : Nat} (h : updF bu au bn an = 0) : bn ≤ 1000 ∧ an ≤ 1000 := by
 unfold updF at h
 split at h
 ·rename_i h1
  simp [fitsB] at h1
  omega
 ·omega
theorem undF_zero {au : Bool} {an : Nat} {un : Int} (h : undF au an un = 0) : an ≤ 1000 ∧ (0 ≤ un ∧ un ≤ 1099511627776) := by
 unfold undF at h
 split at h
 ·omega
 ·split at h
  ·omega
  ·rename_i h1 h2
   simp [fitsB, isLSN] at h1 h2
   omega
theorem good1 {txn prev page slot un nt : Int} {bu au : Bool} {bb ab tx dy im : List Int} (h : recF 1 txn prev page slot bu bb au ab un nt tx dy im = 0) : ((1 ≤ txn ∧ txn ≤ 2147483647) ∧ (0 ≤ prev ∧ prev ≤ 1099511627776)) ∧ ((0 ≤ page ∧ page < 16) ∧ (0 ≤ slot ∧ slot < 32)) ∧ bb.length ≤ 1000 ∧ ab.length ≤ 1000 := by
 unfold recF at h
 rw [if_pos rfl] at h
 split at h
 ·rename_i ha
  obtain ⟨h1, h2, h3⟩ := orF_zero h
  exact ⟨headF_zero h1, placeF_zero h2, updF_zero h3⟩
 ·omega
theorem good2 {txn prev page slot un nt : Int} {bu au : Bool} {bb ab tx dy im : List Int} (h : recF 2 txn prev page slot bu bb au ab un nt tx dy im = 0) : ((1 ≤ txn ∧ txn ≤ 2147483647) ∧ (0 ≤ prev ∧ prev ≤ 1099511627776)) ∧ ((0 ≤ page ∧ page < 16) ∧ (0 ≤ slot ∧ slot < 32)) ∧ ab.length ≤ 1000 ∧ (0 ≤ un ∧ un ≤ 1099511627776) := by
 unfold recF at h
 rw [if_neg (by decide)] at h
 rw [if_pos rfl] at h
 split at h
 ·rename_i ha
  obtain ⟨h1, h2, h3⟩ := orF_zero h
  exact ⟨headF_zero h1, placeF_zero h2, undF_zero h3⟩
 ·omega
theorem good3 {txn prev page slot un nt : Int} {bu au : Bool} {bb ab tx dy im : List Int} (h : recF 3 txn prev page slot bu bb au ab un nt tx dy im = 0) : ((1 ≤ txn ∧ txn ≤ 2147483647) ∧ (0 ≤ prev ∧ prev ≤ 1099511627776)) := by
 unfold recF at h
 rw [if_neg (by decide)] at h
 rw [if_neg (by decide)] at h
 rw [if_pos rfl] at h
 split at h
 ·rename_i ha
  exact headF_zero h
 ·omega
theorem good4 {txn prev page slot un nt : Int} {bu au : Bool} {bb ab tx dy im : List Int} (h : recF 4 txn prev page slot bu bb au ab un nt tx dy im = 0) : ((1 ≤ txn ∧ txn ≤ 2147483647) ∧ (0 ≤ prev ∧ prev ≤ 1099511627776)) := by
 unfold recF at h
 rw [if_neg (by decide)] at h
 rw [if_neg (by decide)] at h
 rw [if_neg (by decide)] at h
 rw [if_pos rfl] at h
 split at h
 ·rename_i ha
  exact headF_zero h
 ·omega
theorem good5 {txn prev page slot un nt : Int} {bu au : Bool} {bb ab tx dy im : List Int} (h : recF 5 txn prev page slot bu bb au ab un nt tx dy im = 0) : ((1 ≤ txn ∧ txn ≤ 2147483647) ∧ (0 ≤ prev ∧ prev ≤ 1099511627776)) := by
 unfold recF at h
 rw [if_neg (by decide)] at h
 rw [if_neg (by decide)] at h
 rw [if_neg (by decide)] at h
 rw [if_neg (by decide)] at h
 rw [if_pos rfl] at h
 split at h
 ·rename_i ha
  exact headF_zero h
 ·omega
theorem good6 {txn prev page slot un nt : Int} {bu au : Bool} {bb ab tx dy im : List Int} (h : recF 6 txn prev page slot bu bb au ab un nt tx dy im = 0) : txn = 0 ∧ prev = 0 := by
 unfold recF at h
 rw [if_neg (by decide)] at h
 rw [if_neg (by decide)] at h
 rw [if_neg (by decide)] at h
 rw [if_neg (by decide)] at h
 rw [if_neg (by decide)] at h
 rw [if_pos rfl] at h
 split at h
 ·rename_i ha
  simp [alone6] at ha
  omega
 ·omega
theorem good7 {txn prev page slot un nt : Int} {bu au : Bool} {bb ab tx dy im : List Int} (h : recF 7 txn prev page slot bu bb au ab un nt tx dy im = 0) : txn = 0 ∧ prev = 0 ∧ (1 ≤ nt ∧ nt ≤ 2147483648) ∧ allTxns tx (tx.length / 4) = true ∧ allDirty dy (dy.length / 2) = true := by
 unfold recF at h
 rw [if_neg (by decide)] at h
 rw [if_neg (by decide)] at h
 rw [if_neg (by decide)] at h
 rw [if_neg (by decide)] at h
 rw [if_neg (by decide)] at h
 rw [if_neg (by decide)] at h
 rw [if_pos rfl] at h
 split at h
 ·rename_i ha
  simp [alone7] at ha
  unfold tabF at h
  split at h
  ·rename_i h1
   simp at h1
   exact ⟨by omega, by omega, by omega, h1.1.2, h1.2⟩
  ·omega
 ·omega
theorem good8 {txn prev page slot un nt : Int} {bu au : Bool} {bb ab tx dy im : List Int} (h : recF 8 txn prev page slot bu bb au ab un nt tx dy im = 0) : txn = 0 ∧ prev = 0 ∧ (0 ≤ page ∧ page < 16) ∧ im.length = 4096 := by
 unfold recF at h
 rw [if_neg (by decide)] at h
 rw [if_neg (by decide)] at h
 rw [if_neg (by decide)] at h
 rw [if_neg (by decide)] at h
 rw [if_neg (by decide)] at h
 rw [if_neg (by decide)] at h
 rw [if_neg (by decide)] at h
 rw [if_pos rfl] at h
 split at h
 ·rename_i ha
  simp [alone8] at ha
  unfold imgF at h
  split at h
  ·omega
  ·split at h
   ·omega
   ·rename_i h1 h2
    have h3 : pageFault im page = 0 := by omega
    simp [isPageB] at h1
    refine ⟨by omega, by omega, by omega, ?_⟩
    unfold pageFault at h3
    split at h3
    ·omega
    ·omega
 ·omega
theorem kind_good {kind : Int} {txn prev page slot un nt : Int} {bu au : Bool} {bb ab tx dy im : List Int} (h : recF kind txn prev page slot bu bb au ab un nt tx dy im = 0) : 1 ≤ kind ∧ kind ≤ 8 := by
 unfold recF at h
 repeat (split at h; · omega)
 omega
theorem tXgood {bs : List Int} {n : Nat} (h : allTxns bs n = true) : n ≤ 8 ∧ ∀ i, i < n → (1 ≤ bs.getD (i * 4) 0 ∧ bs.getD (i * 4) 0 ≤ 2147483647) ∧ (1 ≤ bs.getD (i * 4 + 1) 0 ∧ bs.getD (i * 4 + 1) 0 ≤ 3) ∧ (1 ≤ bs.getD (i * 4 + 2) 0 ∧ bs.getD (i * 4 + 2) 0 ≤ 1099511627776) ∧ (0 ≤ bs.getD (i * 4 + 3) 0 ∧ bs.getD (i * 4 + 3) 0 ≤ bs.getD (i * 4 + 2) 0) := by
 unfold allTxns at h
 simp only [Bool.and_eq_true, decide_eq_true_eq, List.all_eq_true, List.mem_range] at h
 refine ⟨h.1, fun i hi => ?_⟩
 have := h.2 i hi
 simp only [atTxns, oneTxns, isTxnB, Bool.and_eq_true, decide_eq_true_eq] at this
 omega
theorem dYgood {bs : List Int} {n : Nat} (h : allDirty bs n = true) : n ≤ 16 ∧ ∀ i, i < n → (0 ≤ bs.getD (i * 2) 0 ∧ bs.getD (i * 2) 0 < 16) ∧ (1 ≤ bs.getD (i * 2 + 1) 0 ∧ bs.getD (i * 2 + 1) 0 ≤ 1099511627776) := by
 unfold allDirty at h
 simp only [Bool.and_eq_true, decide_eq_true_eq, List.all_eq_true, List.mem_range] at h
 refine ⟨h.1, fun i hi => ?_⟩
 have := h.2 i hi
 simp only [atDirty, oneDirty, isPageB, Bool.and_eq_true, decide_eq_true_eq] at this
 omega
def encFd (d : Int × Int × Int × Int × Int × (Bool × List Int) × (Bool × List Int) × Int × Int × List Int × List Int × List Int) : List Int := if recFd d ≠ 0 then [] else recBd d
theorem appendTo_own (v : Value) (bs : List Int) (page slot : Int) (w : World) (hpg : IsI page) (hsl : IsI slot) (hl : bs.length ≤ 1000000) (ho : Own 0 5 .u8 w v bs) :
  Calls Try.prog 108 #[.agg #[.int .i64 page, .int .i64 slot], v] w fun e w' => ∃ aa nn cc, e = .returned (.slice aa nn cc) ∧ Own 0 5 .u8 w' (.slice aa nn cc) (bs ++ (numB page 2 ++ numB slot 2)) ∧ Grew w v w' (.slice aa nn cc) := by
 have b0 := (Blk.newL w [.int .i64 page, .int .i64 slot] 77).drew
 have HG0 := (show Hid (Grew w v ((w.alloc (.cells #[.int .i64 page, .int .i64 slot] 77)).drew) v) from Grew.of_same ((Kept.refl _ _).alloc _).drew)
 have HO0 := (show Hid (Own 0 5 .u8 ((w.alloc (.cells #[.int .i64 page, .int .i64 slot] 77)).drew) (v) (bs)) from ho.same ((Kept.refl _ _).alloc _).drew)
 have HNb0 := (show Hid (¬ v.ownBlock = some w.heap.size) from fun e => by have := (ho.lt _ e).2; omega)
 have hl0 : bs.length ≤ 1000000 := hl
 clear ho hl
 go_enter Try.func108, Try.ntmps108
 go_wp2_with fail
 let Y1 : World → Prop := fun wx : World => wx.cell? ⟨w.heap.size, 0, none⟩ = some (.int .i64 page) ∧ wx.cell? ⟨w.heap.size, 1, none⟩ = some (.int .i64 slot)
 have hS : Y1 ((w.alloc (.cells #[.int .i64 page, .int .i64 slot] 77)).drew) := by exact ⟨b0.cell 0, b0.cell 1⟩
 refine wp_region_V Y1 99 8 rfl (by kernel_rfl) ?_
 refine tk 0 5 hS ?_
 refine tk 1 6 hS ?_
 refine tk 2 7 hS ?_
 refine tk 4 9 hS ?_
 refine tk 5 10 hS ?_
 refine wpAnyV_one (i := 3) (by kernel_rfl) rfl (fun K hK => ?_)
 go_simp
 refine (appendNumber_own _ (bs) (page) 2 _ hpg (by unfold IsI; omega) (by omega) HO0.out).mono ?_
 rintro e wk1 ⟨ak1, nk1, ck1, rfl, hown, hg⟩
 have HOk1 := (show Hid (Own 0 5 .u8 wk1 (.slice ak1 nk1 ck1) ((bs) ++ numB (page) 2)) from hown)
 have HGk1 := hid (HG0.out.trans hg)
 have bk1 := b0.kept hg.kept HNb0.out
 have HNbk1 := (show Hid (¬ (Value.slice ak1 nk1 ck1).ownBlock = some (w.heap.size)) from fun e => (hg.own _ e).elim HNb0.out (fun h => by have h := Nat.lt_of_lt_of_le b0.lt h; omega))
 have hlk1 : ((bs) ++ numB (page) 2).length ≤ 1000008 := by rw [List.length_append]; have := numB_length (page) 2; omega
 clear hown hg
 have hS : Y1 wk1 := by exact ⟨bk1.cell 0, bk1.cell 1⟩
 refine hK.out _ _ (fun _ => hS) ?_
 clear hK K
 try simp only [Act.put, sA, s0, sS]
 refine wpAnyV_one (i := 6) (by kernel_rfl) rfl (fun K hK => ?_)
 go_simp
 refine (appendNumber_own _ ((bs) ++ numB (page) 2) (slot) 2 _ hsl (by unfold IsI; omega) (by omega) HOk1.out).mono ?_
 rintro e wk2 ⟨ak2, nk2, ck2, rfl, hown, hg⟩
 have HOk2 := (show Hid (Own 0 5 .u8 wk2 (.slice ak2 nk2 ck2) (((bs) ++ numB (page) 2) ++ numB (slot) 2)) from hown)
 have HGk2 := hid (HGk1.out.trans hg)
 have bk2 := bk1.kept hg.kept HNbk1.out
 have HNbk2 := (show Hid (¬ (Value.slice ak2 nk2 ck2).ownBlock = some (w.heap.size)) from fun e => (hg.own _ e).elim HNbk1.out (fun h => by have h := Nat.lt_of_lt_of_le bk1.lt h; omega))
 have hlk2 : (((bs) ++ numB (page) 2) ++ numB (slot) 2).length ≤ 1000016 := by rw [List.length_append]; have := numB_length (slot) 2; omega
 clear hown hg
 have hS : Y1 wk2 := by exact ⟨bk2.cell 0, bk2.cell 1⟩
 refine hK.out _ _ (fun _ => hS) ?_
 clear hK K
 try simp only [Act.put, sA, s0, sS]
 refine tk 7 4 hS ?_
 refine wpAnyV_done (by kernel_rfl) ?_
 go_wp2
 go_ret
 exact ⟨_, _, _, rfl, by simpa using HOk2.out, HGk2.out⟩
theorem headRest_own (v : Value) (bs : List Int) (txn prev : Int) (w : World)  (hl : bs.length ≤ 1000000) (ho : Own 0 5 .u8 w v bs) :
  Calls Try.prog 99 #[.agg #[.int .i64 txn, .int .i64 prev], v] w fun e w' => ∃ aa nn cc, e = .returned (.slice aa nn cc) ∧ Own 0 5 .u8 w' (.slice aa nn cc) (bs ++ []) ∧ Grew w v w' (.slice aa nn cc) := by
 obtain ⟨aa, nn, cc, rfl⟩ := slice_of_own ho
 have HO0 := (show Hid (Own 0 5 .u8 ((w.alloc (.cells #[.int .i64 txn, .int .i64 prev] 75))) (.slice aa nn cc) (bs)) from ho.same ((Kept.refl _ _).alloc _))
 have HG0 := (show Hid (Grew w (.slice aa nn cc) ((w.alloc (.cells #[.int .i64 txn, .int .i64 prev] 75))) (.slice aa nn cc)) from Grew.of_same ((Kept.refl _ _).alloc _))
 clear ho
 go_enter Try.func99, Try.ntmps99
 go_wp2
 go_ret
 exact ⟨aa, nn, cc, rfl, by simpa using HO0.out, HG0.out⟩
theorem updRest_own (v : Value) (bs : List Int) (txn prev page slot : Int) (bu : Bool) (ba : Option Addr) (bc : Nat) (bb : List Int) (au : Bool) (aa : Option Addr) (ac : Nat) (ab : List Int) (w : World) (hpg : IsI page) (hsl : IsI slot) (hbl : bb.length ≤ 1000) (hal : ab.length ≤ 1000) (hrb : ∀ wx, Kept (fun b => v.ownBlock = some b) w wx → Rd .u8 wx (.slice ba bb.length bc) bb) (hra : ∀ wx, Kept (fun b => v.ownBlock = some b) w wx → Rd .u8 wx (.slice aa ab.length ac) ab) (hl : bs.length ≤ 1000000) (ho : Own 0 5 .u8 w v bs) :
  Calls Try.prog 112 #[.agg #[.int .i64 txn, .int .i64 prev, .int .i64 page, .int .i64 slot, .bool bu, .slice ba bb.length bc, .bool au, .slice aa ab.length ac], v] w fun e w' => ∃ aa nn cc, e = .returned (.slice aa nn cc) ∧ Own 0 5 .u8 w' (.slice aa nn cc) (bs ++ (((numB page 2 ++ numB slot 2) ++ partB bu bb) ++ partB au ab)) ∧ Grew w v w' (.slice aa nn cc) := by
 have HRb := (show Hid (∀ wx, Kept (fun b => v.ownBlock = some b) w wx → Rd .u8 wx (.slice ba bb.length bc) bb) from hrb)
 have HRa := (show Hid (∀ wx, Kept (fun b => v.ownBlock = some b) w wx → Rd .u8 wx (.slice aa ab.length ac) ab) from hra)
 clear hrb hra
 have b0 := (Blk.newL w [.int .i64 txn, .int .i64 prev, .int .i64 page, .int .i64 slot, .bool bu, .slice ba bb.length bc, .bool au, .slice aa ab.length ac] 92)
 have HG0 := (show Hid (Grew w v ((w.alloc (.cells #[.int .i64 txn, .int .i64 prev, .int .i64 page, .int .i64 slot, .bool bu, .slice ba bb.length bc, .bool au, .slice aa ab.length ac] 92))) v) from Grew.of_same ((Kept.refl _ _).alloc _))
 have HO0 := (show Hid (Own 0 5 .u8 ((w.alloc (.cells #[.int .i64 txn, .int .i64 prev, .int .i64 page, .int .i64 slot, .bool bu, .slice ba bb.length bc, .bool au, .slice aa ab.length ac] 92))) (v) (bs)) from ho.same ((Kept.refl _ _).alloc _))
 have HNb0 := (show Hid (¬ v.ownBlock = some w.heap.size) from fun e => by have := (ho.lt _ e).2; omega)
 have hl0 : bs.length ≤ 1000000 := hl
 clear ho hl
 go_enter Try.func112, Try.ntmps112
 go_wp2_with fail
 refine (appendTo_own _ (bs) page slot _ hpg hsl (by omega) HO0.out).mono ?_
 rintro e wk1 ⟨ak1, nk1, ck1, rfl, hown, hg⟩
 have HOk1 := (show Hid (Own 0 5 .u8 wk1 (.slice ak1 nk1 ck1) ((bs) ++ (numB page 2 ++ numB slot 2))) from hown)
 have HGk1 := hid (HG0.out.trans hg)
 have bk1 := b0.kept hg.kept HNb0.out
 have HNbk1 := (show Hid (¬ (Value.slice ak1 nk1 ck1).ownBlock = some (w.heap.size)) from fun e => (hg.own _ e).elim HNb0.out (fun h => by have h := Nat.lt_of_lt_of_le b0.lt h; omega))
 have hlk1 : ((bs) ++ (numB page 2 ++ numB slot 2)).length ≤ 1000016 := by rw [List.length_append]; have := numB_length page 2; have := numB_length slot 2; rw [List.length_append]; omega
 clear hown hg
 have dbk1_4 := bk1.c4
 have dbk1_5 := bk1.c5
 go_wp2_with fail
 refine (appendSlot_own _ ((bs) ++ (numB page 2 ++ numB slot 2)) bu (.slice ba bb.length bc) (bb) _ (by omega) (by omega) (fun wx hkx => HRb.out wx (HGk1.out.kept.next hkx (fun i hi e => (HGk1.out.own i e).resolve_right (by omega)))) HOk1.out).mono ?_
 rintro e wk2 ⟨ak2, nk2, ck2, rfl, hown, hg⟩
 have HOk2 := (show Hid (Own 0 5 .u8 wk2 (.slice ak2 nk2 ck2) (((bs) ++ (numB page 2 ++ numB slot 2)) ++ partB bu (bb))) from hown)
 have HGk2 := hid (HGk1.out.trans hg)
 have bk2 := bk1.kept hg.kept HNbk1.out
 have HNbk2 := (show Hid (¬ (Value.slice ak2 nk2 ck2).ownBlock = some (w.heap.size)) from fun e => (hg.own _ e).elim HNbk1.out (fun h => by have h := Nat.lt_of_lt_of_le bk1.lt h; omega))
 have hlk2 : (((bs) ++ (numB page 2 ++ numB slot 2)) ++ partB bu (bb)).length ≤ 1001116 := by rw [List.length_append]; have := partB_length bu (bb); omega
 clear hown hg
 have dbk2_6 := bk2.c6
 have dbk2_7 := bk2.c7
 go_wp2_with fail
 refine (appendSlot_own _ (((bs) ++ (numB page 2 ++ numB slot 2)) ++ partB bu (bb)) au (.slice aa ab.length ac) (ab) _ (by omega) (by omega) (fun wx hkx => HRa.out wx (HGk2.out.kept.next hkx (fun i hi e => (HGk2.out.own i e).resolve_right (by omega)))) HOk2.out).mono ?_
 rintro e wk3 ⟨ak3, nk3, ck3, rfl, hown, hg⟩
 have HOk3 := (show Hid (Own 0 5 .u8 wk3 (.slice ak3 nk3 ck3) ((((bs) ++ (numB page 2 ++ numB slot 2)) ++ partB bu (bb)) ++ partB au (ab))) from hown)
 have HGk3 := hid (HGk2.out.trans hg)
 have bk3 := bk2.kept hg.kept HNbk2.out
 have HNbk3 := (show Hid (¬ (Value.slice ak3 nk3 ck3).ownBlock = some (w.heap.size)) from fun e => (hg.own _ e).elim HNbk2.out (fun h => by have h := Nat.lt_of_lt_of_le bk2.lt h; omega))
 have hlk3 : ((((bs) ++ (numB page 2 ++ numB slot 2)) ++ partB bu (bb)) ++ partB au (ab)).length ≤ 1002216 := by rw [List.length_append]; have := partB_length au (ab); omega
 clear hown hg
 go_wp2
 go_ret
 exact ⟨_, _, _, rfl, by simpa using HOk3.out, HGk3.out⟩
theorem undoRest_own (v : Value) (bs : List Int) (txn prev page slot : Int) (au : Bool) (aa : Option Addr) (ac : Nat) (ab : List Int) (un : Int) (w : World) (hpg : IsI page) (hsl : IsI slot) (hun : IsI un) (hal : ab.length ≤ 1000) (hra : ∀ wx, Kept (fun b => v.ownBlock = some b) w wx → Rd .u8 wx (.slice aa ab.length ac) ab) (hl : bs.length ≤ 1000000) (ho : Own 0 5 .u8 w v bs) :
  Calls Try.prog 106 #[.agg #[.int .i64 txn, .int .i64 prev, .int .i64 page, .int .i64 slot, .bool au, .slice aa ab.length ac, .int .i64 un], v] w fun e w' => ∃ aa nn cc, e = .returned (.slice aa nn cc) ∧ Own 0 5 .u8 w' (.slice aa nn cc) (bs ++ (((numB page 2 ++ numB slot 2) ++ partB au ab) ++ numB un 8)) ∧ Grew w v w' (.slice aa nn cc) := by
 have HRa := (show Hid (∀ wx, Kept (fun b => v.ownBlock = some b) w wx → Rd .u8 wx (.slice aa ab.length ac) ab) from hra)
 clear hra
 have b0 := (Blk.newL w [.int .i64 txn, .int .i64 prev, .int .i64 page, .int .i64 slot, .bool au, .slice aa ab.length ac, .int .i64 un] 79)
 have HG0 := (show Hid (Grew w v ((w.alloc (.cells #[.int .i64 txn, .int .i64 prev, .int .i64 page, .int .i64 slot, .bool au, .slice aa ab.length ac, .int .i64 un] 79))) v) from Grew.of_same ((Kept.refl _ _).alloc _))
 have HO0 := (show Hid (Own 0 5 .u8 ((w.alloc (.cells #[.int .i64 txn, .int .i64 prev, .int .i64 page, .int .i64 slot, .bool au, .slice aa ab.length ac, .int .i64 un] 79))) (v) (bs)) from ho.same ((Kept.refl _ _).alloc _))
 have HNb0 := (show Hid (¬ v.ownBlock = some w.heap.size) from fun e => by have := (ho.lt _ e).2; omega)
 have hl0 : bs.length ≤ 1000000 := hl
 clear ho hl
 go_enter Try.func106, Try.ntmps106
 go_wp2_with fail
 refine (appendTo_own _ (bs) page slot _ hpg hsl (by omega) HO0.out).mono ?_
 rintro e wk1 ⟨ak1, nk1, ck1, rfl, hown, hg⟩
 have HOk1 := (show Hid (Own 0 5 .u8 wk1 (.slice ak1 nk1 ck1) ((bs) ++ (numB page 2 ++ numB slot 2))) from hown)
 have HGk1 := hid (HG0.out.trans hg)
 have bk1 := b0.kept hg.kept HNb0.out
 have HNbk1 := (show Hid (¬ (Value.slice ak1 nk1 ck1).ownBlock = some (w.heap.size)) from fun e => (hg.own _ e).elim HNb0.out (fun h => by have h := Nat.lt_of_lt_of_le b0.lt h; omega))
 have hlk1 : ((bs) ++ (numB page 2 ++ numB slot 2)).length ≤ 1000016 := by rw [List.length_append]; have := numB_length page 2; have := numB_length slot 2; rw [List.length_append]; omega
 clear hown hg
 have dbk1_4 := bk1.c4
 have dbk1_5 := bk1.c5
 go_wp2_with fail
 refine (appendSlot_own _ ((bs) ++ (numB page 2 ++ numB slot 2)) au (.slice aa ab.length ac) (ab) _ (by omega) (by omega) (fun wx hkx => HRa.out wx (HGk1.out.kept.next hkx (fun i hi e => (HGk1.out.own i e).resolve_right (by omega)))) HOk1.out).mono ?_
 rintro e wk2 ⟨ak2, nk2, ck2, rfl, hown, hg⟩
 have HOk2 := (show Hid (Own 0 5 .u8 wk2 (.slice ak2 nk2 ck2) (((bs) ++ (numB page 2 ++ numB slot 2)) ++ partB au (ab))) from hown)
 have HGk2 := hid (HGk1.out.trans hg)
 have bk2 := bk1.kept hg.kept HNbk1.out
 have HNbk2 := (show Hid (¬ (Value.slice ak2 nk2 ck2).ownBlock = some (w.heap.size)) from fun e => (hg.own _ e).elim HNbk1.out (fun h => by have h := Nat.lt_of_lt_of_le bk1.lt h; omega))
 have hlk2 : (((bs) ++ (numB page 2 ++ numB slot 2)) ++ partB au (ab)).length ≤ 1001116 := by rw [List.length_append]; have := partB_length au (ab); omega
 clear hown hg
 have dbk2_6 := bk2.c6
 go_wp2_with fail
 refine (appendNumber_own _ (((bs) ++ (numB page 2 ++ numB slot 2)) ++ partB au (ab)) (un) 8 _ hun (by unfold IsI; omega) (by omega) HOk2.out).mono ?_
 rintro e wk3 ⟨ak3, nk3, ck3, rfl, hown, hg⟩
 have HOk3 := (show Hid (Own 0 5 .u8 wk3 (.slice ak3 nk3 ck3) ((((bs) ++ (numB page 2 ++ numB slot 2)) ++ partB au (ab)) ++ numB (un) 8)) from hown)
 have HGk3 := hid (HGk2.out.trans hg)
 have bk3 := bk2.kept hg.kept HNbk2.out
 have HNbk3 := (show Hid (¬ (Value.slice ak3 nk3 ck3).ownBlock = some (w.heap.size)) from fun e => (hg.own _ e).elim HNbk2.out (fun h => by have h := Nat.lt_of_lt_of_le bk2.lt h; omega))
 have hlk3 : ((((bs) ++ (numB page 2 ++ numB slot 2)) ++ partB au (ab)) ++ numB (un) 8).length ≤ 1001124 := by rw [List.length_append]; have := numB_length (un) 8; omega
 clear hown hg
 go_wp2
 go_ret
 exact ⟨_, _, _, rfl, by simpa using HOk3.out, HGk3.out⟩
theorem imgRest_own (v : Value) (bs : List Int) (txn prev page : Int) (ia : Option Addr) (ic : Nat) (ib : List Int) (w : World) (hpg : IsI page) (hil : ib.length ≤ 4096) (hri : ∀ wx, Kept (fun b => v.ownBlock = some b) w wx → Rd .u8 wx (.slice ia ib.length ic) ib) (hl : bs.length ≤ 1000000) (ho : Own 0 5 .u8 w v bs) :
  Calls Try.prog 119 #[.agg #[.int .i64 txn, .int .i64 prev, .int .i64 page, .slice ia ib.length ic], v] w fun e w' => ∃ aa nn cc, e = .returned (.slice aa nn cc) ∧ Own 0 5 .u8 w' (.slice aa nn cc) (bs ++ (numB page 2 ++ ib)) ∧ Grew w v w' (.slice aa nn cc) := by
 have HRi := (show Hid (∀ wx, Kept (fun b => v.ownBlock = some b) w wx → Rd .u8 wx (.slice ia ib.length ic) ib) from hri)
 clear hri
 have b0 := (Blk.newL w [.int .i64 txn, .int .i64 prev, .int .i64 page, .slice ia ib.length ic] 101).drew
 have HG0 := (show Hid (Grew w v ((w.alloc (.cells #[.int .i64 txn, .int .i64 prev, .int .i64 page, .slice ia ib.length ic] 101)).drew) v) from Grew.of_same ((Kept.refl _ _).alloc _).drew)
 have HO0 := (show Hid (Own 0 5 .u8 ((w.alloc (.cells #[.int .i64 txn, .int .i64 prev, .int .i64 page, .slice ia ib.length ic] 101)).drew) (v) (bs)) from ho.same ((Kept.refl _ _).alloc _).drew)
 have HNb0 := (show Hid (¬ v.ownBlock = some w.heap.size) from fun e => by have := (ho.lt _ e).2; omega)
 have hl0 : bs.length ≤ 1000000 := hl
 clear ho hl
 go_enter Try.func119, Try.ntmps119
 go_wp2_with fail
 have hS : ((fun wx : World => wx.cell? ⟨w.heap.size, 2, none⟩ = some (.int .i64 page) ∧ wx.cell? ⟨w.heap.size, 3, none⟩ = some (.slice ia ib.length ic))) ((w.alloc (.cells #[.int .i64 txn, .int .i64 prev, .int .i64 page, .slice ia ib.length ic] 101)).drew) := by exact ⟨b0.cell 2, b0.cell 3⟩
 refine wp_region_V ((fun wx : World => wx.cell? ⟨w.heap.size, 2, none⟩ = some (.int .i64 page) ∧ wx.cell? ⟨w.heap.size, 3, none⟩ = some (.slice ia ib.length ic))) 99 8 rfl (by kernel_rfl) ?_
 refine tk 0 5 hS ?_
 refine tk 1 6 hS ?_
 refine tk 2 7 hS ?_
 refine tk 4 9 hS ?_
 refine tk 5 10 hS ?_
 refine wpAnyV_one (i := 3) (by kernel_rfl) rfl (fun K hK => ?_)
 go_simp
 refine (appendNumber_own _ (bs) (page) 2 _ hpg (by unfold IsI; omega) (by omega) HO0.out).mono ?_
 rintro e wk1 ⟨ak1, nk1, ck1, rfl, hown, hg⟩
 have HOk1 := (show Hid (Own 0 5 .u8 wk1 (.slice ak1 nk1 ck1) ((bs) ++ numB (page) 2)) from hown)
 have HGk1 := hid (HG0.out.trans hg)
 have bk1 := b0.kept hg.kept HNb0.out
 have HNbk1 := (show Hid (¬ (Value.slice ak1 nk1 ck1).ownBlock = some (w.heap.size)) from fun e => (hg.own _ e).elim HNb0.out (fun h => by have h := Nat.lt_of_lt_of_le b0.lt h; omega))
 have hlk1 : ((bs) ++ numB (page) 2).length ≤ 1000008 := by rw [List.length_append]; have := numB_length (page) 2; omega
 clear hown hg
 have hS : ((fun wx : World => wx.cell? ⟨w.heap.size, 2, none⟩ = some (.int .i64 page) ∧ wx.cell? ⟨w.heap.size, 3, none⟩ = some (.slice ia ib.length ic))) wk1 := by exact ⟨bk1.cell 2, bk1.cell 3⟩
 refine hK.out _ _ (fun _ => hS) ?_
 clear hK K
 try simp only [Act.put, sA, s0, sS]
 refine wpAnyV_one (i := 6) (by kernel_rfl) rfl (fun K hK => ?_)
 refine step_app (by rfl) (.tmp 8) (.tmp 10) (by rfl) (.slice ak1 nk1 ck1) (.slice ia ib.length ic) ((bs) ++ numB (page) 2) ib (by rfl) (by rfl) HOk1.out (HRi.out _ HGk1.out.kept) (by omega) ?_
 intro ak2 nk2 ck2 wk2 hown hg
 have HOk2 := (show Hid (Own 0 5 .u8 wk2 (.slice ak2 nk2 ck2) (((bs) ++ numB (page) 2) ++ ib)) from hown)
 have HGk2 := hid (HGk1.out.trans hg)
 have bk2 := bk1.kept hg.kept HNbk1.out
 have HNbk2 := (show Hid (¬ (Value.slice ak2 nk2 ck2).ownBlock = some (w.heap.size)) from fun e => (hg.own _ e).elim HNbk1.out (fun h => by have h := Nat.lt_of_lt_of_le bk1.lt h; omega))
 have hlk2 : (((bs) ++ numB (page) 2) ++ ib).length ≤ 1005008 := by rw [List.length_append]; skip; omega
 clear hown hg
 have hS : ((fun wx : World => wx.cell? ⟨w.heap.size, 2, none⟩ = some (.int .i64 page) ∧ wx.cell? ⟨w.heap.size, 3, none⟩ = some (.slice ia ib.length ic))) wk2 := by exact ⟨bk2.cell 2, bk2.cell 3⟩
 refine hK.out _ _ (fun _ => hS) ?_
 clear hK K
 try simp only [Act.put, sA, s0, sS]
 refine tk 7 4 hS ?_
 refine wpAnyV_done (by kernel_rfl) ?_
 go_wp2
 go_ret
 exact ⟨_, _, _, rfl, by simpa using HOk2.out, HGk2.out⟩
end Go.Proofs.Ytdgmecmkkddpeaa
