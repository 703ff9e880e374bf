import Derived.Test.YtghbggahbbhgeaaG00
import Derived.Laws.BytesArg
import Derived.Deep.CutBlock
import Derived.Deep.DeepCutAuto
namespace Go.Proofs.Ytghbggahbbhgeaa
set_option maxRecDepth 100000
set_option maxHeartbeats 4000000
set_option linter.unusedVariables false
set_option linter.unusedSimpArgs false
open Go.RowKit
def hexD (x : Int) : Int := if x < 10 then 48 + x else 87 + x
def hexB : List Int → List Int
 | [] => []
 | b :: r => hexD (b / 16) :: hexD (b % 16) :: hexB r
theorem hexB_app (xs ys : List Int) : hexB (xs ++ ys) = hexB xs ++ hexB ys := by
 induction xs with
 | nil => rfl
 | cons x xs ih => simp [hexB, ih]
theorem hexB_length (xs : List Int) : (hexB xs).length = 2 * xs.length := by
 induction xs with
 | nil => rfl
 | cons x xs ih => simp [hexB, ih]; omega
theorem hexB_take {bs : List Int} {k : Nat} (h : k < bs.length) : hexB (bs.take (k + 1)) = hexB (bs.take k) ++ [hexD (bs[k] / 16), hexD (bs[k] % 16)] := by
 rw [List.take_succ_eq_append_getElem h, hexB_app]
 rfl
def encH (bs : List Int) : List Int := if bs.length = 0 then [45] else hexB bs
theorem rd_two (w : World) (x y : Int) : Rd .u8 (w.alloc (.cells #[.int .u8 x, .int .u8 y] 5)) (.slice (some ⟨w.heap.size, 0, none⟩) 2 2) [x, y] := by
 have h : Blk (w.alloc (.cells #[.int .u8 x, .int .u8 y] 5)) w.heap.size 5 (vals .u8 [x, y]) := Blk.new w #[.int .u8 x, .int .u8 y] 5
 exact (h.own (by unfold maxLen; simp)).rd
theorem own_empty (w : World) (e : TypeId) : Own 0 e .u8 (w.alloc (Obj.cells #[] e)) (.slice (some ⟨w.heap.size, 0, none⟩) 0 0) [] :=
 ⟨by simp [vals], .inr ⟨w.heap.size, 0, #[], rfl, Nat.zero_le _, by unfold World.alloc; exact Array.getElem?_push_size, Nat.le_refl _, Nat.zero_le _, by simp [vals]⟩⟩
theorem conv_own {w : World} {v : Value} {bs : List Int} {a : Option Addr} {n c : Nat} (ho : Own 0 5 .u8 w (.slice a n c) bs) (h0 : 0 < bs.length) : (convert 22 9 (.slice a n c)).run Try.prog w = .ok (.string (strOfNums bs)) w := by
 have hr := ho.rd
 rcases hr.2 with ⟨h, _⟩ | ⟨b, off, c', e1, _, hx⟩
 ·rw [h] at h0; simp at h0
 ·injection e1 with e1 e2 e3
  subst e1 e2 e3
  exact run_convert_bytes_arg w 22 5 Try.underlying22 Try.underlying5 b off _ _ bs rfl hx 9 Try.underlying9
theorem idx_hex (q : Int) (h0 : 0 ≤ q) (h1 : q < 16) (a : Act) (x : Operand) (hx : a.eval x = .int .u8 q) (o : Oper) (ho : o.op = .index 9 (.const (.string ⟨#[48, 49, 50, 51, 52, 53, 54, 55, 56, 57, 97, 98, 99, 100, 101, 102]⟩)) x) (w : World) : (execOp a.eval o).run Try.prog w = .ok (.value (.int .u8 (hexD q))) w := by
 have h : q = 0 ∨ q = 1 ∨ q = 2 ∨ q = 3 ∨ q = 4 ∨ q = 5 ∨ q = 6 ∨ q = 7 ∨ q = 8 ∨ q = 9 ∨ q = 10 ∨ q = 11 ∨ q = 12 ∨ q = 13 ∨ q = 14 ∨ q = 15 := by omega
 unfold execOp
 rw [ho]
 dsimp only
 rw [hx]
 rcases h with rfl | rfl | rfl | rfl | rfl | rfl | rfl | rfl | rfl | rfl | rfl | rfl | rfl | rfl | rfl | rfl
 all_goals rfl
theorem and15 {x : Int} (h : 0 ≤ x ∧ x ≤ 255) : bits BinOp.and IntKind.u8 x 15 = x % 16 := by
 obtain ⟨n, rfl⟩ : ∃ n : Nat, x = n := ⟨x.toNat, by omega⟩
 have h2 : ∀ n : Fin 256, bits BinOp.and IntKind.u8 ((n.val : Nat) : Int) 15 = ((n.val : Nat) : Int) % 16 := by decide
 exact h2 ⟨n, by omega⟩
theorem specHex_any (v : Value) (bs : List Int) (w : World) (hB : IsB bs) (hn : bs.length ≤ 1048576) (hv : Rd .u8 w v bs) :
  Calls Try.prog 5 #[v] w fun e w' => e = .returned (.string (strOfNums (encH bs))) ∧ Same w w' := by
 obtain ⟨av, cv, rfl⟩ := hv.form
 by_cases h0 : bs.length = 0
 ·have h0' : ((bs.length : Int) == 0) = true := by simp [h0]
  go_enter Try.func5, Try.ntmps5
  go_wp2
  go_ret
  exact ⟨by rw [encH, if_pos h0]; rfl, Kept.refl _ _⟩
 have h0' : ((bs.length : Int) == 0) = false := beq_eq_false_iff_ne.2 (by omega)
 obtain ⟨b, off, rfl, hx⟩ : ∃ b off, av = some ⟨b, off, none⟩ ∧ ∀ i, i < bs.length → w.cell? ⟨b, off + i, none⟩ = some (.int .u8 (bs.getD i 0)) := by
  rcases hv.2 with ⟨h, _⟩ | ⟨b, off, c', e1, _, hx⟩
  ·rw [h] at h0; simp at h0
  ·injection e1 with e1 e2 e3
   exact ⟨b, off, e1, hx⟩
 have HX := hid hx
 have hbl : b < w.heap.size := World.block_lt_of_cell? w _ (hx 0 (by omega))
 clear hx hv
 go_enter Try.func5, Try.ntmps5
 go_wp2
 go_loopw [3, 4] (fun o i wr => ∃ (k : Nat) (a : Option Addr) (n c : Nat), k ≤ bs.length ∧ o = .slice a n c ∧ i = .int .i64 (k : Int) ∧ Hid (Own 0 5 .u8 wr (.slice a n c) (hexB (bs.take k))) ∧ Hid (∀ b, (Value.slice a n c).ownBlock = some b → w.heap.size ≤ b) ∧ Hid (Same w wr)) (fun _ i _ => bs.length - (intOf i).toNat)
 case atStart => exact ⟨0, _, _, _, Nat.zero_le _, rfl, rfl, own_empty w _, fun b hb => by simp [Value.ownBlock] at hb; omega, (Kept.refl _ _).alloc _⟩
 case round =>
  obtain ⟨k, a, n, c, hk, rfl, rfl, HO, HF, HK⟩ := hrel
  by_cases hlt : k < bs.length
  ·have hki : (k : Int) < (bs.length : Int) := by omega
   obtain ⟨x, hx⟩ : ∃ x, bs[k] = x := ⟨_, rfl⟩
   have hc : w.cell? ⟨b, off + k, none⟩ = some (.int .u8 x) := by rw [HX.out k hlt, List.getD_eq_getElem?_getD, List.getElem?_eq_getElem hlt, hx]; rfl
   have hxb : 0 ≤ x ∧ x ≤ 255 := by rw [← hx]; exact hB _ (List.getElem_mem hlt)
   have HXK := hid hx
   have HC := (show Hid (∀ wx, Same w wx → wx.cell? ⟨b, off + k, none⟩ = some (.int .u8 x)) from fun wx h => h.cellOf hc id)
   clear hc hx
   go_upto_region 7 with fail
   refine wp_region_V (fun wx : World => wx.cell? ⟨b, off + k, none⟩ = some (.int .u8 x)) 99 16 rfl (by kernel_rfl) ?_
   have hS : (fun wx : World => wx.cell? ⟨b, off + k, none⟩ = some (.int .u8 x)) wr.drew := HC.out _ HK.out.drew
   have hq : 0 ≤ x / 16 ∧ x / 16 < 16 := by omega
   have hr : 0 ≤ x % 16 ∧ x % 16 < 16 := by omega
   have t1 : IntKind.u8.wrap (x.tdiv 16) = x / 16 := by rw [Int.tdiv_eq_ediv_of_nonneg hxb.1]; rw [IntKind.wrap_u8]; omega
   have t2 : x.tmod 16 = x % 16 := Int.tmod_eq_emod_of_nonneg hxb.1
   have HO1 := hid (HO.out.same (Kept.refl (fun _ => False) _).drew)
   have HK1 := hid (HK.out.drew)
   generalize wr.drew = u at hS HO1 HK1 ⊢
   refine tk 0 15 hS ?_
   refine tk 1 16 hS ?_
   refine tk 2 17 hS ?_
   refine tk 3 18 hS ?_
   refine tk 4 19 hS ?_
   refine tkV 5 20 (.int .u8 (x / 16)) hS ?_
   refine tkV 6 21 (.int .u8 (hexD (x / 16))) hS ?_ (hy := fun w _ => idx_hex _ hq.1 hq.2 _ _ rfl _ rfl w)
   refine tk 7 22 hS ?_
   refine tk 8 23 hS ?_
   refine tk 9 24 hS ?_
   refine tk 10 25 hS ?_
   refine tkV 11 26 (.int .u8 (x % 16)) hS ?_
   refine tkV 12 27 (.int .u8 (hexD (x % 16))) hS ?_ (hy := fun w _ => idx_hex _ hr.1 hr.2 _ _ rfl _ rfl w)
   refine wpAnyV_one (i := 13) (by kernel_rfl) rfl (fun K hK => ?_)
   go_simp
   have hk2 : Same u (u.alloc (.cells #[.int .u8 (hexD (x / 16)), .int .u8 (hexD (x % 16))] 5)) := (Kept.refl _ _).alloc _
   have HO2 := hid (HO1.out.same hk2)
   have HX2 := hid (rd_two u (hexD (x / 16)) (hexD (x % 16)))
   have HK2 := hid (HK1.out.trans hk2)
   have hS2 := HC.out _ HK2.out
   have ex := HXK.out
   refine hK.out _ _ (fun _ => hS2) ?_
   clear hK K hk2 hS
   generalize u.alloc (.cells #[.int .u8 (hexD (x / 16)), .int .u8 (hexD (x % 16))] 5) = u2 at *
   generalize u.heap.size = U at *
   refine wpAnyV_one (i := 14) (by kernel_rfl) rfl (fun K hK => ?_)
   refine step_app (by rfl) (.tmp 15) (.tmp 28) (by rfl) (.slice a n c) (.slice (some ⟨U, 0, none⟩) 2 2) (hexB (bs.take k)) [hexD (x / 16), hexD (x % 16)] (by rfl) (by rfl) HO2.out HX2.out (by rw [hexB_length, List.length_take]; simp; omega) ?_
   intro a3 n3 c3 w3 hown hgr
   have HO3 := (show Hid (Own 0 5 .u8 w3 (.slice a3 n3 c3) (hexB (bs.take (k + 1)))) from by unfold Hid; rw [hexB_take hlt, ex]; exact hown)
   have HF3 := (show Hid (∀ b, (Value.slice a3 n3 c3).ownBlock = some b → w.heap.size ≤ b) from hgr.fresh HK2.out HF.out)
   have HK3 := hid (hgr.same HK2.out HF.out)
   have hS3 := HC.out _ HK3.out
   clear hown hgr
   refine hK.out _ _ (fun _ => hS3) ?_
   clear hK K hS2
   try simp only [Act.put, sA, s0, sS]
   refine tk 15 3 hS3 ?_
   refine wpAnyV_done (by kernel_rfl) ?_
   go_wp2_with fail
   go_roundw
   case rel => exact ⟨k + 1, a3, n3, c3, by omega, rfl, by go_num, HO3, HF3, HK3⟩
   case measure => simp [intOf]; omega
  ·have hge : ¬ (k : Int) < (bs.length : Int) := by omega
   obtain rfl : k = bs.length := by omega
   have hcv := conv_own (v := .slice a n c) HO.out (by rw [hexB_length, List.length_take]; omega)
   rw [List.take_length] at hcv
   have HE := (show Hid (encH bs = hexB bs) from if_neg h0)
   clear HO HF
   go_wp2
   go_ret
   exact ⟨by rw [HE.out]; rfl, HK.out⟩
theorem implHex_any (v : Value) (bs : List Int) (w : World) (hB : IsB bs) (hn : bs.length ≤ 1048576) (hv : Rd .u8 w v bs) :
  Calls Try.prog 7 #[v] w fun e w' => e = .returned (.string (strOfNums (encH bs))) ∧ Same w w' := by
 obtain ⟨av, cv, rfl⟩ := hv.form
 by_cases h0 : bs.length = 0
 ·have h0' : ((bs.length : Int) == 0) = true := by simp [h0]
  go_enter Try.func7, Try.ntmps7
  go_wp2
  go_ret
  exact ⟨by rw [encH, if_pos h0]; rfl, Kept.refl _ _⟩
 have h0' : ((bs.length : Int) == 0) = false := beq_eq_false_iff_ne.2 (by omega)
 obtain ⟨b, off, rfl, hx⟩ : ∃ b off, av = some ⟨b, off, none⟩ ∧ ∀ i, i < bs.length → w.cell? ⟨b, off + i, none⟩ = some (.int .u8 (bs.getD i 0)) := by
  rcases hv.2 with ⟨h, _⟩ | ⟨b, off, c', e1, _, hx⟩
  ·rw [h] at h0; simp at h0
  ·injection e1 with e1 e2 e3
   exact ⟨b, off, e1, hx⟩
 have HX := hid hx
 have hbl : b < w.heap.size := World.block_lt_of_cell? w _ (hx 0 (by omega))
 clear hx hv
 obtain ⟨i0, hi0, hz0, hz1, hz2⟩ := info_parts Try.infoByte'
 have q1 : IntKind.i64.wrap (2 * (bs.length : Int)) = ((2 * bs.length : Nat) : Int) := by rw [IntKind.wrap_i64]; omega
 go_enter Try.func7, Try.ntmps7
 go_wp2_with (at_make; refine wpList_make_own _ rfl (.const (.int .i64 0)) (.tmp 11) 22 rfl 0 5 i0 (.int .u8 0) 1 Try.underlying22 hi0 hz0 hz1 .i64 .i64 _ (2 * bs.length) rfl rfl (by rfl) (by rw [hz2]; omega) (by unfold maxLen; omega) (Nat.zero_le _) ?_; intro w1 hown1 hgrow1; have HO1 := (show Hid (Own 0 5 .u8 w1 (.slice (some ⟨w.heap.size, 0, none⟩) 0 (2 * bs.length)) []) from hown1); have HK1 := (show Hid (Same w w1) from Kept.of_grown hgrow1 (fun k e => by cases e)); clear hown1 hgrow1)
 go_loopw [3, 5, 15] (fun o y i wr => ∃ (k : Nat) (a : Option Addr) (n c : Nat), k ≤ bs.length ∧ o = .slice a n c ∧ i = .int .i64 (k : Int) ∧ Hid (Own 0 5 .u8 wr (.slice a n c) (hexB (bs.take k))) ∧ Hid (∀ b, (Value.slice a n c).ownBlock = some b → w.heap.size ≤ b) ∧ Hid (Same w wr)) (fun _ _ i _ => bs.length - (intOf i).toNat)
 case atStart => exact ⟨0, _, _, _, Nat.zero_le _, rfl, rfl, HO1, fun b hb => by simp [Value.ownBlock] at hb; omega, HK1⟩
 case round =>
  obtain ⟨k, a, n, c, hk, rfl, rfl, HO, HF, HK⟩ := hrel
  by_cases hlt : k < bs.length
  ·have hki : (k : Int) < (bs.length : Int) := by omega
   obtain ⟨x, hx⟩ : ∃ x, bs[k] = x := ⟨_, rfl⟩
   have hc : w.cell? ⟨b, off + k, none⟩ = some (.int .u8 x) := by rw [HX.out k hlt, List.getD_eq_getElem?_getD, List.getElem?_eq_getElem hlt, hx]; rfl
   have hxb : 0 ≤ x ∧ x ≤ 255 := by rw [← hx]; exact hB _ (List.getElem_mem hlt)
   have HXK := hid hx
   have HC := (show Hid (∀ wx, Same w wx → True) from fun _ _ => trivial)
   have c1 : wr.cell? ⟨b, off + k, none⟩ = some (.int .u8 x) := HK.out.cellOf hc id
   clear hc hx
   go_upto_region 7 with fail
   refine wp_region_V (fun wx : World => True) 99 10 rfl (by kernel_rfl) ?_
   have hS : (fun wx : World => True) wr.drew := trivial
   have hq : 0 ≤ x / 16 ∧ x / 16 < 16 := by omega
   have hr : 0 ≤ x % 16 ∧ x % 16 < 16 := by omega
   have HO1 := hid (HO.out.same (Kept.refl (fun _ => False) _).drew)
   have HK1 := hid (HK.out.drew)
   generalize wr.drew = u at hS HO1 HK1 ⊢
   clear c1
   have t3 := and15 hxb
   refine tk 0 19 hS ?_
   refine tk 1 20 hS ?_
   refine tkV 2 21 (.int .u8 (x / 16)) hS ?_
   refine tkV 3 22 (.int .u8 (hexD (x / 16))) hS ?_ (hy := fun w _ => idx_hex _ hq.1 hq.2 _ _ rfl _ rfl w)
   refine tk 4 23 hS ?_
   refine tkV 5 24 (.int .u8 (x % 16)) hS ?_
   refine tkV 6 25 (.int .u8 (hexD (x % 16))) hS ?_ (hy := fun w _ => idx_hex _ hr.1 hr.2 _ _ rfl _ rfl w)
   refine wpAnyV_one (i := 7) (by kernel_rfl) rfl (fun K hK => ?_)
   go_simp
   have hk2 : Same u (u.alloc (.cells #[.int .u8 (hexD (x / 16)), .int .u8 (hexD (x % 16))] 5)) := (Kept.refl _ _).alloc _
   have HO2 := hid (HO1.out.same hk2)
   have HX2 := hid (rd_two u (hexD (x / 16)) (hexD (x % 16)))
   have HK2 := hid (HK1.out.trans hk2)
   have hS2 := HC.out u HK1.out
   have ex := HXK.out
   refine hK.out _ _ (fun _ => hS2) ?_
   clear hK K hk2 hS
   generalize u.alloc (.cells #[.int .u8 (hexD (x / 16)), .int .u8 (hexD (x % 16))] 5) = u2 at *
   generalize u.heap.size = U at *
   refine wpAnyV_one (i := 8) (by kernel_rfl) rfl (fun K hK => ?_)
   refine step_app (by rfl) (.tmp 19) (.tmp 26) (by rfl) (.slice a n c) (.slice (some ⟨U, 0, none⟩) 2 2) (hexB (bs.take k)) [hexD (x / 16), hexD (x % 16)] (by rfl) (by rfl) HO2.out HX2.out (by rw [hexB_length, List.length_take]; simp; omega) ?_
   intro a3 n3 c3 w3 hown hgr
   have HO3 := (show Hid (Own 0 5 .u8 w3 (.slice a3 n3 c3) (hexB (bs.take (k + 1)))) from by unfold Hid; rw [hexB_take hlt, ex]; exact hown)
   have HF3 := (show Hid (∀ b, (Value.slice a3 n3 c3).ownBlock = some b → w.heap.size ≤ b) from hgr.fresh HK2.out HF.out)
   have HK3 := hid (hgr.same HK2.out HF.out)
   have hS3 := HC.out u HK1.out
   clear hown hgr
   refine hK.out _ _ (fun _ => hS3) ?_
   clear hK K hS2
   try simp only [Act.put, sA, s0, sS]
   refine tk 9 3 hS3 ?_
   refine wpAnyV_done (by kernel_rfl) ?_
   go_wp2_with fail
   go_roundw
   case rel => exact ⟨k + 1, a3, n3, c3, by omega, rfl, by go_num, HO3, HF3, HK3⟩
   case measure => simp [intOf]; omega
  ·have hge : ¬ (k : Int) < (bs.length : Int) := by omega
   obtain rfl : k = bs.length := by omega
   have hcv := conv_own (v := .slice a n c) HO.out (by rw [hexB_length, List.length_take]; omega)
   rw [List.take_length] at hcv
   have HE := (show Hid (encH bs = hexB bs) from if_neg h0)
   clear HO HF
   go_wp2
   go_ret
   exact ⟨by rw [HE.out]; rfl, HK.out⟩
end Go.Proofs.Ytghbggahbbhgeaa
