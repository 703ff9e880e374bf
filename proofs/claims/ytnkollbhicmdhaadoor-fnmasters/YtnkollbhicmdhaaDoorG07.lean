import Derived.Test.YtnkollbhicmdhaaDoorG06
import Derived.Test.YtnkollbhicmdhaaDoorG01
import Derived.Test.YtnkollbhicmdhaaDoorG00
import Derived.Deep.AppendLies
import Derived.Laws.CopyOwn
import Derived.Deep.MidRow
import Derived.Great.BuildSlice
namespace Go.Proofs.YtnkollbhicmdhaaDoor
set_option maxRecDepth 100000
set_option maxHeartbeats 4000000
set_option linter.unusedSimpArgs false
open Go.RowKit
theorem cloneDisk_any (dv pv : Value) (dur : List Int) (ps : List PW) (w : World) (hd : dur.length ≤ 1099511627776) (hn : ps.length ≤ 1073741824) (hs : ∀ p ∈ ps, p.bs.length ≤ 1099511627776) (hv : RdD w dv pv dur ps) :
  Calls Tryd.prog 45 #[.agg #[dv, pv]] w fun e w' => ∃ a n c a' n' c' qs, e = .returned (.agg #[.slice a n c, .slice a' n' c']) ∧ dataP qs = dataP ps ∧
   (∀ b, footD (.slice a n c) (.slice a' n' c') qs b → w.heap.size ≤ b) ∧ OwnD 0 70 5 w' (.slice a n c) (.slice a' n' c') dur qs ∧ Same w w' := by
 obtain ⟨a1, c1, rfl⟩ := hv.dur.form
 obtain ⟨a2, c2, e2⟩ := hv.pend.form
 obtain ⟨i0, hi, hz0, hz1, hz2⟩ := info_parts Tryd.infoSW
 have HP : Hid (RdP w pv ps) := hv.pend
 have HR : Hid (Rd .u8 w (.slice a1 dur.length c1) dur) := hv.dur
 have HS : Hid (∀ p ∈ ps, p.bs.length ≤ 1099511627776) := hs
 subst e2
 clear hv hs
 go_enter Tryd.func45, Tryd.ntmps45
 go_wp2_with fail
 refine (clone_any _ dur _ hd (HR.out.same (((Kept.refl _ _).alloc _).alloc _))).mono ?_
 rintro e w1 ⟨a, n, c, rfl, ho, hf, hk⟩
 simp only [World.size_alloc] at hf
 have b0 := ((FBox.new w (.slice a1 dur.length c1) (.slice a2 ps.length c2) 25).next _).same hk
 have b1 := (FBox.new (w.alloc (.cells #[.slice a1 dur.length c1, .slice a2 ps.length c2] 25)) (.slice none 0 0) (.slice none 0 0) 25).same hk
 simp only [World.size_alloc] at b1
 have HB0 : Hid (FBox w1 w.heap.size (.slice a1 dur.length c1) (.slice a2 ps.length c2)) := b0
 have HB1 : Hid (FBox w1 (w.heap.size + 1) (.slice none 0 0) (.slice none 0 0)) := b1
 have HO := (show Hid (Own 0 5 .u8 w1 (.slice a n c) dur) from ho)
 have HF : Hid (∀ b, (Value.slice a n c).ownBlock = some b → w.heap.size + 1 < b ∧ b < w1.heap.size) := fun b hb => ⟨by have := hf b hb; omega, (ho.lt b hb).2⟩
 have HK : Hid (Same w w1) := (((Kept.refl _ _).alloc _).alloc _).trans hk
 have hz1' : w.heap.size + 1 < w1.heap.size := b1.lt
 clear ho hf hk b0 b1
 obtain ⟨i1, i2, _, _⟩ := HB0.out
 have hwl := HB0.out.lt
 go_wp2
 clear i1 i2
 have hw1 : w.heap.size < w1.heap.size := by omega
 go_loopw [13] (fun i wr => ∃ (k : Nat) (aa : Option Addr) (na ca : Nat) (qs : List PW), k ≤ ps.length ∧ i = .int .i64 k ∧ Hid (qs.length = k) ∧ Hid (dataP qs = dataP (ps.take k)) ∧ Hid (FBox wr w1.heap.size (.slice a n c) (.slice aa na ca)) ∧
   Hid (∀ b, footP (.slice aa na ca) qs b → w1.heap.size < b) ∧ Hid (OwnP 0 70 5 wr (.slice aa na ca) qs) ∧ Hid (Same w1 wr)) (fun i _ => ps.length - (intOf i).toNat)
 case atStart => exact ⟨0, none, 0, 0, [], Nat.zero_le _, rfl, rfl, rfl, FBox.new _ _ _ _, fun b hb => absurd hb (footP_nil b), OwnP.nil _ _ _ _, (Kept.refl _ _).alloc _⟩
 case round =>
  obtain ⟨k, aa, na, ca, qs, hk, rfl, HQL, HQ, HX, HFP, HOP, HKr⟩ := hrel
  obtain ⟨o1, o2, _, _⟩ := HB0.out.same HKr.out
  by_cases hlt : k < ps.length
  ·obtain ⟨b, off, rfl, hc⟩ : ∃ b off, a2 = some ⟨b, off, none⟩ ∧ ∀ i (h : i < ps.length), w.cell? ⟨b, off + i * 2, none⟩ = some (.int .i64 ps[i].sec) ∧ w.cell? ⟨b, off + i * 2 + 1, none⟩ = some ps[i].v := by
    rcases HP.out.row with ⟨rfl, _⟩ | ⟨b, off, c, e, hc⟩
    ·simp at hlt
    ·simp only [Value.slice.injEq, true_and] at e
     obtain ⟨rfl, rfl⟩ := e
     exact ⟨b, off, rfl, hc⟩
   obtain ⟨a3, c3, ev⟩ := (HP.out.data _ (List.getElem_mem hlt)).form
   have hrd := (HP.out.data _ (List.getElem_mem hlt)).same (HK.out.trans HKr.out)
   have hm1 := HS.out _ (List.getElem_mem hlt)
   have q1 := (HK.out.trans HKr.out).cellOf (hc k hlt).1 id
   have q2 := (HK.out.trans HKr.out).cellOf (hc k hlt).2 id
   rw [ev] at q2 hrd
   have HRD := (show Hid (Rd .u8 wr (.slice a3 ps[k].bs.length c3) ps[k].bs) from hrd)
   have HM1 : Hid (ps[k].bs.length ≤ 1099511627776) := hm1
   have hbw : b < w.heap.size := World.block_lt_of_cell? w _ (hc k hlt).1
   clear ev hrd hc hm1
   obtain ⟨x1, x2, x3, x4⟩ := HX.out
   have hki : (k : Int) < (ps.length : Int) := by omega
   have hk0 : (0 : Int) ≤ (k : Int) := by omega
   have HKO : Hid (∀ wx, Same wr wx → ∀ o, (wx.alloc o).ownsRow 0 70 2 (.slice aa na ca) k (pwCells qs)) := fun wx hx o => by have h := ((HOP.out.same hx).same ((Kept.refl _ _).alloc o)).row; rwa [HQL.out] at h
   have hrl0 : w1.heap.size < wr.heap.size := HX.out.lt
   have HXa := (show Hid (FBox (wr.alloc (.cells #[.int .i64 ps[k].sec, .slice a3 ps[k].bs.length c3] 70)) w1.heap.size (.slice a n c) (.slice aa na ca)) from HX.out.next _)
   have HKa := (show Hid (Same wr (wr.alloc (.cells #[.int .i64 ps[k].sec, .slice a3 ps[k].bs.length c3] 70))) from (Kept.refl _ _).alloc _)
   have HBa := (show Hid (FBox (wr.alloc (.cells #[.int .i64 ps[k].sec, .slice a3 ps[k].bs.length c3] 70)) wr.heap.size (.int .i64 ps[k].sec) (.slice a3 ps[k].bs.length c3)) from FBox.new _ _ _ _)
   have xx := HXa.out.2.2.2
   go_wp2_with fail
   have hS : (fun w' => w'.cell? ⟨w1.heap.size, 1, none⟩ = some (.slice aa na ca) ∧ w'.cell? ⟨wr.heap.size, 0, none⟩ = some (.int .i64 ps[k].sec) ∧ w'.cell? ⟨wr.heap.size, 1, none⟩ = some (.slice a3 ps[k].bs.length c3) ∧ w'.frozen? ⟨w1.heap.size, 1, none⟩ = false) (wr.alloc (.cells #[.int .i64 ps[k].sec, .slice a3 ps[k].bs.length c3] 70)).drew := by go_keep
   refine wp_region_V (fun w' => w'.cell? ⟨w1.heap.size, 1, none⟩ = some (.slice aa na ca) ∧ w'.cell? ⟨wr.heap.size, 0, none⟩ = some (.int .i64 ps[k].sec) ∧ w'.cell? ⟨wr.heap.size, 1, none⟩ = some (.slice a3 ps[k].bs.length c3) ∧ w'.frozen? ⟨w1.heap.size, 1, none⟩ = false) 11 12 rfl (by kernel_rfl) ?_
   refine tk 0 17 hS ?_
   refine tk 1 18 hS ?_
   refine tk 2 19 hS ?_
   refine tk 3 20 hS ?_
   refine tk 4 21 hS ?_
   refine tk 5 22 hS ?_
   refine wpAnyV_one (i := 6) (by kernel_rfl) rfl (fun K hK => ?_)
   go_simp
   refine (clone_any _ ps[k].bs _ HM1.out (by exact (HRD.out.same HKa.out).same (Kept.refl _ _).drew)).mono ?_
   rintro e w2 ⟨a4, n4, c4, rfl, ho4, hf4, hk4⟩
   have HKb := (show Hid (Same (wr.alloc (.cells #[.int .i64 ps[k].sec, .slice a3 ps[k].bs.length c3] 70)) w2) from (Kept.refl _ _).drew.trans hk4)
   have HK4 : Hid (Same wr w2) := HKa.out.trans HKb.out
   have HO4 := (show Hid (Own 0 5 .u8 w2 (.slice a4 n4 c4) ps[k].bs) from ho4)
   have HF4 : Hid (∀ b, (Value.slice a4 n4 c4).ownBlock = some b → wr.heap.size ≤ b) := fun b hb => (by have h1 := hf4 b hb; simp at h1; omega)
   obtain ⟨_, y1, _, y5⟩ := HX.out.same HK4.out
   obtain ⟨y2, y3, _, _⟩ := HBa.out.same HKb.out
   have y6 : ∀ o, (w2.alloc o).frozen? ⟨w1.heap.size, 1, none⟩ = false := fun o => ((HX.out.same HK4.out).next o).2.2.2
   have z1 := World.block_lt_of_cell? w2 _ y1
   have z2 := World.block_lt_of_cell? w2 _ y2
   clear ho4 hf4 hk4
   go_wp2_with fail
   have hS2 : (fun w' => w'.cell? ⟨w1.heap.size, 1, none⟩ = some (.slice aa na ca) ∧ w'.cell? ⟨wr.heap.size, 0, none⟩ = some (.int .i64 ps[k].sec) ∧ w'.cell? ⟨wr.heap.size, 1, none⟩ = some (.slice a3 ps[k].bs.length c3) ∧ w'.frozen? ⟨w1.heap.size, 1, none⟩ = false) w2 := by go_keep
   refine hK.out _ _ (fun _ => hS2) ?_
   clear hK K
   try simp only [Act.put, sA, s0, sS]
   refine tk 7 24 hS2 ?_
   refine wpAnyV_one (i := 8) (by kernel_rfl) rfl (fun K hK => ?_)
   go_simp
   have hS3 : (fun w' => w'.cell? ⟨w1.heap.size, 1, none⟩ = some (.slice aa na ca) ∧ w'.cell? ⟨wr.heap.size, 0, none⟩ = some (.int .i64 ps[k].sec) ∧ w'.cell? ⟨wr.heap.size, 1, none⟩ = some (.slice a3 ps[k].bs.length c3) ∧ w'.frozen? ⟨w1.heap.size, 1, none⟩ = false) (w2.alloc (.cells #[.int .i64 ps[k].sec, .slice a4 n4 c4] 70)) := by go_keep
   refine hK.out _ _ (fun _ => hS3) ?_
   clear hK K
   try simp only [Act.put, sA, s0, sS]
   refine wpAnyV_one (i := 9) (by kernel_rfl) rfl (fun K hK => ?_)
   refine step_append_lies _ (by rfl) (.tmp 18) (.tmp 25) 23 (by rfl) 0 70 i0 _ 2 32 Tryd.underlying23 hi hz0 hz1 hz2 rfl (by omega) (.slice aa na ca) k (pwCells qs) (by rfl) (by exact HKO.out w2 HK4.out _) ⟨w2.heap.size, 0, none⟩ 1 1 [.int .i64 ps[k].sec, .slice a4 n4 c4] (by rfl) (by rfl) (World.news_of_block (cs := #[.int .i64 ps[k].sec, .slice a4 n4 c4]) (t := 70) (fr := (0, 0)) (heap_alloc_new w2 _)) (by simp [Value.oneCell']) (by omega) (by unfold maxLen; omega) (by omega) (Nat.zero_le _) (w2.heap.size + 1) (by simp) ?_
   intro g5 cap5 w3 hown5 hgrow5 hat5 hlt5
   have hk5 : Kept (fun b => (Value.slice aa na ca).ownBlock = some b) w2 w3 := ((Kept.refl _ _).alloc _).trans (Kept.of_grown hgrow5 (fun k e => e))
   have n1 : ¬ (Value.slice aa na ca).ownBlock = some w1.heap.size := (fun e => absurd (HFP.out _ (.inl e)) (by omega))
   have n2 : ¬ (Value.slice aa na ca).ownBlock = some wr.heap.size := (fun e => absurd (HOP.out.lt _ (.inl e)).2 (by omega))
   have y11 := hk5.cellOf y1 n1
   have y12 := hk5.cellOf y2 n2
   have y13 := hk5.cellOf y3 n2
   have y15 := ((HX.out.same HK4.out).kept hk5 n1).2.2.2
   have HOWN5 := (show Hid (w3.ownsRow 0 70 2 (.slice (some ⟨g5, 0, none⟩) (k + 1) cap5) (k + 1) (pwCells qs ++ [.int .i64 ps[k].sec, .slice a4 n4 c4])) from hown5)
   have HG5 := (show Hid ((w2.alloc (.cells #[.int .i64 ps[k].sec, .slice a4 n4 c4] 70)).grownBy w3 (Value.slice aa na ca).ownBlock) from hgrow5)
   have HAT5 : Hid ((Value.slice aa na ca).ownBlock = some g5 ∨ g5 = w2.heap.size + 1) := hat5
   have HK5 := (show Hid (Kept (fun b => (Value.slice aa na ca).ownBlock = some b) w2 w3) from hk5)
   clear hown5 hgrow5 hat5 hk5 n1 n2 y1 y2 y3 y5 y6
   have hS4 : (fun w' => w'.cell? ⟨w1.heap.size, 1, none⟩ = some (.slice aa na ca) ∧ w'.cell? ⟨wr.heap.size, 0, none⟩ = some (.int .i64 ps[k].sec) ∧ w'.cell? ⟨wr.heap.size, 1, none⟩ = some (.slice a3 ps[k].bs.length c3) ∧ w'.frozen? ⟨w1.heap.size, 1, none⟩ = false) w3 := by go_keep
   refine hK.out _ _ (fun _ => hS4) ?_
   clear hK K
   try simp only [Act.put, sA, s0, sS]
   refine tk 10 27 hS4 ?_
   refine wpAnyV_one (i := 11) (by kernel_rfl) rfl (fun K hK => ?_)
   go_simp
   refine hK.out _ _ (fun h => absurd rfl h) ?_
   clear hK K
   refine wpAnyV_done (by kernel_rfl) ?_
   try simp only [Act.put, sA, s0, sS]
   have el : w2.heap.size + 1 = (w2.alloc (.cells #[.int .i64 ps[k].sec, .slice a4 n4 c4] 70)).heap.size := by simp
   have hrl : w1.heap.size < wr.heap.size := HX.out.lt
   have h2l : wr.heap.size ≤ w2.heap.size := HK4.out.size
   have hsnoc := OwnP.snoc (sec := ps[k].sec) (bs := ps[k].bs) ((HOP.out.same HK4.out).same ((Kept.refl _ _).alloc _)) (HO4.out.same ((Kept.refl _ _).alloc _)) (fun b hb hf => by have h1 := HF4.out b hb; have h2 := (HOP.out.lt b hf).2; omega) HG5.out HOWN5.out HQL.out.symm (by rw [← el]; exact HAT5.out)
   have HN : Hid (∀ b, footP (.slice (some ⟨g5, 0, none⟩) (k + 1) cap5) (qs ++ [⟨ps[k].sec, .slice a4 n4 c4, ps[k].bs⟩]) b → w1.heap.size < b) := fun b hb => by
    rcases footP_snoc (v := .slice aa na ca) b hb with rfl | hb | hb
    ·rcases HAT5.out with h | h
     ·exact HFP.out _ (.inl h)
     ·omega
    ·exact HFP.out b hb
    ·have := HF4.out b hb; omega
   have HO6 := (show Hid (OwnP 0 70 5 (w3.setCell ⟨w1.heap.size, 1, none⟩ (.slice (some ⟨g5, 0, none⟩) (k + 1) cap5)) (.slice (some ⟨g5, 0, none⟩) (k + 1) cap5) (qs ++ [⟨ps[k].sec, .slice a4 n4 c4, ps[k].bs⟩])) from
    hsnoc.kept (Kept.setCell (Kept.refl (fun b => b = w1.heap.size) w3) (p := ⟨w1.heap.size, 1, none⟩) (.inr rfl) _) (fun b hb e => by have := HN.out b hb; omega))
   have hrow : ¬ (Value.slice aa na ca).ownBlock = some w1.heap.size := fun e => by have := HFP.out _ (.inl e); omega
   have HX6 : Hid (FBox (w3.setCell ⟨w1.heap.size, 1, none⟩ (.slice (some ⟨g5, 0, none⟩) (k + 1) cap5)) w1.heap.size (.slice a n c) (.slice (some ⟨g5, 0, none⟩) (k + 1) cap5)) := ((HX.out.same HK4.out).kept HK5.out hrow).set1 _
   have HK6 : Hid (Same w1 (w3.setCell ⟨w1.heap.size, 1, none⟩ (.slice (some ⟨g5, 0, none⟩) (k + 1) cap5))) :=
    Kept.setCell ((HKr.out.trans HK4.out).next HK5.out (fun b hb e => by have := HFP.out _ (.inl e); omega)) (p := ⟨w1.heap.size, 1, none⟩) (.inl (Nat.le_refl _)) _
   clear hsnoc hrow el
   go_wp2
   go_roundw
   case rel =>
    refine ⟨k + 1, some ⟨g5, 0, none⟩, k + 1, cap5, qs ++ [⟨ps[k].sec, .slice a4 n4 c4, ps[k].bs⟩], by omega, by go_num, ?_, ?_, HX6, HN, HO6, HK6⟩
    ·have := HQL.out; simp [Hid, this]
    ·have h1 := HQ.out
     unfold Hid
     rw [List.take_succ_eq_append_getElem hlt]
     simp only [dataP, List.map_append] at h1 ⊢
     rw [h1]; rfl
   case measure => simp [intOf]; omega
  ·obtain ⟨x1, x2, _, _⟩ := HX.out
   obtain ⟨p1, p2, p3, p4⟩ := HB1.out.same HKr.out
   have hrl : w1.heap.size < wr.heap.size := HX.out.lt
   go_wp2
   obtain rfl : k = ps.length := by omega
   have hq := HQ.out
   rw [List.take_length] at hq
   have hfr : ∀ b, footD (.slice a n c) (.slice aa na ca) qs b → w.heap.size + 1 < b := fun b hb => by
    rcases hb with hb | hb
    ·exact (HF.out b hb).1
    ·have := HFP.out b hb; omega
   refine bodyPost_ret (v := .agg #[.slice a n c, .slice aa na ca]) (by simp [results, Tryd.results45, go_sem, p1, p2]) rfl ⟨a, n, c, aa, na, ca, qs, rfl, hq, fun b hb => by have := hfr b hb; omega, ?_, ?_⟩
   ·refine OwnD.kept (R := fun b => b = w.heap.size + 1) ⟨HO.out.same HKr.out, HOP.out, fun b hb e => by have h1 := HFP.out b hb; have h2 := (HF.out b e).2; omega⟩ ?_ (fun b hb e => by have := hfr b hb; omega)
    exact Kept.setTwo (Kept.refl (fun b => b = w.heap.size + 1) _) (.inr rfl) _ _
   ·exact (HK.out.trans HKr.out).setTwo (.inl (by simp)) _ _
def putAt (dur : List Int) (lo : Nat) (bs : List Int) : List Int := dur.take lo ++ (bs ++ dur.drop (lo + bs.length))
theorem putAt_length (dur : List Int) (lo : Nat) (bs : List Int) (h : lo + bs.length ≤ dur.length) : (putAt dur lo bs).length = dur.length := by simp [putAt]; omega
def settleN (sel : Nat → Bool) (dur : List Int) (ds : List (Int × List Int)) : Nat → List Int
 | 0 => dur
 | k + 1 => if sel k then putAt (settleN sel dur ds k) ((ds.getD k (0, [])).1.toNat * 512) (ds.getD k (0, [])).2 else settleN sel dur ds k
theorem settleN_length (sel : Nat → Bool) (dur : List Int) (ds : List (Int × List Int)) (hv : Valid dur.length ds) (k : Nat) (hk : k ≤ ds.length) : (settleN sel dur ds k).length = dur.length := by
 induction k with
 | zero => rfl
 | succ k ih =>
  have ihk := ih (by omega)
  unfold settleN
  split
  ·have hm : ds.getD k (0, []) ∈ ds := by simp [List.getD, show k < ds.length from by omega]
   obtain ⟨h1, h2, h3⟩ := hv.2 _ hm
   have h4 := hv.1
   rw [putAt_length _ _ _ (by rw [ihk, h3]; have := hv.1.1; omega)]
   exact ihk
  ·exact ihk
theorem take_splice {α : Type} (L X : List α) (lo n : Nat) (h : lo + X.length ≤ n) (hn : n ≤ L.length) :
  (L.take lo ++ (X ++ L.drop (lo + X.length))).take n = (L.take n).take lo ++ (X ++ (L.take n).drop (lo + X.length)) := by
 have h1 : (L.take lo).length = lo := by rw [List.length_take]; omega
 rw [List.take_append, List.take_append, h1, List.take_of_length_le (by omega), List.take_of_length_le (l := X) (by omega), List.take_take, Nat.min_eq_left (by omega), List.drop_take]
 congr 3
 omega
section
variable {P : Program} {ops : Array Oper} {o : Oper} {a : Act} {w : World} {K : Act → World → Prop} {Q : Exit → Act → World → Prop} {E : Prop}
theorem step_copy_own {base : Nat} {tb : TypeId} (hgd : o.guard = none) (d s : Operand) (T : TypeId) (ho : o.op = .call { callee := .builtin .copy, args := #[d, s], argTypes := #[T, T] })
  (hu : P.underlying T = some (.slice tb)) (hsz : (P.info? tb).map (·.size) = some 1) (g lo n cap dc b off c : Nat) (dur bs : List Int)
  (hown : Own base tb .u8 w (.slice (some ⟨g, 0, none⟩) n cap) dur) (hnd : n = dur.length) (hd : a.eval d = .slice (some ⟨g, lo, none⟩) (n - lo) dc) (hs : a.eval s = .slice (some ⟨b, off, none⟩) bs.length c)
  (hsrc : ∀ i, i < bs.length → w.cell? ⟨b, off + i, none⟩ = some (.int .u8 (bs.getD i 0))) (hfit : lo + bs.length ≤ dur.length)
  (h : ∀ w', Own base tb .u8 w' (.slice (some ⟨g, 0, none⟩) n cap) (putAt dur lo bs) → w.grownBy w' (some g) → K (a.put o.dst (goInt bs.length)) w') :
  if Region.wanted o (yielded ops a.tmps) = true then Oper.wp P o a w K Q else E := by
 have hw : Region.wanted o (yielded ops a.tmps) = true := by simp [Region.wanted, hgd]
 rw [if_pos hw]
 subst hnd
 obtain ⟨hlen, hrow⟩ := hown
 rcases hrow with ⟨h', _⟩ | ⟨g', cap', cur, h', hb, hg, hnc, hcm, hcs, htake⟩
 ·simp at h'
 ·simp only [Value.slice.injEq, Option.some.injEq, Addr.mk.injEq, and_true, true_and] at h'
  obtain ⟨rfl, rfl⟩ := h'
  simp only [Nat.mul_one] at hcs htake
  have hvl : (vals .u8 bs).length = bs.length := vals_length _ _
  have hrun := run_copy_row (P := P) w T T o.type tb g lo (dur.length - lo) dc ⟨b, off, none⟩ bs.length c cur tb (vals .u8 bs) hu hsz hg (by rw [hvl]; exact (Nat.min_eq_left (by omega)).symm) (news_of hsrc) (by rw [hvl]; omega) vals_one
  unfold Oper.wp
  simp [execOp, ho, resolve, invoke, builtin, hd, hs, hrun, Result.andThen]
  rw [hvl]
  refine h _ ⟨by rw [vals_length]; omega, .inr ⟨g, cap, _, by rw [putAt_length _ _ _ hfit], hb, setRow_heap w g _ _ tb _ hg, by rw [putAt_length _ _ _ hfit]; exact hnc, hcm, ?_, ?_⟩⟩ ⟨rfl, rfl, rfl, by simp [World.setRow], fun k _ hk => setRow_other w g k _ (fun e => hk (by rw [e]))⟩
  ·simp [hvl]; omega
  ·have e : vals .u8 (putAt dur lo bs) = (vals .u8 dur).take lo ++ (vals .u8 bs ++ (vals .u8 dur).drop (lo + bs.length)) := by simp [vals, putAt]
   rw [e, putAt_length _ _ _ hfit, ← htake]
   have h := take_splice cur.toList (vals .u8 bs) lo dur.length (by rw [hvl]; exact hfit) (by have h9 : cur.toList.length = cap := (Array.length_toList).trans hcs; rw [h9]; exact hnc)
   rw [hvl] at h
   simpa using h
end
def penCells : List (Int × List Int) → List Value
 | [] => []
 | p :: ds => .int .i64 p.1 :: (vals .u8 p.2 ++ penCells ds)
theorem penCells_append (ds es : List (Int × List Int)) : penCells (ds ++ es) = penCells ds ++ penCells es := by
 induction ds with
 | nil => rfl
 | cons p ds ih => simp [penCells, ih]
theorem penCells_length (ds : List (Int × List Int)) (h : ∀ p ∈ ds, p.2.length = 512) : (penCells ds).length = ds.length * 513 := by
 induction ds with
 | nil => rfl
 | cons p ds ih =>
  have h1 := ih (fun q hq => h q (List.mem_cons_of_mem _ hq))
  have h2 := h p (List.mem_cons_self ..)
  simp only [penCells, List.length_cons, List.length_append, vals_length, h1, h2]
  omega
theorem penCells_at (ds : List (Int × List Int)) (h : ∀ p ∈ ds, p.2.length = 512) (k : Nat) (hk : k < ds.length) : (penCells ds).drop (k * 513) = .int .i64 ds[k].1 :: (vals .u8 ds[k].2 ++ penCells (ds.drop (k + 1))) := by
 have e : penCells ds = penCells (ds.take k) ++ penCells (ds.drop k) := by rw [← penCells_append, List.take_append_drop]
 have hl : (penCells (ds.take k)).length = k * 513 := by
  rw [penCells_length _ (fun p hp => h p (List.mem_of_mem_take hp)), List.length_take, Nat.min_eq_left (by omega)]
 rw [e, ← hl, List.drop_left, List.drop_eq_getElem_cons hk]
 rfl
theorem owns_setCellsP {base : Nat} {e : TypeId} {size g n cap : Nat} : ∀ (vs : List Value) (o : Nat) (w : World) (xs : List Value), w.ownsRow base e size (.slice (some ⟨g, 0, none⟩) n cap) n xs → o + vs.length ≤ xs.length →
  (w.setCells g o vs).ownsRow base e size (.slice (some ⟨g, 0, none⟩) n cap) n (lay xs o vs) ∧ w.grownBy (w.setCells g o vs) (some g)
 | [], o, w, xs, h, _ => by
  refine ⟨?_, ⟨rfl, rfl, rfl, Nat.le_refl _, fun _ _ _ => rfl⟩⟩
  have e : lay xs o [] = xs := by simp [lay]
  rw [e]
  exact h
 | v :: vs, o, w, xs, h, hl => by
  obtain ⟨h1, h2⟩ := World.ownsRow.stored h o v
  simp only [List.length_cons] at hl
  obtain ⟨h3, h4⟩ := owns_setCellsP vs (o + 1) _ _ h1 (by rw [List.length_set]; omega)
  rw [lay_cons _ _ _ _ hl] at h3
  refine ⟨h3, ⟨h4.os.trans h2.os, h4.tape.trans h2.tape, h4.output.trans h2.output, Nat.le_trans h2.size h4.size, fun k hk hn => ?_⟩⟩
  exact (h4.block k (Nat.lt_of_lt_of_le hk h2.size) hn).trans (h2.block k hk hn)
theorem owns_there {base : Nat} {e : TypeId} {size g n cap : Nat} {w : World} {xs : List Value} (h : w.ownsRow base e size (.slice (some ⟨g, 0, none⟩) n cap) n xs) (o m : Nat) (hm : o + m ≤ xs.length) : w.there g o m := fun j hj => by
 have hl := h.1
 refine ⟨?_, World.ownsRow.frozenAt h _⟩
 rw [World.ownsRow.cellAt h (o + j) (by omega)]
 simp
 omega
theorem owns_range {base : Nat} {e : TypeId} {size g n cap : Nat} {w : World} {xs : List Value} (h : w.ownsRow base e size (.slice (some ⟨g, 0, none⟩) n cap) n xs) (o m : Nat) (hm : o + m ≤ xs.length) : w.rangeAt g o ((xs.drop o).take m) := fun j v hv => by
 have hl := h.1
 have hj : j < m := by have := (List.getElem?_eq_some_iff.1 hv).1; simp at this; omega
 rw [World.ownsRow.cellAt h (o + j) (by omega), ← hv]
 simp [hj]
theorem lay_fill (dur : List Int) (a : Nat) (h : a + 512 ≤ dur.length) : lay (vals .u8 (fillUp dur a)) a (vals .u8 ((dur.drop a).take 512)) = vals .u8 (fillUp dur (a + 512)) := by
 have hl : ((dur.drop a).take 512).length = 512 := by rw [List.length_take, List.length_drop]; omega
 have e1 : (fillUp dur a).take a = dur.take a := by
  unfold fillUp
  rw [List.take_append, List.take_take, Nat.min_self, List.length_take, Nat.min_eq_left (by omega), Nat.sub_self, List.take_zero, List.append_nil]
 have e2 : (fillUp dur a).drop (a + 512) = List.replicate (dur.length - (a + 512)) 0 := by
  unfold fillUp
  have e3 : (dur.take a).drop (a + 512) = [] := List.drop_eq_nil_of_le (by rw [List.length_take]; omega)
  rw [List.drop_append, e3, List.nil_append, List.length_take, Nat.min_eq_left (by omega), List.drop_replicate, show dur.length - a - (a + 512 - a) = dur.length - (a + 512) from by omega]
 have e4 : dur.take (a + 512) = dur.take a ++ (dur.drop a).take 512 := List.take_add
 unfold lay vals
 rw [← List.map_take, List.length_map, hl, ← List.map_drop, e1, e2, ← List.map_append, ← List.map_append]
 unfold fillUp
 rw [e4, List.append_assoc]
section
variable {P : Program} {ops : Array Oper} {S : World → Prop} {o : Oper} {a : Act} {w : World} {K : Act → World → Prop} {Q : Exit → Act → World → Prop} {E : Prop}
theorem step_make (hgd : o.guard = none) (x y : Operand) (t : TypeId) (hop : o.op = Op.makeSlice t x y) (base : Nat) (e : TypeId) (i : TypeInfo) (z : Value) (size : Nat) (h1 : P.underlying t = some (.slice e)) (h2 : P.info? e = some i) (h3 : i.zero = some z) (h4 : i.size = size)
  (kl kc : IntKind) (L C : Int) (l c : Nat) (hl : a.eval x = .int kl L) (hc : a.eval y = .int kc C) (hL : L = l) (hC : C = c) (hlc : l ≤ c) (b2 : i.bytes * c ≤ 281474976710656) (b3 : c ≤ maxLen) (hb : base ≤ w.heap.size)
  (h : ∀ w', w'.ownsRow base e size (.slice (some ⟨w.heap.size, 0, none⟩) l c) l ((madeCells z.cells (c * size)).toList.take (l * size)) → w.grownBy w' none → w.heap.size < w'.heap.size → K (a.put o.dst (.slice (some ⟨w.heap.size, 0, none⟩) l c)) w') :
  if Region.wanted o (yielded ops a.tmps) = true then Oper.wp P o a w K Q else E := by
 have hw : Region.wanted o (yielded ops a.tmps) = true := by simp [Region.wanted, hgd]
 rw [if_pos hw]
 subst hL hC h4
 have hb' : (i.bytes : Int) * (c : Int) ≤ 281474976710656 := by
  have : ((i.bytes * c : Nat) : Int) ≤ 281474976710656 := by omega
  rwa [Int.natCast_mul] at this
 have hrun := run_make (P := P) w t e i z h1 h2 h3 kl kc l c (by omega) (by omega) hb' (by unfold maxLen at b3; omega)
 simp only [Int.toNat_natCast] at hrun
 unfold Oper.wp
 simp [execOp, hop, hl, hc, hrun, Result.andThen]
 refine h _ ⟨?_, .inr ⟨w.heap.size, c, _, rfl, hb, heap_alloc_new w _, hlc, b3, size_madeCells _ _, rfl⟩⟩ (World.grownBy_alloc w _ none) (by simp)
 rw [List.length_take, Array.length_toList, size_madeCells]
 exact Nat.min_eq_left (Nat.mul_le_mul_right _ hlc)
end
theorem run_arrayAt (w : World) (ad : Option Addr) (n c : Nat) (hn : ¬ n < 512) : (Instr.arrayAt 94 (.slice ad n c)).run Tryd.prog w = .ok (.pointer ad) w := by
 simp [Instr.arrayAt, run_underlying Tryd.underlying94, hn]
def zeros93 : Array Value := (Value.int .i64 0 :: List.replicate 512 (Value.int .u8 0)).toArray
theorem Tryd.built93 (parts : List (Nat × Value)) : Tryd.prog.built 110 parts = Instr.fill (fun i => (#[(0, 1), (1, 512)] : Array (Nat × Nat))[i]?) zeros93 parts := by kernel_rfl
theorem Tryd.info93 : (Tryd.prog.info? 110).map (fun i => (i.zero, i.size, i.bytes)) = some (some (.agg zeros93), 513, 520) := by kernel_rfl
theorem Tryd.info91 : (Tryd.prog.info? 94).map (fun i => (i.zero, i.size, i.bytes)) = some (some (.agg (List.replicate 512 (Value.int .u8 0)).toArray), 512, 512) := by kernel_rfl
theorem fill93 (sec : Int) (cs : List Value) (hl : cs.length = 512) :
  Instr.fill (fun i => (#[(0, 1), (1, 512)] : Array (Nat × Nat))[i]?) zeros93 [(0, .int .i64 sec), (1, .agg cs.toArray)] = some (Value.int .i64 sec :: cs).toArray := by
 have hz : zeros93.size = 513 := by kernel_rfl
 generalize zeros93 = Z at hz ⊢
 obtain ⟨s1, g1⟩ := Great.foldl_set 0 [Value.int .i64 sec] 0 Z
 obtain ⟨s2, g2⟩ := Great.foldl_set 1 cs 0 (([Value.int .i64 sec].zipIdx 0).foldl (fun cs (x : Value × Nat) => cs.setIfInBounds (0 + x.2) x.1) Z)
 have step1 : Instr.fill (fun i => (#[(0, 1), (1, 512)] : Array (Nat × Nat))[i]?) Z [(0, .int .i64 sec), (1, .agg cs.toArray)] =
   Instr.fill (fun i => (#[(0, 1), (1, 512)] : Array (Nat × Nat))[i]?) (([Value.int .i64 sec].zipIdx 0).foldl (fun cs (x : Value × Nat) => cs.setIfInBounds (0 + x.2) x.1) Z) [(1, .agg cs.toArray)] := by
  simp [Instr.fill, Value.cells, hz]
 have step2 : Instr.fill (fun i => (#[(0, 1), (1, 512)] : Array (Nat × Nat))[i]?) (([Value.int .i64 sec].zipIdx 0).foldl (fun cs (x : Value × Nat) => cs.setIfInBounds (0 + x.2) x.1) Z) [(1, .agg cs.toArray)] =
   some ((cs.zipIdx 0).foldl (fun cs (x : Value × Nat) => cs.setIfInBounds (1 + x.2) x.1) (([Value.int .i64 sec].zipIdx 0).foldl (fun cs (x : Value × Nat) => cs.setIfInBounds (0 + x.2) x.1) Z)) := by
  simp [Instr.fill, Value.cells, hl, hz]
 rw [step1, step2]
 refine congrArg some (Array.ext_getElem? fun k => ?_)
 rw [g2 k, s1, hz, g1 k, hz]
 simp only [List.getElem?_toArray, Nat.add_zero, List.length_singleton, Nat.zero_add]
 cases k with
 | zero => rw [if_neg (by omega), if_pos (by omega)]; rfl
 | succ k =>
  rw [List.getElem?_cons_succ]
  by_cases h : k < 512
  ·rw [if_pos (by omega)]
   rfl
  ·rw [if_neg (by omega), if_neg (by omega), Array.getElem?_eq_none (by omega), List.getElem?_eq_none (by omega)]
section
variable {P : Program} {ops : Array Oper} {S : World → Prop} {o : Oper} {a : Act} {w : World} {K : Act → World → Prop} {Q : Exit → Act → World → Prop} {E : Prop}
theorem yields_build93 (hgd : o.guard = none) (x y : Operand) (hop : o.op = Op.build 110 #[(0, x), (1, y)]) (sec : Int) (cs : List Value) (hx : a.eval x = .int .i64 sec) (hy : a.eval y = .agg cs.toArray) (hl : cs.length = 512) :
  YieldsIf Tryd.prog ops S o (.agg (Value.int .i64 sec :: cs).toArray) a := by
 have hw : Region.wanted o (yielded ops a.tmps) = true := by simp [Region.wanted, hgd]
 have hb : Tryd.prog.built 110 (#[(0, Value.int .i64 sec), (1, Value.agg cs.toArray)] : Array (Nat × Value)).toList = some (Value.int .i64 sec :: cs).toArray := by
  rw [Tryd.built93]
  exact fill93 sec cs hl
 refine .inl ⟨hw, fun w _ => ?_⟩
 have hrun := run_build (P := Tryd.prog) w _ #[(0, Value.int .i64 sec), (1, Value.agg cs.toArray)] _ hb
 unfold execOp
 simp only [hop]
 have e : (#[(0, x), (1, y)] : Array (Nat × Operand)).map (fun (i, x) => (i, a.eval x)) = #[(0, Value.int .i64 sec), (1, Value.agg cs.toArray)] := by simp [hx, hy]
 rw [e]
 simp only [Sem.run_bind, hrun, Result.andThen_ok]
 rfl
theorem step_row93 (hgd : o.guard = none) (x : Operand) (hop : o.op = Op.buildSlice 106 1 #[(0, x)]) (cs : List Value) (hx : a.eval x = .agg cs.toArray) (hl : cs.length = 513) (N : Nat) (hN : w.heap.size = N)
  (h : K (a.put o.dst (.slice (some ⟨N, 0, none⟩) 1 1)) (w.alloc (.cells cs.toArray 110))) :
  if Region.wanted o (yielded ops a.tmps) = true then Oper.wp Tryd.prog o a w K Q else E := by
 have hw : Region.wanted o (yielded ops a.tmps) = true := by simp [Region.wanted, hgd]
 rw [if_pos hw]
 subst hN
 obtain ⟨i0, hi, hz0, hz1, hz2⟩ := info_parts Tryd.info93
 refine wp_buildSlice 106 110 1 _ hop cs.toArray i0 _ Tryd.underlying106 hi hz0 (by rw [hz1]; omega) (by rw [hz1]; omega) ?_ h
 rw [hz1]
 have hf := Great.fill_whole (s := 513) (by omega) [Value.agg cs.toArray] ((Array.range (1 * 513)).map ((Value.agg zeros93).cells[· % (Value.agg zeros93).cells.size]!)) (by simp [Value.cells, hl]) (by simp)
 simpa [hx, Value.cells] using hf
end
end Go.Proofs.YtnkollbhicmdhaaDoor
