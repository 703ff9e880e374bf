import Derived.Test.YtepdakgfioffgaaGreatG34
import Derived.Test.YtepdakgfioffgaaGreatG30
import Derived.Deep.DeepCutAuto
namespace Go.Proofs.YtepdakgfioffgaaGreat
set_option maxRecDepth 100000
set_option maxHeartbeats 8000000
set_option linter.unusedVariables false
set_option linter.unusedSimpArgs false
open Go Go.RowKit Go.MapKept Go.Maps Go.Sort Go.Shelf
theorem sortedAg (w : World) (p B ck : Nat) (kv : List KV) (h1 : w.cell? ⟨p, 0, none⟩ = some (.map (some B))) (hb : MapB w B kv ck) (hn : KVok kv ck) (hl : kv.length ≤ 1000000) (hx : ∀ e ∈ kv, -9223372036854775808 ≤ e.1 ∧ e.1 ≤ 9223372036854775807) :
  Calls Tryz.prog 59 #[.func (.func 81) #[] #[.pointer (some ⟨p, 0, none⟩)]] w fun e w' => ∃ v : Value, e = .returned v ∧ w'.ownsRow w.heap.size 2 1 v kv.length ((sortI (kv.map (·.1))).map encZ) ∧ Same w w' := by
 refine (callsIn_wide (n := 5)).1 ?_
 obtain ⟨D, nK, oB, i1⟩ := owns_of (P := Tryz.prog) (K := 2) Tryz.underlying2 hb hn (by unfold maxLen; omega) hx
 have si : SeqGives Fence.wide 2 Tryz.prog 81 #[.pointer (some ⟨p, 0, none⟩)] encZ (fun ss => ss.Perm (intKeys D)) (Maps.size D) w :=
  AnyZI.keys_gives (ρ := Tryz.keysA_ren) { Tryz.keysA with } Fence.wide _ trivial rfl (by omega) p B kv.length D _ (World.block_lt_of_cell? w ⟨p, 0, none⟩ h1) h1 nK
 have cS := AnyZI.sorted_in Tryz.sortedA Fence.wide 5 trivial trivial trivial trivial rfl (by omega) (sorts8 _) (enters_of Tryz.func80 (by kernel_rfl) rfl) 81 #[.pointer (some ⟨p, 0, none⟩)] trivial (enters_of Tryz.func81 (by kernel_rfl) rfl) _ _ (by rw [i1]; unfold maxLen; omega) (by rw [i1]; omega) _ si
 refine CallsIn.mono cS ?_
 rintro e w' ⟨v, ss, rfl, hS, ik, _, De⟩
 have hp := hS.trans oB
 refine ⟨v, rfl, ?_, same_below De⟩
 have h1 : ss.length = kv.length := by rw [hp.length_eq, List.length_map]
 have h2 : ss.mergeSort (fun x y => decide (x ≤ y)) = sortI (kv.map (·.1)) := mergeSort_of_perm_i hp
 rw [h1, h2] at ik
 exact ik
theorem sortedBg (w : World) (p B ck : Nat) (kv : List KV) (h1 : w.cell? ⟨p, 0, none⟩ = some (.map (some B))) (hb : MapB w B kv ck) (hn : KVok kv ck) (hl : kv.length ≤ 1000000) (hx : ∀ e ∈ kv, -9223372036854775808 ≤ e.1 ∧ e.1 ≤ 9223372036854775807) :
  Calls Tryz.prog 59 #[.func (.func 82) #[] #[.pointer (some ⟨p, 0, none⟩)]] w fun e w' => ∃ v : Value, e = .returned v ∧ w'.ownsRow w.heap.size 2 1 v kv.length ((sortI (kv.map (·.1))).map encZ) ∧ Same w w' := by
 refine (callsIn_wide (n := 5)).1 ?_
 obtain ⟨D, nK, oB, i1⟩ := owns_of (P := Tryz.prog) (K := 2) Tryz.underlying2 hb hn (by unfold maxLen; omega) hx
 have si : SeqGives Fence.wide 2 Tryz.prog 82 #[.pointer (some ⟨p, 0, none⟩)] encZ (fun ss => ss.Perm (intKeys D)) (Maps.size D) w :=
  AnyZI.keys_gives (ρ := Tryz.keysB_ren) { Tryz.keysB with } Fence.wide _ trivial rfl (by omega) p B kv.length D _ (World.block_lt_of_cell? w ⟨p, 0, none⟩ h1) h1 nK
 have cS := AnyZI.sorted_in Tryz.sortedA Fence.wide 5 trivial trivial trivial trivial rfl (by omega) (sorts8 _) (enters_of Tryz.func80 (by kernel_rfl) rfl) 82 #[.pointer (some ⟨p, 0, none⟩)] trivial (enters_of Tryz.func82 (by kernel_rfl) rfl) _ _ (by rw [i1]; unfold maxLen; omega) (by rw [i1]; omega) _ si
 refine CallsIn.mono cS ?_
 rintro e w' ⟨v, ss, rfl, hS, ik, _, De⟩
 have hp := hS.trans oB
 refine ⟨v, rfl, ?_, same_below De⟩
 have h1 : ss.length = kv.length := by rw [hp.length_eq, List.length_map]
 have h2 : ss.mergeSort (fun x y => decide (x ≤ y)) = sortI (kv.map (·.1)) := mergeSort_of_perm_i hp
 rw [h1, h2] at ik
 exact ik
theorem sortedCg (w : World) (p B ck : Nat) (kv : List KV) (h1 : w.cell? ⟨p, 0, none⟩ = some (.map (some B))) (hb : MapB w B kv ck) (hn : KVok kv ck) (hl : kv.length ≤ 1000000) (hx : ∀ e ∈ kv, -9223372036854775808 ≤ e.1 ∧ e.1 ≤ 9223372036854775807) :
  Calls Tryz.prog 59 #[.func (.func 83) #[] #[.pointer (some ⟨p, 0, none⟩)]] w fun e w' => ∃ v : Value, e = .returned v ∧ w'.ownsRow w.heap.size 2 1 v kv.length ((sortI (kv.map (·.1))).map encZ) ∧ Same w w' := by
 refine (callsIn_wide (n := 5)).1 ?_
 obtain ⟨D, nK, oB, i1⟩ := owns_of (P := Tryz.prog) (K := 2) Tryz.underlying2 hb hn (by unfold maxLen; omega) hx
 have si : SeqGives Fence.wide 2 Tryz.prog 83 #[.pointer (some ⟨p, 0, none⟩)] encZ (fun ss => ss.Perm (intKeys D)) (Maps.size D) w :=
  AnyZI.keys_gives (ρ := Tryz.keysC_ren) { Tryz.keysC with } Fence.wide _ trivial rfl (by omega) p B kv.length D _ (World.block_lt_of_cell? w ⟨p, 0, none⟩ h1) h1 nK
 have cS := AnyZI.sorted_in Tryz.sortedA Fence.wide 5 trivial trivial trivial trivial rfl (by omega) (sorts8 _) (enters_of Tryz.func80 (by kernel_rfl) rfl) 83 #[.pointer (some ⟨p, 0, none⟩)] trivial (enters_of Tryz.func83 (by kernel_rfl) rfl) _ _ (by rw [i1]; unfold maxLen; omega) (by rw [i1]; omega) _ si
 refine CallsIn.mono cS ?_
 rintro e w' ⟨v, ss, rfl, hS, ik, _, De⟩
 have hp := hS.trans oB
 refine ⟨v, rfl, ?_, same_below De⟩
 have h1 : ss.length = kv.length := by rw [hp.length_eq, List.length_map]
 have h2 : ss.mergeSort (fun x y => decide (x ≤ y)) = sortI (kv.map (·.1)) := mergeSort_of_perm_i hp
 rw [h1, h2] at ik
 exact ik
theorem sort_up {l m : List Int} (hp : l.Perm m) (hm : m.Pairwise (· < ·)) : sortI l = m := by
 have h1 : (sortI l).Perm m := (List.mergeSort_perm l _).trans hp
 have h2 : (sortI l).Pairwise (fun a b => a ≤ b) := by
  have h := List.pairwise_mergeSort (le := fun x y : Int => decide (x ≤ y)) (fun a b c h1 h2 => by simp at *; omega) (fun a b => by simp; omega) l
  exact h.imp (fun h => by simpa using h)
 exact List.Perm.eq_of_pairwise (le := fun x y => x ≤ y) (fun x y _ _ h1 h2 => by omega) h2 (hm.imp (fun h => by omega)) h1
theorem own_sorted {w : World} {base : Nat} {e : TypeId} {v : Value} {n : Nat} {l : List Int} (h : w.ownsRow base e 1 v n (l.map encZ)) : ∃ a c, v = .slice a n c ∧ OwQ 1 e w a n c l ∧ ∀ b, (Value.slice a n c).ownBlock = some b → base ≤ b := by
 have h1 := h.1
 have ev : l.map encZ = vals .i64 l := rfl
 rw [ev] at h
 rcases h.2 with ⟨hv, h0⟩ | ⟨g, cap, cur, hv, hg, h3⟩
 ·rw [List.length_map] at h1
  subst h0
  have hl : l = [] := List.length_eq_zero_iff.1 (by omega)
  subst hl
  exact ⟨none, 0, hv, OwQ.nil _ _ _, fun b hb => by simp [Value.ownBlock] at hb⟩
 ·refine ⟨_, _, hv, ⟨by rw [vals_length]; rw [List.length_map] at h1; exact h1, .inr ⟨g, cap, cur, rfl, Nat.zero_le _, h3⟩⟩, fun b hb => ?_⟩
  rw [ownBlkA] at hb
  rw [← Option.some.inj hb]
  exact hg
structure AnT (w wr : World) (O : Nat) (s : AzS) (ta : Option Addr) (tn tc : Nat) (da : Option Addr) (dn dc : Nat) (ia : Option Addr) (il ic : Nat) : Prop where
 own4 : OwQ 4 57 wr ta tn tc (flat4 s.tx)
 own2 : OwQ 2 60 wr da dn dc (flat2 s.dy)
 own1 : OwQ 1 2 wr ia il ic s.im
 f4 : ∀ b, (Value.slice ta tn tc).ownBlock = some b → b ≠ O ∧ w.heap.size < b
 f2 : ∀ b, (Value.slice da dn dc).ownBlock = some b → b ≠ O ∧ w.heap.size < b
 f1 : ∀ b, (Value.slice ia il ic).ownBlock = some b → b ≠ O ∧ w.heap.size < b
 ap42 : ∀ b, (Value.slice ta tn tc).ownBlock = some b → (Value.slice da dn dc).ownBlock = some b → False
 ap41 : ∀ b, (Value.slice ta tn tc).ownBlock = some b → (Value.slice ia il ic).ownBlock = some b → False
 ap21 : ∀ b, (Value.slice da dn dc).ownBlock = some b → (Value.slice ia il ic).ownBlock = some b → False
 keep : Same w wr
 low : w.heap.size < O
 box : Blk wr O 30 [.int .i64 0, .int .i64 0, .int .i64 0, .int .i64 s.nx, .slice ta tn tc, .slice da dn dc, .slice ia il ic]
section
variable {w wr wx w5 : World} {O : Nat} {s : AzS} {ta : Option Addr} {tn tc : Nat} {da : Option Addr} {dn dc : Nat} {ia : Option Addr} {il ic : Nat}
theorem AnT.same (h : AnT w wr O s ta tn tc da dn dc ia il ic) (hk : Same wr wx) : AnT w wx O s ta tn tc da dn dc ia il ic :=
 ⟨h.own4.same hk, h.own2.same hk, h.own1.same hk, h.f4, h.f2, h.f1, h.ap42, h.ap41, h.ap21, h.keep.trans hk, h.low, h.box.same hk⟩
theorem AnT.growT (h : AnT w wr O s ta tn tc da dn dc ia il ic) (hs : Same wr wx) {a' : Option Addr} {n' c' : Nat} {tx' : List Q4} (ho : OwQ 4 57 w5 a' n' c' (flat4 tx')) (hg : Grew wx (.slice ta tn tc) w5 (.slice a' n' c')) :
  AnT w (w5.setCell ⟨O, 4, none⟩ (.slice a' n' c')) O { s with tx := tx' } a' n' c' da dn dc ia il ic ∧ Blk w5 O 30 [.int .i64 0, .int .i64 0, .int .i64 0, .int .i64 s.nx, .slice ta tn tc, .slice da dn dc, .slice ia il ic] ∧ Kept (fun b => (Value.slice ta tn tc).ownBlock = some b) wr w5 := by
 have hk : Kept (fun b => (Value.slice ta tn tc).ownBlock = some b) wr w5 := (hs.mono (fun _ _ e => e.elim)).trans (hg.kept.mono (fun _ _ e => e))
 have hO := h.box.lt
 have i1 := hs.size
 have Sk := h.low
 have EY := h.keep.size
 have qM := h.box.kept hk (fun e => (h.f4 _ e).1 rfl)
 have eC : Kept (fun b => b = O) w5 (w5.setCell ⟨O, 4, none⟩ (.slice a' n' c')) := Kept.setCell (R := fun b => b = O) (Kept.refl _ _) (p := ⟨O, 4, none⟩) (.inr rfl) _
 have hf : ∀ b, (Value.slice a' n' c').ownBlock = some b → b ≠ O ∧ w.heap.size < b := fun b hb => by
  rcases hg.own b hb with h1 | h1
  ·exact h.f4 b h1
  ·exact ⟨by omega, by omega⟩
 refine ⟨⟨ho.kept eC (fun b hb e => (hf b hb).1 e), (h.own2.kept hk (fun b hb e => h.ap42 b e hb)).kept eC (fun b hb e => (h.f2 b hb).1 e), (h.own1.kept hk (fun b hb e => h.ap41 b e hb)).kept eC (fun b hb e => (h.f1 b hb).1 e), hf, h.f2, h.f1, fun b h1 h2 => ?_, fun b h1 h2 => ?_, h.ap21, (h.keep.next hk (fun b hb e => by have := (h.f4 b e).2; omega)).next eC (fun b hb e => by omega), h.low, qM.stored 4 _⟩, qM, hk⟩
 ·rcases hg.own b h1 with h3 | h3
  ·exact h.ap42 b h3 h2
  ·have := h.own2.lt b h2; omega
 ·rcases hg.own b h1 with h3 | h3
  ·exact h.ap41 b h3 h2
  ·have := h.own1.lt b h2; omega
theorem AnT.growD (h : AnT w wr O s ta tn tc da dn dc ia il ic) (hs : Same wr wx) {a' : Option Addr} {n' c' : Nat} {dy' : List (Int × Int)} (ho : OwQ 2 60 w5 a' n' c' (flat2 dy')) (hg : Grew wx (.slice da dn dc) w5 (.slice a' n' c')) :
  AnT w (w5.setCell ⟨O, 5, none⟩ (.slice a' n' c')) O { s with dy := dy' } ta tn tc a' n' c' ia il ic ∧ Blk w5 O 30 [.int .i64 0, .int .i64 0, .int .i64 0, .int .i64 s.nx, .slice ta tn tc, .slice da dn dc, .slice ia il ic] ∧ Kept (fun b => (Value.slice da dn dc).ownBlock = some b) wr w5 := by
 have hk : Kept (fun b => (Value.slice da dn dc).ownBlock = some b) wr w5 := (hs.mono (fun _ _ e => e.elim)).trans (hg.kept.mono (fun _ _ e => e))
 have hO := h.box.lt
 have i1 := hs.size
 have Sk := h.low
 have EY := h.keep.size
 have qM := h.box.kept hk (fun e => (h.f2 _ e).1 rfl)
 have eC : Kept (fun b => b = O) w5 (w5.setCell ⟨O, 5, none⟩ (.slice a' n' c')) := Kept.setCell (R := fun b => b = O) (Kept.refl _ _) (p := ⟨O, 5, none⟩) (.inr rfl) _
 have hf : ∀ b, (Value.slice a' n' c').ownBlock = some b → b ≠ O ∧ w.heap.size < b := fun b hb => by
  rcases hg.own b hb with h1 | h1
  ·exact h.f2 b h1
  ·exact ⟨by omega, by omega⟩
 refine ⟨⟨(h.own4.kept hk (fun b hb e => h.ap42 b hb e)).kept eC (fun b hb e => (h.f4 b hb).1 e), ho.kept eC (fun b hb e => (hf b hb).1 e), (h.own1.kept hk (fun b hb e => h.ap21 b e hb)).kept eC (fun b hb e => (h.f1 b hb).1 e), h.f4, hf, h.f1, fun b h1 h2 => ?_, h.ap41, fun b h1 h2 => ?_, (h.keep.next hk (fun b hb e => by have := (h.f2 b e).2; omega)).next eC (fun b hb e => by omega), h.low, qM.stored 5 _⟩, qM, hk⟩
 ·rcases hg.own b h2 with h3 | h3
  ·exact h.ap42 b h1 h3
  ·have := h.own4.lt b h1; omega
 ·rcases hg.own b h1 with h3 | h3
  ·exact h.ap21 b h3 h2
  ·have := h.own1.lt b h2; omega
theorem AnT.answer (h : AnT w wr O s ta tn tc da dn dc ia il ic) : OwnL wr (StAnalysis.rows ⟨0, 0, 0, s.nx, ⟨57, ta, tn, tc, flat4 s.tx⟩, ⟨60, da, dn, dc, flat2 s.dy⟩, ⟨2, ia, il, ic, s.im⟩⟩) :=
 h.own4.rows.append (h.own2.rows.append h.own1.rows (fun b h1 h2 => h.ap21 b ((FootL_one _ _).1 h1) ((FootL_one _ _).1 h2))) (fun b h1 h2 => by
  rcases (FootL_append _ _ _).1 h2 with h2 | h2
  ·exact h.ap42 b ((FootL_one _ _).1 h1) ((FootL_one _ _).1 h2)
  ·exact h.ap41 b ((FootL_one _ _).1 h1) ((FootL_one _ _).1 h2))
theorem AnT.foot (h : AnT w wr O s ta tn tc da dn dc ia il ic) (b : Nat) (hb : FootL (StAnalysis.rows ⟨0, 0, 0, s.nx, ⟨57, ta, tn, tc, flat4 s.tx⟩, ⟨60, da, dn, dc, flat2 s.dy⟩, ⟨2, ia, il, ic, s.im⟩⟩) b) : w.heap.size < b := by
 rcases (FootL_append _ _ _).1 hb with hb | hb
 ·exact (h.f4 b ((FootL_one _ _).1 hb)).2
 rcases (FootL_append _ _ _).1 hb with hb | hb
 ·exact (h.f2 b ((FootL_one _ _).1 hb)).2
 ·exact (h.f1 b ((FootL_one _ _).1 hb)).2
end
theorem step_storeB {P : Program} {fi : Array Oper} {o : Oper} {a : Act} {w : World} {K : Act → World → Prop} {Q : Exit → Act → World → Prop} {E : Prop} (rf : o.guard = none) (ty : TypeId) (x y : Operand) (ho : o.op = .store ty x y) (B off : Nat) (cells : Array Value) (hx : a.eval x = .pointer (some ⟨B, off, none⟩)) (hy : a.eval y = .agg cells)
  (ht : w.there B off cells.size) (hi : (P.info? ty).map (·.size) = some cells.size) (hc : cells.all (·.oneCell') = true) (h : K (a.put o.dst undef) (w.setCells B off cells.toList)) : if Region.wanted o (yielded fi a.tmps) = true then Oper.wp P o a w K Q else E := by
 have hw : Region.wanted o (yielded fi a.tmps) = true := by simp [Region.wanted, rf]
 rw [if_pos hw]
 exact wp_store_mid ty x y ho B off cells hx hy ht hi hc h
def TelR (w w' : World) (s : AzS) (e : Ending) : Prop := ∃ y : StAnalysis, e = .returned y.val ∧ y.dat = (0, 0, 0, s.nx, flat4 s.tx, flat2 s.dy, s.im) ∧ (∀ b, FootL y.rows b → w.heap.size ≤ b) ∧ OwnL w' y.rows ∧ Same w w'
theorem tell_any (w : World) (b0 T : Nat) (s : AzS) (h : TabM w b0 T s) (hs : AzOk s) (hb : AzB s) :
  Calls Tryz.prog 31 #[.pointer (some ⟨T, 0, none⟩)] w fun e w' => TelR w w' s e := by
 obtain ⟨i4, pZ, lj, lq, lf⟩ := info_parts Tryz.infoTxnEntry
 obtain ⟨i2, tm, xY, yI, yo⟩ := info_parts Tryz.infoDirtyEntry
 obtain ⟨Bt, ct, Bd, cd, Bi, ci, kt, kd, ki, lQ⟩ := h
 have lT := lQ.box.lt
 have yF : Hid (sortI (kt.map (·.1)) = s.tx.map kQ) := sort_up lQ.et.keys (up_keys.1 hs.tx)
 have uL : Hid (sortI (kd.map (·.1)) = s.dy.map kD) := sort_up lQ.ed.keys (up_keys.1 hs.dy)
 have vq : Hid (sortI (ki.map (·.1)) = s.im) := sort_up lQ.ei (by have h := up_keys.1 hs.im; rwa [List.map_id'] at h)
 have TO : kt.length = s.tx.length := lQ.et.length
 have GV : kd.length = s.dy.length := by have h := lQ.ed.keys.length_eq; simpa using h
 have GL : ki.length = s.im.length := by have h := lQ.ei.length_eq; simpa using h
 have h8 := hs.few
 have Lm := hs.dy.len16 hb.dy
 have SS := hs.im.len16 hb.im
 have Tv : Hid (∀ e ∈ kt, -9223372036854775808 ≤ e.1 ∧ e.1 ≤ 9223372036854775807) := fun e he => by
  obtain ⟨q, hq, TM⟩ := List.mem_map.1 (lQ.et.keys.mem_iff.1 (List.mem_map.2 ⟨e, he, rfl⟩))
  have := hb.tx q hq
  omega
 have Sf : Hid (∀ e ∈ kd, -9223372036854775808 ≤ e.1 ∧ e.1 ≤ 9223372036854775807) := fun e he => by
  obtain ⟨q, hq, TM⟩ := List.mem_map.1 (lQ.ed.keys.mem_iff.1 (List.mem_map.2 ⟨e, he, rfl⟩))
  have := hb.dy q hq
  omega
 have F8 : Hid (∀ e ∈ ki, -9223372036854775808 ≤ e.1 ∧ e.1 ≤ 9223372036854775807) := fun e he => by
  have h1 := lQ.ei.mem_iff.1 (List.mem_map.2 ⟨e, he, rfl⟩)
  have := hb.im _ h1
  simp only [kI] at this
  omega
 have EB := hid hs.tx
 have Jv := hid hs.dy
 have ob := hid lQ
 have bq := hid (sameA w [.int .i64 0, .int .i64 0, .int .i64 0, .int .i64 0, .slice none 0 0, .slice none 0 0, .slice none 0 0] 30)
 have lx := hid (Blk.newL w [.int .i64 0, .int .i64 0, .int .i64 0, .int .i64 0, .slice none 0 0, .slice none 0 0, .slice none 0 0] 30)
 obtain ⟨nt, fX⟩ : ∃ x, kt.length = x := ⟨_, rfl⟩
 obtain ⟨nd, gK⟩ : ∃ x, kd.length = x := ⟨_, rfl⟩
 obtain ⟨ni, Eg⟩ : ∃ x, ki.length = x := ⟨_, rfl⟩
 have Tw : nt ≤ 8 := by omega
 have QK : nd ≤ 16 := by omega
 have Nj : ni ≤ 16 := by omega
 have uo := (show Hid (kt.length = nt ∧ s.tx.length = nt) from ⟨fX, by omega⟩)
 have tP := (show Hid (kd.length = nd ∧ s.dy.length = nd) from ⟨gK, by omega⟩)
 have Aj := (show Hid (ki.length = ni ∧ s.im.length = ni) from ⟨Eg, by omega⟩)
 clear lQ hs hb TO GV GL h8 Lm SS fX gK Eg
 go_enter Tryz.func31, Tryz.ntmps31
 go_upto_region 1 with fail
 generalize w.alloc (.cells #[.int .i64 0, .int .i64 0, .int .i64 0, .int .i64 0, .slice none 0 0, .slice none 0 0, .slice none 0 0] 30) = w1 at *
 obtain ⟨Z, hZ⟩ : ∃ x, w.heap.size = x := ⟨_, rfl⟩
 rw [hZ] at lx ⊢
 have nX : w.heap.size ≤ Z := by omega
 have AZ := hid hZ
 clear hZ
 have lZ := hid (ob.out.same bq.out)
 obtain ⟨nx, qt⟩ : ∃ x, s.nx = x := ⟨_, rfl⟩
 have qV := hid qt
 obtain ⟨t0, t1, t2, t3⟩ := lZ.out.box.all4
 rw [qt] at t0
 clear qt
 go_cut [3] (fun v wx => ∃ (O : Nat) (ia : Option Addr) (ic : Nat), v = .pointer (some ⟨O, 0, none⟩) ∧ Z < O ∧ Hid (AnT w wx O ⟨s.nx, [], [], s.im⟩ none 0 0 none 0 0 ia ni ic) ∧ Hid (Same w1 wx))
 case first =>
  refine wp_region_V (fun wx : World => wx.cell? ⟨T, 0, none⟩ = some (.int .i64 nx) ∧ wx.cell? ⟨T, 3, none⟩ = some (.map (some Bi))) 12 13 rfl (by kernel_rfl) ?_
  have hd : Same w1 w1.drew := (Kept.refl _ _).drew
  generalize w1.drew = w2 at *
  have hS : (fun wx : World => wx.cell? ⟨T, 0, none⟩ = some (.int .i64 nx) ∧ wx.cell? ⟨T, 3, none⟩ = some (.map (some Bi))) w2 := ⟨hd.cellOf t0 id, hd.cellOf t3 id⟩
  refine tk 0 8 hS ?_
  refine tk 1 9 hS ?_
  refine tk 2 10 hS ?_
  refine tk 3 11 hS ?_
  refine tk 4 12 hS ?_
  refine tk 5 13 hS ?_
  refine tk 6 14 hS ?_
  refine tk 7 15 hS ?_
  have mb := hid hd
  refine wpAnyV_two (i := 8) (j := 11) (by kernel_rfl) rfl rfl (fun Kc hK => ?_) (fun Kc hK => ?_)
  ·have FK := mb.out.size
   go_simp
   refine (keysA_any (some Bi) w2).mono ?_
   rintro e w3 ⟨rfl, hw⟩
   have eR : Same w2 w3 := by rw [hw]; exact (Kept.refl _ _).alloc _
   have pO : w3.cell? ⟨w2.heap.size, 0, none⟩ = some (.map (some Bi)) := by rw [hw]; simp
   obtain ⟨P, hP⟩ : ∃ x, w2.heap.size = x := ⟨_, rfl⟩
   rw [hP] at pO ⊢
   have nY := hid pO
   have l8 := hid (mb.out.trans eR)
   have hS : (fun wx : World => wx.cell? ⟨T, 0, none⟩ = some (.int .i64 nx) ∧ wx.cell? ⟨T, 3, none⟩ = some (.map (some Bi))) w3 := ⟨eR.cellOf hS.1 id, eR.cellOf hS.2 id⟩
   clear hw pO
   refine hK.out _ _ (fun _ => hS) ?_
   clear hK Kc
   try simp only [Act.put, sA, s0, sS]
   refine wpAnyV_two (i := 9) (j := 11) (by kernel_rfl) rfl rfl (fun Kc hK => ?_) (fun Kc hK => ?_)
   ·skip
    go_simp
    refine (sortedAg w3 P Bi ci ki (nY.out) ((lZ.out.mi.same l8.out)) lZ.out.oki (by rw [Aj.out.1]; omega) F8.out).mono ?_
    rintro e w4 ⟨v, rfl, ik, eR⟩
    rw [vq.out, Aj.out.1] at ik
    obtain ⟨ia, ic, rfl, qb, uv⟩ := own_sorted ik
    have AJ := hid qb
    have Ac := hid uv
    have nQ := hid (l8.out.trans eR)
    have hS : (fun wx : World => wx.cell? ⟨T, 0, none⟩ = some (.int .i64 nx) ∧ wx.cell? ⟨T, 3, none⟩ = some (.map (some Bi))) w4 := ⟨eR.cellOf hS.1 id, eR.cellOf hS.2 id⟩
    clear ik qb uv
    refine hK.out _ _ (fun _ => hS) ?_
    clear hK Kc
    try simp only [Act.put, sA, s0, sS]
    have Vb := nQ.out.size
    refine tkV 10 18 (.agg #[.int .i64 0, .int .i64 0, .int .i64 0, .int .i64 nx, .slice none 0 0, .slice none 0 0, .slice ia ni ic]) hS ?_
    refine wpAnyV_one (i := 11) (by kernel_rfl) rfl (fun Kc hK => ?_)
    go_simp
    obtain ⟨O, hO⟩ : ∃ x, w4.heap.size = x := ⟨_, rfl⟩
    have eR : Same w4 (w4.alloc (.cells #[.int .i64 0, .int .i64 0, .int .i64 0, .int .i64 0, .slice none 0 0, .slice none 0 0, .slice none 0 0] 30)) := (Kept.refl _ _).alloc _
    have tI := hid (Blk.newL w4 [.int .i64 0, .int .i64 0, .int .i64 0, .int .i64 0, .slice none 0 0, .slice none 0 0, .slice none 0 0] 30)
    rw [hO] at tI ⊢
    have jC : Z < O := by have h1 := lx.out.lt; have h2 := nQ.out.size; omega
    generalize w4.alloc (.cells #[.int .i64 0, .int .i64 0, .int .i64 0, .int .i64 0, .slice none 0 0, .slice none 0 0, .slice none 0 0] 30) = w5 at *
    have oL := hid (nQ.out.trans eR)
    have hS : (fun wx : World => wx.cell? ⟨T, 0, none⟩ = some (.int .i64 nx) ∧ wx.cell? ⟨T, 3, none⟩ = some (.map (some Bi))) w5 := ⟨eR.cellOf hS.1 id, eR.cellOf hS.2 id⟩
    refine hK.out _ _ (fun _ => hS) ?_
    clear hK Kc
    try simp only [Act.put, sA, s0, sS]
    have s8 : w1.heap.size ≤ O := by omega
    have eg : Blk w5 O 30 [.int .i64 0, .int .i64 0, .int .i64 0, .int .i64 0, .slice none 0 0, .slice none 0 0, .slice none 0 0] := tI.out
    have qb : OwQ 1 2 w5 ia ni ic s.im := AJ.out.same eR
    have oy : ∀ b, (Value.slice ia ni ic).ownBlock = some b → b ≠ O ∧ w.heap.size < b := fun b hb => ⟨by have h1 := AJ.out.lt b hb; omega, by have h1 := Ac.out b hb; have h2 := l8.out.size; have h3 := lx.out.lt; have h4 := AZ.out; omega⟩
    refine wpAnyV_one (i := 12) (by kernel_rfl) rfl (fun Kc hK => ?_)
    obtain ⟨cs, dY⟩ : ∃ cs : List Value, [.int .i64 0, .int .i64 0, .int .i64 0, .int .i64 nx, .slice none 0 0, .slice none 0 0, .slice ia ni ic] = cs := ⟨_, rfl⟩
    have ox := (show Blk (w5.setCells O 0 cs) O 30 [.int .i64 0, .int .i64 0, .int .i64 0, .int .i64 nx, .slice none 0 0, .slice none 0 0, .slice ia ni ic] from by rw [dY]; exact blk_putA eg cs (by rw [← dY]; rfl))
    have j5 : Kept (fun b => b = O) w5 (w5.setCells O 0 cs) := Kept.setCells (R := fun b => b = O) (.inr rfl) _ _ (Kept.refl (fun b => b = O) _)
    refine step_storeB (by rfl) 30 (.tmp 3) (.tmp 18) (by rfl) O 0 cs.toArray (by rfl) (by rw [← dY]; rfl) (by rw [List.size_toArray]; exact eg.there 0 _ (by rw [← dY]; exact Nat.le_refl _)) (by rw [List.size_toArray, ← dY]; kernel_rfl) (by rw [← dY]; simp [Value.oneCell']) ?_
    rw [List.toList_toArray]
    have mD := (show Hid (AnT w (w5.setCells O 0 cs) O ⟨s.nx, [], [], s.im⟩ none 0 0 none 0 0 ia ni ic) from
     ⟨OwQ.nil _ _ _, OwQ.nil _ _ _, qb.kept j5 (fun b hb e => (oy b hb).1 e), fun b h => by simp [Value.ownBlock] at h, fun b h => by simp [Value.ownBlock] at h, oy, fun b h => by simp [Value.ownBlock] at h, fun b h => by simp [Value.ownBlock] at h, fun b h => by simp [Value.ownBlock] at h, (bq.out.trans oL.out).next j5 (fun b hb e => by omega), by omega, by rw [qV.out]; exact ox⟩)
    have Cx := lx.out.lt
    have DC := hid (oL.out.next j5 (fun b hb e => by have := s8; omega))
    refine hK.out _ _ (fun h => absurd rfl h) ?_
    clear hK Kc j5 ox
    try simp only [List.getElem_toArray, List.getElem_cons_succ, List.getElem_cons_zero]
    refine wpAnyV_done (by kernel_rfl) ?_
    try simp only [Act.put, sA, s0, sS]
    generalize w5.setCells O 0 cs = w9 at *
    go_wp2_with fail
    go_meet
    case rel => exact ⟨O, ia, ic, rfl, jC, mD, DC⟩
   ·skip
    go_simp
    obtain ⟨O, hO⟩ : ∃ x, w3.heap.size = x := ⟨_, rfl⟩
    have eR : Same w3 (w3.alloc (.cells #[.int .i64 0, .int .i64 0, .int .i64 0, .int .i64 0, .slice none 0 0, .slice none 0 0, .slice none 0 0] 30)) := (Kept.refl _ _).alloc _
    have tI := hid (Blk.newL w3 [.int .i64 0, .int .i64 0, .int .i64 0, .int .i64 0, .slice none 0 0, .slice none 0 0, .slice none 0 0] 30)
    rw [hO] at tI ⊢
    have jC : Z < O := by have h1 := lx.out.lt; have h2 := l8.out.size; omega
    generalize w3.alloc (.cells #[.int .i64 0, .int .i64 0, .int .i64 0, .int .i64 0, .slice none 0 0, .slice none 0 0, .slice none 0 0] 30) = w4 at *
    have nQ := hid (l8.out.trans eR)
    have hS : (fun wx : World => wx.cell? ⟨T, 0, none⟩ = some (.int .i64 nx) ∧ wx.cell? ⟨T, 3, none⟩ = some (.map (some Bi))) w4 := ⟨eR.cellOf hS.1 id, eR.cellOf hS.2 id⟩
    refine hK.out _ _ (fun _ => hS) ?_
    clear hK Kc
    try simp only [Act.put, sA, s0, sS]
    have s8 : w1.heap.size ≤ O := by have h1 := l8.out.size; omega
    have uk := tI
    have Gj := tI.out.lt
    have KJ := hid (eR.cellOf nY.out id)
    clear eR
    refine wpAnyV_one (i := 9) (by kernel_rfl) rfl (fun Kc hK => ?_)
    go_simp
    refine (sortedAg w4 P Bi ci ki (KJ.out) ((lZ.out.mi.same nQ.out)) lZ.out.oki (by rw [Aj.out.1]; omega) F8.out).mono ?_
    rintro e w5 ⟨v, rfl, ik, eR⟩
    rw [vq.out, Aj.out.1] at ik
    obtain ⟨ia, ic, rfl, qb, uv⟩ := own_sorted ik
    have AJ := hid qb
    have Ac := hid uv
    have oL := hid (nQ.out.trans eR)
    have hS : (fun wx : World => wx.cell? ⟨T, 0, none⟩ = some (.int .i64 nx) ∧ wx.cell? ⟨T, 3, none⟩ = some (.map (some Bi))) w5 := ⟨eR.cellOf hS.1 id, eR.cellOf hS.2 id⟩
    clear ik qb uv
    refine hK.out _ _ (fun _ => hS) ?_
    clear hK Kc
    try simp only [Act.put, sA, s0, sS]
    refine tkV 10 18 (.agg #[.int .i64 0, .int .i64 0, .int .i64 0, .int .i64 nx, .slice none 0 0, .slice none 0 0, .slice ia ni ic]) hS ?_
    have eg : Blk w5 O 30 [.int .i64 0, .int .i64 0, .int .i64 0, .int .i64 0, .slice none 0 0, .slice none 0 0, .slice none 0 0] := uk.out.same eR
    have qb : OwQ 1 2 w5 ia ni ic s.im := AJ.out
    have oy : ∀ b, (Value.slice ia ni ic).ownBlock = some b → b ≠ O ∧ w.heap.size < b := fun b hb => ⟨by have h1 := Ac.out b hb; omega, by have h1 := Ac.out b hb; have h2 := nQ.out.size; have h3 := lx.out.lt; have h4 := AZ.out; omega⟩
    refine wpAnyV_one (i := 12) (by kernel_rfl) rfl (fun Kc hK => ?_)
    obtain ⟨cs, dY⟩ : ∃ cs : List Value, [.int .i64 0, .int .i64 0, .int .i64 0, .int .i64 nx, .slice none 0 0, .slice none 0 0, .slice ia ni ic] = cs := ⟨_, rfl⟩
    have ox := (show Blk (w5.setCells O 0 cs) O 30 [.int .i64 0, .int .i64 0, .int .i64 0, .int .i64 nx, .slice none 0 0, .slice none 0 0, .slice ia ni ic] from by rw [dY]; exact blk_putA eg cs (by rw [← dY]; rfl))
    have j5 : Kept (fun b => b = O) w5 (w5.setCells O 0 cs) := Kept.setCells (R := fun b => b = O) (.inr rfl) _ _ (Kept.refl (fun b => b = O) _)
    refine step_storeB (by rfl) 30 (.tmp 3) (.tmp 18) (by rfl) O 0 cs.toArray (by rfl) (by rw [← dY]; rfl) (by rw [List.size_toArray]; exact eg.there 0 _ (by rw [← dY]; exact Nat.le_refl _)) (by rw [List.size_toArray, ← dY]; kernel_rfl) (by rw [← dY]; simp [Value.oneCell']) ?_
    rw [List.toList_toArray]
    have mD := (show Hid (AnT w (w5.setCells O 0 cs) O ⟨s.nx, [], [], s.im⟩ none 0 0 none 0 0 ia ni ic) from
     ⟨OwQ.nil _ _ _, OwQ.nil _ _ _, qb.kept j5 (fun b hb e => (oy b hb).1 e), fun b h => by simp [Value.ownBlock] at h, fun b h => by simp [Value.ownBlock] at h, oy, fun b h => by simp [Value.ownBlock] at h, fun b h => by simp [Value.ownBlock] at h, fun b h => by simp [Value.ownBlock] at h, (bq.out.trans oL.out).next j5 (fun b hb e => by omega), by omega, by rw [qV.out]; exact ox⟩)
    have Cx := lx.out.lt
    have DC := hid (oL.out.next j5 (fun b hb e => by have := s8; omega))
    refine hK.out _ _ (fun h => absurd rfl h) ?_
    clear hK Kc j5 ox
    try simp only [List.getElem_toArray, List.getElem_cons_succ, List.getElem_cons_zero]
    refine wpAnyV_done (by kernel_rfl) ?_
    try simp only [Act.put, sA, s0, sS]
    generalize w5.setCells O 0 cs = w9 at *
    go_wp2_with fail
    go_meet
    case rel => exact ⟨O, ia, ic, rfl, jC, mD, DC⟩
  ·have FK := mb.out.size
   go_simp
   obtain ⟨O, hO⟩ : ∃ x, w2.heap.size = x := ⟨_, rfl⟩
   have eR : Same w2 (w2.alloc (.cells #[.int .i64 0, .int .i64 0, .int .i64 0, .int .i64 0, .slice none 0 0, .slice none 0 0, .slice none 0 0] 30)) := (Kept.refl _ _).alloc _
   have tI := hid (Blk.newL w2 [.int .i64 0, .int .i64 0, .int .i64 0, .int .i64 0, .slice none 0 0, .slice none 0 0, .slice none 0 0] 30)
   rw [hO] at tI ⊢
   have jC : Z < O := by have h1 := lx.out.lt; have h2 := mb.out.size; omega
   generalize w2.alloc (.cells #[.int .i64 0, .int .i64 0, .int .i64 0, .int .i64 0, .slice none 0 0, .slice none 0 0, .slice none 0 0] 30) = w3 at *
   have l8 := hid (mb.out.trans eR)
   have hS : (fun wx : World => wx.cell? ⟨T, 0, none⟩ = some (.int .i64 nx) ∧ wx.cell? ⟨T, 3, none⟩ = some (.map (some Bi))) w3 := ⟨eR.cellOf hS.1 id, eR.cellOf hS.2 id⟩
   refine hK.out _ _ (fun _ => hS) ?_
   clear hK Kc
   try simp only [Act.put, sA, s0, sS]
   have s8 : w1.heap.size ≤ O := by omega
   have FG := tI
   have SY := tI.out.lt
   clear eR
   refine wpAnyV_one (i := 8) (by kernel_rfl) rfl (fun Kc hK => ?_)
   go_simp
   refine (keysA_any (some Bi) w3).mono ?_
   rintro e w4 ⟨rfl, hw⟩
   have eR : Same w3 w4 := by rw [hw]; exact (Kept.refl _ _).alloc _
   have pO : w4.cell? ⟨w3.heap.size, 0, none⟩ = some (.map (some Bi)) := by rw [hw]; simp
   obtain ⟨P, hP⟩ : ∃ x, w3.heap.size = x := ⟨_, rfl⟩
   rw [hP] at pO ⊢
   have nY := hid pO
   have nQ := hid (l8.out.trans eR)
   have hS : (fun wx : World => wx.cell? ⟨T, 0, none⟩ = some (.int .i64 nx) ∧ wx.cell? ⟨T, 3, none⟩ = some (.map (some Bi))) w4 := ⟨eR.cellOf hS.1 id, eR.cellOf hS.2 id⟩
   clear hw pO
   refine hK.out _ _ (fun _ => hS) ?_
   clear hK Kc
   try simp only [Act.put, sA, s0, sS]
   have uk := hid (FG.out.same eR)
   have Gj := uk.out.lt
   clear eR
   refine wpAnyV_one (i := 9) (by kernel_rfl) rfl (fun Kc hK => ?_)
   go_simp
   refine (sortedAg w4 P Bi ci ki (nY.out) ((lZ.out.mi.same nQ.out)) lZ.out.oki (by rw [Aj.out.1]; omega) F8.out).mono ?_
   rintro e w5 ⟨v, rfl, ik, eR⟩
   rw [vq.out, Aj.out.1] at ik
   obtain ⟨ia, ic, rfl, qb, uv⟩ := own_sorted ik
   have AJ := hid qb
   have Ac := hid uv
   have oL := hid (nQ.out.trans eR)
   have hS : (fun wx : World => wx.cell? ⟨T, 0, none⟩ = some (.int .i64 nx) ∧ wx.cell? ⟨T, 3, none⟩ = some (.map (some Bi))) w5 := ⟨eR.cellOf hS.1 id, eR.cellOf hS.2 id⟩
   clear ik qb uv
   refine hK.out _ _ (fun _ => hS) ?_
   clear hK Kc
   try simp only [Act.put, sA, s0, sS]
   refine tkV 10 18 (.agg #[.int .i64 0, .int .i64 0, .int .i64 0, .int .i64 nx, .slice none 0 0, .slice none 0 0, .slice ia ni ic]) hS ?_
   have eg : Blk w5 O 30 [.int .i64 0, .int .i64 0, .int .i64 0, .int .i64 0, .slice none 0 0, .slice none 0 0, .slice none 0 0] := uk.out.same eR
   have qb : OwQ 1 2 w5 ia ni ic s.im := AJ.out
   have oy : ∀ b, (Value.slice ia ni ic).ownBlock = some b → b ≠ O ∧ w.heap.size < b := fun b hb => ⟨by have h1 := Ac.out b hb; omega, by have h1 := Ac.out b hb; have h2 := nQ.out.size; have h3 := lx.out.lt; have h4 := AZ.out; omega⟩
   refine wpAnyV_one (i := 12) (by kernel_rfl) rfl (fun Kc hK => ?_)
   obtain ⟨cs, dY⟩ : ∃ cs : List Value, [.int .i64 0, .int .i64 0, .int .i64 0, .int .i64 nx, .slice none 0 0, .slice none 0 0, .slice ia ni ic] = cs := ⟨_, rfl⟩
   have ox := (show Blk (w5.setCells O 0 cs) O 30 [.int .i64 0, .int .i64 0, .int .i64 0, .int .i64 nx, .slice none 0 0, .slice none 0 0, .slice ia ni ic] from by rw [dY]; exact blk_putA eg cs (by rw [← dY]; rfl))
   have j5 : Kept (fun b => b = O) w5 (w5.setCells O 0 cs) := Kept.setCells (R := fun b => b = O) (.inr rfl) _ _ (Kept.refl (fun b => b = O) _)
   refine step_storeB (by rfl) 30 (.tmp 3) (.tmp 18) (by rfl) O 0 cs.toArray (by rfl) (by rw [← dY]; rfl) (by rw [List.size_toArray]; exact eg.there 0 _ (by rw [← dY]; exact Nat.le_refl _)) (by rw [List.size_toArray, ← dY]; kernel_rfl) (by rw [← dY]; simp [Value.oneCell']) ?_
   rw [List.toList_toArray]
   have mD := (show Hid (AnT w (w5.setCells O 0 cs) O ⟨s.nx, [], [], s.im⟩ none 0 0 none 0 0 ia ni ic) from
    ⟨OwQ.nil _ _ _, OwQ.nil _ _ _, qb.kept j5 (fun b hb e => (oy b hb).1 e), fun b h => by simp [Value.ownBlock] at h, fun b h => by simp [Value.ownBlock] at h, oy, fun b h => by simp [Value.ownBlock] at h, fun b h => by simp [Value.ownBlock] at h, fun b h => by simp [Value.ownBlock] at h, (bq.out.trans oL.out).next j5 (fun b hb e => by omega), by omega, by rw [qV.out]; exact ox⟩)
   have Cx := lx.out.lt
   have DC := hid (oL.out.next j5 (fun b hb e => by have := s8; omega))
   refine hK.out _ _ (fun h => absurd rfl h) ?_
   clear hK Kc j5 ox
   try simp only [List.getElem_toArray, List.getElem_cons_succ, List.getElem_cons_zero]
   refine wpAnyV_done (by kernel_rfl) ?_
   try simp only [Act.put, sA, s0, sS]
   generalize w5.setCells O 0 cs = w9 at *
   go_wp2_with fail
   go_meet
   case rel => exact ⟨O, ia, ic, rfl, jC, mD, DC⟩
 case rest =>
  obtain ⟨O, ia, ic, rfl, Sg, mD, zi⟩ := hcut
  obtain ⟨wq, Ky⟩ : ∃ x, x = wc := ⟨_, rfl⟩
  subst Ky
  clear t0 t1 t2 t3 lZ
  have wm := hid (ob.out.same mD.out.keep)
  have Cd := hid (lx.out.same zi.out)
  clear lx zi bq
  obtain ⟨t0, t1, t2, t3⟩ := wm.out.box.all4
  have zQ := (show Hid (∀ p l, (p, l) ∈ s.dy → ∃ pre b post, kd = pre ++ (p, Value.int .i64 l, b) :: post ∧ ∀ e ∈ pre, e.1 ≠ p) from fun p l hm => by
   have hp := ob.out.ed
   rcases kv_cases p kd with hn | ⟨pre, v, b, post, rfl, gm⟩
   ·have h1 : (p, Value.int .i64 l) ∈ kd.map fun e => (e.1, e.2.1) := hp.mem_iff.2 (List.mem_map.2 ⟨(p, l), hm, rfl⟩)
    obtain ⟨e, he, e1⟩ := List.mem_map.1 h1
    exact absurd (congrArg Prod.fst e1) (hn e he)
   ·have h1 : (p, v) ∈ s.dy.map fun d => (d.1, Value.int .i64 d.2) := hp.mem_iff.1 (List.mem_map.2 ⟨(p, v, b), by simp, rfl⟩)
    obtain ⟨⟨p', l'⟩, hd, e1⟩ := List.mem_map.1 h1
    injection e1 with e1 e2
    dsimp only at e1 e2
    have h2 := Jv.out.one hd hm (show kD (p', l') = kD (p, l) from e1)
    injection h2 with _ h2
    subst h2
    subst e2
    exact ⟨pre, b, post, rfl, gm⟩)
  go_wp2_with fail
  refine (keysB_any (some Bt) wq).mono ?_
  rintro e wj ⟨rfl, hw⟩
  have eR : Same wq wj := by rw [hw]; exact (Kept.refl _ _).alloc _
  have pO : wj.cell? ⟨wq.heap.size, 0, none⟩ = some (.map (some Bt)) := by rw [hw]; simp
  obtain ⟨P, hP⟩ : ∃ x, wq.heap.size = x := ⟨_, rfl⟩
  rw [hP] at pO ⊢
  have nY := hid pO
  have HJ := hid eR
  have Jg : O < wj.heap.size := (mD.out.same eR).box.lt
  clear hw pO hP eR
  go_wp2_with fail
  refine (sortedBg wj P Bt ct kt nY.out (wm.out.mt.same HJ.out) wm.out.okt (by rw [uo.out.1]; omega) Tv.out).mono ?_
  rintro e wk ⟨v, rfl, ik, eR⟩
  rw [yF.out, uo.out.1] at ik
  obtain ⟨ka, kc, rfl, yU, tL⟩ := own_sorted ik
  have BJ := hid yU
  have wN := (show Hid (∀ b, (Value.slice ka nt kc).ownBlock = some b → O < b ∧ b < wk.heap.size) from fun b hb => ⟨by have := tL b hb; omega, yU.lt b hb⟩)
  have sy := hid (mD.out.same (HJ.out.trans eR))
  have uh := hid (Cd.out.same (HJ.out.trans eR))
  have TW : Z < wk.heap.size := uh.out.lt
  clear ik yU tL eR HJ nY Jg mD Cd wm
  clear t0 t1 t2 t3
  go_wp2_with fail
  go_loopw [26] (fun i wr => ∃ (j : Nat) (ta : Option Addr) (tc : Nat), j ≤ nt ∧ i = .int .i64 j ∧ Hid (AnT w wr O ⟨s.nx, s.tx.take j, [], s.im⟩ ta j tc none 0 0 ia ni ic) ∧ Hid (Blk wr Z 30 [.int .i64 0, .int .i64 0, .int .i64 0, .int .i64 0, .slice none 0 0, .slice none 0 0, .slice none 0 0]) ∧ Hid (OwQ 1 2 wr ka nt kc (s.tx.map kQ)) ∧ Hid (∀ b, (Value.slice ta j tc).ownBlock = some b → wk.heap.size ≤ b) ∧ Hid (wk.heap.size ≤ wr.heap.size)) (fun i _ => nt - (intOf i).toNat)
  case atStart => exact ⟨0, none, 0, Nat.zero_le _, rfl, sy, uh, BJ, fun b hb => by simp [Value.ownBlock] at hb, Nat.le_refl _⟩
  case round =>
   clear sy uh BJ
   obtain ⟨j, ta, tc, hj, rfl, jv, lB, ef, rk, Fu⟩ := hrel
   have uC := Fu.out
   have lJ := hid (ob.out.same jv.out.keep)
   obtain ⟨t0, t1, t2, t3⟩ := lJ.out.box.all4
   by_cases dh : j < nt
   ·have ow : j < s.tx.length := by rw [uo.out.2]; exact dh
    obtain ⟨⟨a, st, l, u⟩, hq⟩ : ∃ q, s.tx[j] = q := ⟨_, rfl⟩
    obtain ⟨kb, Ag, r8, zU⟩ := ef.out.rd.someQ (by dsimp only; omega)
    dsimp only at r8 zU
    have bk := hid ef.out.rd
    obtain ⟨pk, Ss⟩ : ∃ x, x = ka := ⟨_, rfl⟩
    have jq : wr.cell? ⟨kb, Ag + j, none⟩ = some (.int .i64 a) := by
     have h := ef.out.rd
     rw [r8] at h
     exact RdF.uno h (by rw [List.length_map]; exact uo.out.2) j (by rw [List.length_map]; exact ow) a (by rw [getD_kI (by rw [List.length_map]; exact ow), List.getElem_map, hq])
    have oR : getK kQ a s.tx = some (a, st, l, u) := by
     have h1 : s.tx = s.tx.take j ++ (a, st, l, u) :: s.tx.drop (j + 1) := by rw [← hq]; simp
     rw [h1]
     refine getK_mid (fun x hx => ?_) rfl
     obtain ⟨i, hi, rfl⟩ := List.getElem_of_mem hx
     rw [List.length_take] at hi
     rw [List.getElem_take]
     have := List.pairwise_iff_getElem.1 EB.out i j (by omega) ow (by omega)
     rw [hq] at this
     simp only [kQ] at this ⊢
     omega
    obtain ⟨pre, b, post, g, t7, gm, lr⟩ := lJ.out.hit EB.out oR
    have nN : Hid (s.tx.take (j + 1) = s.tx.take j ++ [(a, st, l, u)]) := by unfold Hid; rw [List.take_succ_eq_append_getElem ow, hq]
    have JM := hid t7
    have HP := hid gm
    have zo := hid lr
    have ET : (j : Int) < (nt : Int) := by omega
    have Tj := hid r8
    obtain ⟨g0, g1, g2, g3⟩ := zo.out.all4
    have Rl : g < w.heap.size := (ob.out.entT (e := (a, .pointer (some ⟨g, 0, none⟩), b)) (by rw [t7]; simp) rfl).2.2.2.2
    clear hq oR t7 gm lr Ss
    rw [r8] at ef wN ⊢
    clear bk r8
    go_upto_region 5 with fail
    refine wp_region_V (fun wx : World => wx.cell? ⟨O, 4, none⟩ = some (.slice ta j tc) ∧ wx.cell? ⟨T, 1, none⟩ = some (.map (some Bt)) ∧ MapB wx Bt kt ct ∧ Blk wx g 57 (entC (a, st, l, u))) 13 14 rfl (by kernel_rfl) ?_
    have hd : Same wr wr.drew := (Kept.refl _ _).drew
    generalize wr.drew = wd at *
    have hS : (fun wx : World => wx.cell? ⟨O, 4, none⟩ = some (.slice ta j tc) ∧ wx.cell? ⟨T, 1, none⟩ = some (.map (some Bt)) ∧ MapB wx Bt kt ct ∧ Blk wx g 57 (entC (a, st, l, u))) wd := ⟨hd.cellOf jv.out.box.c4 id, hd.cellOf t1 id, lJ.out.mt.same hd, zo.out.same hd⟩
    have vj := hid hd
    refine tk 0 30 hS ?_
    refine tk 1 31 hS ?_
    refine tk 2 32 hS ?_
    refine tk 3 33 hS ?_
    refine tk 4 34 hS ?_
    refine tk 5 35 hS ?_
    refine tk 6 36 hS ?_
    refine tkV 7 37 (.pointer (some ⟨g, 0, none⟩)) hS ?_ (hy := fun wx cI => exec_lookup rfl rfl rfl (run_lookup_hit Tryz.underlying90 Tryz.underlying2 (by have h := cI.2.2.1; rw [JM.out] at h; exact h) HP.out false))
    refine tk 8 38 hS ?_
    refine tkV 9 39 (.agg #[.int .i64 a, .int .i64 st, .int .i64 l, .int .i64 u]) hS ?_ (hy := fun wx cI => exec_load_mid (cs := [.int .i64 a, .int .i64 st, .int .i64 l, .int .i64 u]) rfl rfl cI.2.2.2.rangeAll Tryz.underlying57 rfl (by kernel_rfl))
    refine wpAnyV_one (i := 10) (by kernel_rfl) rfl (fun Kc hK => ?_)
    go_simp
    have eR : Same wd (wd.alloc (.cells #[.int .i64 a, .int .i64 st, .int .i64 l, .int .i64 u] 57)) := (Kept.refl _ _).alloc _
    have hS : (fun wx : World => wx.cell? ⟨O, 4, none⟩ = some (.slice ta j tc) ∧ wx.cell? ⟨T, 1, none⟩ = some (.map (some Bt)) ∧ MapB wx Bt kt ct ∧ Blk wx g 57 (entC (a, st, l, u))) (wd.alloc (.cells #[.int .i64 a, .int .i64 st, .int .i64 l, .int .i64 u] 57)) := ⟨eR.cellOf hS.1 id, eR.cellOf hS.2.1 id, hS.2.2.1.same eR, hS.2.2.2.same eR⟩
    refine hK.out _ _ (fun _ => hS) ?_
    clear hK Kc
    try simp only [Act.put, sA, s0, sS]
    have rY := Blk.newL wd [.int .i64 a, .int .i64 st, .int .i64 l, .int .i64 u] 57
    have hq : Same wr (wd.alloc (.cells #[.int .i64 a, .int .i64 st, .int .i64 l, .int .i64 u] 57)) := vj.out.trans eR
    obtain ⟨a5, c5, w5, yP, By, yp⟩ := run_appQ (ty := 26) Tryz.underlying26 pZ lj lq lf rfl (by omega) (by omega) ((jv.out.own4).same hq) ⟨wd.heap.size, 0, none⟩ 1 1 [a, st, l, u] rfl (fun j u hu => by rw [addr_add, Nat.zero_add, rY.cell]; exact hu) (by omega)
    have G9 := jv.out.growT hq (tx' := s.tx.take j ++ [(a, st, l, u)]) (by rw [flat4_append]; exact By) yp
    obtain ⟨Bb, tC, tW⟩ := G9
    have Bm := hid Bb
    have fM := hid tW
    have ma := hid yP
    have ot := (show Hid (∀ b, (Value.slice a5 (j + 1) c5).ownBlock = some b → wk.heap.size ≤ b) from fun b hb => by
     rcases yp.own b hb with h1 | h1
     ·exact rk.out b h1
     ·have h2 := hq.size; have h3 := uC; omega)
    have hS : (fun wx : World => wx.cell? ⟨O, 4, none⟩ = some (.slice ta j tc) ∧ wx.cell? ⟨T, 1, none⟩ = some (.map (some Bt)) ∧ MapB wx Bt kt ct ∧ Blk wx g 57 (entC (a, st, l, u))) w5 := ⟨tC.c4, tW.cellOf t1 (fun e => by have h1 := (jv.out.f4 _ e).2; dsimp only at h1; omega), lJ.out.mt.kept tW (fun e => by have := (jv.out.f4 _ e).2; have := ob.out.mt.lt; omega), zo.out.kept tW (fun e => by have := (jv.out.f4 _ e).2; omega)⟩
    refine wpAnyV_one (i := 11) (by kernel_rfl) rfl (fun Kc hK => ?_)
    refine step_append_runQ (by rfl) (.tmp 31) (.tmp 40) 26 26 (by rfl) _ _ (by rfl) (by rfl) _ _ ma.out ?_
    refine hK.out _ _ (fun _ => hS) ?_
    clear hK Kc
    try simp only [List.getElem_toArray, List.getElem_cons_succ, List.getElem_cons_zero]
    try simp only [Act.put, sA, s0, sS]
    refine tk 12 42 hS ?_
    have bc := tC.c4
    have bf := tC.frozen
    have bl := tC.lt
    refine wpAnyV_one (i := 13) (by kernel_rfl) rfl (fun Kc hK => ?_)
    go_simp
    refine hK.out _ _ (fun h => absurd rfl h) ?_
    clear hK Kc
    refine wpAnyV_done (by kernel_rfl) ?_
    try simp only [Act.put, sA, s0, sS]
    have nF : Kept (fun b => b = O) w5 (w5.setCell ⟨O, 4, none⟩ (.slice a5 (j + 1) c5)) := Kept.setCell (R := fun b => b = O) (Kept.refl _ _) (p := ⟨O, 4, none⟩) (.inr rfl) _
    have Ka := (show Hid (wk.heap.size ≤ (w5.setCell ⟨O, 4, none⟩ (.slice a5 (j + 1) c5)).heap.size) from by have h1 := fM.out.size; have h2 := nF.size; unfold Hid; omega)
    have uA := hid ((lB.out.kept fM.out (fun e => by have := (jv.out.f4 _ e).2; have := AZ.out; omega)).kept nF (by omega))
    have jd := hid ((ef.out.kept fM.out (fun b hb e => by have := rk.out b e; have := (wN.out b hb).2; omega)).kept nF (fun b hb e => by have := (wN.out b hb).1; omega))
    clear nF hS bc bf bl eR rY hq yP By yp Bb tC tW ma vj hd
    generalize w5.setCell ⟨O, 4, none⟩ (.slice a5 (j + 1) c5) = w6 at *
    go_wp2
    go_roundw
    case rel => exact ⟨j + 1, a5, c5, by omega, by go_num, by rw [nN.out]; exact Bm, uA, jd, ot, Ka⟩
    case measure => simp [intOf]; omega
   ·obtain rfl : nt = j := by omega
    have nD : s.tx.take nt = s.tx := by rw [← uo.out.2]; exact List.take_length
    rw [nD] at jv
    clear nD ef rk wN Fu uC
    obtain ⟨wp, RD⟩ : ∃ x, x = wr := ⟨_, rfl⟩
    subst RD
    have mD := jv
    have Cd := lB
    have wm := lJ
    clear jv lB lJ
    go_wp2_with fail
    refine (keysC_any (some Bd) wp).mono ?_
    rintro e wj ⟨rfl, hw⟩
    have eR : Same wp wj := by rw [hw]; exact (Kept.refl _ _).alloc _
    have pO : wj.cell? ⟨wp.heap.size, 0, none⟩ = some (.map (some Bd)) := by rw [hw]; simp
    obtain ⟨P, hP⟩ : ∃ x, wp.heap.size = x := ⟨_, rfl⟩
    rw [hP] at pO ⊢
    have nY := hid pO
    have HJ := hid eR
    have Jg : O < wj.heap.size := (mD.out.same eR).box.lt
    clear hw pO hP eR
    go_wp2_with fail
    refine (sortedCg wj P Bd cd kd nY.out (wm.out.md.same HJ.out) wm.out.okd (by rw [tP.out.1]; omega) Sf.out).mono ?_
    rintro e wk ⟨v, rfl, ik, eR⟩
    rw [uL.out, tP.out.1] at ik
    obtain ⟨ka, kc, rfl, yU, tL⟩ := own_sorted ik
    have BJ := hid yU
    have wN := (show Hid (∀ b, (Value.slice ka nd kc).ownBlock = some b → O < b ∧ b < wk.heap.size) from fun b hb => ⟨by have := tL b hb; omega, yU.lt b hb⟩)
    have sy := hid (mD.out.same (HJ.out.trans eR))
    have uh := hid (Cd.out.same (HJ.out.trans eR))
    have TW : Z < wk.heap.size := uh.out.lt
    clear ik yU tL eR HJ nY Jg mD Cd wm
    clear t0 t1 t2 t3
    go_wp2_with fail
    go_loopw [51] (fun i wr => ∃ (j : Nat) (da : Option Addr) (dc : Nat), j ≤ nd ∧ i = .int .i64 j ∧ Hid (AnT w wr O ⟨s.nx, s.tx, s.dy.take j, s.im⟩ ta nt tc da j dc ia ni ic) ∧ Hid (Blk wr Z 30 [.int .i64 0, .int .i64 0, .int .i64 0, .int .i64 0, .slice none 0 0, .slice none 0 0, .slice none 0 0]) ∧ Hid (OwQ 1 2 wr ka nd kc (s.dy.map kD)) ∧ Hid (∀ b, (Value.slice da j dc).ownBlock = some b → wk.heap.size ≤ b) ∧ Hid (wk.heap.size ≤ wr.heap.size)) (fun i _ => nd - (intOf i).toNat)
    case atStart => exact ⟨0, none, 0, Nat.zero_le _, rfl, sy, uh, BJ, fun b hb => by simp [Value.ownBlock] at hb, Nat.le_refl _⟩
    case round =>
     clear sy uh BJ
     obtain ⟨j, da, dc, hj, rfl, jv, lB, ef, rk, Fu⟩ := hrel
     have uC := Fu.out
     have lJ := hid (ob.out.same jv.out.keep)
     obtain ⟨t0, t1, t2, t3⟩ := lJ.out.box.all4
     by_cases dh : j < nd
     ·have ow : j < s.dy.length := by rw [tP.out.2]; exact dh
      obtain ⟨⟨p, l⟩, hq⟩ : ∃ q, s.dy[j] = q := ⟨_, rfl⟩
      obtain ⟨kb, Ag, r8, zU⟩ := ef.out.rd.someQ (by dsimp only; omega)
      dsimp only at r8 zU
      have jq : wr.cell? ⟨kb, Ag + j, none⟩ = some (.int .i64 p) := by
       have h := ef.out.rd
       rw [r8] at h
       exact RdF.uno h (by rw [List.length_map]; exact tP.out.2) j (by rw [List.length_map]; exact ow) p (by rw [getD_kI (by rw [List.length_map]; exact ow), List.getElem_map, hq])
      obtain ⟨pre, b, post, t7, gm⟩ := zQ.out p l (by rw [← hq]; exact List.getElem_mem ow)
      have nN : Hid (s.dy.take (j + 1) = s.dy.take j ++ [(p, l)]) := by unfold Hid; rw [List.take_succ_eq_append_getElem ow, hq]
      have JM := hid t7
      have HP := hid gm
      have ET : (j : Int) < (nd : Int) := by omega
      have Tj := hid r8
      clear hq t7 gm
      rw [r8] at ef wN ⊢
      clear r8
      go_upto_region 10 with fail
      refine wp_region_V (fun wx : World => wx.cell? ⟨O, 5, none⟩ = some (.slice da j dc) ∧ wx.cell? ⟨T, 2, none⟩ = some (.map (some Bd)) ∧ MapB wx Bd kd cd) 13 14 rfl (by kernel_rfl) ?_
      have hd : Same wr wr.drew := (Kept.refl _ _).drew
      generalize wr.drew = wd at *
      have hS : (fun wx : World => wx.cell? ⟨O, 5, none⟩ = some (.slice da j dc) ∧ wx.cell? ⟨T, 2, none⟩ = some (.map (some Bd)) ∧ MapB wx Bd kd cd) wd := ⟨hd.cellOf jv.out.box.c5 id, hd.cellOf t2 id, lJ.out.md.same hd⟩
      have vj := hid hd
      refine tk 0 55 hS ?_
      refine tk 1 56 hS ?_
      refine tk 2 57 hS ?_
      refine tk 3 58 hS ?_
      refine tk 4 59 hS ?_
      refine tk 5 60 hS ?_
      refine tk 6 61 hS ?_
      refine tk 7 62 hS ?_
      refine tkV 8 63 (.int .i64 l) hS ?_ (hy := fun wx cI => exec_lookup rfl rfl rfl (run_lookup_hit Tryz.underlying91 Tryz.underlying2 (by have h := cI.2.2; rw [JM.out] at h; exact h) HP.out false))
      refine tkV 9 64 (.agg #[.int .i64 p, .int .i64 l]) hS ?_
      refine wpAnyV_one (i := 10) (by kernel_rfl) rfl (fun Kc hK => ?_)
      go_simp
      have eR : Same wd (wd.alloc (.cells #[.int .i64 p, .int .i64 l] 60)) := (Kept.refl _ _).alloc _
      have hS : (fun wx : World => wx.cell? ⟨O, 5, none⟩ = some (.slice da j dc) ∧ wx.cell? ⟨T, 2, none⟩ = some (.map (some Bd)) ∧ MapB wx Bd kd cd) (wd.alloc (.cells #[.int .i64 p, .int .i64 l] 60)) := ⟨eR.cellOf hS.1 id, eR.cellOf hS.2.1 id, hS.2.2.same eR⟩
      refine hK.out _ _ (fun _ => hS) ?_
      clear hK Kc
      try simp only [Act.put, sA, s0, sS]
      have rY := Blk.newL wd [.int .i64 p, .int .i64 l] 60
      have hq : Same wr (wd.alloc (.cells #[.int .i64 p, .int .i64 l] 60)) := vj.out.trans eR
      obtain ⟨a5, c5, w5, yP, By, yp⟩ := run_appQ (ty := 27) Tryz.underlying27 tm xY yI yo rfl (by omega) (by omega) ((jv.out.own2).same hq) ⟨wd.heap.size, 0, none⟩ 1 1 [p, l] rfl (fun j u hu => by rw [addr_add, Nat.zero_add, rY.cell]; exact hu) (by omega)
      have G9 := jv.out.growD hq (dy' := s.dy.take j ++ [(p, l)]) (by rw [flat2_append]; exact By) yp
      obtain ⟨Bb, tC, tW⟩ := G9
      have Bm := hid Bb
      have fM := hid tW
      have ma := hid yP
      have ot := (show Hid (∀ b, (Value.slice a5 (j + 1) c5).ownBlock = some b → wk.heap.size ≤ b) from fun b hb => by
       rcases yp.own b hb with h1 | h1
       ·exact rk.out b h1
       ·have h2 := hq.size; have h3 := uC; omega)
      have hS : (fun wx : World => wx.cell? ⟨O, 5, none⟩ = some (.slice da j dc) ∧ wx.cell? ⟨T, 2, none⟩ = some (.map (some Bd)) ∧ MapB wx Bd kd cd) w5 := ⟨tC.c5, tW.cellOf t2 (fun e => by have h1 := (jv.out.f2 _ e).2; dsimp only at h1; omega), lJ.out.md.kept tW (fun e => by have := (jv.out.f2 _ e).2; have := ob.out.md.lt; omega)⟩
      refine wpAnyV_one (i := 11) (by kernel_rfl) rfl (fun Kc hK => ?_)
      refine step_append_runQ (by rfl) (.tmp 56) (.tmp 65) 27 27 (by rfl) _ _ (by rfl) (by rfl) _ _ ma.out ?_
      refine hK.out _ _ (fun _ => hS) ?_
      clear hK Kc
      try simp only [List.getElem_toArray, List.getElem_cons_succ, List.getElem_cons_zero]
      try simp only [Act.put, sA, s0, sS]
      refine tk 12 67 hS ?_
      have bc := tC.c5
      have bf := tC.frozen
      have bl := tC.lt
      refine wpAnyV_one (i := 13) (by kernel_rfl) rfl (fun Kc hK => ?_)
      go_simp
      refine hK.out _ _ (fun h => absurd rfl h) ?_
      clear hK Kc
      refine wpAnyV_done (by kernel_rfl) ?_
      try simp only [Act.put, sA, s0, sS]
      have nF : Kept (fun b => b = O) w5 (w5.setCell ⟨O, 5, none⟩ (.slice a5 (j + 1) c5)) := Kept.setCell (R := fun b => b = O) (Kept.refl _ _) (p := ⟨O, 5, none⟩) (.inr rfl) _
      have Ka := (show Hid (wk.heap.size ≤ (w5.setCell ⟨O, 5, none⟩ (.slice a5 (j + 1) c5)).heap.size) from by have h1 := fM.out.size; have h2 := nF.size; unfold Hid; omega)
      have uA := hid ((lB.out.kept fM.out (fun e => by have := (jv.out.f2 _ e).2; have := AZ.out; omega)).kept nF (by omega))
      have jd := hid ((ef.out.kept fM.out (fun b hb e => by have := rk.out b e; have := (wN.out b hb).2; omega)).kept nF (fun b hb e => by have := (wN.out b hb).1; omega))
      clear nF hS bc bf bl eR rY hq yP By yp Bb tC tW ma vj hd
      generalize w5.setCell ⟨O, 5, none⟩ (.slice a5 (j + 1) c5) = w6 at *
      go_wp2
      go_roundw
      case rel => exact ⟨j + 1, a5, c5, by omega, by go_num, by rw [nN.out]; exact Bm, uA, jd, ot, Ka⟩
      case measure => simp [intOf]; omega
     ·obtain rfl : nd = j := by omega
      have nD : s.dy.take nd = s.dy := by rw [← tP.out.2]; exact List.take_length
      rw [nD] at jv
      clear nD
      have kj := (show Hid (wr.there Z 0 7) from lB.out.there 0 7 (by decide))
      obtain ⟨cs, dY⟩ : ∃ cs : List Value, [.int .i64 0, .int .i64 0, .int .i64 0, .int .i64 s.nx, .slice ta nt tc, .slice da nd dc, .slice ia ni ic] = cs := ⟨_, rfl⟩
      have qT : Blk (wr.setCells Z 0 cs) Z 30 cs := blk_putA lB.out _ (by rw [← dY]; rfl)
      have jw : Hid (cs.length = 7) := by unfold Hid; rw [← dY]; rfl
      have iW : Hid (cs.toArray.all (·.oneCell') = true) := by unfold Hid; rw [← dY]; simp [Value.oneCell']
      have HI : Hid ((Tryz.prog.info? 30).map (·.size) = some cs.length) := by unfold Hid; rw [jw.out]; kernel_rfl
      have gW : Hid (wr.rangeAt O 0 cs) := by unfold Hid; rw [← dY]; exact jv.out.box.rangeAll
      have iK := hid qT
      have iZ := (show Hid (Same w (wr.setCells Z 0 cs)) from Kept.setCells (.inl nX) _ _ jv.out.keep)
      have zZ := (show Hid (OwnL (wr.setCells Z 0 cs) _) from jv.out.answer.kept (R := fun b => b = Z) (Kept.setCells (R := fun b => b = Z) (.inr rfl) _ _ (Kept.refl (fun b => b = Z) _)) (fun b hb e => by have := jv.out.foot b hb; have := AZ.out; omega))
      have l6 := hid dY
      clear qT dY
      go_wp2_with (first | (refine wpList_load_mid rfl 30 _ rfl O 0 rfl cs _ gW.out Tryz.underlying30 rfl HI.out ?_) | (refine wpList_store_mid rfl 30 _ _ rfl Z 0 cs.toArray rfl rfl (by rw [List.size_toArray, jw.out]; exact kj.out) (by rw [List.size_toArray, jw.out]; kernel_rfl) iW.out ?_; rw [List.toList_toArray]))
      refine bodyPost_ret (v := .agg cs.toArray) ?_ rfl ?_
      ·exact endZA Tryz.results31 rfl iK.out.rangeAll Tryz.underlying30 rfl HI.out
      ·refine ⟨⟨0, 0, 0, s.nx, ⟨57, ta, nt, tc, flat4 s.tx⟩, ⟨60, da, nd, dc, flat2 s.dy⟩, ⟨2, ia, ni, ic, s.im⟩⟩, ?_, rfl, fun b hb => by have := jv.out.foot b hb; omega, zZ.out, iZ.out⟩
       rw [← l6.out]
       rfl
end Go.Proofs.YtepdakgfioffgaaGreat
