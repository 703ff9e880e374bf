import Derived.Test.YtaojjcnmififoaaGreatG18
import Derived.Test.YtaojjcnmififoaaGreatG12
import Derived.Test.YtaojjcnmififoaaGreatG01
import Derived.Test.YtaojjcnmififoaaGreatG08
import Derived.Deep.AppendLies
namespace Go.Proofs.YtaojjcnmififoaaGreat
set_option maxRecDepth 100000
set_option maxHeartbeats 4000000
set_option linter.unusedVariables false
set_option linter.unusedSimpArgs false
open Go.RowKit
def RJ (d : Int × Int × Int × Int × Int × (Bool × List Int) × (Bool × List Int) × Int × Int × List Int × List Int × List Int) : Int := RV d.1 d.2.1 d.2.2.1 d.2.2.2.1 d.2.2.2.2.1 d.2.2.2.2.2.1.1 d.2.2.2.2.2.1.2 d.2.2.2.2.2.2.1.1 d.2.2.2.2.2.2.1.2 d.2.2.2.2.2.2.2.1 d.2.2.2.2.2.2.2.2.1 d.2.2.2.2.2.2.2.2.2.1 d.2.2.2.2.2.2.2.2.2.2.1 d.2.2.2.2.2.2.2.2.2.2.2
def StLogRecord.isB (x : StLogRecord) : Prop := IsB x.before.data.bs ∧ IsB x.after.data.bs ∧ IsB x.image.bs
theorem SA (x : StLogRecord) (w : World) (hB : x.isB) (hn : x.szs ≤ 1073741824) (hv : StLogRecord.rd w x) :
  Calls Tryz.prog 64 #[x.val] w fun e w' => e = .returned (.int .i64 (RJ x.dat)) ∧ Same w w' := by
 have hs := hn
 simp only [StLogRecord.szs, StPageRecord.szs] at hs
 have bH := hv.2.2.1.2.1
 have QA := hv.2.2.2.1.2.1
 obtain ⟨kind, txn, prev, page, slot, ⟨bU, ⟨rO, bp, bq, aZ⟩⟩, ⟨aU, ⟨qn, bj, bk, aV⟩⟩, uN, nT, ⟨fZ, bT, aR, bV, cn⟩, ⟨fY, bX, a9, bW, dF⟩, ⟨rr, bw, bD, bd⟩⟩ := x
 dsimp only [StLogRecord.val, StPageRecord.val, BS.v, FR.v, RJ, StLogRecord.dat, StPageRecord.dat, StLogRecord.isB, StLogRecord.rd, StPageRecord.rd] at *
 have e1 : cn.length / 4 = aR := by omega
 have e2 : dF.length / 2 = a9 := by omega
 have kY : bd.length ≤ 1099511627776 := by omega
 have jE : aR ≤ 1125899906842624 := by omega
 have j7 : a9 ≤ 1125899906842624 := by omega
 unfold RV
 by_cases h1 : kind = 1
 ·subst h1
  simp only [if_true]
  rw [← jfM txn prev page slot uN nT bU aU aZ aV bd cn dF aR a9 e1 e2]
  exact jes txn prev page slot bU bp bq aZ aU bj bk aV uN nT fZ bT aR bV cn fY bX a9 bW dF bw bD bd w hB.1 hB.2.1 hB.2.2 kY hv.1 hv.2.1 hv.2.2.2.2 hv.2.2.1 hv.2.2.2.1 jE j7
 rw [if_neg h1]
 by_cases h2 : kind = 2
 ·subst h2
  rw [if_pos rfl]
  rw [← jfN txn prev page slot uN nT bU aU aZ aV bd cn dF aR a9 e1 e2]
  exact jet txn prev page slot bU bp bq aZ aU bj bk aV uN nT fZ bT aR bV cn fY bX a9 bW dF bw bD bd w hB.1 hB.2.1 hB.2.2 kY hv.1 hv.2.1 hv.2.2.2.2 hv.2.2.1 hv.2.2.2.1 jE j7
 rw [if_neg h2]
 by_cases h3 : kind = 3
 ·subst h3
  rw [if_pos rfl]
  rw [← jfO txn prev page slot uN nT bU aU aZ aV bd cn dF aR a9 e1 e2]
  exact jeu txn prev page slot bU bp bq aZ aU bj bk aV uN nT fZ bT aR bV cn fY bX a9 bW dF bw bD bd w hB.1 hB.2.1 hB.2.2 kY hv.1 hv.2.1 hv.2.2.2.2 hv.2.2.1 hv.2.2.2.1 jE j7
 rw [if_neg h3]
 by_cases h4 : kind = 4
 ·subst h4
  rw [if_pos rfl]
  rw [← jfP txn prev page slot uN nT bU aU aZ aV bd cn dF aR a9 e1 e2]
  exact jev txn prev page slot bU bp bq aZ aU bj bk aV uN nT fZ bT aR bV cn fY bX a9 bW dF bw bD bd w hB.1 hB.2.1 hB.2.2 kY hv.1 hv.2.1 hv.2.2.2.2 hv.2.2.1 hv.2.2.2.1 jE j7
 rw [if_neg h4]
 by_cases h5 : kind = 5
 ·subst h5
  rw [if_pos rfl]
  rw [← jfQ txn prev page slot uN nT bU aU aZ aV bd cn dF aR a9 e1 e2]
  exact jew txn prev page slot bU bp bq aZ aU bj bk aV uN nT fZ bT aR bV cn fY bX a9 bW dF bw bD bd w hB.1 hB.2.1 hB.2.2 kY hv.1 hv.2.1 hv.2.2.2.2 hv.2.2.1 hv.2.2.2.1 jE j7
 rw [if_neg h5]
 by_cases h6 : kind = 6
 ·subst h6
  rw [if_pos rfl]
  rw [← jfR txn prev page slot uN nT bU aU aZ aV bd cn dF aR a9 e1 e2]
  exact jex txn prev page slot bU bp bq aZ aU bj bk aV uN nT fZ bT aR bV cn fY bX a9 bW dF bw bD bd w hB.1 hB.2.1 hB.2.2 kY hv.1 hv.2.1 hv.2.2.2.2 hv.2.2.1 hv.2.2.2.1 jE j7
 rw [if_neg h6]
 by_cases h7 : kind = 7
 ·subst h7
  rw [if_pos rfl]
  rw [← jfS txn prev page slot uN nT bU aU aZ aV bd cn dF aR a9 e1 e2]
  exact jey txn prev page slot bU bp bq aZ aU bj bk aV uN nT fZ bT aR bV cn fY bX a9 bW dF bw bD bd w hB.1 hB.2.1 hB.2.2 kY hv.1 hv.2.1 hv.2.2.2.2 hv.2.2.1 hv.2.2.2.1 jE j7
 rw [if_neg h7]
 by_cases h8 : kind = 8
 ·subst h8
  rw [if_pos rfl]
  rw [← jfT txn prev page slot uN nT bU aU aZ aV bd cn dF aR a9 e1 e2]
  exact jez txn prev page slot bU bp bq aZ aU bj bk aV uN nT fZ bT aR bV cn fY bX a9 bW dF bw bD bd w hB.1 hB.2.1 hB.2.2 kY hv.1 hv.2.1 hv.2.2.2.2 hv.2.2.1 hv.2.2.2.1 jE j7
 rw [if_neg h8]
 exact jfs kind txn prev page slot bU bp bq aZ aU bj bk aV uN nT fZ bT aR bV cn fY bX a9 bW dF bw bD bd w (by unfold inB; simp only [Bool.and_eq_false_iff, decide_eq_false_iff_not]; omega)
structure Grew (w : World) (v : Value) (w' : World) (v' : Value) : Prop where
 kept : Kept (fun b => v.ownBlock = some b) w w'
 own : ∀ b, v'.ownBlock = some b → v.ownBlock = some b ∨ w.heap.size ≤ b
theorem Grew.trans {w w1 w2 : World} {v v1 v2 : Value} (h : Grew w v w1 v1) (k : Grew w1 v1 w2 v2) : Grew w v w2 v2 := by
 refine ⟨h.kept.next k.kept (fun i hi e => (h.own i e).resolve_right (by omega)), fun b hb => ?_⟩
 rcases k.own b hb with h1 | h1
 ·exact h.own b h1
 ·have := h.kept.size
  exact .inr (by omega)
theorem Grew.of_same {w w' : World} {v : Value} (h : Same w w') : Grew w v w' v := ⟨h.mono (fun _ _ e => absurd e id), fun b hb => .inl hb⟩
theorem Grew.refl (w : World) (v : Value) : Grew w v w v := Grew.of_same kZ0
theorem Grew.size {w w' : World} {v v' : Value} (h : Grew w v w' v') : w.heap.size ≤ w'.heap.size := h.kept.size
theorem Grew.same {w0 w w' : World} {v v' : Value} (h : Grew w v w' v') (h0 : Same w0 w) (hv : ∀ b, v.ownBlock = some b → w0.heap.size ≤ b) : Same w0 w' :=
 h0.next h.kept (fun i hi e => by have := hv i e; omega)
theorem Grew.fresh {w0 w w' : World} {v v' : Value} (h : Grew w v w' v') (h0 : Same w0 w) (hv : ∀ b, v.ownBlock = some b → w0.heap.size ≤ b) : ∀ b, v'.ownBlock = some b → w0.heap.size ≤ b := fun b hb => by
 rcases h.own b hb with h1 | h1
 ·exact hv b h1
 ·have := h0.size
  omega
theorem jeA {ty : TypeId} {w : World} {v x : Value} {bs ys : List Int} (ho : Own 0 5 .u8 w v bs) (hx : Rd .u8 w x ys) (hl : bs.length + ys.length ≤ 1099511627776) :
  ∃ a n c w', (Builtin.append_ #[22, 22] ty #[v, x]).run Tryz.prog w = .ok (.slice a n c) w' ∧ Own 0 5 .u8 w' (.slice a n c) (bs ++ ys) ∧ Grew w v w' (.slice a n c) := by
 obtain ⟨i0, hi, eL, eT, fM⟩ := info_parts Tryz.infoByte'
 have jV : ∀ (ad : Addr) (c : Nat), (∀ j u, (vals .u8 ys)[j]? = some u → w.cell? (ad.add j) = some u) → ∃ a n c' w', (Builtin.append_ #[22, 22] ty #[v, .slice (some ad) ys.length c]).run Tryz.prog w = .ok (.slice a n c') w' ∧ Own 0 5 .u8 w' (.slice a n c') (bs ++ ys) ∧ Grew w v w' (.slice a n c') := fun ad c hn => by
  obtain ⟨v', w', hr, h2, h3, _, h5⟩ := run_append_own_at (P := Tryz.prog) w 0 22 ty 5 i0 (.int .u8 0) 1 1 Tryz.underlying22 hi eL eT fM rfl (by decide) v bs.length (vals .u8 bs) ho ad ys.length c (vals .u8 ys) (by simp [Rb]) hn TN (by unfold maxLen; omega) (by omega) (Nat.zero_le _)
  have ma : Own 0 5 .u8 w' v' (bs ++ ys) := by unfold Own; simpa [vals] using h2
  obtain ⟨a, n, c', rfl⟩ := Sd ma
  refine ⟨a, n, c', w', hr, ma, Kept.of_grown h3 (fun k e => e), fun b hb => ?_⟩
  rcases h5 with h5 | h5
  ·exact .inl (by rw [← h5]; exact hb)
  ·rw [h5] at hb
   exact .inr (by have := Option.some.inj hb; omega)
 rcases hx.2 with ⟨rfl, a, c, rfl, kl⟩ | ⟨b, off, c, rfl, _, hc⟩
 ·cases a with
  | none =>
   obtain rfl : c = 0 := kl rfl
   have hr := run_append_owned_none (P := Tryz.prog) (w := w) 0 22 ty 5 i0 1 Tryz.underlying22 hi v bs.length (vals .u8 bs) ho
   obtain ⟨a, n, c', rfl⟩ := Sd ho
   exact ⟨a, n, c', w, hr, by rw [List.append_nil]; exact ho, Grew.refl _ _⟩
  | some ad => exact jV ad c (fun j u h => by simp [vals] at h)
 ·exact jV ⟨b, off, none⟩ c (Wx hc)
theorem jdH {w : World} {o : Oper} {a : Act} {K : Act → World → Prop} {Q : Exit → Act → World → Prop} (s x : Operand)
  (ho : o.op = .call { callee := .builtin .append, args := #[s, x], argTypes := #[22, 22] })
  (v xv : Value) (bs ys : List Int) (hs : a.eval s = v) (hx : a.eval x = xv) (aw : Own 0 5 .u8 w v bs) (fw : Rd .u8 w xv ys) (hl : bs.length + ys.length ≤ 1099511627776)
  (h : ∀ a' n' c' w', Own 0 5 .u8 w' (.slice a' n' c') (bs ++ ys) → Grew w v w' (.slice a' n' c') → K (a.put o.dst (.slice a' n' c')) w') : o.wp Tryz.prog a w K Q := by
 obtain ⟨a', n', c', w', hr, h2, h3⟩ := jeA (ty := o.type) aw fw hl
 unfold Oper.wp execOp
 simp only [ho, resolve, invoke, builtin, Sem.run_bind, Sem.run_pure, Result.andThen_ok, List.map_toArray, List.map_cons, List.map_nil, hs, hx, hr]
 exact h a' n' c' w' h2 h3
theorem UH {w : World} {ct : Array Oper} {rest : List Oper} {o : Oper} {a : Act} {Q : Exit → Act → World → Prop} (j1 : o.guard = none) (s x : Operand)
  (ho : o.op = .call { callee := .builtin .append, args := #[s, x], argTypes := #[22, 22] })
  (v xv : Value) (bs ys : List Int) (hs : a.eval s = v) (hx : a.eval x = xv) (aw : Own 0 5 .u8 w v bs) (fw : Rd .u8 w xv ys) (hl : bs.length + ys.length ≤ 1099511627776)
  (h : ∀ a' n' c' w', Own 0 5 .u8 w' (.slice a' n' c') (bs ++ ys) → Grew w v w' (.slice a' n' c') → wpList Tryz.prog ct Q rest (a.put o.dst (.slice a' n' c')) w') : wpList Tryz.prog ct Q (o :: rest) a w :=
 wpList_plain j1 fun _ hK => jdH s x ho v xv bs ys hs hx aw fw hl fun a' n' c' w' h2 h3 => hK _ _ (h a' n' c' w' h2 h3)
theorem VE {w : World} {ct : Array Oper} {o : Oper} {a : Act} {K : Act → World → Prop} {Q : Exit → Act → World → Prop} {E : Prop} (j1 : o.guard = none) (s x : Operand)
  (ho : o.op = .call { callee := .builtin .append, args := #[s, x], argTypes := #[22, 22] })
  (v xv : Value) (bs ys : List Int) (hs : a.eval s = v) (hx : a.eval x = xv) (aw : Own 0 5 .u8 w v bs) (fw : Rd .u8 w xv ys) (hl : bs.length + ys.length ≤ 1099511627776)
  (h : ∀ a' n' c' w', Own 0 5 .u8 w' (.slice a' n' c') (bs ++ ys) → Grew w v w' (.slice a' n' c') → K (a.put o.dst (.slice a' n' c')) w') :
  if Region.wanted o (yielded ct a.tmps) = true then Oper.wp Tryz.prog o a w K Q else E := by
 have hw : Region.wanted o (yielded ct a.tmps) = true := by simp [Region.wanted, j1]
 rw [if_pos hw]
 exact jdH s x ho v xv bs ys hs hx aw fw hl h
theorem jah (w : World) (x : Int) : Rd .u8 (w.alloc (.cells #[.int .u8 x] 5)) (.slice (some ⟨w.heap.size, 0, none⟩) 1 1) [x] := by
 have h : Blk (w.alloc (.cells #[.int .u8 x] 5)) w.heap.size 5 (vals .u8 [x]) := Blk.new w #[.int .u8 x] 5
 exact (h.own (by unfold maxLen; simp)).rd
theorem jaW (v n : Int) (w : World) (tL : IsI v) (h1 : 1 ≤ n) (h2 : n ≤ 8) (h3 : 0 ≤ v) :
  Calls Tryz.prog 51 #[.int .i64 v, .int .i64 n] w fun e w' => ∃ a c, e = .returned (.slice a (Q6 v n).length c) ∧ (∀ b, (Value.slice a (Q6 v n).length c).ownBlock = some b → w.heap.size ≤ b) ∧
   Own 0 5 .u8 w' (.slice a (Q6 v n).length c) (Q6 v n) ∧ Same w w' := by
 obtain ⟨n, rfl⟩ : ∃ m : Nat, n = m := ⟨n.toNat, by omega⟩
 obtain ⟨i0, hi, eL, eT, fM⟩ := info_parts Tryz.infoByte'
 obtain ⟨pW, wL⟩ := tL
 have GM : ¬ (n : Int) < 1 := by omega
 have ma : ¬ (8 : Int) < n := by omega
 have NH : ¬ v < 0 := by omega
 by_cases hz : v / 256 ^ n = 0
 ·have Ac : v / 2 ^ (8 * n) = 0 := by rw [jfK]; exact hz
  have gT : Q6 v n = R8 v n := by unfold Q6; rw [if_neg (by simp only [Int.toNat_natCast]; omega)]; simp
  have HN : Hid (Q6 v n = R8 v n) := gT
  clear hz gT
  go_enter Tryz.func51, Tryz.ntmps51
  go_wp2_with (first
   | (at_make; go_loud (refine wpList_make_full _ rfl _ _ 22 rfl 0 5 i0 (.int .u8 0) 1 Tryz.underlying22 hi eL eT .i64 .i64 _ _ n rfl rfl (by first | rfl | simp | omega) (by first | rfl | simp | omega) (by rw [fM]; omega) (by unfold maxLen; omega) (Nat.zero_le _) ?_); intro w1 cy bS; have HO : Hid (Own 0 5 .u8 w1 (.slice (some ⟨w.heap.size, 0, none⟩) n n) (List.replicate n 0)) := Vw (by simpa using cy); have HK : Hid (Same w w1) := Kept.of_grown bS (fun k e => by cases e); clear cy bS)
   | (go_at_call 68; refine (Vr w.heap.size 0 n n 5 (vals .u8 (List.replicate n 0)) v _ (Own.blk HO.out) (by simp [vals]) h3 (by omega) (by omega)).mono ?_; rintro e w2 ⟨rfl, dL, aN⟩))
  go_ret
  rw [HN.out, Rs]
  rw [lay_all _ _ (by simp [vals, Rs])] at dL
  refine ⟨_, _, rfl, fun b hb => ?_, ?_, HK.out.next aN (fun i hi e => by omega)⟩
  ·simp [Value.ownBlock] at hb; omega
  ·have h := Blk.own dL (by unfold maxLen; rw [Rs]; omega)
   rw [Rs] at h
   exact h
 ·have Ac : v / 2 ^ (8 * n) ≠ 0 := by rw [jfK]; exact hz
  have gT : Q6 v n = [] := by unfold Q6; rw [if_pos (by simp only [Int.toNat_natCast]; omega)]
  have HN : Hid (Q6 v n = []) := gT
  clear hz gT
  go_enter Tryz.func51, Tryz.ntmps51
  go_wp2
  go_ret
  rw [HN.out]
  exact ⟨none, 0, rfl, fun b hb => by simp [Value.ownBlock] at hb, Own.nil _ _ _ _, kZ0⟩
theorem jb4 (v n : Int) (w : World) (h : n < 1 ∨ 8 < n ∨ v < 0) :
  Calls Tryz.prog 51 #[.int .i64 v, .int .i64 n] w fun e w' => e = .returned (.slice none 0 0) ∧ w' = w := by
 rcases h with h | h
 ·go_enter Tryz.func51, Tryz.ntmps51
  go_wp2
  go_ret
  exact ⟨rfl, rfl⟩
 ·by_cases h1 : n < 1
  ·go_enter Tryz.func51, Tryz.ntmps51
   go_wp2
   go_ret
   exact ⟨rfl, rfl⟩
  ·rcases h with h | h
   ·go_enter Tryz.func51, Tryz.ntmps51
    go_wp2
    go_ret
    exact ⟨rfl, rfl⟩
   ·by_cases h2 : 8 < n
    ·go_enter Tryz.func51, Tryz.ntmps51
     go_wp2
     go_ret
     exact ⟨rfl, rfl⟩
    ·go_enter Tryz.func51, Tryz.ntmps51
     go_wp2
     go_ret
     exact ⟨rfl, rfl⟩
theorem SB (v n : Int) (w : World) (tL : IsI v) (NS : IsI n) :
  Calls Tryz.prog 51 #[.int .i64 v, .int .i64 n] w fun e w' => ∃ a c, e = .returned (.slice a (Q6 v n).length c) ∧ (∀ b, (Value.slice a (Q6 v n).length c).ownBlock = some b → w.heap.size ≤ b) ∧
   Own 0 5 .u8 w' (.slice a (Q6 v n).length c) (Q6 v n) ∧ Same w w' := by
 by_cases h : n < 1 ∨ 8 < n ∨ v < 0
 ·refine (jb4 v n w h).mono ?_
  rintro e w' ⟨rfl, rfl⟩
  have e : Q6 v n = [] := by unfold Q6; rw [if_pos (by omega)]
  rw [e]
  exact ⟨none, 0, rfl, fun b hb => by simp [Value.ownBlock] at hb, Own.nil _ _ _ _, kZ0⟩
 ·exact jaW v n w tL (by omega) (by omega) (by omega)
theorem Rk (v : Value) (bs : List Int) (x n : Int) (w : World) (hx : IsI x) (hn : IsI n) (hl : bs.length ≤ 1073741824) (ho : Own 0 5 .u8 w v bs) :
  Calls Tryz.prog 79 #[v, .int .i64 x, .int .i64 n] w fun e w' => ∃ aa nn cc, e = .returned (.slice aa nn cc) ∧ Own 0 5 .u8 w' (.slice aa nn cc) (bs ++ Q6 x n) ∧ Grew w v w' (.slice aa nn cc) := by
 have hP := jaN x n w hx hn
 have oS := Ra x n
 have HO := (show Hid (Own 0 5 .u8 w v bs) from ho)
 clear ho
 go_enter Tryz.func79, Tryz.ntmps79
 go_wp2_with (first
  | (go_at_call 109; refine hP.mono ?_; rintro e w1 ⟨a1, c1, rfl, gK, gk, aH⟩; have fU := (show Hid (Rd .u8 w1 (.slice a1 (Q6 x n).length c1) (Q6 x n)) from gk.rd); have aM := (show Hid (Same w w1) from aH); clear gK gk aH)
  | (at_builtin; refine UH rfl (.tmp 7) (.tmp 10) rfl v (.slice a1 (Q6 x n).length c1) bs (Q6 x n) rfl rfl (HO.out.same aM.out) fU.out (by omega) ?_; intro a2 n2 c2 w2 eP aN; have HF := (show Hid (Own 0 5 .u8 w2 (.slice a2 n2 c2) (bs ++ Q6 x n)) from eP); have HK := (show Hid (Grew w v w2 (.slice a2 n2 c2)) from (Grew.of_same aM.out).trans aN); clear eP aN))
 go_ret
 exact ⟨a2, n2, c2, rfl, HF.out, HK.out⟩
theorem Rc (v : Value) (bs : List Int) (x n : Int) (w : World) (hx : IsI x) (hn : IsI n) (hl : bs.length ≤ 1073741824) (ho : Own 0 5 .u8 w v bs) :
  Calls Tryz.prog 88 #[v, .int .i64 x, .int .i64 n] w fun e w' => ∃ aa nn cc, e = .returned (.slice aa nn cc) ∧ Own 0 5 .u8 w' (.slice aa nn cc) (bs ++ Q6 x n) ∧ Grew w v w' (.slice aa nn cc) := by
 have hP := SB x n w hx hn
 have oS := Ra x n
 have HO := (show Hid (Own 0 5 .u8 w v bs) from ho)
 clear ho
 go_enter Tryz.func88, Tryz.ntmps88
 go_wp2_with (first
  | (go_at_call 51; refine hP.mono ?_; rintro e w1 ⟨a1, c1, rfl, gK, gk, aH⟩; have fU := (show Hid (Rd .u8 w1 (.slice a1 (Q6 x n).length c1) (Q6 x n)) from gk.rd); have aM := (show Hid (Same w w1) from aH); clear gK gk aH)
  | (at_builtin; refine UH rfl (.tmp 7) (.tmp 10) rfl v (.slice a1 (Q6 x n).length c1) bs (Q6 x n) rfl rfl (HO.out.same aM.out) fU.out (by omega) ?_; intro a2 n2 c2 w2 eP aN; have HF := (show Hid (Own 0 5 .u8 w2 (.slice a2 n2 c2) (bs ++ Q6 x n)) from eP); have HK := (show Hid (Grew w v w2 (.slice a2 n2 c2)) from (Grew.of_same aM.out).trans aN); clear eP aN))
 go_ret
 exact ⟨a2, n2, c2, rfl, HF.out, HK.out⟩
def Ry (u : Bool) (d : List Int) : List Int := if u = true then 1 :: (Q6 d.length 2 ++ d) else [0]
theorem TF (u : Bool) (d : List Int) : (Ry u d).length ≤ d.length + 9 := by
 unfold Ry
 have := Ra d.length 2
 split
 ·simp; omega
 ·simp
theorem U4 (v : Value) (bs : List Int) (u : Bool) (dv : Value) (d : List Int) (w : World) (hd : d.length ≤ 1073741824) (hl : bs.length ≤ 1073741000) (hR : ∀ wx, Kept (fun b => v.ownBlock = some b) w wx → Rd .u8 wx dv d) (ho : Own 0 5 .u8 w v bs) :
  Calls Tryz.prog 80 #[v, .agg #[.bool u, dv]] w fun e w' => ∃ aa nn cc, e = .returned (.slice aa nn cc) ∧ Own 0 5 .u8 w' (.slice aa nn cc) (bs ++ Ry u d) ∧ Grew w v w' (.slice aa nn cc) := by
 obtain ⟨da, dc, rfl⟩ := (hR w kZ0).form
 have rW := (show Hid (¬ v.ownBlock = some w.heap.size) from fun e => by have := (ho.lt _ e).2; omega)
 have HO := (show Hid (Own 0 5 .u8 w v bs) from ho)
 have HR := (show Hid (∀ wx, Kept (fun b => v.ownBlock = some b) w wx → Rd .u8 wx (.slice da d.length dc) d) from hR)
 clear ho hR
 cases u with
 | false =>
  have pj := hid (jbI w [.bool false, .slice da d.length dc] 46 [.int .u8 0] 5)
  have rb := (show Hid (Rd .u8 ((w.alloc (.cells #[.bool false, .slice da d.length dc] 46)).alloc (.cells #[.int .u8 0] 5)) (.slice (some ⟨w.heap.size + 1, 0, none⟩) 1 1) [0]) from by have h := jah (w.alloc (.cells #[.bool false, .slice da d.length dc] 46)) 0; simpa [Hid] using h)
  go_enter Tryz.func80, Tryz.ntmps80
  go_wp2_with (at_builtin; refine UH rfl (.tmp 8) (.tmp 9) rfl v (.slice (some ⟨w.heap.size + 1, 0, none⟩) 1 1) bs [0] rfl rfl (HO.out.same pj.out) rb.out (by simp; omega) ?_; intro a2 n2 c2 w2 eP aN; have HF := (show Hid (Own 0 5 .u8 w2 (.slice a2 n2 c2) (bs ++ [0])) from eP); have HK := (show Hid (Grew w v w2 (.slice a2 n2 c2)) from (Grew.of_same pj.out).trans aN); clear eP aN)
  go_ret
  exact ⟨a2, n2, c2, rfl, HF.out, HK.out⟩
 | true =>
  have pj := (show Hid (Same w ((w.alloc (.cells #[.bool true, .slice da d.length dc] 46)).drew.alloc (.cells #[.int .u8 1] 5))) from (kZ0.alloc _).drew.alloc _)
  have rb := (show Hid (Rd .u8 ((w.alloc (.cells #[.bool true, .slice da d.length dc] 46)).drew.alloc (.cells #[.int .u8 1] 5)) (.slice (some ⟨w.heap.size + 1, 0, none⟩) 1 1) [1]) from by have h := jah (w.alloc (.cells #[.bool true, .slice da d.length dc] 46)).drew 1; simpa [Hid] using h)
  have Au := (show Hid (w.heap.size + 1 ≤ ((w.alloc (.cells #[.bool true, .slice da d.length dc] 46)).drew.alloc (.cells #[.int .u8 1] 5)).heap.size) from by simp [Hid])
  have bA := Blk.newL w [.bool true, .slice da d.length dc] 46
  have bB : Blk ((w.alloc (.cells #[.bool true, .slice da d.length dc] 46)).drew.alloc (.cells #[.int .u8 1] 5)) w.heap.size 46 [.bool true, .slice da d.length dc] := bA.drew.alloc _
  have oS := Ra d.length 2
  go_enter Tryz.func80, Tryz.ntmps80
  go_wp2_with fail
  have hS : ((fun wx : World => wx.cell? ⟨w.heap.size, 0, none⟩ = some (.bool true) ∧ wx.cell? ⟨w.heap.size, 1, none⟩ = some (.slice da d.length dc))) (w.alloc (.cells #[.bool true, .slice da d.length dc] 46)).drew := by exact ⟨bA.cell 0, bA.cell 1⟩
  refine Q9 ((fun wx : World => wx.cell? ⟨w.heap.size, 0, none⟩ = some (.bool true) ∧ wx.cell? ⟨w.heap.size, 1, none⟩ = some (.slice da d.length dc))) 99 11 rfl (by kernel_rfl) ?_
  refine tk 0 11 hS ?_
  refine tk 3 14 hS ?_
  refine tk 4 15 hS ?_
  refine tk 5 16 hS ?_
  refine tk 7 18 hS ?_
  refine tk 8 19 hS ?_
  refine o1Q 1 (fun K hK => ?_)
  go_simp
  have hS : ((fun wx : World => wx.cell? ⟨w.heap.size, 0, none⟩ = some (.bool true) ∧ wx.cell? ⟨w.heap.size, 1, none⟩ = some (.slice da d.length dc))) ((w.alloc (.cells #[.bool true, .slice da d.length dc] 46)).drew.alloc (.cells #[.int .u8 1] 5)) := by exact ⟨bB.cell 0, bB.cell 1⟩
  refine hK.out _ _ (fun _ => hS) ?_
  clear hK K
  try simp only [Act.put, sA, s0, sS]
  refine o1Q 2 (fun K hK => ?_)
  refine VE (by rfl) (.tmp 11) (.tmp 12) (by rfl) v (.slice (some ⟨w.heap.size + 1, 0, none⟩) 1 1) bs [1] (by rfl) (by rfl) (HO.out.same pj.out) rb.out (by simp; omega) ?_
  intro a2 n2 c2 w2 eP aN
  have eF := (show Hid (Own 0 5 .u8 w2 (.slice a2 n2 c2) (bs ++ [1])) from eP)
  have wM := (show Hid (Grew w v w2 (.slice a2 n2 c2)) from (Grew.of_same pj.out).trans aN)
  have b2 := bB.kept aN.kept rW.out
  have zE := (show Hid (¬ (Value.slice a2 n2 c2).ownBlock = some w.heap.size) from fun e => (aN.own _ e).elim rW.out (fun h => by have h := Nat.le_trans Au.out h; omega))
  clear eP aN
  have hS : ((fun wx : World => wx.cell? ⟨w.heap.size, 0, none⟩ = some (.bool true) ∧ wx.cell? ⟨w.heap.size, 1, none⟩ = some (.slice da d.length dc))) w2 := by exact ⟨b2.cell 0, b2.cell 1⟩
  refine hK.out _ _ (fun _ => hS) ?_
  clear hK K
  try simp only [Act.put, sA, s0, sS]
  refine o1Q 6 (fun K hK => ?_)
  go_simp
  refine (Rk _ (bs ++ [1]) d.length 2 w2 (by unfold IsI; omega) (by unfold IsI; omega) (by simp; omega) eF.out).mono ?_
  rintro e w3 ⟨a3, n3, c3, rfl, iP, fq⟩
  have fy := (show Hid (Own 0 5 .u8 w3 (.slice a3 n3 c3) ((bs ++ [1]) ++ Q6 d.length 2)) from iP)
  have nw := hid (wM.out.trans fq)
  have b3 := b2.kept fq.kept zE.out
  have Hs := (show Hid (¬ (Value.slice a3 n3 c3).ownBlock = some w.heap.size) from fun e => (fq.own _ e).elim zE.out (fun h => by have h := Nat.lt_of_lt_of_le b2.lt h; omega))
  clear iP fq
  have hS : ((fun wx : World => wx.cell? ⟨w.heap.size, 0, none⟩ = some (.bool true) ∧ wx.cell? ⟨w.heap.size, 1, none⟩ = some (.slice da d.length dc))) w3 := by exact ⟨b3.cell 0, b3.cell 1⟩
  refine hK.out _ _ (fun _ => hS) ?_
  clear hK K
  try simp only [Act.put, sA, s0, sS]
  refine o1Q 9 (fun K hK => ?_)
  refine VE (by rfl) (.tmp 17) (.tmp 19) (by rfl) (.slice a3 n3 c3) (.slice da d.length dc) _ d (by rfl) (by rfl) fy.out (HR.out _ nw.out.kept) (by simp; omega) ?_
  intro a4 n4 c4 w4 kF iF
  have il := (show Hid (Own 0 5 .u8 w4 (.slice a4 n4 c4) (((bs ++ [1]) ++ Q6 d.length 2) ++ d)) from kF)
  have ng := hid (nw.out.trans iF)
  have b4 := b3.kept iF.kept Hs.out
  clear kF iF
  have hS : ((fun wx : World => wx.cell? ⟨w.heap.size, 0, none⟩ = some (.bool true) ∧ wx.cell? ⟨w.heap.size, 1, none⟩ = some (.slice da d.length dc))) w4 := by exact ⟨b4.cell 0, b4.cell 1⟩
  refine hK.out _ _ (fun _ => hS) ?_
  clear hK K
  try simp only [Act.put, sA, s0, sS]
  refine tk 10 4 hS ?_
  refine Q8 (by kernel_rfl) ?_
  go_wp2
  go_ret
  exact ⟨a4, n4, c4, rfl, by simpa [Ry] using il.out, ng.out⟩
theorem UI (v : Value) (bs : List Int) (u : Bool) (dv : Value) (d : List Int) (w : World) (hd : d.length ≤ 1073741824) (hl : bs.length ≤ 1073741000) (hR : ∀ wx, Kept (fun b => v.ownBlock = some b) w wx → Rd .u8 wx dv d) (ho : Own 0 5 .u8 w v bs) :
  Calls Tryz.prog 165 #[v, .agg #[.bool u, dv]] w fun e w' => ∃ aa nn cc, e = .returned (.slice aa nn cc) ∧ Own 0 5 .u8 w' (.slice aa nn cc) (bs ++ Ry u d) ∧ Grew w v w' (.slice aa nn cc) := by
 obtain ⟨da, dc, rfl⟩ := (hR w kZ0).form
 have rW := (show Hid (¬ v.ownBlock = some w.heap.size) from fun e => by have := (ho.lt _ e).2; omega)
 have HO := (show Hid (Own 0 5 .u8 w v bs) from ho)
 have HR := (show Hid (∀ wx, Kept (fun b => v.ownBlock = some b) w wx → Rd .u8 wx (.slice da d.length dc) d) from hR)
 clear ho hR
 cases u with
 | false =>
  have pj := hid (jbI w [.bool false, .slice da d.length dc] 46 [.int .u8 0] 5)
  have rb := (show Hid (Rd .u8 ((w.alloc (.cells #[.bool false, .slice da d.length dc] 46)).alloc (.cells #[.int .u8 0] 5)) (.slice (some ⟨w.heap.size + 1, 0, none⟩) 1 1) [0]) from by have h := jah (w.alloc (.cells #[.bool false, .slice da d.length dc] 46)) 0; simpa [Hid] using h)
  go_enter Tryz.func165, Tryz.ntmps165
  go_wp2_with (at_builtin; refine UH rfl (.tmp 8) (.tmp 9) rfl v (.slice (some ⟨w.heap.size + 1, 0, none⟩) 1 1) bs [0] rfl rfl (HO.out.same pj.out) rb.out (by simp; omega) ?_; intro a2 n2 c2 w2 eP aN; have HF := (show Hid (Own 0 5 .u8 w2 (.slice a2 n2 c2) (bs ++ [0])) from eP); have HK := (show Hid (Grew w v w2 (.slice a2 n2 c2)) from (Grew.of_same pj.out).trans aN); clear eP aN)
  go_ret
  exact ⟨a2, n2, c2, rfl, HF.out, HK.out⟩
 | true =>
  have pj := (show Hid (Same w ((w.alloc (.cells #[.bool true, .slice da d.length dc] 46)).drew.alloc (.cells #[.int .u8 1] 5))) from (kZ0.alloc _).drew.alloc _)
  have rb := (show Hid (Rd .u8 ((w.alloc (.cells #[.bool true, .slice da d.length dc] 46)).drew.alloc (.cells #[.int .u8 1] 5)) (.slice (some ⟨w.heap.size + 1, 0, none⟩) 1 1) [1]) from by have h := jah (w.alloc (.cells #[.bool true, .slice da d.length dc] 46)).drew 1; simpa [Hid] using h)
  have Au := (show Hid (w.heap.size + 1 ≤ ((w.alloc (.cells #[.bool true, .slice da d.length dc] 46)).drew.alloc (.cells #[.int .u8 1] 5)).heap.size) from by simp [Hid])
  have bA := Blk.newL w [.bool true, .slice da d.length dc] 46
  have bB : Blk ((w.alloc (.cells #[.bool true, .slice da d.length dc] 46)).drew.alloc (.cells #[.int .u8 1] 5)) w.heap.size 46 [.bool true, .slice da d.length dc] := bA.drew.alloc _
  have oS := Ra d.length 2
  go_enter Tryz.func165, Tryz.ntmps165
  go_wp2_with fail
  have hS : ((fun wx : World => wx.cell? ⟨w.heap.size, 0, none⟩ = some (.bool true) ∧ wx.cell? ⟨w.heap.size, 1, none⟩ = some (.slice da d.length dc))) (w.alloc (.cells #[.bool true, .slice da d.length dc] 46)).drew := by exact ⟨bA.cell 0, bA.cell 1⟩
  refine Q9 ((fun wx : World => wx.cell? ⟨w.heap.size, 0, none⟩ = some (.bool true) ∧ wx.cell? ⟨w.heap.size, 1, none⟩ = some (.slice da d.length dc))) 99 8 rfl (by kernel_rfl) ?_
  refine tk 0 11 hS ?_
  refine tk 3 14 hS ?_
  refine tk 4 15 hS ?_
  refine tk 5 16 hS ?_
  refine o1Q 1 (fun K hK => ?_)
  go_simp
  have hS : ((fun wx : World => wx.cell? ⟨w.heap.size, 0, none⟩ = some (.bool true) ∧ wx.cell? ⟨w.heap.size, 1, none⟩ = some (.slice da d.length dc))) ((w.alloc (.cells #[.bool true, .slice da d.length dc] 46)).drew.alloc (.cells #[.int .u8 1] 5)) := by exact ⟨bB.cell 0, bB.cell 1⟩
  refine hK.out _ _ (fun _ => hS) ?_
  clear hK K
  try simp only [Act.put, sA, s0, sS]
  refine o1Q 2 (fun K hK => ?_)
  refine VE (by rfl) (.tmp 11) (.tmp 12) (by rfl) v (.slice (some ⟨w.heap.size + 1, 0, none⟩) 1 1) bs [1] (by rfl) (by rfl) (HO.out.same pj.out) rb.out (by simp; omega) ?_
  intro a2 n2 c2 w2 eP aN
  have eF := (show Hid (Own 0 5 .u8 w2 (.slice a2 n2 c2) (bs ++ [1])) from eP)
  have wM := (show Hid (Grew w v w2 (.slice a2 n2 c2)) from (Grew.of_same pj.out).trans aN)
  have b2 := bB.kept aN.kept rW.out
  have zE := (show Hid (¬ (Value.slice a2 n2 c2).ownBlock = some w.heap.size) from fun e => (aN.own _ e).elim rW.out (fun h => by have h := Nat.le_trans Au.out h; omega))
  clear eP aN
  have hS : ((fun wx : World => wx.cell? ⟨w.heap.size, 0, none⟩ = some (.bool true) ∧ wx.cell? ⟨w.heap.size, 1, none⟩ = some (.slice da d.length dc))) w2 := by exact ⟨b2.cell 0, b2.cell 1⟩
  refine hK.out _ _ (fun _ => hS) ?_
  clear hK K
  try simp only [Act.put, sA, s0, sS]
  refine o1Q 6 (fun K hK => ?_)
  go_simp
  refine (Rc _ (bs ++ [1]) d.length 2 w2 (by unfold IsI; omega) (by unfold IsI; omega) (by simp; omega) eF.out).mono ?_
  rintro e w3 ⟨a3, n3, c3, rfl, iP, fq⟩
  have fy := (show Hid (Own 0 5 .u8 w3 (.slice a3 n3 c3) ((bs ++ [1]) ++ Q6 d.length 2)) from iP)
  have nw := hid (wM.out.trans fq)
  have b3 := b2.kept fq.kept zE.out
  have Hs := (show Hid (¬ (Value.slice a3 n3 c3).ownBlock = some w.heap.size) from fun e => (fq.own _ e).elim zE.out (fun h => by have h := Nat.lt_of_lt_of_le b2.lt h; omega))
  clear iP fq
  have hS : ((fun wx : World => wx.cell? ⟨w.heap.size, 0, none⟩ = some (.bool true) ∧ wx.cell? ⟨w.heap.size, 1, none⟩ = some (.slice da d.length dc))) w3 := by exact ⟨b3.cell 0, b3.cell 1⟩
  refine hK.out _ _ (fun _ => hS) ?_
  clear hK K
  try simp only [Act.put, sA, s0, sS]
  refine tk 7 0 hS ?_
  refine Q8 (by kernel_rfl) ?_
  have x0 := b3.c0
  have x1 := b3.c1
  go_wp2_with (at_builtin; refine UH rfl (.tmp 18) (.tmp 20) rfl (.slice a3 n3 c3) (.slice da d.length dc) _ d rfl rfl fy.out (HR.out _ nw.out.kept) (by simp; omega) ?_; intro a4 n4 c4 w4 kF iF; have il := (show Hid (Own 0 5 .u8 w4 (.slice a4 n4 c4) (((bs ++ [1]) ++ Q6 d.length 2) ++ d)) from kF); have ng := (show Hid (Grew w v w4 (.slice a4 n4 c4)) from nw.out.trans iF); clear kF iF)
  go_ret
  exact ⟨a4, n4, c4, rfl, by simpa [Ry] using il.out, ng.out⟩
def txB (bs : List Int) (i : Nat) : List Int := Q6 (bs.getD (i * 4) 0) 4 ++ Q6 (bs.getD (i * 4 + 1) 0) 1 ++ Q6 (bs.getD (i * 4 + 2) 0) 8 ++ Q6 (bs.getD (i * 4 + 3) 0) 8
def dyB (bs : List Int) (i : Nat) : List Int := Q6 (bs.getD (i * 2) 0) 2 ++ Q6 (bs.getD (i * 2 + 1) 0) 8
def RG (bs : List Int) (n : Nat) : List Int := (List.range n).flatMap (txB bs)
def Tg (bs : List Int) (n : Nat) : List Int := (List.range n).flatMap (dyB bs)
theorem UC (bs : List Int) (n : Nat) : RG bs (n + 1) = RG bs n ++ txB bs n := by simp [RG, List.range_succ]
theorem UD (bs : List Int) (n : Nat) : Tg bs (n + 1) = Tg bs n ++ dyB bs n := by simp [Tg, List.range_succ]
theorem ZC (bs : List Int) : RG bs 0 = [] := rfl
theorem ZE (bs : List Int) : Tg bs 0 = [] := rfl
theorem UX (bs : List Int) (n : Nat) : (RG bs n).length ≤ 32 * n := by
 induction n with
 | zero => simp [RG]
 | succ n ih =>
  rw [UC, List.length_append]
  have h0 := Ra (bs.getD (n * 4) 0) 4
  have h1 := Ra (bs.getD (n * 4 + 1) 0) 1
  have h2 := Ra (bs.getD (n * 4 + 2) 0) 8
  have h3 := Ra (bs.getD (n * 4 + 3) 0) 8
  simp only [txB, List.length_append]
  omega
theorem XC (bs : List Int) (n : Nat) : (Tg bs n).length ≤ 16 * n := by
 induction n with
 | zero => simp [Tg]
 | succ n ih =>
  rw [UD, List.length_append]
  have h0 := Ra (bs.getD (n * 2) 0) 2
  have h1 := Ra (bs.getD (n * 2 + 1) 0) 8
  simp only [dyB, List.length_append]
  omega
def Rv (kind txn prev : Int) : List Int := ([kind] ++ Q6 txn 4) ++ Q6 prev 8
def RO (kind txn prev page slot : Int) (bu : Bool) (bb : List Int) (au : Bool) (ab : List Int) (un nt : Int) (tx dy im : List Int) : List Int :=
 if kind = 1 then (((Rv kind txn prev ++ Q6 page 2) ++ Q6 slot 2) ++ Ry bu bb) ++ Ry au ab
 else if kind = 2 then (((Rv kind txn prev ++ Q6 page 2) ++ Q6 slot 2) ++ Ry au ab) ++ Q6 un 8
 else if kind = 7 then (((((Rv kind txn prev ++ Q6 nt 4) ++ Q6 (tx.length / 4 : Nat) 1) ++ RG tx (tx.length / 4)) ++ Q6 (dy.length / 2 : Nat) 1) ++ Tg dy (dy.length / 2))
 else if kind = 8 then (Rv kind txn prev ++ Q6 page 2) ++ im
 else Rv kind txn prev
def RD (d : Int × Int × Int × Int × Int × (Bool × List Int) × (Bool × List Int) × Int × Int × List Int × List Int × List Int) : List Int := RO d.1 d.2.1 d.2.2.1 d.2.2.2.1 d.2.2.2.2.1 d.2.2.2.2.2.1.1 d.2.2.2.2.2.1.2 d.2.2.2.2.2.2.1.1 d.2.2.2.2.2.2.1.2 d.2.2.2.2.2.2.2.1 d.2.2.2.2.2.2.2.2.1 d.2.2.2.2.2.2.2.2.2.1 d.2.2.2.2.2.2.2.2.2.2.1 d.2.2.2.2.2.2.2.2.2.2.2
theorem SQ (kind txn prev : Int) : (Rv kind txn prev).length ≤ 17 := by
 have h0 := Ra txn 4
 have h1 := Ra prev 8
 simp only [Rv, List.length_append, List.length_singleton]
 omega
theorem WH {a b c : Int} (h : orF a b c = 0) : a = 0 ∧ b = 0 ∧ c = 0 := by
 unfold orF at h
 split at h
 ·omega
 ·split at h
  ·omega
  ·omega
theorem UJ {t p : Int} (h : Rx t p = 0) : (1 ≤ t ∧ t ≤ 2147483647) ∧ (0 ≤ p ∧ p ≤ 1099511627776) := by
 unfold Rx at h
 split at h
 ·omega
 ·split at h
  ·omega
  ·rename_i h1 h2
   simp [Tq, Sk] at h1 h2
   omega
theorem XD {p s : Int} (h : Rt p s = 0) : (0 ≤ p ∧ p < 16) ∧ (0 ≤ s ∧ s < 32) := by
 unfold Rt at h
 split at h
 ·rename_i h1
  simp [SN, UR] at h1
  omega
 ·omega
theorem jcR {bu au : Bool} {bn an : Nat} (h : jaf bu au bn an = 0) : bn ≤ 1000 ∧ an ≤ 1000 := by
 unfold jaf at h
 split at h
 ·rename_i h1
  simp [Rj] at h1
  omega
 ·omega
theorem jcS {au : Bool} {an : Nat} {un : Int} (h : jag au an un = 0) : an ≤ 1000 ∧ (0 ≤ un ∧ un ≤ 1099511627776) := by
 unfold jag at h
 split at h
 ·omega
 ·split at h
  ·omega
  ·rename_i h1 h2
   simp [Rj, Sk] at h1 h2
   omega
theorem jdI {txn prev page slot un nt : Int} {bu au : Bool} {bb ab tx dy im : List Int} (h : RV 1 txn prev page slot bu bb au ab un nt tx dy im = 0) : ((1 ≤ txn ∧ txn ≤ 2147483647) ∧ (0 ≤ prev ∧ prev ≤ 1099511627776)) ∧ ((0 ≤ page ∧ page < 16) ∧ (0 ≤ slot ∧ slot < 32)) ∧ bb.length ≤ 1000 ∧ ab.length ≤ 1000 := by
 unfold RV at h
 rw [if_pos rfl] at h
 split at h
 ·rename_i ha
  obtain ⟨h1, h2, h3⟩ := WH h
  exact ⟨UJ h1, XD h2, jcR h3⟩
 ·omega
theorem jdJ {txn prev page slot un nt : Int} {bu au : Bool} {bb ab tx dy im : List Int} (h : RV 2 txn prev page slot bu bb au ab un nt tx dy im = 0) : ((1 ≤ txn ∧ txn ≤ 2147483647) ∧ (0 ≤ prev ∧ prev ≤ 1099511627776)) ∧ ((0 ≤ page ∧ page < 16) ∧ (0 ≤ slot ∧ slot < 32)) ∧ ab.length ≤ 1000 ∧ (0 ≤ un ∧ un ≤ 1099511627776) := by
 unfold RV at h
 rw [if_neg (by decide)] at h
 rw [if_pos rfl] at h
 split at h
 ·rename_i ha
  obtain ⟨h1, h2, h3⟩ := WH h
  exact ⟨UJ h1, XD h2, jcS h3⟩
 ·omega
theorem jdK {txn prev page slot un nt : Int} {bu au : Bool} {bb ab tx dy im : List Int} (h : RV 3 txn prev page slot bu bb au ab un nt tx dy im = 0) : ((1 ≤ txn ∧ txn ≤ 2147483647) ∧ (0 ≤ prev ∧ prev ≤ 1099511627776)) := by
 unfold RV at h
 rw [if_neg (by decide)] at h
 rw [if_neg (by decide)] at h
 rw [if_pos rfl] at h
 split at h
 ·rename_i ha
  exact UJ h
 ·omega
theorem jdL {txn prev page slot un nt : Int} {bu au : Bool} {bb ab tx dy im : List Int} (h : RV 4 txn prev page slot bu bb au ab un nt tx dy im = 0) : ((1 ≤ txn ∧ txn ≤ 2147483647) ∧ (0 ≤ prev ∧ prev ≤ 1099511627776)) := by
 unfold RV at h
 rw [if_neg (by decide)] at h
 rw [if_neg (by decide)] at h
 rw [if_neg (by decide)] at h
 rw [if_pos rfl] at h
 split at h
 ·rename_i ha
  exact UJ h
 ·omega
theorem jdM {txn prev page slot un nt : Int} {bu au : Bool} {bb ab tx dy im : List Int} (h : RV 5 txn prev page slot bu bb au ab un nt tx dy im = 0) : ((1 ≤ txn ∧ txn ≤ 2147483647) ∧ (0 ≤ prev ∧ prev ≤ 1099511627776)) := by
 unfold RV at h
 rw [if_neg (by decide)] at h
 rw [if_neg (by decide)] at h
 rw [if_neg (by decide)] at h
 rw [if_neg (by decide)] at h
 rw [if_pos rfl] at h
 split at h
 ·rename_i ha
  exact UJ h
 ·omega
theorem jdN {txn prev page slot un nt : Int} {bu au : Bool} {bb ab tx dy im : List Int} (h : RV 6 txn prev page slot bu bb au ab un nt tx dy im = 0) : txn = 0 ∧ prev = 0 := by
 unfold RV at h
 rw [if_neg (by decide)] at h
 rw [if_neg (by decide)] at h
 rw [if_neg (by decide)] at h
 rw [if_neg (by decide)] at h
 rw [if_neg (by decide)] at h
 rw [if_pos rfl] at h
 split at h
 ·rename_i ha
  simp [Xj] at ha
  omega
 ·omega
theorem jaX {txn prev page slot un nt : Int} {bu au : Bool} {bb ab tx dy im : List Int} (h : RV 7 txn prev page slot bu bb au ab un nt tx dy im = 0) : txn = 0 ∧ prev = 0 ∧ (1 ≤ nt ∧ nt ≤ 2147483648) ∧ RL tx (tx.length / 4) = true ∧ RA dy (dy.length / 2) = true := by
 unfold RV at h
 rw [if_neg (by decide)] at h
 rw [if_neg (by decide)] at h
 rw [if_neg (by decide)] at h
 rw [if_neg (by decide)] at h
 rw [if_neg (by decide)] at h
 rw [if_neg (by decide)] at h
 rw [if_pos rfl] at h
 split at h
 ·rename_i ha
  simp [Xk] at ha
  unfold jb2 at h
  split at h
  ·rename_i h1
   simp at h1
   exact ⟨by omega, by omega, by omega, h1.1.2, h1.2⟩
  ·omega
 ·omega
theorem jaY {txn prev page slot un nt : Int} {bu au : Bool} {bb ab tx dy im : List Int} (h : RV 8 txn prev page slot bu bb au ab un nt tx dy im = 0) : txn = 0 ∧ prev = 0 ∧ (0 ≤ page ∧ page < 16) ∧ im.length = 4096 := by
 unfold RV at h
 rw [if_neg (by decide)] at h
 rw [if_neg (by decide)] at h
 rw [if_neg (by decide)] at h
 rw [if_neg (by decide)] at h
 rw [if_neg (by decide)] at h
 rw [if_neg (by decide)] at h
 rw [if_neg (by decide)] at h
 rw [if_pos rfl] at h
 split at h
 ·rename_i ha
  simp [Xl] at ha
  unfold jb1 at h
  split at h
  ·omega
  ·split at h
   ·omega
   ·rename_i h1 h2
    have h3 : Rn im page = 0 := by omega
    simp [SN] at h1
    refine ⟨by omega, by omega, by omega, ?_⟩
    unfold Rn at h3
    split at h3
    ·omega
    ·omega
 ·omega
theorem Xm {kind txn prev page slot un nt : Int} {bu au : Bool} {bb ab tx dy im : List Int} (h : RV kind txn prev page slot bu bb au ab un nt tx dy im = 0) : 1 ≤ kind ∧ kind ≤ 8 := by
 unfold RV at h
 repeat (split at h; · omega)
 omega
theorem jb5 {bs : List Int} {n : Nat} (h : RL bs n = true) : n ≤ 8 ∧ ∀ i, i < n → (1 ≤ bs.getD (i * 4) 0 ∧ bs.getD (i * 4) 0 ≤ 2147483647) ∧ (1 ≤ bs.getD (i * 4 + 1) 0 ∧ bs.getD (i * 4 + 1) 0 ≤ 3) ∧ (1 ≤ bs.getD (i * 4 + 2) 0 ∧ bs.getD (i * 4 + 2) 0 ≤ 1099511627776) ∧ (0 ≤ bs.getD (i * 4 + 3) 0 ∧ bs.getD (i * 4 + 3) 0 ≤ bs.getD (i * 4 + 2) 0) := by
 unfold RL at h
 simp only [Bool.and_eq_true, decide_eq_true_eq, List.all_eq_true, List.mem_range] at h
 refine ⟨h.1, fun i hi => ?_⟩
 have := h.2 i hi
 simp only [Sq, R7, Tq, Bool.and_eq_true, decide_eq_true_eq] at this
 omega
theorem jb6 {bs : List Int} {n : Nat} (h : RA bs n = true) : n ≤ 16 ∧ ∀ i, i < n → (0 ≤ bs.getD (i * 2) 0 ∧ bs.getD (i * 2) 0 < 16) ∧ (1 ≤ bs.getD (i * 2 + 1) 0 ∧ bs.getD (i * 2 + 1) 0 ≤ 1099511627776) := by
 unfold RA at h
 simp only [Bool.and_eq_true, decide_eq_true_eq, List.all_eq_true, List.mem_range] at h
 refine ⟨h.1, fun i hi => ?_⟩
 have := h.2 i hi
 simp only [Sj, Sy, SN, Bool.and_eq_true, decide_eq_true_eq] at this
 omega
def V5 (d : Int × Int × Int × Int × Int × (Bool × List Int) × (Bool × List Int) × Int × Int × List Int × List Int × List Int) : List Int := if RJ d ≠ 0 then [] else RD d
end Go.Proofs.YtaojjcnmififoaaGreat
