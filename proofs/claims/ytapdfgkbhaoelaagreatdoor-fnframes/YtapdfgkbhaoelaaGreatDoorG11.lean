import Derived.Test.YtapdfgkbhaoelaaGreatDoorPlainRec
namespace Go.Proofs.YtapdfgkbhaoelaaGreatDoor
set_option linter.unusedVariables false
set_option linter.unusedSimpArgs false
set_option maxRecDepth 100000
set_option maxHeartbeats 2000000
open Go.RowKit
def Vk (txn prev page slot : Int) (bu : Bool) (bb : List Int) (au : Bool) (ab : List Int) (un nt : Int) (tx dy im : List Int) : Bool := decide (0 = un) && decide (0 = nt) && decide (tx.length / 4 = 0) && decide (dy.length / 2 = 0) && decide ([] = im)
def Vl (txn prev page slot : Int) (bu : Bool) (bb : List Int) (au : Bool) (ab : List Int) (un nt : Int) (tx dy im : List Int) : Bool := (false == bu && decide ([] = bb)) && decide (0 = nt) && decide (tx.length / 4 = 0) && decide (dy.length / 2 = 0) && decide ([] = im)
def Vm (txn prev page slot : Int) (bu : Bool) (bb : List Int) (au : Bool) (ab : List Int) (un nt : Int) (tx dy im : List Int) : Bool := decide (0 = page) && decide (0 = slot) && (false == bu && decide ([] = bb)) && (false == au && decide ([] = ab)) && decide (0 = un) && decide (0 = nt) && decide (tx.length / 4 = 0) && decide (dy.length / 2 = 0) && decide ([] = im)
def Vn (txn prev page slot : Int) (bu : Bool) (bb : List Int) (au : Bool) (ab : List Int) (un nt : Int) (tx dy im : List Int) : Bool := decide (0 = page) && decide (0 = slot) && (false == bu && decide ([] = bb)) && (false == au && decide ([] = ab)) && decide (0 = un) && decide (0 = nt) && decide (tx.length / 4 = 0) && decide (dy.length / 2 = 0) && decide ([] = im)
def Vo (txn prev page slot : Int) (bu : Bool) (bb : List Int) (au : Bool) (ab : List Int) (un nt : Int) (tx dy im : List Int) : Bool := decide (0 = page) && decide (0 = slot) && (false == bu && decide ([] = bb)) && (false == au && decide ([] = ab)) && decide (0 = un) && decide (0 = nt) && decide (tx.length / 4 = 0) && decide (dy.length / 2 = 0) && decide ([] = im)
def UG (txn prev page slot : Int) (bu : Bool) (bb : List Int) (au : Bool) (ab : List Int) (un nt : Int) (tx dy im : List Int) : Bool := decide (0 = txn) && decide (0 = prev) && decide (0 = page) && decide (0 = slot) && (false == bu && decide ([] = bb)) && (false == au && decide ([] = ab)) && decide (0 = un) && decide (0 = nt) && decide (tx.length / 4 = 0) && decide (dy.length / 2 = 0) && decide ([] = im)
def UH (txn prev page slot : Int) (bu : Bool) (bb : List Int) (au : Bool) (ab : List Int) (un nt : Int) (tx dy im : List Int) : Bool := decide (0 = txn) && decide (0 = prev) && decide (0 = page) && decide (0 = slot) && (false == bu && decide ([] = bb)) && (false == au && decide ([] = ab)) && decide (0 = un) && decide ([] = im)
def UI (txn prev page slot : Int) (bu : Bool) (bb : List Int) (au : Bool) (ab : List Int) (un nt : Int) (tx dy im : List Int) : Bool := decide (0 = txn) && decide (0 = prev) && decide (0 = slot) && (false == bu && decide ([] = bb)) && (false == au && decide ([] = ab)) && decide (0 = un) && decide (0 = nt) && decide (tx.length / 4 = 0) && decide (dy.length / 2 = 0)
def Pw (kind txn prev page slot : Int) (bu : Bool) (bb : List Int) (au : Bool) (ab : List Int) (un nt : Int) (tx dy im : List Int) : Int := if kind = 1 then (if Vk txn prev page slot bu bb au ab un nt tx dy im = true then orF (PO txn prev) (Px page slot) (Zx bu au bb.length ab.length) else 2) else if kind = 2 then (if Vl txn prev page slot bu bb au ab un nt tx dy im = true then orF (PO txn prev) (Px page slot) (Zy au ab.length un) else 2) else if kind = 3 then (if Vm txn prev page slot bu bb au ab un nt tx dy im = true then PO txn prev else 2) else if kind = 4 then (if Vn txn prev page slot bu bb au ab un nt tx dy im = true then PO txn prev else 2) else if kind = 5 then (if Vo txn prev page slot bu bb au ab un nt tx dy im = true then PO txn prev else 2) else if kind = 6 then (if UG txn prev page slot bu bb au ab un nt tx dy im = true then 0 else 2) else if kind = 7 then (if UH txn prev page slot bu bb au ab un nt tx dy im = true then jbD nt tx (tx.length / 4) dy (dy.length / 2) else 2) else if kind = 8 then (if UI txn prev page slot bu bb au ab un nt tx dy im = true then jbC page im else 2) else 1
def O9 (d : Int × Int × Int × Int × Int × (Bool × List Int) × (Bool × List Int) × Int × Int × List Int × List Int × List Int) : Int := Pw d.1 d.2.1 d.2.2.1 d.2.2.2.1 d.2.2.2.2.1 d.2.2.2.2.2.1.1 d.2.2.2.2.2.1.2 d.2.2.2.2.2.2.1.1 d.2.2.2.2.2.2.1.2 d.2.2.2.2.2.2.2.1 d.2.2.2.2.2.2.2.2.1 d.2.2.2.2.2.2.2.2.2.1 d.2.2.2.2.2.2.2.2.2.2.1 d.2.2.2.2.2.2.2.2.2.2.2
def StLogRecord.isB (x : StLogRecord) : Prop := IsB x.before.data.bs ∧ IsB x.after.data.bs ∧ IsB x.image.bs
structure Grew (w : World) (v : Value) (w' : World) (v' : Value) : Prop where
 kept : Kept (fun b => v.ownBlock = some b) w w'
 own : ∀ b, v'.ownBlock = some b → v.ownBlock = some b ∨ w.heap.size ≤ b
theorem Grew.trans {w w1 w2 : World} {v v1 v2 : Value} (h : Grew w v w1 v1) (k : Grew w1 v1 w2 v2) : Grew w v w2 v2 := by
 refine ⟨h.kept.next k.kept (fun i hi e => (h.own i e).resolve_right (by omega)), fun b hb => ?_⟩
 rcases k.own b hb with h1 | h1
 ·exact h.own b h1
 ·have := h.kept.size
  exact .inr (by omega)
theorem Grew.of_same {w w' : World} {v : Value} (h : Same w w') : Grew w v w' v := ⟨h.mono (fun _ _ e => absurd e id), fun b hb => .inl hb⟩
theorem Grew.refl (w : World) (v : Value) : Grew w v w v := Grew.of_same kZ0
theorem Grew.size {w w' : World} {v v' : Value} (h : Grew w v w' v') : w.heap.size ≤ w'.heap.size := h.kept.size
theorem Grew.same {w0 w w' : World} {v v' : Value} (h : Grew w v w' v') (h0 : Same w0 w) (hv : ∀ b, v.ownBlock = some b → w0.heap.size ≤ b) : Same w0 w' :=
 h0.next h.kept (fun i hi e => by have := hv i e; omega)
theorem Grew.fresh {w0 w w' : World} {v v' : Value} (h : Grew w v w' v') (h0 : Same w0 w) (hv : ∀ b, v.ownBlock = some b → w0.heap.size ≤ b) : ∀ b, v'.ownBlock = some b → w0.heap.size ≤ b := fun b hb => by
 rcases h.own b hb with h1 | h1
 ·exact hv b h1
 ·have := h0.size
  omega
theorem jdz {ty : TypeId} {w : World} {v x : Value} {bs ys : List Int} (ho : Own 0 5 .u8 w v bs) (hx : Rd .u8 w x ys) (hl : bs.length + ys.length ≤ 1099511627776) :
  ∃ a n c w', (Builtin.append_ #[22, 22] ty #[v, x]).run Tryz.prog w = .ok (.slice a n c) w' ∧ Own 0 5 .u8 w' (.slice a n c) (bs ++ ys) ∧ Grew w v w' (.slice a n c) := by
 obtain ⟨i0, hi, b8, cE, cP⟩ := info_parts Tryz.infoByte'
 have iy : ∀ (ad : Addr) (c : Nat), (∀ j u, (vals .u8 ys)[j]? = some u → w.cell? (ad.add j) = some u) → ∃ a n c' w', (Builtin.append_ #[22, 22] ty #[v, .slice (some ad) ys.length c]).run Tryz.prog w = .ok (.slice a n c') w' ∧ Own 0 5 .u8 w' (.slice a n c') (bs ++ ys) ∧ Grew w v w' (.slice a n c') := fun ad c hn => by
  obtain ⟨v', w', hr, h2, h3, _, h5⟩ := run_append_own_at (P := Tryz.prog) w 0 22 ty 5 i0 (.int .u8 0) 1 1 Tryz.underlying22 hi b8 cE cP rfl (by decide) v bs.length (vals .u8 bs) ho ad ys.length c (vals .u8 ys) (by simp [O1]) hn Qy (by unfold maxLen; omega) (by omega) (Nat.zero_le _)
  have kq : Own 0 5 .u8 w' v' (bs ++ ys) := by unfold Own; simpa [vals] using h2
  obtain ⟨a, n, c', rfl⟩ := QX kq;refine ⟨a, n, c', w', hr, kq, Kept.of_grown h3 (fun k e => e), fun b hb => ?_⟩
  rcases h5 with h5 | h5
  ·exact .inl (by rw [← h5]; exact hb)
  ·rw [h5] at hb
   exact .inr (by have := Option.some.inj hb; omega)
 rcases hx.2 with ⟨rfl, a, c, rfl, ml⟩ | ⟨b, off, c, rfl, _, hc⟩
 ·cases a with
  | none =>
   obtain rfl : c = 0 := ml rfl;have hr := run_append_owned_none (P := Tryz.prog) (w := w) 0 22 ty 5 i0 1 Tryz.underlying22 hi v bs.length (vals .u8 bs) ho;obtain ⟨a, n, c', rfl⟩ := QX ho;exact ⟨a, n, c', w, hr, by rw [List.append_nil]; exact ho, Grew.refl _ _⟩
  | some ad => exact iy ad c (fun j u h => by simp [vals] at h)
 ·exact iy ⟨b, off, none⟩ c (UR hc)
theorem jcH {w : World} {o : Oper} {a : Act} {K : Act → World → Prop} {Q : Exit → Act → World → Prop} (s x : Operand)
  (ho : o.op = .call { callee := .builtin .append, args := #[s, x], argTypes := #[22, 22] })
  (v xv : Value) (bs ys : List Int) (hs : a.eval s = v) (hx : a.eval x = xv) (ag : Own 0 5 .u8 w v bs) (b9 : Rd .u8 w xv ys) (hl : bs.length + ys.length ≤ 1099511627776)
  (h : ∀ a' n' c' w', Own 0 5 .u8 w' (.slice a' n' c') (bs ++ ys) → Grew w v w' (.slice a' n' c') → K (a.put o.dst (.slice a' n' c')) w') : o.wp Tryz.prog a w K Q := by
 obtain ⟨a', n', c', w', hr, h2, h3⟩ := jdz (ty := o.type) ag b9 hl;unfold Oper.wp execOp;simp only [ho, resolve, invoke, builtin, Sem.run_bind, Sem.run_pure, Result.andThen_ok, List.map_toArray, List.map_cons, List.map_nil, hs, hx, hr];exact h a' n' c' w' h2 h3
theorem QJ {w : World} {bf : Array Oper} {rest : List Oper} {o : Oper} {a : Act} {Q : Exit → Act → World → Prop} (fq : o.guard = none) (s x : Operand)
  (ho : o.op = .call { callee := .builtin .append, args := #[s, x], argTypes := #[22, 22] })
  (v xv : Value) (bs ys : List Int) (hs : a.eval s = v) (hx : a.eval x = xv) (ag : Own 0 5 .u8 w v bs) (b9 : Rd .u8 w xv ys) (hl : bs.length + ys.length ≤ 1099511627776)
  (h : ∀ a' n' c' w', Own 0 5 .u8 w' (.slice a' n' c') (bs ++ ys) → Grew w v w' (.slice a' n' c') → wpList Tryz.prog bf Q rest (a.put o.dst (.slice a' n' c')) w') : wpList Tryz.prog bf Q (o :: rest) a w :=
 wpList_plain fq fun _ hK => jcH s x ho v xv bs ys hs hx ag b9 hl fun a' n' c' w' h2 h3 => hK _ _ (h a' n' c' w' h2 h3)
theorem Tk {w : World} {bf : Array Oper} {o : Oper} {a : Act} {K : Act → World → Prop} {Q : Exit → Act → World → Prop} {E : Prop} (fq : o.guard = none) (s x : Operand)
  (ho : o.op = .call { callee := .builtin .append, args := #[s, x], argTypes := #[22, 22] })
  (v xv : Value) (bs ys : List Int) (hs : a.eval s = v) (hx : a.eval x = xv) (ag : Own 0 5 .u8 w v bs) (b9 : Rd .u8 w xv ys) (hl : bs.length + ys.length ≤ 1099511627776)
  (h : ∀ a' n' c' w', Own 0 5 .u8 w' (.slice a' n' c') (bs ++ ys) → Grew w v w' (.slice a' n' c') → K (a.put o.dst (.slice a' n' c')) w') :
  if Region.wanted o (yielded bf a.tmps) = true then Oper.wp Tryz.prog o a w K Q else E := by
 have hw : Region.wanted o (yielded bf a.tmps) = true := by simp [Region.wanted, fq]
 rw [if_pos hw];exact jcH s x ho v xv bs ys hs hx ag b9 hl h
theorem Vp (w : World) (x : Int) : Rd .u8 (w.alloc (.cells #[.int .u8 x] 5)) (.slice (some ⟨w.heap.size, 0, none⟩) 1 1) [x] := by
 have h : Blk (w.alloc (.cells #[.int .u8 x] 5)) w.heap.size 5 (vals .u8 [x]) := Blk.new w #[.int .u8 x] 5;exact (h.own (by unfold maxLen; simp)).rd
theorem Zz (v n : Int) (w : World) (tU : IsI v) (h1 : 1 ≤ n) (h2 : n ≤ 8) (h3 : 0 ≤ v) :
  Calls Tryz.prog 57 #[Q1 v, Q1 n] w fun e w' => ∃ a c, e = .returned (.slice a (OW v n).length c) ∧ (∀ b, (Value.slice a (OW v n).length c).ownBlock = some b → w.heap.size ≤ b) ∧
   Own 0 5 .u8 w' (.slice a (OW v n).length c) (OW v n) ∧ Same w w' := by
 obtain ⟨n, rfl⟩ : ∃ m : Nat, n = m := ⟨n.toNat, by omega⟩;obtain ⟨i0, hi, b8, cE, cP⟩ := info_parts Tryz.infoByte';obtain ⟨gl, lQ⟩ := tU
 have t7 : ¬ (n : Int) < 1 := by omega
 have kq : ¬ (8 : Int) < n := by omega
 have Mp : ¬ v < 0 := by omega
 by_cases hz : v / 256 ^ n = 0
 ·have sn : v / 2 ^ (8 * n) = 0 := by rw [jfb]; exact hz
  have dY : OW v n = O5 v n := by unfold OW; rw [if_neg (by simp only [Int.toNat_natCast]; omega)]; simp
  have HN : Hid (OW v n = O5 v n) := dY;clear hz dY
  go_enter Tryz.func57, Tryz.ntmps57
  go_wp2_with (first
   | (at_make; go_loud (refine wpList_make_full _ rfl _ _ 22 rfl 0 5 i0 (.int .u8 0) 1 Tryz.underlying22 hi b8 cE .i64 .i64 _ _ n rfl rfl (by first | rfl | simp | omega) (by first | rfl | simp | omega) (by rw [cP]; omega) (by unfold maxLen; omega) (Nat.zero_le _) ?_); intro w1 bm aV; have HO : Hid (Own 0 5 .u8 w1 (.slice (some ⟨w.heap.size, 0, none⟩) n n) (List.replicate n 0)) := Tc (by simpa using bm); have HK : Hid (Same w w1) := Kept.of_grown aV (fun k e => by cases e); clear bm aV)
   | (go_at_call 49; refine (Qm w.heap.size 0 n n 5 (vals .u8 (List.replicate n 0)) v _ (Own.blk HO.out) (by simp [vals]) h3 (by omega) (by omega)).mono ?_; rintro e w2 ⟨rfl, dJ, aj⟩))
  go_ret;rw [HN.out, OY];rw [lay_all _ _ (by simp [vals, OY])] at dJ;refine ⟨_, _, rfl, fun b hb => ?_, ?_, HK.out.next aj (fun i hi e => by omega)⟩
  ·simp [Value.ownBlock] at hb; omega
  ·have h := Blk.own dJ (by unfold maxLen; rw [OY]; omega)
   rw [OY] at h;exact h
 ·have sn : v / 2 ^ (8 * n) ≠ 0 := by rw [jfb]; exact hz
  have dY : OW v n = [] := by unfold OW; rw [if_pos (by simp only [Int.toNat_natCast]; omega)]
  have HN : Hid (OW v n = []) := dY;clear hz dY
  go_enter Tryz.func57, Tryz.ntmps57
  go_wp2;go_ret;rw [HN.out];exact ⟨none, 0, rfl, fun b hb => by simp [Value.ownBlock] at hb, Own.nil _ _ _ _, kZ0⟩
theorem jaC (v n : Int) (w : World) (h : n < 1 ∨ 8 < n ∨ v < 0) :
  Calls Tryz.prog 57 #[Q1 v, Q1 n] w fun e w' => e = .returned (Q4) ∧ w' = w := by
 rcases h with h | h
 ·go_enter Tryz.func57, Tryz.ntmps57
  go_wp2;go_ret;exact ⟨rfl, rfl⟩
 ·by_cases h1 : n < 1
  ·go_enter Tryz.func57, Tryz.ntmps57
   go_wp2;go_ret;exact ⟨rfl, rfl⟩
  ·rcases h with h | h
   ·go_enter Tryz.func57, Tryz.ntmps57
    go_wp2;go_ret;exact ⟨rfl, rfl⟩
   ·by_cases h2 : 8 < n
    ·go_enter Tryz.func57, Tryz.ntmps57
     go_wp2;go_ret;exact ⟨rfl, rfl⟩
    ·go_enter Tryz.func57, Tryz.ntmps57
     go_wp2;go_ret;exact ⟨rfl, rfl⟩
theorem Qw (v n : Int) (w : World) (tU : IsI v) (Gj : IsI n) :
  Calls Tryz.prog 57 #[Q1 v, Q1 n] w fun e w' => ∃ a c, e = .returned (.slice a (OW v n).length c) ∧ (∀ b, (Value.slice a (OW v n).length c).ownBlock = some b → w.heap.size ≤ b) ∧
   Own 0 5 .u8 w' (.slice a (OW v n).length c) (OW v n) ∧ Same w w' := by
 by_cases h : n < 1 ∨ 8 < n ∨ v < 0
 ·refine (jaC v n w h).mono ?_
  rintro e w' ⟨rfl, rfl⟩
  have e : OW v n = [] := by unfold OW; rw [if_pos (by omega)]
  rw [e];exact ⟨none, 0, rfl, fun b hb => by simp [Value.ownBlock] at hb, Own.nil _ _ _ _, kZ0⟩
 ·exact Zz v n w tU (by omega) (by omega) (by omega)
theorem Ph (v : Value) (bs : List Int) (x n : Int) (w : World) (hx : IsI x) (hn : IsI n) (hl : bs.length ≤ 1073741824) (ho : Own 0 5 .u8 w v bs) :
  Calls Tryz.prog 51 #[v, Q1 x, Q1 n] w fun e w' => ∃ aa nn cc, e = .returned (.slice aa nn cc) ∧ Own 0 5 .u8 w' (.slice aa nn cc) (bs ++ OW x n) ∧ Grew w v w' (.slice aa nn cc) := by
 have hP := QV x n w hx hn;have oh := O3 x n;have HO : Hid (Own 0 5 .u8 w v bs) := ho;clear ho
 go_enter Tryz.func51, Tryz.ntmps51
 go_wp2_with (first
  | (go_at_call 52; refine hP.mono ?_; rintro e w1 ⟨a1, c1, rfl, dx, dL, ah⟩; have dU : Hid (Rd .u8 w1 (.slice a1 (OW x n).length c1) (OW x n)) := dL.rd; have aN : Hid (Same w w1) := ah; clear dx dL ah)
  | (at_builtin; refine QJ rfl (.tmp 7) (.tmp 10) rfl v (.slice a1 (OW x n).length c1) bs (OW x n) rfl rfl (HO.out.same aN.out) dU.out (by omega) ?_; intro a2 n2 c2 w2 cf aj; have HF : Hid (Own 0 5 .u8 w2 (.slice a2 n2 c2) (bs ++ OW x n)) := cf; have HK : Hid (Grew w v w2 (.slice a2 n2 c2)) := (Grew.of_same aN.out).trans aj; clear cf aj))
 go_ret;exact ⟨a2, n2, c2, rfl, HF.out, HK.out⟩
theorem O7 (v : Value) (bs : List Int) (x n : Int) (w : World) (hx : IsI x) (hn : IsI n) (hl : bs.length ≤ 1073741824) (ho : Own 0 5 .u8 w v bs) :
  Calls Tryz.prog 60 #[v, Q1 x, Q1 n] w fun e w' => ∃ aa nn cc, e = .returned (.slice aa nn cc) ∧ Own 0 5 .u8 w' (.slice aa nn cc) (bs ++ OW x n) ∧ Grew w v w' (.slice aa nn cc) := by
 have hP := Qw x n w hx hn;have oh := O3 x n;have HO : Hid (Own 0 5 .u8 w v bs) := ho;clear ho
 go_enter Tryz.func60, Tryz.ntmps60
 go_wp2_with (first
  | (go_at_call 57; refine hP.mono ?_; rintro e w1 ⟨a1, c1, rfl, dx, dL, ah⟩; have dU : Hid (Rd .u8 w1 (.slice a1 (OW x n).length c1) (OW x n)) := dL.rd; have aN : Hid (Same w w1) := ah; clear dx dL ah)
  | (at_builtin; refine QJ rfl (.tmp 7) (.tmp 10) rfl v (.slice a1 (OW x n).length c1) bs (OW x n) rfl rfl (HO.out.same aN.out) dU.out (by omega) ?_; intro a2 n2 c2 w2 cf aj; have HF : Hid (Own 0 5 .u8 w2 (.slice a2 n2 c2) (bs ++ OW x n)) := cf; have HK : Hid (Grew w v w2 (.slice a2 n2 c2)) := (Grew.of_same aN.out).trans aj; clear cf aj))
 go_ret;exact ⟨a2, n2, c2, rfl, HF.out, HK.out⟩
def Pn (u : Bool) (d : List Int) : List Int := if u = true then 1 :: (OW d.length 2 ++ d) else [0]
theorem QG (u : Bool) (d : List Int) : (Pn u d).length ≤ d.length + 9 := by
 unfold Pn;have := O3 d.length 2
 split
 ·simp; omega
 ·simp
theorem SY (v : Value) (bs : List Int) (u : Bool) (dv : Value) (d : List Int) (w : World) (hd : d.length ≤ 1073741824) (hl : bs.length ≤ 1073741000) (hR : ∀ wx, Kept (fun b => v.ownBlock = some b) w wx → Rd .u8 wx dv d) (ho : Own 0 5 .u8 w v bs) :
  Calls Tryz.prog 84 #[v, .agg #[.bool u, dv]] w fun e w' => ∃ aa nn cc, e = .returned (.slice aa nn cc) ∧ Own 0 5 .u8 w' (.slice aa nn cc) (bs ++ Pn u d) ∧ Grew w v w' (.slice aa nn cc) := by
 obtain ⟨da, dc, rfl⟩ := (hR w kZ0).form;have kx := (show Hid (¬ v.ownBlock = some w.heap.size) from fun e => by have := (ho.lt _ e).2; omega);have HO : Hid (Own 0 5 .u8 w v bs) := ho;have HR : Hid (∀ wx, Kept (fun b => v.ownBlock = some b) w wx → Rd .u8 wx (.slice da d.length dc) d) := hR;clear ho hR
 cases u with
 | false =>
  have mW := hid (jao w [.bool false, .slice da d.length dc] 24 [.int .u8 0] 5);have fV : Hid (Rd .u8 ((w.alloc (.cells #[.bool false, .slice da d.length dc] 24)).alloc (.cells #[.int .u8 0] 5)) (.slice (some ⟨w.heap.size + 1, 0, none⟩) 1 1) [0]) := by have h := Vp (w.alloc (.cells #[.bool false, .slice da d.length dc] 24)) 0; simpa [Hid] using h
  go_enter Tryz.func84, Tryz.ntmps84
  go_wp2_with (at_builtin; refine QJ rfl (.tmp 8) (.tmp 9) rfl v (.slice (some ⟨w.heap.size + 1, 0, none⟩) 1 1) bs [0] rfl rfl (HO.out.same mW.out) fV.out (by simp; omega) ?_; intro a2 n2 c2 w2 cf aj; have HF : Hid (Own 0 5 .u8 w2 (.slice a2 n2 c2) (bs ++ [0])) := cf; have HK : Hid (Grew w v w2 (.slice a2 n2 c2)) := (Grew.of_same mW.out).trans aj; clear cf aj)
  go_ret;exact ⟨a2, n2, c2, rfl, HF.out, HK.out⟩
 | true =>
  have mW : Hid (Same w ((w.alloc (.cells #[.bool true, .slice da d.length dc] 24)).drew.alloc (.cells #[.int .u8 1] 5))) := (kZ0.alloc _).drew.alloc _;have fV := (show Hid (Rd .u8 ((w.alloc (.cells #[.bool true, .slice da d.length dc] 24)).drew.alloc (.cells #[.int .u8 1] 5)) (.slice (some ⟨w.heap.size + 1, 0, none⟩) 1 1) [1]) from by have h := Vp (w.alloc (.cells #[.bool true, .slice da d.length dc] 24)).drew 1; simpa [Hid] using h);have BF := (show Hid (w.heap.size + 1 ≤ ((w.alloc (.cells #[.bool true, .slice da d.length dc] 24)).drew.alloc (.cells #[.int .u8 1] 5)).heap.size) from by simp [Hid]);have bA := Blk.newL w [.bool true, .slice da d.length dc] 24;have bB : Blk ((w.alloc (.cells #[.bool true, .slice da d.length dc] 24)).drew.alloc (.cells #[.int .u8 1] 5)) w.heap.size 24 [.bool true, .slice da d.length dc] := bA.drew.alloc _;have oh := O3 d.length 2
  go_enter Tryz.func84, Tryz.ntmps84
  go_wp2_with fail
  have hS : ((fun wx : World => D0 wx w.heap.size 0 (.bool true) ∧ D0 wx w.heap.size 1 (.slice da d.length dc))) (w.alloc (.cells #[.bool true, .slice da d.length dc] 24)).drew := by exact ⟨bA.cell 0, bA.cell 1⟩
  refine O0 ((fun wx : World => D0 wx w.heap.size 0 (.bool true) ∧ D0 wx w.heap.size 1 (.slice da d.length dc))) 99 11 ?_;refine tk 0 11 hS ?_;refine tk 3 14 hS ?_;refine tk 4 15 hS ?_;refine tk 5 16 hS ?_;refine tk 7 18 hS ?_;refine tk 8 19 hS ?_;refine o1Q 1 (fun K hK => ?_);go_simp
  have hS : ((fun wx : World => D0 wx w.heap.size 0 (.bool true) ∧ D0 wx w.heap.size 1 (.slice da d.length dc))) ((w.alloc (.cells #[.bool true, .slice da d.length dc] 24)).drew.alloc (.cells #[.int .u8 1] 5)) := by exact ⟨bB.cell 0, bB.cell 1⟩
  refine hK.out _ _ (fun _ => hS) ?_;clear hK K
  try simp only [Sp]
  refine o1Q 2 (fun K hK => ?_);refine Tk (by rfl) (.tmp 11) (.tmp 12) (by rfl) v (.slice (some ⟨w.heap.size + 1, 0, none⟩) 1 1) bs [1] (by rfl) (by rfl) (HO.out.same mW.out) fV.out (by simp; omega) ?_;intro a2 n2 c2 w2 cf aj;have cG : Hid (Own 0 5 .u8 w2 (.slice a2 n2 c2) (bs ++ [1])) := cf;have uh : Hid (Grew w v w2 (.slice a2 n2 c2)) := (Grew.of_same mW.out).trans aj;have b2 := bB.kept aj.kept kx.out;have lq := (show Hid (¬ (Value.slice a2 n2 c2).ownBlock = some w.heap.size) from fun e => (aj.own _ e).elim kx.out (fun h => by have h := Nat.le_trans BF.out h; omega));clear cf aj
  have hS : ((fun wx : World => D0 wx w.heap.size 0 (.bool true) ∧ D0 wx w.heap.size 1 (.slice da d.length dc))) w2 := by exact ⟨b2.cell 0, b2.cell 1⟩
  refine hK.out _ _ (fun _ => hS) ?_;clear hK K
  try simp only [Sp]
  refine o1Q 6 (fun K hK => ?_);go_simp;refine (Ph _ (bs ++ [1]) d.length 2 w2 (by unfold IsI; omega) (by unfold IsI; omega) (by simp; omega) cG.out).mono ?_;rintro e w3 ⟨a3, n3, c3, rfl, eh, aZ⟩;have cI : Hid (Own 0 5 .u8 w3 (.slice a3 n3 c3) ((bs ++ [1]) ++ OW d.length 2)) := eh;have tq := hid (uh.out.trans aZ);have b3 := b2.kept aZ.kept lq.out;have wd := (show Hid (¬ (Value.slice a3 n3 c3).ownBlock = some w.heap.size) from fun e => (aZ.own _ e).elim lq.out (fun h => by have h := Nat.lt_of_lt_of_le b2.lt h; omega));clear eh aZ
  have hS : ((fun wx : World => D0 wx w.heap.size 0 (.bool true) ∧ D0 wx w.heap.size 1 (.slice da d.length dc))) w3 := by exact ⟨b3.cell 0, b3.cell 1⟩
  refine hK.out _ _ (fun _ => hS) ?_;clear hK K
  try simp only [Sp]
  refine o1Q 9 (fun K hK => ?_);refine Tk (by rfl) (.tmp 17) (.tmp 19) (by rfl) (.slice a3 n3 c3) (.slice da d.length dc) _ d (by rfl) (by rfl) cI.out (HR.out _ tq.out.kept) (by simp; omega) ?_;intro a4 n4 c4 w4 fZ cS;have dV : Hid (Own 0 5 .u8 w4 (.slice a4 n4 c4) (((bs ++ [1]) ++ OW d.length 2) ++ d)) := fZ;have qE := hid (tq.out.trans cS);have b4 := b3.kept cS.kept wd.out;clear fZ cS
  have hS : ((fun wx : World => D0 wx w.heap.size 0 (.bool true) ∧ D0 wx w.heap.size 1 (.slice da d.length dc))) w4 := by exact ⟨b4.cell 0, b4.cell 1⟩
  refine hK.out _ _ (fun _ => hS) ?_;clear hK K
  try simp only [Sp]
  refine tk 10 4 hS ?_;refine OZ ?_;go_wp2;go_ret;exact ⟨a4, n4, c4, rfl, by simpa [Pn] using dV.out, qE.out⟩
theorem Sv (v : Value) (bs : List Int) (u : Bool) (dv : Value) (d : List Int) (w : World) (hd : d.length ≤ 1073741824) (hl : bs.length ≤ 1073741000) (hR : ∀ wx, Kept (fun b => v.ownBlock = some b) w wx → Rd .u8 wx dv d) (ho : Own 0 5 .u8 w v bs) :
  Calls Tryz.prog 164 #[v, .agg #[.bool u, dv]] w fun e w' => ∃ aa nn cc, e = .returned (.slice aa nn cc) ∧ Own 0 5 .u8 w' (.slice aa nn cc) (bs ++ Pn u d) ∧ Grew w v w' (.slice aa nn cc) := by
 obtain ⟨da, dc, rfl⟩ := (hR w kZ0).form;have kx := (show Hid (¬ v.ownBlock = some w.heap.size) from fun e => by have := (ho.lt _ e).2; omega);have HO : Hid (Own 0 5 .u8 w v bs) := ho;have HR : Hid (∀ wx, Kept (fun b => v.ownBlock = some b) w wx → Rd .u8 wx (.slice da d.length dc) d) := hR;clear ho hR
 cases u with
 | false =>
  have mW := hid (jao w [.bool false, .slice da d.length dc] 24 [.int .u8 0] 5);have fV : Hid (Rd .u8 ((w.alloc (.cells #[.bool false, .slice da d.length dc] 24)).alloc (.cells #[.int .u8 0] 5)) (.slice (some ⟨w.heap.size + 1, 0, none⟩) 1 1) [0]) := by have h := Vp (w.alloc (.cells #[.bool false, .slice da d.length dc] 24)) 0; simpa [Hid] using h
  go_enter Tryz.func164, Tryz.ntmps164
  go_wp2_with (at_builtin; refine QJ rfl (.tmp 8) (.tmp 9) rfl v (.slice (some ⟨w.heap.size + 1, 0, none⟩) 1 1) bs [0] rfl rfl (HO.out.same mW.out) fV.out (by simp; omega) ?_; intro a2 n2 c2 w2 cf aj; have HF : Hid (Own 0 5 .u8 w2 (.slice a2 n2 c2) (bs ++ [0])) := cf; have HK : Hid (Grew w v w2 (.slice a2 n2 c2)) := (Grew.of_same mW.out).trans aj; clear cf aj)
  go_ret;exact ⟨a2, n2, c2, rfl, HF.out, HK.out⟩
 | true =>
  have mW : Hid (Same w ((w.alloc (.cells #[.bool true, .slice da d.length dc] 24)).drew.alloc (.cells #[.int .u8 1] 5))) := (kZ0.alloc _).drew.alloc _;have fV := (show Hid (Rd .u8 ((w.alloc (.cells #[.bool true, .slice da d.length dc] 24)).drew.alloc (.cells #[.int .u8 1] 5)) (.slice (some ⟨w.heap.size + 1, 0, none⟩) 1 1) [1]) from by have h := Vp (w.alloc (.cells #[.bool true, .slice da d.length dc] 24)).drew 1; simpa [Hid] using h);have BF := (show Hid (w.heap.size + 1 ≤ ((w.alloc (.cells #[.bool true, .slice da d.length dc] 24)).drew.alloc (.cells #[.int .u8 1] 5)).heap.size) from by simp [Hid]);have bA := Blk.newL w [.bool true, .slice da d.length dc] 24;have bB : Blk ((w.alloc (.cells #[.bool true, .slice da d.length dc] 24)).drew.alloc (.cells #[.int .u8 1] 5)) w.heap.size 24 [.bool true, .slice da d.length dc] := bA.drew.alloc _;have oh := O3 d.length 2
  go_enter Tryz.func164, Tryz.ntmps164
  go_wp2_with fail
  have hS : ((fun wx : World => D0 wx w.heap.size 0 (.bool true) ∧ D0 wx w.heap.size 1 (.slice da d.length dc))) (w.alloc (.cells #[.bool true, .slice da d.length dc] 24)).drew := by exact ⟨bA.cell 0, bA.cell 1⟩
  refine O0 ((fun wx : World => D0 wx w.heap.size 0 (.bool true) ∧ D0 wx w.heap.size 1 (.slice da d.length dc))) 99 8 ?_;refine tk 0 11 hS ?_;refine tk 3 14 hS ?_;refine tk 4 15 hS ?_;refine tk 5 16 hS ?_;refine o1Q 1 (fun K hK => ?_);go_simp
  have hS : ((fun wx : World => D0 wx w.heap.size 0 (.bool true) ∧ D0 wx w.heap.size 1 (.slice da d.length dc))) ((w.alloc (.cells #[.bool true, .slice da d.length dc] 24)).drew.alloc (.cells #[.int .u8 1] 5)) := by exact ⟨bB.cell 0, bB.cell 1⟩
  refine hK.out _ _ (fun _ => hS) ?_;clear hK K
  try simp only [Sp]
  refine o1Q 2 (fun K hK => ?_);refine Tk (by rfl) (.tmp 11) (.tmp 12) (by rfl) v (.slice (some ⟨w.heap.size + 1, 0, none⟩) 1 1) bs [1] (by rfl) (by rfl) (HO.out.same mW.out) fV.out (by simp; omega) ?_;intro a2 n2 c2 w2 cf aj;have cG : Hid (Own 0 5 .u8 w2 (.slice a2 n2 c2) (bs ++ [1])) := cf;have uh : Hid (Grew w v w2 (.slice a2 n2 c2)) := (Grew.of_same mW.out).trans aj;have b2 := bB.kept aj.kept kx.out;have lq := (show Hid (¬ (Value.slice a2 n2 c2).ownBlock = some w.heap.size) from fun e => (aj.own _ e).elim kx.out (fun h => by have h := Nat.le_trans BF.out h; omega));clear cf aj
  have hS : ((fun wx : World => D0 wx w.heap.size 0 (.bool true) ∧ D0 wx w.heap.size 1 (.slice da d.length dc))) w2 := by exact ⟨b2.cell 0, b2.cell 1⟩
  refine hK.out _ _ (fun _ => hS) ?_;clear hK K
  try simp only [Sp]
  refine o1Q 6 (fun K hK => ?_);go_simp;refine (O7 _ (bs ++ [1]) d.length 2 w2 (by unfold IsI; omega) (by unfold IsI; omega) (by simp; omega) cG.out).mono ?_;rintro e w3 ⟨a3, n3, c3, rfl, eh, aZ⟩;have cI : Hid (Own 0 5 .u8 w3 (.slice a3 n3 c3) ((bs ++ [1]) ++ OW d.length 2)) := eh;have tq := hid (uh.out.trans aZ);have b3 := b2.kept aZ.kept lq.out;have wd := (show Hid (¬ (Value.slice a3 n3 c3).ownBlock = some w.heap.size) from fun e => (aZ.own _ e).elim lq.out (fun h => by have h := Nat.lt_of_lt_of_le b2.lt h; omega));clear eh aZ
  have hS : ((fun wx : World => D0 wx w.heap.size 0 (.bool true) ∧ D0 wx w.heap.size 1 (.slice da d.length dc))) w3 := by exact ⟨b3.cell 0, b3.cell 1⟩
  refine hK.out _ _ (fun _ => hS) ?_;clear hK K
  try simp only [Sp]
  refine tk 7 0 hS ?_;refine OZ ?_;have x0 := b3.c0;have x1 := b3.c1
  go_wp2_with (at_builtin; refine QJ rfl (.tmp 18) (.tmp 20) rfl (.slice a3 n3 c3) (.slice da d.length dc) _ d rfl rfl cI.out (HR.out _ tq.out.kept) (by simp; omega) ?_; intro a4 n4 c4 w4 fZ cS; have dV : Hid (Own 0 5 .u8 w4 (.slice a4 n4 c4) (((bs ++ [1]) ++ OW d.length 2) ++ d)) := fZ; have qE : Hid (Grew w v w4 (.slice a4 n4 c4)) := tq.out.trans cS; clear fZ cS)
  go_ret;exact ⟨a4, n4, c4, rfl, by simpa [Pn] using dV.out, qE.out⟩
def txB (bs : List Int) (i : Nat) : List Int := OW (bs.getD (i * 4) 0) 4 ++ OW (bs.getD (i * 4 + 1) 0) 1 ++ OW (bs.getD (i * 4 + 2) 0) 8 ++ OW (bs.getD (i * 4 + 3) 0) 8
def dyB (bs : List Int) (i : Nat) : List Int := OW (bs.getD (i * 2) 0) 2 ++ OW (bs.getD (i * 2 + 1) 0) 8
def PI (bs : List Int) (n : Nat) : List Int := (List.range n).flatMap (txB bs)
def QK (bs : List Int) (n : Nat) : List Int := (List.range n).flatMap (dyB bs)
theorem Sg (bs : List Int) (n : Nat) : PI bs (n + 1) = PI bs n ++ txB bs n := by simp [PI, List.range_succ]
theorem Si (bs : List Int) (n : Nat) : QK bs (n + 1) = QK bs n ++ dyB bs n := by simp [QK, List.range_succ]
theorem X5 (bs : List Int) : PI bs 0 = [] := rfl
theorem X6 (bs : List Int) : QK bs 0 = [] := rfl
theorem R8 (bs : List Int) (n : Nat) : (PI bs n).length ≤ 32 * n := by
 induction n with
 | zero => simp [PI]
 | succ n ih =>
  rw [Sg, List.length_append];have h0 := O3 (bs.getD (n * 4) 0) 4;have h1 := O3 (bs.getD (n * 4 + 1) 0) 1;have h2 := O3 (bs.getD (n * 4 + 2) 0) 8;have h3 := O3 (bs.getD (n * 4 + 3) 0) 8;simp only [txB, List.length_append];omega
theorem T9 (bs : List Int) (n : Nat) : (QK bs n).length ≤ 16 * n := by
 induction n with
 | zero => simp [QK]
 | succ n ih =>
  rw [Si, List.length_append];have h0 := O3 (bs.getD (n * 2) 0) 2;have h1 := O3 (bs.getD (n * 2 + 1) 0) 8;simp only [dyB, List.length_append];omega
def Pf (kind txn prev : Int) : List Int := ([kind] ++ OW txn 4) ++ OW prev 8
def Pq (kind txn prev page slot : Int) (bu : Bool) (bb : List Int) (au : Bool) (ab : List Int) (un nt : Int) (tx dy im : List Int) : List Int :=
 if kind = 1 then (((Pf kind txn prev ++ OW page 2) ++ OW slot 2) ++ Pn bu bb) ++ Pn au ab
 else if kind = 2 then (((Pf kind txn prev ++ OW page 2) ++ OW slot 2) ++ Pn au ab) ++ OW un 8
 else if kind = 7 then (((((Pf kind txn prev ++ OW nt 4) ++ OW (tx.length / 4 : Nat) 1) ++ PI tx (tx.length / 4)) ++ OW (dy.length / 2 : Nat) 1) ++ QK dy (dy.length / 2))
 else if kind = 8 then (Pf kind txn prev ++ OW page 2) ++ im
 else Pf kind txn prev
def Pe (d : Int × Int × Int × Int × Int × (Bool × List Int) × (Bool × List Int) × Int × Int × List Int × List Int × List Int) : List Int := Pq d.1 d.2.1 d.2.2.1 d.2.2.2.1 d.2.2.2.2.1 d.2.2.2.2.2.1.1 d.2.2.2.2.2.1.2 d.2.2.2.2.2.2.1.1 d.2.2.2.2.2.2.1.2 d.2.2.2.2.2.2.2.1 d.2.2.2.2.2.2.2.2.1 d.2.2.2.2.2.2.2.2.2.1 d.2.2.2.2.2.2.2.2.2.2.1 d.2.2.2.2.2.2.2.2.2.2.2
theorem Qq (kind txn prev : Int) : (Pf kind txn prev).length ≤ 17 := by
 have h0 := O3 txn 4;have h1 := O3 prev 8;simp only [Pf, List.length_append, List.length_singleton];omega
theorem U0 {a b c : Int} (h : orF a b c = 0) : a = 0 ∧ b = 0 ∧ c = 0 := by
 unfold orF at h
 split at h
 ·omega
 ·split at h
  ·omega
  ·omega
theorem Sw {t p : Int} (h : PO t p = 0) : (1 ≤ t ∧ t ≤ 2147483647) ∧ (0 ≤ p ∧ p ≤ 1099511627776) := by
 unfold PO at h
 split at h
 ·omega
 ·split at h
  ·omega
  ·rename_i h1 h2
   simp [SX, QM] at h1 h2;omega
theorem VG {p s : Int} (h : Px p s = 0) : (0 ≤ p ∧ p < 16) ∧ (0 ≤ s ∧ s < 32) := by
 unfold Px at h
 split at h
 ·rename_i h1
  simp [Rm, Ul] at h1;omega
 ·omega
theorem jbE {bu au : Bool} {bn an : Nat} (h : Zx bu au bn an = 0) : bn ≤ 1000 ∧ an ≤ 1000 := by
 unfold Zx at h
 split at h
 ·rename_i h1
  simp [QN] at h1;omega
 ·omega
theorem jbF {au : Bool} {an : Nat} {un : Int} (h : Zy au an un = 0) : an ≤ 1000 ∧ (0 ≤ un ∧ un ≤ 1099511627776) := by
 unfold Zy at h
 split at h
 ·omega
 ·split at h
  ·omega
  ·rename_i h1 h2
   simp [QN, QM] at h1 h2;omega
theorem X7 {txn prev page slot un nt : Int} {bu au : Bool} {bb ab tx dy im : List Int} (h : Pw 1 txn prev page slot bu bb au ab un nt tx dy im = 0) : ((1 ≤ txn ∧ txn ≤ 2147483647) ∧ (0 ≤ prev ∧ prev ≤ 1099511627776)) ∧ ((0 ≤ page ∧ page < 16) ∧ (0 ≤ slot ∧ slot < 32)) ∧ bb.length ≤ 1000 ∧ ab.length ≤ 1000 := by
 unfold Pw at h;rw [if_pos rfl] at h
 split at h
 ·rename_i ha
  obtain ⟨h1, h2, h3⟩ := U0 h;exact ⟨Sw h1, VG h2, jbE h3⟩
 ·omega
theorem X8 {txn prev page slot un nt : Int} {bu au : Bool} {bb ab tx dy im : List Int} (h : Pw 2 txn prev page slot bu bb au ab un nt tx dy im = 0) : ((1 ≤ txn ∧ txn ≤ 2147483647) ∧ (0 ≤ prev ∧ prev ≤ 1099511627776)) ∧ ((0 ≤ page ∧ page < 16) ∧ (0 ≤ slot ∧ slot < 32)) ∧ ab.length ≤ 1000 ∧ (0 ≤ un ∧ un ≤ 1099511627776) := by
 unfold Pw at h;rw [if_neg (by decide)] at h;rw [if_pos rfl] at h
 split at h
 ·rename_i ha
  obtain ⟨h1, h2, h3⟩ := U0 h;exact ⟨Sw h1, VG h2, jbF h3⟩
 ·omega
theorem ZA {txn prev page slot un nt : Int} {bu au : Bool} {bb ab tx dy im : List Int} (h : Pw 3 txn prev page slot bu bb au ab un nt tx dy im = 0) : ((1 ≤ txn ∧ txn ≤ 2147483647) ∧ (0 ≤ prev ∧ prev ≤ 1099511627776)) := by
 unfold Pw at h;rw [if_neg (by decide)] at h;rw [if_neg (by decide)] at h;rw [if_pos rfl] at h
 split at h
 ·rename_i ha
  exact Sw h
 ·omega
theorem ZB {txn prev page slot un nt : Int} {bu au : Bool} {bb ab tx dy im : List Int} (h : Pw 4 txn prev page slot bu bb au ab un nt tx dy im = 0) : ((1 ≤ txn ∧ txn ≤ 2147483647) ∧ (0 ≤ prev ∧ prev ≤ 1099511627776)) := by
 unfold Pw at h;rw [if_neg (by decide)] at h;rw [if_neg (by decide)] at h;rw [if_neg (by decide)] at h;rw [if_pos rfl] at h
 split at h
 ·rename_i ha
  exact Sw h
 ·omega
theorem ZC {txn prev page slot un nt : Int} {bu au : Bool} {bb ab tx dy im : List Int} (h : Pw 5 txn prev page slot bu bb au ab un nt tx dy im = 0) : ((1 ≤ txn ∧ txn ≤ 2147483647) ∧ (0 ≤ prev ∧ prev ≤ 1099511627776)) := by
 unfold Pw at h;rw [if_neg (by decide)] at h;rw [if_neg (by decide)] at h;rw [if_neg (by decide)] at h;rw [if_neg (by decide)] at h;rw [if_pos rfl] at h
 split at h
 ·rename_i ha
  exact Sw h
 ·omega
theorem ZE {txn prev page slot un nt : Int} {bu au : Bool} {bb ab tx dy im : List Int} (h : Pw 6 txn prev page slot bu bb au ab un nt tx dy im = 0) : txn = 0 ∧ prev = 0 := by
 unfold Pw at h;rw [if_neg (by decide)] at h;rw [if_neg (by decide)] at h;rw [if_neg (by decide)] at h;rw [if_neg (by decide)] at h;rw [if_neg (by decide)] at h;rw [if_pos rfl] at h
 split at h
 ·rename_i ha
  simp [UG] at ha;omega
 ·omega
theorem VH {txn prev page slot un nt : Int} {bu au : Bool} {bb ab tx dy im : List Int} (h : Pw 7 txn prev page slot bu bb au ab un nt tx dy im = 0) : txn = 0 ∧ prev = 0 ∧ (1 ≤ nt ∧ nt ≤ 2147483648) ∧ PY tx (tx.length / 4) = true ∧ PE dy (dy.length / 2) = true := by
 unfold Pw at h;rw [if_neg (by decide)] at h;rw [if_neg (by decide)] at h;rw [if_neg (by decide)] at h;rw [if_neg (by decide)] at h;rw [if_neg (by decide)] at h;rw [if_neg (by decide)] at h;rw [if_pos rfl] at h
 split at h
 ·rename_i ha
  simp [UH] at ha;unfold jbD at h
  split at h
  ·rename_i h1
   simp at h1;exact ⟨by omega, by omega, by omega, h1.1.2, h1.2⟩
  ·omega
 ·omega
theorem VI {txn prev page slot un nt : Int} {bu au : Bool} {bb ab tx dy im : List Int} (h : Pw 8 txn prev page slot bu bb au ab un nt tx dy im = 0) : txn = 0 ∧ prev = 0 ∧ (0 ≤ page ∧ page < 16) ∧ im.length = 4096 := by
 unfold Pw at h;rw [if_neg (by decide)] at h;rw [if_neg (by decide)] at h;rw [if_neg (by decide)] at h;rw [if_neg (by decide)] at h;rw [if_neg (by decide)] at h;rw [if_neg (by decide)] at h;rw [if_neg (by decide)] at h;rw [if_pos rfl] at h
 split at h
 ·rename_i ha
  simp [UI] at ha;unfold jbC at h
  split at h
  ·omega
  ·split at h
   ·omega
   ·rename_i h1 h2
    have h3 : Pm im page = 0 := by omega
    simp [Rm] at h1;refine ⟨by omega, by omega, by omega, ?_⟩;unfold Pm at h3
    split at h3
    ·omega
    ·omega
 ·omega
theorem Tm {kind : Int} {txn prev page slot un nt : Int} {bu au : Bool} {bb ab tx dy im : List Int} (h : Pw kind txn prev page slot bu bb au ab un nt tx dy im = 0) : 1 ≤ kind ∧ kind ≤ 8 := by
 unfold Pw at h
 repeat (split at h; · omega)
 omega
theorem Vq {bs : List Int} {n : Nat} (h : PY bs n = true) : n ≤ 8 ∧ ∀ i, i < n → (1 ≤ bs.getD (i * 4) 0 ∧ bs.getD (i * 4) 0 ≤ 2147483647) ∧ (1 ≤ bs.getD (i * 4 + 1) 0 ∧ bs.getD (i * 4 + 1) 0 ≤ 3) ∧ (1 ≤ bs.getD (i * 4 + 2) 0 ∧ bs.getD (i * 4 + 2) 0 ≤ 1099511627776) ∧ (0 ≤ bs.getD (i * 4 + 3) 0 ∧ bs.getD (i * 4 + 3) 0 ≤ bs.getD (i * 4 + 2) 0) := by
 unfold PY at h;simp only [Bool.and_eq_true, decide_eq_true_eq, List.all_eq_true, List.mem_range] at h;refine ⟨h.1, fun i hi => ?_⟩;have := h.2 i hi;simp only [Ro, Rf, SX, Bool.and_eq_true, decide_eq_true_eq] at this;omega
theorem Vr {bs : List Int} {n : Nat} (h : PE bs n = true) : n ≤ 16 ∧ ∀ i, i < n → (0 ≤ bs.getD (i * 2) 0 ∧ bs.getD (i * 2) 0 < 16) ∧ (1 ≤ bs.getD (i * 2 + 1) 0 ∧ bs.getD (i * 2 + 1) 0 ≤ 1099511627776) := by
 unfold PE at h;simp only [Bool.and_eq_true, decide_eq_true_eq, List.all_eq_true, List.mem_range] at h;refine ⟨h.1, fun i hi => ?_⟩;have := h.2 i hi;simp only [QZ, Rs, Rm, Bool.and_eq_true, decide_eq_true_eq] at this;omega
def P8 (d : Int × Int × Int × Int × Int × (Bool × List Int) × (Bool × List Int) × Int × Int × List Int × List Int × List Int) : List Int := if O9 d ≠ 0 then [] else Pe d
end Go.Proofs.YtapdfgkbhaoelaaGreatDoor
