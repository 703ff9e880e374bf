import Derived.Test.YtljfcdkhicffcaaGreatG09
import Derived.Laws.BytesArg
import Derived.Laws.StructEq
import Derived.Laws.BitsAllLaws
import Derived.Tactics
import Derived.Tactics2
import Derived.Defers
import Derived.Laws.Pointers
import Derived.Laws.LoneSync
import Derived.RegionTactic
import Derived.RegionCalls
import Derived.Laws.BitsLemmas
import Derived.Laws.Bits64
import Derived.Great.BuildSlice
namespace Go.Proofs.YtljfcdkhicffcaaGreat
set_option maxRecDepth 100000
set_option maxHeartbeats 16000000
set_option linter.unusedVariables false
set_option linter.unusedSimpArgs false
open Go Go.RowKit
def Gs (o : Obj) : Prop := ∃ cs, o = .cells cs 69 (0, 0) ∨ o = .cells cs 75 (0, 0) ∨ o = .cells cs 112 (0, 0)
theorem X6 {e : TypeId} (h1 : e ≠ 69) (h2 : e ≠ 75) (h3 : e ≠ 112) (cs : Array Value) : ¬ Gs (.cells cs e (0, 0)) := fun ⟨Az, h⟩ => by
 rcases h with h | h | h
 ·injection h with _ h _; exact h1 h
 ·injection h with _ h _; exact h2 h
 ·injection h with _ h _; exact h3 h
theorem YN {w : World} {v : Value} {ts : List ETx} (h : w.ownsRow 0 75 2 v ts.length (kTx.all ts)) : RdR kTx w v ts :=
 OwnR.rd (K := kTx) (base := 0) (tw := 75) (tb := 5) ⟨h, fun p _ => Own.nil 0 _ .u8 w, fun u hu b hb e => by
  obtain ⟨p, _, rfl⟩ := List.mem_map.1 hu
  simp [kTx, Value.ownBlock] at e, by
  refine List.pairwise_map.2 (List.pairwise_of_forall (fun a b => fun c hc => ?_))
  simp [kTx, Value.ownBlock] at hc⟩
theorem OwW.rd {G : Obj → Prop} {w : World} {v : Value} {ps : List EWr} (h : OwW G w v ps) : RdR kWr w v ps := by
 refine ⟨?_, ?_, fun p hp => (h.data p hp).here⟩
 ·rcases h.row.2 with ⟨_, h1⟩ | ⟨g, cap, cur, _, _, _, hc, hm, _⟩
  ·rw [h1]; exact Nat.zero_le _
  ·exact Nat.le_trans hc hm
 ·have aX := h.row
  rcases h.row.2 with ⟨rfl, h1⟩ | ⟨g, cap, cur, rfl, _⟩
  ·exact .inl ⟨List.length_eq_zero_iff.1 h1, _, _, rfl⟩
  ·exact .inr ⟨g, 0, cap, rfl, fun j i hj hi => by rw [Nat.zero_add]; exact VE (K := kWr) aX j i hj hi⟩
structure SpN (w : World) (lo : Nat) (rv : Value) (rs : List EHeapRecord) (tv : Value) (ts : List ETx) (la : Option Addr) (ln lc : Nat) (ls : List Int) (cv : Value) (cs : List EWr) : Prop where
 recs : OwnR kHeapRecord 0 79 5 w rv rs
 trow : w.ownsRow 0 75 2 tv ts.length (kTx.all ts)
 wr : ∀ t ∈ ts, OwW Gs w t.v t.ps
 each : (ts.map ETx.v).Pairwise Apart
 lk : w.ownsRow 0 160 3 (.slice la ln lc) ln (vals .i64 ls)
 cut : OwW Gs w cv cs
 ca : ∀ t ∈ ts, Apart cv t.v
 loR : ∀ b, Uc kHeapRecord rv rs b → lo ≤ b
 loT : ∀ b, tv.ownBlock = some b → lo ≤ b
 loW : ∀ t ∈ ts, ∀ b, t.v.ownBlock = some b → lo ≤ b
def SpB (w : World) (M : Nat) (gp gf gl : Int) (up : Bool) (rv tv lv : Value) (told : Int) (hc : Bool) (cv : Value) : Prop := Blk w M 69 [V gp, V gf, V gl, .bool up, rv, tv, lv, V told, .bool hc, cv]
theorem Un {w : World} {M : Nat} {e f : TypeId} {m n : Nat} {v : Value} {xs ys : List Value} (hb : Blk w M f ys) (ho : w.ownsRow 0 e m v n xs) (bl : e ≠ f) : ∀ b, v.ownBlock = some b → ¬ b = M := fun b h2 e2 => by
 subst e2;obtain ⟨cs, hc⟩ := UM ho h2;unfold Blk at hb;rw [hc] at hb
 injection hb with hb
 injection hb with _ hb _
 exact bl hb
section
variable {w w' : World} {lo M : Nat} {rv : Value} {rs : List EHeapRecord} {tv : Value} {ts : List ETx} {la : Option Addr} {ln lc : Nat} {ls : List Int} {cv : Value} {cs : List EWr}
theorem SpN.same (h : SpN w lo rv rs tv ts la ln lc ls cv cs) (hk : Same w w') : SpN w' lo rv rs tv ts la ln lc ls cv cs :=
 ⟨h.recs.same hk, hk.owns h.trow (fun _ _ => id), fun t ht => (h.wr t ht).same hk, h.each, hk.owns h.lk (fun _ _ => id), h.cut.same hk, h.ca, h.loR, h.loT, h.loW⟩
theorem SpN.rdF (h : SpN w lo rv rs tv ts la ln lc ls cv cs) : RdF 3 w ⟨160, la, ln, lc, ls⟩ := FR.own_rd (m := 3) ⟨fun r hr => by rw [List.mem_singleton.1 hr]; exact h.lk, List.pairwise_singleton _ _⟩
theorem SpN.box (h : SpN w lo rv rs tv ts la ln lc ls cv cs) {ys : List Value} (hb : Blk w M 69 ys) (hk : Kept (fun b => b = M) w w') : SpN w' lo rv rs tv ts la ln lc ls cv cs ∧ KO Gs w w' := by
 have hG : KO Gs w w' := KO.of hk (fun b _ e => ⟨.cells ys.toArray 69 (0, 0), by subst e; exact hb, ⟨_, .inl rfl⟩⟩);exact ⟨⟨⟨hk.owns h.recs.row (Un hb h.recs.row (by decide)), fun p hp => hk.owns (h.recs.data p hp) (Un hb (h.recs.data p hp) (by decide)), h.recs.out, h.recs.each⟩, hk.owns h.trow (Un hb h.trow (by decide)), fun t ht => (h.wr t ht).kept hk (Un hb (h.wr t ht).row (by decide)) hG, h.each, hk.owns h.lk (Un hb h.lk (by decide)), h.cut.kept hk (Un hb h.cut.row (by decide)) hG, h.ca, h.loR, h.loT, h.loW⟩, hG⟩
end
def SpS (w : World) (lo M : Nat) (gp gf gl : Int) (st : PlS) : Prop := ∃ (rv : Value) (rs : List EHeapRecord) (tv : Value) (ts : List ETx) (la : Option Addr) (ln lc : Nat) (ls : List Int) (hc : Bool) (cv : Value) (cs : List EWr),
 SpB w M gp gf gl st.up rv tv (.slice la ln lc) st.told hc cv ∧ SpN w lo rv rs tv ts la ln lc ls cv cs ∧ lo ≤ M ∧ jZ9 rs = st.recs ∧ Uo ts = st.txns ∧ tri ls = st.locks ∧ TU cs = st.cut ∧ (hc = false → cs = [])
theorem SpS.same {w w' : World} {lo M : Nat} {gp gf gl : Int} {st : PlS} (h : SpS w lo M gp gf gl st) (hk : Same w w') : SpS w' lo M gp gf gl st := by
 obtain ⟨rv, rs, tv, ts, la, ln, lc, ls, hc, cv, cs, hb, hn, h1⟩ := h;exact ⟨rv, rs, tv, ts, la, ln, lc, ls, hc, cv, cs, Blk.same hb hk, hn.same hk, h1⟩
def SpK (lo : Nat) (w w' : World) : Prop := KO Gs w w' ∧ Kept (fun b => lo ≤ b) w w'
theorem SpK.refl (lo : Nat) (w : World) : SpK lo w w := ⟨KO.refl _ _, kZ0⟩
theorem SpK.same {lo : Nat} {w w' : World} (h : Same w w') : SpK lo w w' := ⟨KO.same h, h.mono (fun _ _ e => e.elim)⟩
theorem SpK.trans {lo : Nat} {w w1 w2 : World} (h : SpK lo w w1) (h2 : SpK lo w1 w2) : SpK lo w w2 := ⟨h.1.trans h2.1, h.2.trans h2.2⟩
def RdL (lo : Nat) (w : World) (v : Value) (bs : List Int) : Prop := ∀ w', Kept (fun b => lo ≤ b) w w' → Rd .u8 w' v bs
theorem RdL.here {lo : Nat} {w : World} {v : Value} {bs : List Int} (h : RdL lo w v bs) : Rd .u8 w v bs := h w kZ0
theorem RdL.on {lo : Nat} {w w' : World} {v : Value} {bs : List Int} (h : RdL lo w v bs) (hk : SpK lo w w') : RdL lo w' v bs := fun w2 h2 => h w2 (hk.2.trans h2)
theorem SpB.lt {w : World} {M : Nat} {gp gf gl : Int} {up : Bool} {rv tv lv : Value} {told : Int} {hc : Bool} {cv : Value} (h : SpB w M gp gf gl up rv tv lv told hc cv) : M < w.heap.size := Blk.lt h
structure StPageRecord where
 used : Bool
 data : BS
def StPageRecord.val (x : StPageRecord) : Value := .agg #[.bool x.used, x.data.v]
def StPageRecord.rows (x : StPageRecord) : List Row := x.data.rows
def StPageRecord.dat (x : StPageRecord) : Bool × List Int := (x.used, x.data.bs)
def StPageRecord.size (x : StPageRecord) : Int := (x.data.bs.length : Int)
def StPageRecord.marked (x : StPageRecord) (k : Int) : StPageRecord := ⟨x.used, x.data.marked (k)⟩
def StPageRecord.rd (w : World) (x : StPageRecord) : Prop := Rd .u8 w x.data.v x.data.bs
theorem StPageRecord.rd.kept {R : Nat → Prop} {w w' : World} {x : StPageRecord} (h : StPageRecord.rd w x) (hk : Kept R w w') (hr : ∀ b, Uu x.rows b → ¬ R b) : StPageRecord.rd w' x :=
 Rd.kept (h) hk (fun b hb => hr b (((WB _ _ _ _ _).2 hb)))
theorem StPageRecord.rd.same {w w' : World} {x : StPageRecord} (h : StPageRecord.rd w x) (hk : Same w w') : StPageRecord.rd w' x := h.kept hk (fun _ _ => id)
theorem StPageRecord.own_rd {w : World} {x : StPageRecord} (h : OwnL w x.rows) : StPageRecord.rd w x :=
 (OwnL.of_one h).rd
def StPageRecord.szs (x : StPageRecord) : Int := (x.data.bs.length : Int)
theorem StPageRecord.szs_le (x : StPageRecord) : 0 ≤ x.szs := by
 unfold StPageRecord.szs;omega
structure StLogRecord where
 kind : Int
 txn : Int
 prev : Int
 page : Int
 slot : Int
 before : StPageRecord
 after : StPageRecord
 uN : Int
 nT : Int
 txns : FR
 dirty : FR
 image : BS
def StLogRecord.val (x : StLogRecord) : Value := .agg #[V x.kind, V x.txn, V x.prev, V x.page, V x.slot, .bool x.before.used, x.before.data.v, .bool x.after.used, x.after.data.v, V x.uN, V x.nT, x.txns.v, x.dirty.v, x.image.v]
def StLogRecord.rows (x : StLogRecord) : List Row := x.before.rows ++ (x.after.rows ++ ((x.txns).rows 4 ++ ((x.dirty).rows 2 ++ (x.image.rows))))
def StLogRecord.dat (x : StLogRecord) : Int × Int × Int × Int × Int × (Bool × List Int) × (Bool × List Int) × Int × Int × List Int × List Int × List Int := (x.kind, x.txn, x.prev, x.page, x.slot, x.before.dat, x.after.dat, x.uN, x.nT, x.txns.bs, x.dirty.bs, x.image.bs)
def StLogRecord.size (x : StLogRecord) : Int := x.before.size + x.after.size + (x.txns.bs.length : Int) + (x.dirty.bs.length : Int) + (x.image.bs.length : Int)
def StLogRecord.marked (x : StLogRecord) (k : Int) : StLogRecord := ⟨x.kind, x.txn, x.prev, x.page, x.slot, x.before.marked (k), x.after.marked (k + x.before.size), x.uN, x.nT, x.txns.marked (k + x.before.size + x.after.size), x.dirty.marked (k + x.before.size + x.after.size + (x.txns.bs.length : Int)), x.image.marked (k + x.before.size + x.after.size + (x.txns.bs.length : Int) + (x.dirty.bs.length : Int))⟩
def StLogRecord.rd (w : World) (x : StLogRecord) : Prop := StPageRecord.rd w x.before ∧ StPageRecord.rd w x.after ∧ RdF 4 w x.txns ∧ RdF 2 w x.dirty ∧ Rd .u8 w x.image.v x.image.bs
theorem StLogRecord.rd.kept {R : Nat → Prop} {w w' : World} {x : StLogRecord} (h : StLogRecord.rd w x) (hk : Kept R w w') (hr : ∀ b, Uu x.rows b → ¬ R b) : StLogRecord.rd w' x :=
 ⟨StPageRecord.rd.kept (h.1) hk (fun b hb => hr b ((Ud _ _ _).2 (.inl hb))), StPageRecord.rd.kept (h.2.1) hk (fun b hb => hr b ((Ud _ _ _).2 (.inr ((Ud _ _ _).2 (.inl hb))))), RdF.kept (h.2.2.1) hk (fun b hb => hr b ((Ud _ _ _).2 (.inr ((Ud _ _ _).2 (.inr ((Ud _ _ _).2 (.inl ((Ux _ _).2 hb)))))))), RdF.kept (h.2.2.2.1) hk (fun b hb => hr b ((Ud _ _ _).2 (.inr ((Ud _ _ _).2 (.inr ((Ud _ _ _).2 (.inr ((Ud _ _ _).2 (.inl ((Ux _ _).2 hb)))))))))), Rd.kept (h.2.2.2.2) hk (fun b hb => hr b ((Ud _ _ _).2 (.inr ((Ud _ _ _).2 (.inr ((Ud _ _ _).2 (.inr ((Ud _ _ _).2 (.inr (((WB _ _ _ _ _).2 hb)))))))))))⟩
theorem StLogRecord.rd.same {w w' : World} {x : StLogRecord} (h : StLogRecord.rd w x) (hk : Same w w') : StLogRecord.rd w' x := h.kept hk (fun _ _ => id)
theorem StLogRecord.own_rd {w : World} {x : StLogRecord} (h : OwnL w x.rows) : StLogRecord.rd w x :=
 ⟨(StPageRecord.own_rd h.left), (StPageRecord.own_rd h.right.left), (FR.own_rd h.right.right.left), (FR.own_rd h.right.right.right.left), (OwnL.of_one h.right.right.right.right).rd⟩
def StLogRecord.szs (x : StLogRecord) : Int := x.before.szs + x.after.szs + (x.txns.n : Int) + (x.dirty.n : Int) + (x.image.bs.length : Int)
theorem StLogRecord.szs_le (x : StLogRecord) : 0 ≤ x.szs := by
 unfold StLogRecord.szs;have h0 := x.before.szs_le;have h1 := x.after.szs_le;omega
theorem Za {w : World} {v : Value} {bs : List Int} (h : Rd .u8 w v bs) : (convert 52 9 v).run Tryz.prog w = .ok (.string (strOfNums bs)) w := by
 rcases h.2 with ⟨rfl, a, c, rfl, _⟩ | ⟨b, off, c, rfl, _, hc⟩
 ·rw [run_convert_bytes_string w 52 9 5 _ 0 c (by kernel_rfl) (by kernel_rfl) (by kernel_rfl)]
  cases a <;> simp [Conv.bytesToString, loadCells]
  all_goals rfl
 ·exact run_convert_bytes_arg w 52 5 (by kernel_rfl) (by kernel_rfl) b off bs.length c bs rfl hc 9 (by kernel_rfl)
theorem Yz : ∀ {xs bs : List Int}, IsB xs → IsB bs → strOfNums xs = strOfNums bs → xs = bs := by
 intro xs bs ha hb h
 have h2 : xs.map (fun n => UInt8.ofNat n.toNat) = bs.map (fun n => UInt8.ofNat n.toNat) := by
  have h3 := congrArg (fun s => s.data.toList) h
  simpa [strOfNums] using h3
 have hl : xs.length = bs.length := by have := congrArg List.length h2; simpa using this
 apply List.ext_getElem hl;intro i h1 h4;have h5 := congrArg (fun l => l[i]?) h2;simp [h1, h4] at h5;have h6 := ha _ (List.getElem_mem h1);have h7 := hb _ (List.getElem_mem h4);have h8 := congrArg UInt8.toNat h5;simp at h8;omega
theorem jas (va vb : Value) (xs bs : List Int) (w : World) (ha : IsB xs) (hb : IsB bs) (fu : Rd .u8 w va xs) (gG : Rd .u8 w vb bs) :
  Calls Tryz.prog 110 #[va, vb] w fun e w' => e = .returned (.bool (decide (xs = bs))) ∧ Same w w' := by
 have h1 := Za fu;have h2 := Za gG;clear fu gG
 have HE := (show Hid (((strOfNums xs).toList == (strOfNums bs).toList) = decide (xs = bs)) from by
  by_cases h : xs = bs
  ·subst h
   show _ = _
   simp
  ·rw [decide_eq_false h]
   refine beq_eq_false_iff_ne.2 (fun e => h (Yz ha hb ?_));rw [ByteArray.toList_eq, ByteArray.toList_eq] at e
   exact ByteArray.ext (Array.ext' e))
 generalize strOfNums xs = s at *;generalize strOfNums bs = t at *;clear ha hb
 go_enter Tryz.func110, Tryz.ntmps110
 go_wp2;go_ret;exact ⟨by rw [← HE.out]; rfl, kZ0⟩
theorem ZR (va vb : Value) (xs bs : List Int) (w : World) (ha : IsB xs) (hb : IsB bs) (fu : Rd .u8 w va xs) (gG : Rd .u8 w vb bs) :
  Calls Tryz.prog 101 #[va, vb] w fun e w' => e = .returned (.bool (decide (xs = bs))) ∧ Same w w' := by
 have h1 := Za fu;have h2 := Za gG
 have HE := (show Hid (((strOfNums xs).toList == (strOfNums bs).toList) = decide (xs = bs)) from by
  by_cases h : xs = bs
  ·subst h
   show _ = _
   simp
  ·rw [decide_eq_false h]
   refine beq_eq_false_iff_ne.2 (fun e => h (Yz ha hb ?_));rw [ByteArray.toList_eq, ByteArray.toList_eq] at e
   exact ByteArray.ext (Array.ext' e))
 generalize strOfNums xs = s at *;generalize strOfNums bs = t at *;clear ha hb fu gG
 go_enter Tryz.func101, Tryz.ntmps101
 go_wp2;go_ret;exact ⟨by rw [← HE.out]; rfl, kZ0⟩
def sh (r : Nat) : Nat := if r % 2 = 1 then r / 2 ^^^ 3988292384 else r / 2
def lows (v : Int) : Nat → List Int
 | 0 => []
 | k + 1 => (v / 256 ^ k % 256) :: lows v k
def num (bs : List Int) : Int := bs.foldl (fun v b => v * 256 + b) 0
def jhz (bs : List Int) : Int := if bs.length < 1 ∨ 8 < bs.length ∨ 9223372036854775807 < num bs then -1 else num bs
def le : List Int → Nat
 | [] => 0
 | b :: bs => b.toNat ^^^ 256 * le bs
theorem Rd.mid {k : IntKind} {w : World} {b off c : Nat} {bs : List Int} (h : Rd k w (.slice (some ⟨b, off, none⟩) bs.length c) bs) (o n c' : Nat) (hm : o + n ≤ bs.length) (Tq : n ≤ c') : Rd k w (.slice (some ⟨b, off + o, none⟩) n c') ((bs.drop o).take n) := by
 have hl : ((bs.drop o).take n).length = n := by simp; omega
 refine ⟨by rw [hl]; have := h.1; omega, ?_⟩
 by_cases h0 : n = 0
 ·subst h0
  exact .inl ⟨by simp, _, _, rfl, fun e => by cases e⟩
 ·rcases h.2 with ⟨hn, a, c', e, _⟩ | ⟨b', Dm, TJ, e, M8, hc⟩
  ·rw [hn] at hm
   simp at hm;omega
  ·cases e
   refine .inr ⟨b, off + o, c', by rw [hl], by omega, fun i hi => ?_⟩;have := hc (o + i) (by omega);rw [Nat.add_assoc, this];simp [List.getD, List.getElem?_take, List.getElem?_drop, show i < n by omega]
theorem Blk.rd {w : World} {B : Nat} {e : TypeId} {bs : List Int} (h : Blk w B e (vals .u8 bs)) (o n c : Nat) (hn : o + n ≤ bs.length) (hc : n ≤ c) (hm : bs.length ≤ maxLen) : Rd .u8 w (.slice (some ⟨B, o, none⟩) n c) ((bs.drop o).take n) := by
 have hl : ((bs.drop o).take n).length = n := by simp; omega
 refine ⟨by omega, .inr ⟨B, o, c, by rw [hl], by omega, fun i hi => ?_⟩⟩;rw [h.cell, Z9 _ _ _ (by omega)];simp [List.getD, List.getElem?_take, show i < n by omega]
section
variable {w w' : World} {B : Nat} {sum : List Int} {lJ num bot : Int} {sl raw : List Int}
end
/-! ### What is written from the front on -/
def cont (A raw : List Int) : List Int := A ++ raw.drop A.length
theorem jfV (A raw xs : List Int) (h : A.length + xs.length ≤ raw.length) : lay (vals .u8 (cont A raw)) A.length (vals .u8 xs) = vals .u8 (cont (A ++ xs) raw) := by
 unfold lay cont;simp [vals, Nat.add_comm];rw [List.drop_append, List.drop_of_length_le (by simp), List.drop_drop, List.nil_append, List.length_map]
 congr 1
 omega
theorem Blk.more {w : World} {B : Nat} {e : TypeId} {A raw : List Int} (n : Nat) (xs : List Int) (h : Blk w B e (lay (vals .u8 (cont A raw)) n (vals .u8 xs))) (hn : n = A.length) (hl : A.length + xs.length ≤ raw.length) : Blk w B e (vals .u8 (cont (A ++ xs) raw)) := by
 subst hn
 rwa [jfV _ _ _ hl] at h
def jht (sum : List Int) (lJ num bot : Int) : List Int := sum ++ lows lJ 8 ++ lows num 4 ++ lows bot 2 ++ lows 0 2
def jhu (sl : List Int) : List Int := sl.flatMap fun x => lows x 2
def jhA (sum : List Int) (lJ num bot : Int) (sl raw : List Int) : List Int := cont (jht sum lJ num bot ++ jhu sl) raw
section
variable {P : Program} {ops : Array Oper} {o : Oper} {a : Act} {w : World} {K : Act → World → Prop} {Q : Exit → Act → World → Prop} {E : Prop}
end
structure Num3 (lJ num bot : Int) (sl : List Int) : Prop where
 a : 0 ≤ lJ ∧ lJ ≤ 9223372036854775807
 b : 0 ≤ num ∧ num ≤ 9223372036854775807
 c : 0 ≤ bot ∧ bot ≤ 9223372036854775807
 d : ∀ x ∈ sl, 0 ≤ x ∧ x ≤ 9223372036854775807
theorem Num3.at {lJ num bot : Int} {sl : List Int} (h : Num3 lJ num bot sl) (k : Nat) : 0 ≤ sl.getD k 0 ∧ sl.getD k 0 ≤ 9223372036854775807 := by
 by_cases hk : k < sl.length
 ·have : sl.getD k 0 = sl[k] := by simp [hk]
  rw [this];exact h.d _ (List.getElem_mem hk)
 ·simp [List.getD, List.getElem?_eq_none (show sl.length ≤ k by omega)]
def jeD (raw : List Int) (o n : Nat) : Int := jhz ((raw.drop o).take n)
def slotsOf (raw : List Int) : List Int := (List.range 64).map fun j => jeD raw (20 + 2 * j) 2
section
variable {P : Program} {ops : Array Oper} {S : World → Prop} {o : Oper} {a : Act}
end
def jfW (x : Int) : Bool := decide (0 ≤ x) && decide (x ≤ 1099511627776)
def jgD (x y x' y' : Int) : Bool := decide (max x x' < min (x + y) (x' + y'))
def jfX (bot x y : Int) : Bool := (x != 0 && (decide (1000 < y) || decide (x < bot) || decide (4096 < x + y))) || (x == 0 && y != 0)
def jhd (bot : Int) (sl : List Int) : Bool := (List.range 32).any fun i => jfX bot (sl.getD (2 * i) 0) (sl.getD (2 * i + 1) 0)
def Small (sl : List Int) : Prop := ∀ x ∈ sl, 0 ≤ x ∧ x ≤ 65535
theorem Small.at {sl : List Int} (h : Small sl) (k : Nat) : 0 ≤ sl.getD k 0 ∧ sl.getD k 0 ≤ 65535 := by
 by_cases hk : k < sl.length
 ·have : sl.getD k 0 = sl[k] := by simp [hk]
  rw [this];exact h _ (List.getElem_mem hk)
 ·simp [List.getD, List.getElem?_eq_none (show sl.length ≤ k by omega)]
def jgE (sl : List Int) (i j : Nat) : Bool := jgD (sl.getD (2 * i) 0) (sl.getD (2 * i + 1) 0) (sl.getD (2 * j) 0) (sl.getD (2 * j + 1) 0)
def share (sl : List Int) : Bool := (List.range 32).any fun i => (List.range i).any fun j => jgE sl i j
def jgF (sum : List Int) (lJ num bot : Int) (sl raw : List Int) : Bool := !jfW lJ || jhA sum lJ num bot sl raw != raw
def jhe (sum : List Int) (lJ num bot : Int) (sl raw : List Int) (number : Int) : Int :=
 if num ≠ number then 2 else if jgF sum lJ num bot sl raw then 3 else if bot < 148 ∨ 4096 < bot then 4 else if jhd bot sl then 5 else if share sl then 6 else 0
def je0 (raw : List Int) (number : Int) : Int := if raw.length ≠ 4096 then 1 else jhe (raw.take 4) (jeD raw 4 8) (jeD raw 12 4) (jeD raw 16 2) (slotsOf raw) raw number
structure Rows2 (w : World) (g : Nat) (sl : List Int) : Prop where
 at0 : ∀ k, k < 32 → w.cell? ⟨g, k * 2, none⟩ = some (V (sl.getD (2 * k) 0))
 at1 : ∀ k, k < 32 → w.cell? ⟨g, k * 2 + 1, none⟩ = some (V (sl.getD (2 * k + 1) 0))
theorem Rows2.kept {R : Nat → Prop} {w w' : World} {g : Nat} {sl : List Int} (h : Rows2 w g sl) (hk : Kept R w w') (hr : ¬ R g) : Rows2 w' g sl :=
 ⟨fun k Kr => hk.cellOf (h.at0 k Kr) hr, fun k Kr => hk.cellOf (h.at1 k Kr) hr⟩
def jbS (x : Int) : Bool := decide (0 ≤ x) && decide (x < 16)
def jat (x : Int) : Bool := decide (1 ≤ x) && decide (x ≤ 2147483647)
def jgG (x : Int) : Bool := decide (0 ≤ x) && decide (x < 32)
def jfY (u : Bool) (n : Nat) : Bool := decide (n ≤ 1000) && (u || decide (n = 0))
def jcA (txn prev : Int) : Int := if jat txn = false then 3 else if jfW prev = false then 4 else 0
def jfZ (page slot : Int) : Int := if (jbS page && jgG slot) = true then 0 else 5
def orF (a b c : Int) : Int := if a ≠ 0 then a else if b ≠ 0 then b else c
def jhB (bu au : Bool) (bn an : Nat) : Int := if (jfY bu bn && jfY au an && (bu || au)) = true then 0 else 6
def jhC (au : Bool) (an : Nat) (un : Int) : Int := if jfY au an = false then 6 else if jfW un = false then 7 else 0
theorem je1 (x : Int) (w : World) : Calls Tryz.prog 135 #[V x] w fun e w' => e = .returned (.bool (jat x)) ∧ Same w w' := by
 unfold jat
 by_cases h : 1 ≤ x
 ·by_cases h2 : x ≤ 2147483647
  ·go_enter Tryz.func135, Tryz.ntmps135
   go_wp2;go_ret;exact ⟨by simp [h, h2], kZ0⟩
  ·go_enter Tryz.func135, Tryz.ntmps135
   go_wp2;go_ret;exact ⟨by simp [h]; omega, kZ0⟩
 ·go_enter Tryz.func135, Tryz.ntmps135
  go_wp2;go_ret;exact ⟨by rw [show decide (1 ≤ x) = false from by simp; omega]; rfl, kZ0⟩
def je2 (bs : List Int) : Nat → Int
 | 0 => 0
 | k + 1 => bs.getD (k * 4) 0
def jgH (A t0 t1 t2 t3 : Int) : Bool := decide (A < t0) && jat t0 && (decide (1 ≤ t1) && decide (t1 ≤ 3)) && (decide (1 ≤ t2) && decide (t2 ≤ 1099511627776)) && (decide (0 ≤ t3) && decide (t3 ≤ t2))
def jhf (bs : List Int) (k : Nat) : Bool := jgH (je2 bs k) (bs.getD (k * 4) 0) (bs.getD (k * 4 + 1) 0) (bs.getD (k * 4 + 2) 0) (bs.getD (k * 4 + 3) 0)
def jgI (bs : List Int) (n : Nat) : Bool := decide (n ≤ 8) && (List.range n).all (jhf bs)
def jdH (bs : List Int) : Nat → Int
 | 0 => -1
 | k + 1 => bs.getD (k * 2) 0
def jf0 (A t0 t1 : Int) : Bool := decide (A < t0) && jbS t0 && (decide (1 ≤ t1) && decide (t1 ≤ 1099511627776))
def jgJ (bs : List Int) (k : Nat) : Bool := jf0 (jdH bs k) (bs.getD (k * 2) 0) (bs.getD (k * 2 + 1) 0)
def jf1 (bs : List Int) (n : Nat) : Bool := decide (n ≤ 16) && (List.range n).all (jgJ bs)
def jhD (page : Int) (im : List Int) : Int := if jbS page = false then 5 else if je0 im page ≠ 0 then 9 else 0
def jhE (nT : Int) (tx : List Int) (tn : Nat) (dy : List Int) (dn : Nat) : Int := if (decide (1 ≤ nT) && decide (nT ≤ 2147483648) && jgI tx tn && jf1 dy dn) = true then 0 else 8
def jhg (txn prev page slot : Int) (bu : Bool) (bb : List Int) (au : Bool) (ab : List Int) (un nt : Int) (tx dy im : List Int) : Bool := decide (0 = un) && decide (0 = nt) && decide (tx.length / 4 = 0) && decide (dy.length / 2 = 0) && decide ([] = im)
def jhh (txn prev page slot : Int) (bu : Bool) (bb : List Int) (au : Bool) (ab : List Int) (un nt : Int) (tx dy im : List Int) : Bool := (false == bu && decide ([] = bb)) && decide (0 = nt) && decide (tx.length / 4 = 0) && decide (dy.length / 2 = 0) && decide ([] = im)
def jhi (txn prev page slot : Int) (bu : Bool) (bb : List Int) (au : Bool) (ab : List Int) (un nt : Int) (tx dy im : List Int) : Bool := decide (0 = page) && decide (0 = slot) && (false == bu && decide ([] = bb)) && (false == au && decide ([] = ab)) && decide (0 = un) && decide (0 = nt) && decide (tx.length / 4 = 0) && decide (dy.length / 2 = 0) && decide ([] = im)
def jhj (txn prev page slot : Int) (bu : Bool) (bb : List Int) (au : Bool) (ab : List Int) (un nt : Int) (tx dy im : List Int) : Bool := decide (0 = page) && decide (0 = slot) && (false == bu && decide ([] = bb)) && (false == au && decide ([] = ab)) && decide (0 = un) && decide (0 = nt) && decide (tx.length / 4 = 0) && decide (dy.length / 2 = 0) && decide ([] = im)
def jhk (txn prev page slot : Int) (bu : Bool) (bb : List Int) (au : Bool) (ab : List Int) (un nt : Int) (tx dy im : List Int) : Bool := decide (0 = page) && decide (0 = slot) && (false == bu && decide ([] = bb)) && (false == au && decide ([] = ab)) && decide (0 = un) && decide (0 = nt) && decide (tx.length / 4 = 0) && decide (dy.length / 2 = 0) && decide ([] = im)
def jhl (txn prev page slot : Int) (bu : Bool) (bb : List Int) (au : Bool) (ab : List Int) (un nt : Int) (tx dy im : List Int) : Bool := decide (0 = txn) && decide (0 = prev) && decide (0 = page) && decide (0 = slot) && (false == bu && decide ([] = bb)) && (false == au && decide ([] = ab)) && decide (0 = un) && decide (0 = nt) && decide (tx.length / 4 = 0) && decide (dy.length / 2 = 0) && decide ([] = im)
def jhm (txn prev page slot : Int) (bu : Bool) (bb : List Int) (au : Bool) (ab : List Int) (un nt : Int) (tx dy im : List Int) : Bool := decide (0 = txn) && decide (0 = prev) && decide (0 = page) && decide (0 = slot) && (false == bu && decide ([] = bb)) && (false == au && decide ([] = ab)) && decide (0 = un) && decide ([] = im)
def jhn (txn prev page slot : Int) (bu : Bool) (bb : List Int) (au : Bool) (ab : List Int) (un nt : Int) (tx dy im : List Int) : Bool := decide (0 = txn) && decide (0 = prev) && decide (0 = slot) && (false == bu && decide ([] = bb)) && (false == au && decide ([] = ab)) && decide (0 = un) && decide (0 = nt) && decide (tx.length / 4 = 0) && decide (dy.length / 2 = 0)
def jhH (kind txn prev page slot : Int) (bu : Bool) (bb : List Int) (au : Bool) (ab : List Int) (un nt : Int) (tx dy im : List Int) : Int := if kind = 1 then (if jhg txn prev page slot bu bb au ab un nt tx dy im = true then orF (jcA txn prev) (jfZ page slot) (jhB bu au bb.length ab.length) else 2) else if kind = 2 then (if jhh txn prev page slot bu bb au ab un nt tx dy im = true then orF (jcA txn prev) (jfZ page slot) (jhC au ab.length un) else 2) else if kind = 3 then (if jhi txn prev page slot bu bb au ab un nt tx dy im = true then jcA txn prev else 2) else if kind = 4 then (if jhj txn prev page slot bu bb au ab un nt tx dy im = true then jcA txn prev else 2) else if kind = 5 then (if jhk txn prev page slot bu bb au ab un nt tx dy im = true then jcA txn prev else 2) else if kind = 6 then (if jhl txn prev page slot bu bb au ab un nt tx dy im = true then 0 else 2) else if kind = 7 then (if jhm txn prev page slot bu bb au ab un nt tx dy im = true then jhE nt tx (tx.length / 4) dy (dy.length / 2) else 2) else if kind = 8 then (if jhn txn prev page slot bu bb au ab un nt tx dy im = true then jhD page im else 2) else 1
end Go.Proofs.YtljfcdkhicffcaaGreat
