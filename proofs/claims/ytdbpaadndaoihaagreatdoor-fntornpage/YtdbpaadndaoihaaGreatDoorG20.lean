import Derived.Test.YtdbpaadndaoihaaGreatDoorG18
import Derived.Test.YtdbpaadndaoihaaGreatDoorG13
import Derived.Test.YtdbpaadndaoihaaGreatDoorG00
import Derived.Test.YtdbpaadndaoihaaGreatDoorRecImplC
import Derived.Test.YtdbpaadndaoihaaGreatDoorG01
import Derived.Test.YtdbpaadndaoihaaGreatDoorG02
import Derived.Deep.AppendLies
namespace Go.Proofs.YtdbpaadndaoihaaGreatDoor
set_option maxRecDepth 100000
set_option maxHeartbeats 16000000
set_option linter.unusedVariables false
set_option linter.unusedSimpArgs false
open Go.RowKit
theorem recI_7 (txn : Int) (prev : Int) (page : Int) (slot : Int) (bU : Bool) (bDa : Option Addr) (bDc : Nat) (bDb : List Int) (aU : Bool) (aDa : Option Addr) (aDc : Nat) (aDb : List Int) (uN : Int) (nT : Int) (tXe : TypeId) (tXa : Option Addr) (tXn tXc : Nat) (tXb : List Int) (dYe : TypeId) (dYa : Option Addr) (dYn dYc : Nat) (dYb : List Int) (iMa : Option Addr) (iMc : Nat) (iMb : List Int) (w : World) (hBb : IsB bDb) (hBa : IsB aDb) (hBi : IsB iMb) (hli : iMb.length ≤ 1099511627776) (hrb : Rd .u8 w (.slice bDa bDb.length bDc) bDb) (hra : Rd .u8 w (.slice aDa aDb.length aDc) aDb) (hri : Rd .u8 w (.slice iMa iMb.length iMc) iMb) (hrt : RdF 4 w ⟨tXe, tXa, tXn, tXc, tXb⟩) (hrd : RdF 2 w ⟨dYe, dYa, dYn, dYc, dYb⟩) (hnt : tXn ≤ 1125899906842624) (hnd : dYn ≤ 1125899906842624) :
  Calls Tryz.prog 93 #[.agg #[.int .i64 7, .int .i64 txn, .int .i64 prev, .int .i64 page, .int .i64 slot, .bool bU, .slice bDa bDb.length bDc, .bool aU, .slice aDa aDb.length aDc, .int .i64 uN, .int .i64 nT, .slice tXa tXn tXc, .slice dYa dYn dYc, .slice iMa iMb.length iMc]] w fun e w' => e = .returned (.int .i64 (if alone7 txn prev page slot bU bDb aU aDb uN nT tXb dYb iMb = true then tabF nT tXb (tXb.length / 4) dYb (dYb.length / 2) else 2)) ∧ Same w w' := by
 have hT := fun wx => typeRecord_7 txn prev page slot bU bDa bDb.length bDc aU aDa aDb.length aDc uN nT tXa tXn tXc dYa dYn dYc iMa iMb.length iMc wx
 have hP := fun wx => plainRecord_7 txn prev page slot bU bDa bDb.length bDc aU aDa aDb.length aDc uN nT tXa tXn tXc dYa dYn dYc iMa iMb.length iMc wx
 have hS := fun wx (hk : Same w wx) => same_7 txn prev page slot bU bDa bDc bDb aU aDa aDc aDb uN nT tXe tXa tXn tXc tXb dYe dYa dYn dYc dYb iMa iMc iMb wx hBb hBa hBi (hrb.same hk) (hra.same hk) (hri.same hk) (hrt.same hk) (hrd.same hk) hnt hnd
 have hlt := hrt.2.1
 have hld := hrd.2.1
 dsimp only at hlt hld
 have e1 : tXb.length / 4 = tXn := by omega
 have e2 : dYb.length / 2 = dYn := by omega
 have e3 : tabF nT tXb (tXb.length / 4) dYb (dYb.length / 2) = tabF nT tXb tXn dYb dYn := by rw [e1, e2]
 have hF : ∀ wx, Same w wx → Calls Tryz.prog 182 #[.agg #[.int .i64 0, .int .i64 0, .int .i64 nT, .slice tXa tXn tXc, .slice dYa dYn dYc]] wx fun e w' => e = .returned (.int .i64 (tabF nT tXb (tXb.length / 4) dYb (dYb.length / 2))) ∧ Same wx w' := fun wx hk => by have h := tablesFault_any nT ⟨tXe, tXa, tXn, tXc, tXb⟩ ⟨dYe, dYa, dYn, dYc, dYb⟩ wx (hrt.same hk) (hrd.same hk); dsimp only [FR.v] at h; rw [e3]; exact h
 have b0 := Blk.new w #[.int .i64 7, .int .i64 txn, .int .i64 prev, .int .i64 page, .int .i64 slot, .bool bU, .slice bDa bDb.length bDc, .bool aU, .slice aDa aDb.length aDc, .int .i64 uN, .int .i64 nT, .slice tXa tXn tXc, .slice dYa dYn dYc, .slice iMa iMb.length iMc] 49
 have hk0 : Same w (w.alloc (.cells #[.int .i64 7, .int .i64 txn, .int .i64 prev, .int .i64 page, .int .i64 slot, .bool bU, .slice bDa bDb.length bDc, .bool aU, .slice aDa aDb.length aDc, .int .i64 uN, .int .i64 nT, .slice tXa tXn tXc, .slice dYa dYn dYc, .slice iMa iMb.length iMc] 49)) := (Kept.refl _ _).alloc _
 generalize alone7 txn prev page slot bU bDb aU aDb uN nT tXb dYb iMb = AL at *
 generalize tabF nT tXb (tXb.length / 4) dYb (dYb.length / 2) = FA at *
 clear hrb hra hri hrt hrd hBb hBa hBi hnt hnd hli hlt hld e1 e2 e3
 have hz : ∀ (wx : World), Same (w.alloc (.cells #[.int .i64 7, .int .i64 txn, .int .i64 prev, .int .i64 page, .int .i64 slot, .bool bU, .slice bDa bDb.length bDc, .bool aU, .slice aDa aDb.length aDc, .int .i64 uN, .int .i64 nT, .slice tXa tXn tXc, .slice dYa dYn dYc, .slice iMa iMb.length iMc] 49)) wx → wx.cell? ⟨w.heap.size, 0, none⟩ = some (.int .i64 7) ∧ wx.cell? ⟨w.heap.size, 1, none⟩ = some (.int .i64 txn) ∧ wx.cell? ⟨w.heap.size, 2, none⟩ = some (.int .i64 prev) ∧ wx.cell? ⟨w.heap.size, 3, none⟩ = some (.int .i64 page) ∧ wx.cell? ⟨w.heap.size, 4, none⟩ = some (.int .i64 slot) ∧ wx.cell? ⟨w.heap.size, 5, none⟩ = some (.bool bU) ∧ wx.cell? ⟨w.heap.size, 6, none⟩ = some (.slice bDa bDb.length bDc) ∧ wx.cell? ⟨w.heap.size, 7, none⟩ = some (.bool aU) ∧ wx.cell? ⟨w.heap.size, 8, none⟩ = some (.slice aDa aDb.length aDc) ∧ wx.cell? ⟨w.heap.size, 9, none⟩ = some (.int .i64 uN) ∧ wx.cell? ⟨w.heap.size, 10, none⟩ = some (.int .i64 nT) ∧ wx.cell? ⟨w.heap.size, 11, none⟩ = some (.slice tXa tXn tXc) ∧ wx.cell? ⟨w.heap.size, 12, none⟩ = some (.slice dYa dYn dYc) ∧ wx.cell? ⟨w.heap.size, 13, none⟩ = some (.slice iMa iMb.length iMc) := fun wx h => ⟨(b0.same h).cell 0, (b0.same h).cell 1, (b0.same h).cell 2, (b0.same h).cell 3, (b0.same h).cell 4, (b0.same h).cell 5, (b0.same h).cell 6, (b0.same h).cell 7, (b0.same h).cell 8, (b0.same h).cell 9, (b0.same h).cell 10, (b0.same h).cell 11, (b0.same h).cell 12, (b0.same h).cell 13⟩
 cases AL with
 | false =>
  simp only [Bool.false_eq_true, if_false]
  go_enter Tryz.func93, Tryz.ntmps93
  go_wp2_with (go_at_call 95; refine (hT _).mono ?_; rintro e w1 ⟨rfl, hk1⟩; obtain ⟨z0, z1, z2, z3, z4, z5, z6, z7, z8, z9, z10, z11, z12, z13⟩ := hz w1 hk1)
  go_region_with (first
   | (go_at_call 106; refine (hP _).mono ?_; rintro e wp ⟨rfl, hkp⟩; have hkq := (Kept.drew hk1).trans hkp; obtain ⟨y0, y1, y2, y3, y4, y5, y6, y7, y8, y9, y10, y11, y12, y13⟩ := hz wp hkq)
   | (go_at_call 105; refine (hS _ (hk0.trans hkq)).mono ?_; rintro e ws ⟨rfl, hks⟩))
  all_goals
   go_wp2
   go_ret
   exact ⟨rfl, (hk0.trans hkq).trans hks⟩
 | true =>
  simp only [if_true]
  go_enter Tryz.func93, Tryz.ntmps93
  go_wp2_with (go_at_call 95; refine (hT _).mono ?_; rintro e w1 ⟨rfl, hk1⟩; obtain ⟨z0, z1, z2, z3, z4, z5, z6, z7, z8, z9, z10, z11, z12, z13⟩ := hz w1 hk1)
  go_region_with (first
   | (go_at_call 106; refine (hP _).mono ?_; rintro e wp ⟨rfl, hkp⟩; have hkq := (Kept.drew hk1).trans hkp; obtain ⟨y0, y1, y2, y3, y4, y5, y6, y7, y8, y9, y10, y11, y12, y13⟩ := hz wp hkq)
   | (go_at_call 105; refine (hS _ (hk0.trans hkq)).mono ?_; rintro e ws ⟨rfl, hks⟩))
  all_goals
   go_wp2_with (go_at_call 182; refine (hF _ ((hk0.trans hkq).trans hks)).mono ?_; rintro e wf ⟨rfl, hkf⟩)
   go_ret
   exact ⟨rfl, ((hk0.trans hkq).trans hks).trans hkf⟩
def recFd (d : Int × Int × Int × Int × Int × (Bool × List Int) × (Bool × List Int) × Int × Int × List Int × List Int × List Int) : Int := recF d.1 d.2.1 d.2.2.1 d.2.2.2.1 d.2.2.2.2.1 d.2.2.2.2.2.1.1 d.2.2.2.2.2.1.2 d.2.2.2.2.2.2.1.1 d.2.2.2.2.2.2.1.2 d.2.2.2.2.2.2.2.1 d.2.2.2.2.2.2.2.2.1 d.2.2.2.2.2.2.2.2.2.1 d.2.2.2.2.2.2.2.2.2.2.1 d.2.2.2.2.2.2.2.2.2.2.2
def StLogRecord.isB (x : StLogRecord) : Prop := IsB x.before.data.bs ∧ IsB x.after.data.bs ∧ IsB x.image.bs
structure Grew (w : World) (v : Value) (w' : World) (v' : Value) : Prop where
 kept : Kept (fun b => v.ownBlock = some b) w w'
 own : ∀ b, v'.ownBlock = some b → v.ownBlock = some b ∨ w.heap.size ≤ b
theorem Grew.trans {w w1 w2 : World} {v v1 v2 : Value} (h : Grew w v w1 v1) (k : Grew w1 v1 w2 v2) : Grew w v w2 v2 := by
 refine ⟨h.kept.next k.kept (fun i hi e => (h.own i e).resolve_right (by omega)), fun b hb => ?_⟩
 rcases k.own b hb with h1 | h1
 ·exact h.own b h1
 ·have := h.kept.size
  exact .inr (by omega)
theorem Grew.of_same {w w' : World} {v : Value} (h : Same w w') : Grew w v w' v := ⟨h.mono (fun _ _ e => absurd e id), fun b hb => .inl hb⟩
theorem Grew.refl (w : World) (v : Value) : Grew w v w v := Grew.of_same (Kept.refl _ _)
theorem Grew.size {w w' : World} {v v' : Value} (h : Grew w v w' v') : w.heap.size ≤ w'.heap.size := h.kept.size
theorem Grew.same {w0 w w' : World} {v v' : Value} (h : Grew w v w' v') (h0 : Same w0 w) (hv : ∀ b, v.ownBlock = some b → w0.heap.size ≤ b) : Same w0 w' :=
 h0.next h.kept (fun i hi e => by have := hv i e; omega)
theorem Grew.fresh {w0 w w' : World} {v v' : Value} (h : Grew w v w' v') (h0 : Same w0 w) (hv : ∀ b, v.ownBlock = some b → w0.heap.size ≤ b) : ∀ b, v'.ownBlock = some b → w0.heap.size ≤ b := fun b hb => by
 rcases h.own b hb with h1 | h1
 ·exact hv b h1
 ·have := h0.size
  omega
theorem run_app {ty : TypeId} {w : World} {v x : Value} {bs ys : List Int} (ho : Own 0 5 .u8 w v bs) (hx : Rd .u8 w x ys) (hl : bs.length + ys.length ≤ 1099511627776) :
  ∃ a n c w', (Builtin.append_ #[22, 22] ty #[v, x]).run Tryz.prog w = .ok (.slice a n c) w' ∧ Own 0 5 .u8 w' (.slice a n c) (bs ++ ys) ∧ Grew w v w' (.slice a n c) := by
 obtain ⟨i0, hi, hz0, hz1, hz2⟩ := info_parts Tryz.infoByte'
 have some_case : ∀ (ad : Addr) (c : Nat), (∀ j u, (vals .u8 ys)[j]? = some u → w.cell? (ad.add j) = some u) → ∃ a n c' w', (Builtin.append_ #[22, 22] ty #[v, .slice (some ad) ys.length c]).run Tryz.prog w = .ok (.slice a n c') w' ∧ Own 0 5 .u8 w' (.slice a n c') (bs ++ ys) ∧ Grew w v w' (.slice a n c') := fun ad c hn => by
  obtain ⟨v', w', hr, h2, h3, _, h5⟩ := run_append_own_at (P := Tryz.prog) w 0 22 ty 5 i0 (.int .u8 0) 1 1 Tryz.underlying22 hi hz0 hz1 hz2 rfl (by decide) v bs.length (vals .u8 bs) ho ad ys.length c (vals .u8 ys) (by simp [vals_length]) hn vals_one (by unfold maxLen; omega) (by omega) (Nat.zero_le _)
  have h2' : Own 0 5 .u8 w' v' (bs ++ ys) := by unfold Own; simpa [vals] using h2
  obtain ⟨a, n, c', rfl⟩ := slice_of_own h2'
  refine ⟨a, n, c', w', hr, h2', Kept.of_grown h3 (fun k e => e), fun b hb => ?_⟩
  rcases h5 with h5 | h5
  ·exact .inl (by rw [← h5]; exact hb)
  ·rw [h5] at hb
   exact .inr (by have := Option.some.inj hb; omega)
 rcases hx.2 with ⟨rfl, a, c, rfl, hac⟩ | ⟨b, off, c, rfl, _, hc⟩
 ·cases a with
  | none =>
   obtain rfl : c = 0 := hac rfl
   have hr := run_append_owned_none (P := Tryz.prog) (w := w) 0 22 ty 5 i0 1 Tryz.underlying22 hi v bs.length (vals .u8 bs) ho
   obtain ⟨a, n, c', rfl⟩ := slice_of_own ho
   exact ⟨a, n, c', w, hr, by rw [List.append_nil]; exact ho, Grew.refl _ _⟩
  | some ad => exact some_case ad c (fun j u h => by simp [vals] at h)
 ·exact some_case ⟨b, off, none⟩ c (news_of hc)
theorem wp_app {w : World} {o : Oper} {a : Act} {K : Act → World → Prop} {Q : Exit → Act → World → Prop} (s x : Operand)
  (ho : o.op = .call { callee := .builtin .append, args := #[s, x], argTypes := #[22, 22] })
  (v xv : Value) (bs ys : List Int) (hs : a.eval s = v) (hx : a.eval x = xv) (hown : Own 0 5 .u8 w v bs) (hrd : Rd .u8 w xv ys) (hl : bs.length + ys.length ≤ 1099511627776)
  (h : ∀ a' n' c' w', Own 0 5 .u8 w' (.slice a' n' c') (bs ++ ys) → Grew w v w' (.slice a' n' c') → K (a.put o.dst (.slice a' n' c')) w') : o.wp Tryz.prog a w K Q := by
 obtain ⟨a', n', c', w', hr, h2, h3⟩ := run_app (ty := o.type) hown hrd hl
 unfold Oper.wp execOp
 simp only [ho, resolve, invoke, builtin, Sem.run_bind, Sem.run_pure, Result.andThen_ok, List.map_toArray, List.map_cons, List.map_nil, hs, hx, hr]
 exact h a' n' c' w' h2 h3
theorem wpList_app {w : World} {ops : Array Oper} {rest : List Oper} {o : Oper} {a : Act} {Q : Exit → Act → World → Prop} (hgd : o.guard = none) (s x : Operand)
  (ho : o.op = .call { callee := .builtin .append, args := #[s, x], argTypes := #[22, 22] })
  (v xv : Value) (bs ys : List Int) (hs : a.eval s = v) (hx : a.eval x = xv) (hown : Own 0 5 .u8 w v bs) (hrd : Rd .u8 w xv ys) (hl : bs.length + ys.length ≤ 1099511627776)
  (h : ∀ a' n' c' w', Own 0 5 .u8 w' (.slice a' n' c') (bs ++ ys) → Grew w v w' (.slice a' n' c') → wpList Tryz.prog ops Q rest (a.put o.dst (.slice a' n' c')) w') : wpList Tryz.prog ops Q (o :: rest) a w :=
 wpList_plain hgd fun _ hK => wp_app s x ho v xv bs ys hs hx hown hrd hl fun a' n' c' w' h2 h3 => hK _ _ (h a' n' c' w' h2 h3)
theorem implPut_yes (v n : Int) (w : World) (hi0 : IsI v) (h1 : 1 ≤ n) (h2 : n ≤ 8) (h3 : 0 ≤ v) :
  Calls Tryz.prog 107 #[.int .i64 v, .int .i64 n] w fun e w' => ∃ a c, e = .returned (.slice a (numB v n).length c) ∧ (∀ b, (Value.slice a (numB v n).length c).ownBlock = some b → w.heap.size ≤ b) ∧
   Own 0 5 .u8 w' (.slice a (numB v n).length c) (numB v n) ∧ Same w w' := by
 obtain ⟨n, rfl⟩ : ∃ m : Nat, n = m := ⟨n.toNat, by omega⟩
 obtain ⟨i0, hi, hz0, hz1, hz2⟩ := info_parts Tryz.infoByte'
 obtain ⟨hv1, hv2⟩ := hi0
 have h1' : ¬ (n : Int) < 1 := by omega
 have h2' : ¬ (8 : Int) < n := by omega
 have h3' : ¬ v < 0 := by omega
 by_cases hz : v / 256 ^ n = 0
 ·have hz2' : v / 2 ^ (8 * n) = 0 := by rw [pow8]; exact hz
  have hnum : numB v n = lows v n := by unfold numB; rw [if_neg (by simp only [Int.toNat_natCast]; omega)]; simp
  have HN : Hid (numB v n = lows v n) := hnum
  clear hz hnum
  go_enter Tryz.func107, Tryz.ntmps107
  go_wp2_with (first
   | (at_make; go_loud (refine wpList_make_full _ rfl _ _ 22 rfl 0 5 i0 (.int .u8 0) 1 Tryz.underlying22 hi hz0 hz1 .i64 .i64 _ _ n rfl rfl (by first | rfl | simp | omega) (by first | rfl | simp | omega) (by rw [hz2]; omega) (by unfold maxLen; omega) (Nat.zero_le _) ?_); intro w1 hown1 hgrow1; have HO : Hid (Own 0 5 .u8 w1 (.slice (some ⟨w.heap.size, 0, none⟩) n n) (List.replicate n 0)) := own_made (by simpa using hown1); have HK : Hid (Same w w1) := Kept.of_grown hgrow1 (fun k e => by cases e); clear hown1 hgrow1)
   | (go_at_call 63; refine (writeNumber_any w.heap.size 0 n n 5 (vals .u8 (List.replicate n 0)) v _ (Own.blk HO.out) (by simp [vals]) h3 (by omega) (by omega)).mono ?_; rintro e w2 ⟨rfl, hb2, hk2⟩))
  go_ret
  rw [HN.out, lows_length]
  rw [lay_all _ _ (by simp [vals, lows_length])] at hb2
  refine ⟨_, _, rfl, fun b hb => ?_, ?_, HK.out.next hk2 (fun i hi e => by omega)⟩
  ·simp [Value.ownBlock] at hb; omega
  ·have h := Blk.own hb2 (by unfold maxLen; rw [lows_length]; omega)
   rw [lows_length] at h
   exact h
 ·have hz2' : v / 2 ^ (8 * n) ≠ 0 := by rw [pow8]; exact hz
  have hnum : numB v n = [] := by unfold numB; rw [if_pos (by simp only [Int.toNat_natCast]; omega)]
  have HN : Hid (numB v n = []) := hnum
  clear hz hnum
  go_enter Tryz.func107, Tryz.ntmps107
  go_wp2
  go_ret
  rw [HN.out]
  exact ⟨none, 0, rfl, fun b hb => by simp [Value.ownBlock] at hb, Own.nil _ _ _ _, Kept.refl _ _⟩
theorem implPut_no (v n : Int) (w : World) (h : n < 1 ∨ 8 < n ∨ v < 0) :
  Calls Tryz.prog 107 #[.int .i64 v, .int .i64 n] w fun e w' => e = .returned (.slice none 0 0) ∧ w' = w := by
 rcases h with h | h
 ·go_enter Tryz.func107, Tryz.ntmps107
  go_wp2
  go_ret
  exact ⟨rfl, rfl⟩
 ·by_cases h1 : n < 1
  ·go_enter Tryz.func107, Tryz.ntmps107
   go_wp2
   go_ret
   exact ⟨rfl, rfl⟩
  ·rcases h with h | h
   ·go_enter Tryz.func107, Tryz.ntmps107
    go_wp2
    go_ret
    exact ⟨rfl, rfl⟩
   ·by_cases h2 : 8 < n
    ·go_enter Tryz.func107, Tryz.ntmps107
     go_wp2
     go_ret
     exact ⟨rfl, rfl⟩
    ·go_enter Tryz.func107, Tryz.ntmps107
     go_wp2
     go_ret
     exact ⟨rfl, rfl⟩
theorem implPut_any (v n : Int) (w : World) (hi0 : IsI v) (hi1 : IsI n) :
  Calls Tryz.prog 107 #[.int .i64 v, .int .i64 n] w fun e w' => ∃ a c, e = .returned (.slice a (numB v n).length c) ∧ (∀ b, (Value.slice a (numB v n).length c).ownBlock = some b → w.heap.size ≤ b) ∧
   Own 0 5 .u8 w' (.slice a (numB v n).length c) (numB v n) ∧ Same w w' := by
 by_cases h : n < 1 ∨ 8 < n ∨ v < 0
 ·refine (implPut_no v n w h).mono ?_
  rintro e w' ⟨rfl, rfl⟩
  have e : numB v n = [] := by unfold numB; rw [if_pos (by omega)]
  rw [e]
  exact ⟨none, 0, rfl, fun b hb => by simp [Value.ownBlock] at hb, Own.nil _ _ _ _, Kept.refl _ _⟩
 ·exact implPut_yes v n w hi0 (by omega) (by omega) (by omega)
end Go.Proofs.YtdbpaadndaoihaaGreatDoor
