import Derived.Test.YtnkollbhicmdhaaDoorG14
import Derived.Test.YtnkollbhicmdhaaDoorG10
import Derived.Test.YtnkollbhicmdhaaDoorG11
import Derived.Test.YtnkollbhicmdhaaDoorG05
import Derived.Test.YtnkollbhicmdhaaDoorG03
import Derived.Test.YtnkollbhicmdhaaDoorG00
import Derived.Test.YtnkollbhicmdhaaDoorG04
import Derived.Test.YtnkollbhicmdhaaDoorG09
import Derived.Test.YtnkollbhicmdhaaDoorDrawPm2
import Derived.Test.YtnkollbhicmdhaaDoorPickI
import Derived.Laws.ResultCell
namespace Go.Proofs.YtnkollbhicmdhaaDoor
set_option maxRecDepth 100000
set_option maxHeartbeats 16000000
set_option linter.unusedVariables false
set_option linter.unusedSimpArgs false
open Go.RowKit
structure OpI (w0 w wr : World) (B : Nat) (v : Value) (cs : List Int) (k : Nat) (size : Int) (D Z : Nat) (dv pv : Value) (dur : List Int) (ps : List PW) (a4 : Option Addr) (n4 c4 : Nat) (os : List EOp) : Prop where
 src : SrcR w0 wr B v cs k size
 box : Blk wr D 25 [dv, pv]
 res : Blk wr w.heap.size 25 [.slice none 0 0, .slice none 0 0]
 rd : RdD wr dv pv dur ps
 foot : ∀ b, footD dv pv ps b → w.heap.size < b ∧ b < Z ∧ ¬ b = B
 own : OwnR kOp 0 78 5 wr (.slice a4 n4 c4) os
 new : ∀ b, footR kOp (.slice a4 n4 c4) os b → Z ≤ b
 len : ∀ p ∈ os, p.bs.length ≤ 512
 same : Same w wr
 num : n4 = os.length
section
variable {w0 w wr wx : World} {B : Nat} {v : Value} {cs : List Int} {k k' : Nat} {size : Int} {D Z : Nat} {dv pv : Value} {dur : List Int} {ps : List PW} {a4 : Option Addr} {n4 c4 : Nat} {os : List EOp}
theorem OpI.on (h : OpI w0 w wr B v cs k size D Z dv pv dur ps a4 n4 c4 os) (hk : Same wr wx) : OpI w0 w wx B v cs k size D Z dv pv dur ps a4 n4 c4 os :=
 ⟨h.src.same hk, h.box.same hk, h.res.same hk, h.rd.same hk, h.foot, h.own.same hk, h.new, h.len, h.same.trans hk, h.num⟩
theorem OpI.draw (h : OpI w0 w wr B v cs k size D Z dv pv dur ps a4 n4 c4 os) (hB : w.heap.size < B) (hBD : B < D) (hZ : D < Z) (hs : SrcR w0 wx B v cs k' size) (hk : Kept (fun b => b = B) wr wx) : OpI w0 w wx B v cs k' size D Z dv pv dur ps a4 n4 c4 os :=
 ⟨hs, h.box.kept hk (fun e => by omega), h.res.kept hk (fun e => by omega), h.rd.kept hk (fun b hb e => (h.foot b hb).2.2 e), h.foot, h.own.kept hk (fun b hb e => by have h1 := h.new b hb; have e' : b = B := e; omega), h.new, h.len, h.same.next hk (fun i hi e => by omega), h.num⟩
theorem OpI.snoc {w3 : World} {kind sec : Int} {a5 : Option Addr} {n5 c5 : Nat} {bs : List Int} {g6 cap6 : Nat} (h : OpI w0 w wr B v cs k size D Z dv pv dur ps a4 n4 c4 os) (hw0 : w0.heap.size ≤ Z) (hB : w.heap.size < B) (hBD : B < D) (hZ : D < Z) (hZl : Z ≤ wr.heap.size)
  (hu : Own 0 5 .u8 wr (.slice a5 n5 c5) bs) (hul : bs.length ≤ 512) (huf : ∀ b, (Value.slice a5 n5 c5).ownBlock = some b → Z ≤ b ∧ ¬ footR kOp (.slice a4 n4 c4) os b)
  (hg : (wr.alloc (.cells #[.int .i64 kind, .int .i64 sec, .slice a5 n5 c5] 78)).grownBy w3 (Value.slice a4 n4 c4).ownBlock)
  (hown : w3.ownsRow 0 78 3 (.slice (some ⟨g6, 0, none⟩) (n4 + 1) cap6) (n4 + 1) (kOp.all os ++ [.int .i64 kind, .int .i64 sec, .slice a5 n5 c5])) (hat : (Value.slice a4 n4 c4).ownBlock = some g6 ∨ g6 = wr.heap.size + 1) :
  OpI w0 w w3 B v cs k size D Z dv pv dur ps (some ⟨g6, 0, none⟩) (n4 + 1) cap6 (os ++ [⟨kind, sec, .slice a5 n5 c5, bs⟩]) := by
 have hk3 : Kept (fun b => (Value.slice a4 n4 c4).ownBlock = some b) wr w3 := ((Kept.refl _ _).alloc _).trans (Kept.of_grown hg (fun k e => e))
 have hpn : ∀ b, (Value.slice a4 n4 c4).ownBlock = some b → Z ≤ b := fun b hb => h.new b (.inl hb)
 have hsn := OwnR.snoc (K := kOp) (⟨kind, sec, .slice a5 n5 c5, bs⟩ : EOp) (h.own.same ((Kept.refl (fun _ => False) _).alloc (.cells #[.int .i64 kind, .int .i64 sec, .slice a5 n5 c5] 78))) (hu.same ((Kept.refl (fun _ => False) _).alloc (.cells #[.int .i64 kind, .int .i64 sec, .slice a5 n5 c5] 78))) (fun b hb hf => (huf b hb).2 hf) hg hown h.num (by rw [World.size_alloc]; exact hat)
 refine ⟨h.src.on hk3 (fun e => by have := hpn _ e; omega) (fun i hi e => by have := hpn _ e; omega), h.box.kept hk3 (fun e => by have := hpn _ e; omega), h.res.kept hk3 (fun e => by have := hpn _ e; omega), h.rd.kept hk3 (fun b hb e => by have h1 := (h.foot b hb).2.1; have := hpn _ e; omega), h.foot, hsn, ?_, ?_, h.same.next hk3 (fun i hi e => by have h1 := hpn _ e; omega), by rw [List.length_append, List.length_singleton, h.num]⟩
 ·intro b hb
  rcases footR_snoc (v := .slice a4 n4 c4) b hb with rfl | hb | hb
  ·rcases hat with e | e
   ·exact hpn _ e
   ·omega
  ·exact h.new b hb
  ·exact (huf b hb).1
 ·intro p hp
  rcases List.mem_append.1 hp with hp | hp
  ·exact h.len p hp
  ·rw [List.mem_singleton.1 hp]; exact hul
end
def AtR (n r : Int) : Prop := (n ≤ 1 → r = 0) ∧ (1 < n → 0 ≤ r ∧ r < n)
theorem lwAt_any (v : Value) (cs : List Int) (k : Nat) (n : Int) (w : World) (hb : IsB cs) (hfew : cs.length ≤ 1048576) (hk : k ≤ 1048576) (hn : IsI n) (hv : Rd .u8 w v cs) :
  Calls Tryd.prog 13 #[v, .int .i64 k, .int .i64 n] w fun e w' => ∃ r, e = .returned (.int .i64 r) ∧ AtR n r ∧ Same w w' := by
 obtain ⟨a, c, rfl⟩ := hv.form
 obtain ⟨hn1, hn2⟩ := hn
 by_cases h1 : n ≤ 1
 ·go_enter Tryd.func13, Tryd.ntmps13
  go_wp2
  go_ret
  exact ⟨0, rfl, ⟨fun _ => rfl, fun h => by omega⟩, Kept.refl _ _⟩
 ·by_cases h2 : cs.length = 0
  ·have e0 : ((cs.length : Nat) : Int) = 0 := by omega
   rw [h2]
   go_enter Tryd.func13, Tryd.ntmps13
   go_wp2
   go_ret
   exact ⟨_, rfl, ⟨fun h => by omega, fun h => ⟨Int.emod_nonneg _ (by omega), Int.emod_lt_of_pos _ (by omega)⟩⟩, Kept.refl _ _⟩
  ·obtain ⟨b, off, rfl, hc⟩ : ∃ b off, a = some ⟨b, off, none⟩ ∧ ∀ i, i < cs.length → w.cell? ⟨b, off + i, none⟩ = some (.int .u8 (cs.getD i 0)) := by
    rcases hv.2 with ⟨hnil, _⟩ | ⟨b, off, c', h, _, hc⟩
    ·rw [hnil] at h2
     simp at h2
    ·cases h
     exact ⟨b, off, rfl, hc⟩
   have q1 := hc (k % cs.length) (Nat.mod_lt _ (by omega))
   have q2 := hc ((k + 1) % cs.length) (Nat.mod_lt _ (by omega))
   have x1 := hb.at (k % cs.length) (Nat.mod_lt _ (by omega))
   have x2 := hb.at ((k + 1) % cs.length) (Nat.mod_lt _ (by omega))
   have m1 : (k : Int) % (cs.length : Int) = ((k % cs.length : Nat) : Int) := by simp
   have m2 : ((k : Int) + 1) % (cs.length : Int) = (((k + 1) % cs.length : Nat) : Int) := by simp
   have l1 := Nat.mod_lt k (y := cs.length) (by omega)
   have l2 := Nat.mod_lt (k + 1) (y := cs.length) (by omega)
   have d1 : (k : Int) / (cs.length : Int) = ((k / cs.length : Nat) : Int) := by simp
   have d2 : k / cs.length ≤ k := Nat.div_le_self _ _
   clear hc hv hb
   generalize cs.getD (k % cs.length) 0 = x at *
   generalize cs.getD ((k + 1) % cs.length) 0 = y at *
   generalize k % cs.length = i1 at *
   generalize (k + 1) % cs.length = i2 at *
   generalize k / cs.length = j1 at *
   generalize hl : cs.length = len at *
   have hl0 : (0 : Int) < (len : Int) := by omega
   have hl1 : ¬ (len : Int) = 0 := by omega
   have l1' : (i1 : Int) < (len : Int) := by omega
   have l2' : (i2 : Int) < (len : Int) := by omega
   by_cases h3 : 200 < n
   ·go_enter Tryd.func13, Tryd.ntmps13
    go_wp2
    go_quiet (fail)
    go_wp2
    go_ret
    exact ⟨_, rfl, ⟨fun h => by omega, fun h => ⟨Int.emod_nonneg _ (by omega), Int.emod_lt_of_pos _ (by omega)⟩⟩, (Kept.refl _ _).drewN _⟩
   ·go_enter Tryd.func13, Tryd.ntmps13
    go_wp2
    go_quiet (fail)
    go_wp2
    go_ret
    exact ⟨_, rfl, ⟨fun h => by omega, fun h => ⟨Int.emod_nonneg _ (by omega), Int.emod_lt_of_pos _ (by omega)⟩⟩, (Kept.refl _ _).drewN _⟩
theorem Tryd.infoI64 : (Tryd.prog.info? 2).map (fun i => (i.zero, i.size, i.bytes)) = some (some (.int .i64 0), 1, 8) := by kernel_rfl
theorem news_ofZ {w : World} {b off : Nat} {bs : List Int} (hc : ∀ i, i < bs.length → w.cell? ⟨b, off + i, none⟩ = some (.int .i64 (bs.getD i 0))) (j : Nat) (u : Value) (h : (vals .i64 bs)[j]? = some u) : w.cell? ((⟨b, off, none⟩ : Addr).add j) = some u := by
 have hj : j < bs.length := by have := (List.getElem?_eq_some_iff.1 h).1; rwa [vals_length] at this
 rw [vals_at _ _ _ hj] at h
 have e : (⟨b, off, none⟩ : Addr).add j = ⟨b, off + j, none⟩ := by
  unfold Addr.add
  split
  ·next h => subst h; rfl
  ·rfl
 rw [e, hc j hj]
 exact h
theorem run_appZ {ty : TypeId} {w : World} {v x : Value} {bs ys : List Int} (ho : Own 0 2 .i64 w v bs) (hx : Rd .i64 w x ys) (hl : bs.length + ys.length ≤ 1099511627776) :
  ∃ a n c w', (Builtin.append_ #[41, 41] ty #[v, x]).run Tryd.prog w = .ok (.slice a n c) w' ∧ Own 0 2 .i64 w' (.slice a n c) (bs ++ ys) ∧ Grew w v w' (.slice a n c) := by
 obtain ⟨i0, hi, hz0, hz1, hz2⟩ := info_parts Tryd.infoI64
 have some_case : ∀ (ad : Addr) (c : Nat), (∀ j u, (vals .i64 ys)[j]? = some u → w.cell? (ad.add j) = some u) → ∃ a n c' w', (Builtin.append_ #[41, 41] ty #[v, .slice (some ad) ys.length c]).run Tryd.prog w = .ok (.slice a n c') w' ∧ Own 0 2 .i64 w' (.slice a n c') (bs ++ ys) ∧ Grew w v w' (.slice a n c') := fun ad c hn => by
  obtain ⟨v', w', hr, h2, h3, _, h5⟩ := run_append_own_at (P := Tryd.prog) w 0 41 ty 2 i0 (.int .i64 0) 1 8 Tryd.underlying41 hi hz0 hz1 hz2 rfl (by decide) v bs.length (vals .i64 bs) ho ad ys.length c (vals .i64 ys) (by simp [vals_length]) hn vals_one (by unfold maxLen; omega) (by omega) (Nat.zero_le _)
  have h2' : Own 0 2 .i64 w' v' (bs ++ ys) := by unfold Own; simpa [vals] using h2
  obtain ⟨a, n, c', rfl⟩ := slice_of_own h2'
  refine ⟨a, n, c', w', hr, h2', Kept.of_grown h3 (fun k e => e), fun b hb => ?_⟩
  rcases h5 with h5 | h5
  ·exact .inl (by rw [← h5]; exact hb)
  ·rw [h5] at hb
   exact .inr (by have := Option.some.inj hb; omega)
 rcases hx.2 with ⟨rfl, a, c, rfl, hac⟩ | ⟨b, off, c, rfl, _, hc⟩
 ·cases a with
  | none =>
   obtain rfl : c = 0 := hac rfl
   have hr := run_append_owned_none (P := Tryd.prog) (w := w) 0 41 ty 2 i0 1 Tryd.underlying41 hi v bs.length (vals .i64 bs) ho
   obtain ⟨a, n, c', rfl⟩ := slice_of_own ho
   exact ⟨a, n, c', w, hr, by rw [List.append_nil]; exact ho, Grew.refl _ _⟩
  | some ad => exact some_case ad c (fun j u h => by simp [vals] at h)
 ·exact some_case ⟨b, off, none⟩ c (news_ofZ hc)
theorem wp_appZ {w : World} {o : Oper} {a : Act} {K : Act → World → Prop} {Q : Exit → Act → World → Prop} (s x : Operand)
  (ho : o.op = .call { callee := .builtin .append, args := #[s, x], argTypes := #[41, 41] })
  (v xv : Value) (bs ys : List Int) (hs : a.eval s = v) (hx : a.eval x = xv) (hown : Own 0 2 .i64 w v bs) (hrd : Rd .i64 w xv ys) (hl : bs.length + ys.length ≤ 1099511627776)
  (h : ∀ a' n' c' w', Own 0 2 .i64 w' (.slice a' n' c') (bs ++ ys) → Grew w v w' (.slice a' n' c') → K (a.put o.dst (.slice a' n' c')) w') : o.wp Tryd.prog a w K Q := by
 obtain ⟨a', n', c', w', hr, h2, h3⟩ := run_appZ (ty := o.type) hown hrd hl
 unfold Oper.wp execOp
 simp only [ho, resolve, invoke, builtin, Sem.run_bind, Sem.run_pure, Result.andThen_ok, List.map_toArray, List.map_cons, List.map_nil, hs, hx, hr]
 exact h a' n' c' w' h2 h3
theorem wpList_appZ {w : World} {ops : Array Oper} {rest : List Oper} {o : Oper} {a : Act} {Q : Exit → Act → World → Prop} (hgd : o.guard = none) (s x : Operand)
  (ho : o.op = .call { callee := .builtin .append, args := #[s, x], argTypes := #[41, 41] })
  (v xv : Value) (bs ys : List Int) (hs : a.eval s = v) (hx : a.eval x = xv) (hown : Own 0 2 .i64 w v bs) (hrd : Rd .i64 w xv ys) (hl : bs.length + ys.length ≤ 1099511627776)
  (h : ∀ a' n' c' w', Own 0 2 .i64 w' (.slice a' n' c') (bs ++ ys) → Grew w v w' (.slice a' n' c') → wpList Tryd.prog ops Q rest (a.put o.dst (.slice a' n' c')) w') : wpList Tryd.prog ops Q (o :: rest) a w :=
 wpList_plain hgd fun _ hK => wp_appZ s x ho v xv bs ys hs hx hown hrd hl fun a' n' c' w' h2 h3 => hK _ _ (h a' n' c' w' h2 h3)
theorem rd_oneZ (w : World) (x : Int) : Rd .i64 (w.alloc (.cells #[.int .i64 x] 2)) (.slice (some ⟨w.heap.size, 0, none⟩) 1 1) [x] := by
 have h := Blk.newL w [.int .i64 x] 2
 refine ⟨by simp [maxLen], .inr ⟨w.heap.size, 0, 1, rfl, Nat.le_refl _, fun i hi => ?_⟩⟩
 obtain rfl : i = 0 := by simpa using hi
 exact h.c0
def LenE (w w' : World) (bs : List Int) (e : Ending) : Prop := ∃ a n c, e = .returned (.slice a n c) ∧ Own 0 2 .i64 w' (.slice a n c) bs ∧ (∀ b, (Value.slice a n c).ownBlock = some b → w.heap.size ≤ b) ∧ Same w w'
theorem LenE.of {w w' : World} {bs : List Int} {e : Ending} (h : LenE w w' bs e) : ∃ a c, e = .returned (.slice a bs.length c) ∧ (∀ b, (Value.slice a bs.length c).ownBlock = some b → w.heap.size ≤ b) ∧ Own 0 2 .i64 w' (.slice a bs.length c) bs ∧ Same w w' := by
 obtain ⟨a, n, c, rfl, ho, hf, hk⟩ := h
 obtain rfl : n = bs.length := by
  rcases ho.form with ⟨h, h'⟩ | ⟨g', cap, h, _⟩
  ·cases h; rw [h']; rfl
  ·cases h; rfl
 exact ⟨a, c, rfl, hf, ho, hk⟩
theorem emptyAtZ (w : World) : Own 0 2 .i64 (w.alloc (Obj.cells #[] 2)) (.slice (some ⟨w.heap.size, 0, none⟩) 0 0) [] :=
 ⟨by simp [vals], .inr ⟨w.heap.size, 0, #[], rfl, Nat.zero_le _, by unfold World.alloc; exact Array.getElem?_push_size, Nat.le_refl _, Nat.zero_le _, by simp [vals]⟩⟩
def KpR (w w' : World) (e : Ending) : Prop := ∃ (a : Option Addr) (n c : Nat) (ks : List Int), e = .returned (.slice a n c) ∧ n = ks.length ∧ ks.length = 60 ∧ Own 0 2 .i64 w' (.slice a n c) ks ∧ (∀ b, (Value.slice a n c).ownBlock = some b → w.heap.size ≤ b) ∧ Same w w'
theorem own_n {e : TypeId} {k : IntKind} {w : World} {a : Option Addr} {n c : Nat} {bs : List Int} (h : Own 0 e k w (.slice a n c) bs) : n = bs.length := by
 rcases h.form with ⟨h, h'⟩ | ⟨g', cap, h, _⟩
 ·cases h; rw [h']; rfl
 ·cases h; rfl
theorem keep_any (v : Value) (cs : List Int) (k : Nat) (w : World) (hb : IsB cs) (hfew : cs.length ≤ 1048576) (hk : k ≤ 1000) (hv : Rd .u8 w v cs) :
  Calls Tryd.prog 18 #[v, .int .i64 (k : Int)] w fun e w' => KpR w w' e := by
 have kA := fun (j : Nat) (hj : j ≤ 2000) (n : Int) (hn : IsI n) wx (hx : Same w wx) => lwAt_any v cs j n wx hb hfew (by omega) hn (hv.same hx)
 obtain ⟨va, vc, rfl⟩ := hv.form
 generalize cs.length = cn at kA
 clear hv hb hfew
 have HO0 := hid (emptyAtZ w)
 have HK0 := (show Hid (Same w (w.alloc (Obj.cells #[] 2))) from (Kept.refl _ _).alloc _)
 go_enter Tryd.func18, Tryd.ntmps18
 go_wp2_with fail
 refine (kA k (by omega) 5 (by constructor <;> decide) _ HK0.out).mono ?_
 rintro e w1 ⟨ln, rfl, _, hk1⟩
 have HK1 := hid (HK0.out.trans hk1)
 have HO1 := hid (HO0.out.same hk1)
 clear hk1 HK0 HO0
 go_wp2_with fail
 go_loopw [5, 7] (fun o i wr => ∃ (j : Nat) (a : Option Addr) (n c : Nat) (ks : List Int), j ≤ 60 ∧ i = .int .i64 (j : Int) ∧ o = .slice a n c ∧ ks.length = j ∧ Hid (Own 0 2 .i64 wr (.slice a n c) ks) ∧ Hid (∀ b, (Value.slice a n c).ownBlock = some b → w.heap.size ≤ b) ∧ Hid (Same w wr)) (fun _ i _ => 60 - (intOf i).toNat)
 case atStart => exact ⟨0, _, _, _, [], Nat.zero_le _, rfl, rfl, rfl, HO1, fun b hb => by have e : w.heap.size = b := (by simpa [Value.ownBlock] using hb); omega, HK1⟩
 case round =>
  obtain ⟨j, a, n, c, ks, hj, rfl, rfl, hkl, HO, HF, HK⟩ := hrel
  by_cases hlt : j < 60
  case neg =>
   go_wp2
   go_ret
   exact ⟨a, n, c, ks, rfl, own_n HO.out, by omega, HO.out, HF.out, HK.out⟩
  have hwj : IntKind.i64.wrap ((k : Int) + (j : Int)) = ((k + j : Nat) : Int) := by rw [IntKind.wrap_i64]; omega
  have k1 := kA (k + j) (by omega) 2 (by constructor <;> decide) _ HK.out
  have k5 := fun wx hx => kA (k + j) (by omega) 5 (by constructor <;> decide) wx hx
  generalize k + j = kj at hwj k1 k5
  have HKL := hid hkl
  clear hkl
  go_wp2_with fail
  refine k1.mono ?_
  rintro e w2 ⟨r, rfl, _, hk2⟩
  have HK2 := hid (HK.out.trans hk2)
  have HO2 := hid (HO.out.same hk2)
  clear hk2 k1
  by_cases h0 : ln = 0
  ·subst h0
   have HOA := hid (HO2.out.same ((Kept.refl (fun _ => False) _).alloc (.cells #[.int .i64 1] 2)))
   go_wp2_with (at_builtin; refine wpList_appZ rfl (.tmp 36) (.tmp 38) rfl (.slice a n c) _ ks [1] rfl rfl HOA.out (rd_oneZ w2 1) (by have := HKL.out; simp; omega) ?_; intro a6 n6 c6 w6 ho6 hg6; have HO6 := hid ho6; have HG6 := hid hg6; clear ho6 hg6)
   go_roundw
   case rel => exact ⟨j + 1, a6, n6, c6, _, by omega, by go_num, rfl, by have := HKL.out; simp; omega, HO6, fun b hb => by rcases HG6.out.2 b hb with h | h; exact HF.out b h; rw [World.size_alloc] at h; have := HK2.out.size; omega, (HK2.out.alloc _).next HG6.out.1 (fun i hi e => by have := HF.out i e; omega)⟩
   case measure => simp [intOf]; omega
  have e0 : (ln == 0) = false := by simp [h0]
  by_cases h1 : ln = 1
  ·subst h1
   go_wp2_with fail
   refine (k5 _ HK2.out).mono ?_
   rintro e w3 ⟨r5, rfl, _, hk3⟩
   have HK3 := hid (HK2.out.trans hk3)
   have HO3 := hid (HO2.out.same hk3)
   clear hk3 k5 HK2 HO2
   by_cases hr : 0 < r5
   ·have HOA := hid (HO3.out.same ((Kept.refl (fun _ => False) _).alloc (.cells #[.int .i64 1] 2)))
    go_wp2_with (at_builtin; refine wpList_appZ rfl (.tmp 36) (.tmp 38) rfl (.slice a n c) _ ks [1] rfl rfl HOA.out (rd_oneZ w3 1) (by have := HKL.out; simp; omega) ?_; intro a6 n6 c6 w6 ho6 hg6; have HO6 := hid ho6; have HG6 := hid hg6; clear ho6 hg6)
    go_roundw
    case rel => exact ⟨j + 1, a6, n6, c6, _, by omega, by go_num, rfl, by have := HKL.out; simp; omega, HO6, fun b hb => by rcases HG6.out.2 b hb with h | h; exact HF.out b h; rw [World.size_alloc] at h; have := HK3.out.size; omega, (HK3.out.alloc _).next HG6.out.1 (fun i hi e => by have := HF.out i e; omega)⟩
    case measure => simp [intOf]; omega
   ·have HOA := hid (HO3.out.same ((Kept.refl (fun _ => False) _).alloc (.cells #[.int .i64 r] 2)))
    go_wp2_with (at_builtin; refine wpList_appZ rfl (.tmp 36) (.tmp 38) rfl (.slice a n c) _ ks [r] rfl rfl HOA.out (rd_oneZ w3 r) (by have := HKL.out; simp; omega) ?_; intro a6 n6 c6 w6 ho6 hg6; have HO6 := hid ho6; have HG6 := hid hg6; clear ho6 hg6)
    go_roundw
    case rel => exact ⟨j + 1, a6, n6, c6, _, by omega, by go_num, rfl, by have := HKL.out; simp; omega, HO6, fun b hb => by rcases HG6.out.2 b hb with h | h; exact HF.out b h; rw [World.size_alloc] at h; have := HK3.out.size; omega, (HK3.out.alloc _).next HG6.out.1 (fun i hi e => by have := HF.out i e; omega)⟩
    case measure => simp [intOf]; omega
  have e1 : (ln == 1) = false := by simp [h1]
  by_cases h2 : ln = 2
  ·subst h2
   have HOA := hid (HO2.out.same ((Kept.refl (fun _ => False) _).alloc (.cells #[.int .i64 0] 2)))
   go_wp2_with (at_builtin; refine wpList_appZ rfl (.tmp 36) (.tmp 38) rfl (.slice a n c) _ ks [0] rfl rfl HOA.out (rd_oneZ w2 0) (by have := HKL.out; simp; omega) ?_; intro a6 n6 c6 w6 ho6 hg6; have HO6 := hid ho6; have HG6 := hid hg6; clear ho6 hg6)
   go_roundw
   case rel => exact ⟨j + 1, a6, n6, c6, _, by omega, by go_num, rfl, by have := HKL.out; simp; omega, HO6, fun b hb => by rcases HG6.out.2 b hb with h | h; exact HF.out b h; rw [World.size_alloc] at h; have := HK2.out.size; omega, (HK2.out.alloc _).next HG6.out.1 (fun i hi e => by have := HF.out i e; omega)⟩
   case measure => simp [intOf]; omega
  have e2 : (ln == 2) = false := by simp [h2]
  have HOA := hid (HO2.out.same ((Kept.refl (fun _ => False) _).alloc (.cells #[.int .i64 r] 2)))
  go_wp2_with (at_builtin; refine wpList_appZ rfl (.tmp 36) (.tmp 38) rfl (.slice a n c) _ ks [r] rfl rfl HOA.out (rd_oneZ w2 r) (by have := HKL.out; simp; omega) ?_; intro a6 n6 c6 w6 ho6 hg6; have HO6 := hid ho6; have HG6 := hid hg6; clear ho6 hg6)
  go_roundw
  case rel => exact ⟨j + 1, a6, n6, c6, _, by omega, by go_num, rfl, by have := HKL.out; simp; omega, HO6, fun b hb => by rcases HG6.out.2 b hb with h | h; exact HF.out b h; rw [World.size_alloc] at h; have := HK2.out.size; omega, (HK2.out.alloc _).next HG6.out.1 (fun i hi e => by have := HF.out i e; omega)⟩
  case measure => simp [intOf]; omega
def RunAns (w w' : World) (e : Ending) (b : Bool) (u : Int) (r : List Int) (ds : List (Int × List Int)) : Prop :=
 ∃ (xd xp : Value) (qs : List PW), e = .returned (.agg #[.bool b, .int .i64 u, xd, xp]) ∧ dataP qs = ds ∧ RdD w' xd xp r qs ∧ (∀ b, footD xd xp qs b → w.heap.size ≤ b ∧ b < w'.heap.size) ∧ Same w w'
theorem runAns_any (dv pv : Value) (dur : List Int) (ps : List PW) (bo off co : Nat) (os : List EOp) (n : Nat) (limit : Int) (w : World) (hd : dur.length ≤ 1099511627776) (hn : ps.length ≤ 1073741824) (hs : ∀ p ∈ ps, p.bs.length ≤ 1099511627776) (hv : RdD w dv pv dur ps) (hval : Valid dur.length (dataP ps)) (hno : n = os.length) (hc : os.length ≤ co) (ho : RdR kOp w (.slice (some ⟨bo, off, none⟩) n co) os) :
  Calls Tryd.prog 17 #[.agg #[dv, pv], .slice (some ⟨bo, off, none⟩) n co, .int .i64 limit] w fun e w' => RunAns w w' e (allO limit os.length) (usedO limit os.length) (runD dur (dataP ps) ((datOpS os).take (usedO limit os.length))).1 (runD dur (dataP ps) ((datOpS os).take (usedO limit os.length))).2 := by
 subst hno
 refine (implRunOps_any dv pv dur ps (.slice (some ⟨bo, off, none⟩) os.length co) os limit w hd hn hs hv ⟨bo, off, co, rfl, hc⟩ ho).mono ?_
 rintro e w' ⟨a, n, c, a', n', c', r, qs, rfl, hr, hf, ho', hk⟩
 rw [datOpS_length] at *
 have h := hr.yes hval
 rw [datOpS_length] at h
 refine ⟨.slice a n c, .slice a' n' c', qs, rfl, (congrArg Prod.snd h), ?_, fun b hb => ⟨hf b hb, (ho'.lt b hb).2⟩, hk⟩
 rw [← congrArg Prod.fst h]
 exact ho'.rd
def ORes (w0 w' : World) (b : Bool) (u : Int) (r : List Int) (ds : List (Int × List Int)) (v : Value) : Prop :=
 ∃ (X : Nat) (xd xp : Value) (qs : List PW), v = .pointer (some ⟨X, 0, none⟩) ∧ w0.heap.size ≤ X ∧ Blk w' X 39 [.bool b, .int .i64 u, xd, xp] ∧ dataP qs = ds ∧ RdD w' xd xp r qs ∧ Same w0 w'
theorem RunAns.box {w0 w' : World} {b : Bool} {u : Int} {r : List Int} {ds : List (Int × List Int)} {xd xp : Value} {qs : List PW} {X : Nat} (hb : Blk w' X 39 [.bool false, .int .i64 0, .slice none 0 0, .slice none 0 0]) (hX : w0.heap.size ≤ X) (hq : dataP qs = ds) (hr : RdD w' xd xp r qs) (hf : ∀ b, footD xd xp qs b → ¬ b = X) (hk : Same w0 w') :
  ORes w0 ((((w'.setCell ⟨X, 0, none⟩ (.bool b)).setCell ⟨X, 1, none⟩ (.int .i64 u)).setCell ⟨X, 2, none⟩ xd).setCell ⟨X, 3, none⟩ xp) b u r ds (.pointer (some ⟨X, 0, none⟩)) := by
 have hkr : Kept (fun b => b = X) w' ((((w'.setCell ⟨X, 0, none⟩ (.bool b)).setCell ⟨X, 1, none⟩ (.int .i64 u)).setCell ⟨X, 2, none⟩ xd).setCell ⟨X, 3, none⟩ xp) := ((((Kept.refl (fun b => b = X) w').setCell (p := ⟨X, 0, none⟩) (.inr rfl) _).setCell (p := ⟨X, 1, none⟩) (.inr rfl) _).setCell (p := ⟨X, 2, none⟩) (.inr rfl) _).setCell (p := ⟨X, 3, none⟩) (.inr rfl) _
 exact ⟨X, xd, xp, qs, rfl, hX, (((hb.stored 0 _).stored 1 _).stored 2 _).stored 3 _, hq, hr.kept hkr (fun b hb e => hf b hb e), hk.next hkr (fun i hi e => by omega)⟩
theorem ORes.new {w0 w' : World} {b : Bool} {u : Int} {r : List Int} {ds : List (Int × List Int)} {xd xp : Value} {qs : List PW} (hq : dataP qs = ds) (hr : RdD w' xd xp r qs) (hk : Same w0 w') : ORes w0 (w'.alloc (.cells #[.bool b, .int .i64 u, xd, xp] 39)) b u r ds (.pointer (some ⟨w'.heap.size, 0, none⟩)) :=
 ⟨w'.heap.size, xd, xp, qs, rfl, hk.size, Blk.new w' #[.bool b, .int .i64 u, xd, xp] 39, hq, hr.same ((Kept.refl _ _).alloc _), hk.alloc _⟩
theorem valid_bs {len : Nat} {ds : List (Int × List Int)} {qs : List PW} (hv : Valid len ds) (hq : dataP qs = ds) : ∀ p ∈ qs, p.bs.length ≤ 1099511627776 := fun p hp => by
 subst hq
 have h : (p.sec, p.bs) ∈ dataP qs := List.mem_map.2 ⟨p, hp, rfl⟩
 have := (hv.2 _ h).2.2
 simp only at this
 omega
theorem ans_yes {P : Prop} {r0 dur r : List Int} {ds : List (Int × List Int)} {qs : List PW} (hP : P) (h : Ans P r0 [] dur ds r (dataP qs)) : r = r0 ∧ qs = [] := by
 rcases h with ⟨_, h1, h2⟩ | ⟨h, _⟩
 ·exact ⟨h1, List.map_eq_nil_iff.1 h2⟩
 ·exact absurd hP h
def SetAns (w w' : World) (e : Ending) (r : List Int) : Prop := ∃ (a a' : Option Addr) (c c' : Nat), e = .returned (.agg #[.slice a r.length c, .slice a' 0 c']) ∧ Rd .u8 w' (.slice a r.length c) r ∧ Same w w'
theorem setAns_of {w w' : World} {a a' : Option Addr} {n n' c c' : Nat} {r : List Int} {tw tb : TypeId} (ho : OwnD 0 tw tb w' (.slice a n c) (.slice a' n' c') r []) (hk : Same w w') : SetAns w w' (.returned (.agg #[.slice a n c, .slice a' n' c'])) r := by
 have h := ho.rd
 obtain ⟨x, y, e1⟩ := h.dur.form
 obtain ⟨x', y', e2⟩ := h.pend.form
 injection e1 with _ e1 _
 injection e2 with _ e2 _
 have e2' : n' = 0 := e2
 subst e1 e2'
 exact ⟨a, a', c, c', rfl, h.dur, hk⟩
theorem crashAns_any (dv pv : Value) (dur : List Int) (ps : List PW) (kv : Value) (ks : List Int) (ds : List (Int × List Int)) (w : World) (hd : dur.length ≤ 1099511627776) (hn : ps.length ≤ 1073741824) (hv : RdD w dv pv dur ps) (hkl : ks.length ≤ 1099511627776) (hkv : Rd .i64 w kv ks) (hq : dataP ps = ds) (hval : Valid dur.length ds) :
  Calls Tryd.prog 16 #[.agg #[dv, pv], kv] w fun e w' => SetAns w w' e (settleN (keepS ks) dur ds ds.length) := by
 refine (implCrash_any dv pv dur ps kv ks w hd hn (valid_bs hval hq) hv hkl hkv).mono ?_
 subst hq
 rintro e w' ⟨a, n, c, a', n', c', r, qs, rfl, hr, _, ho, hk⟩
 obtain ⟨rfl, rfl⟩ := ans_yes hval hr
 exact setAns_of ho hk
def DRes (w0 w' : World) (r : List Int) (v : Value) : Prop := ∃ (X : Nat) (a a' : Option Addr) (c c' : Nat), v = .pointer (some ⟨X, 0, none⟩) ∧ Blk w' X 25 [.slice a r.length c, .slice a' 0 c'] ∧ Rd .u8 w' (.slice a r.length c) r ∧ Same w0 w'
theorem DRes.new {w0 w' : World} {r : List Int} {a a' : Option Addr} {c c' : Nat} (hr : Rd .u8 w' (.slice a r.length c) r) (hk : Same w0 w') : DRes w0 (w'.alloc (.cells #[.slice a r.length c, .slice a' 0 c'] 25)) r (.pointer (some ⟨w'.heap.size, 0, none⟩)) :=
 ⟨w'.heap.size, a, a', c, c', rfl, Blk.new w' #[.slice a r.length c, .slice a' 0 c'] 25, hr.same ((Kept.refl _ _).alloc _), hk.alloc _⟩
theorem usedO_at (K n : Nat) (h : K ≤ n) : usedO (K : Int) n = K := by
 unfold usedO
 split
 ·omega
 ·omega
def OW.toE (p : OW) : EOp := ⟨p.kind, p.sec, p.v, p.bs⟩
theorem ownO_rd {tw tb : TypeId} {w : World} {v : Value} {ps : List OW} (h : OwnO 0 tw tb w v ps) : RdR kOp w v (ps.map OW.toE) := by
 rcases h.form with ⟨rfl, rfl⟩ | ⟨g, cap, rfl, _, _, hc, hm⟩
 ·exact ⟨Nat.zero_le _, .inl ⟨rfl, none, 0, rfl⟩, fun p hp => by simp at hp⟩
 ·refine ⟨by rw [List.length_map]; omega, .inr ⟨g, 0, cap, by rw [List.length_map], fun j i hj hi => ?_⟩, fun p hp => ?_⟩
  ·rw [List.length_map] at hj
   have h0 := h.kind rfl j hj
   have h1 := h.sec rfl j hj
   have h2 := h.val rfl j hj
   have hi' : i < 3 := hi
   rw [List.getElem_map]
   rcases i with _ | _ | _ | i
   ·rw [show 0 + (j * kOp.m + 0) = j * 3 from by show 0 + (j * 3 + 0) = _; omega]; exact h0
   ·rw [show 0 + (j * kOp.m + (0 + 1)) = j * 3 + 1 from by show 0 + (j * 3 + (0 + 1)) = _; omega]; exact h1
   ·rw [show 0 + (j * kOp.m + (0 + 1 + 1)) = j * 3 + 2 from by show 0 + (j * 3 + (0 + 1 + 1)) = _; omega]; exact h2
   ·omega
  ·obtain ⟨q, hq, rfl⟩ := List.mem_map.1 hp
   exact (h.data q hq).rd
theorem dat_toE (ps : List OW) : datOpS (ps.map OW.toE) = dataO ps := by
 unfold datOpS dataO
 rw [List.map_map]
 rfl
def MoAns (w w' : World) (e : Ending) (O : List (Int × Int × List Int)) : Prop := ∃ (a : Option Addr) (c : Nat) (os : List EOp), e = .returned (.slice a O.length c) ∧ datOpS os = O ∧ (0 < O.length → ∃ g, a = some ⟨g, 0, none⟩ ∧ O.length ≤ c) ∧ RdR kOp w' (.slice a O.length c) os ∧ Same w w'
theorem moAns_any (sl s e c l : Int) (a0 a1 a2 : Addr) (w : World) (hE : Errs w a0 a1 a2) :
  Calls Tryd.prog 15 #[.int .i64 sl, .agg #[.int .i64 s, .int .i64 e, .int .i64 c, .int .i64 l]] w fun ex w' => MoAns w w' ex (opsM sl s e c l) := by
 refine (implMO_any sl s e c l a0 a1 a2 w hE).mono ?_
 rintro ex w' ⟨v, rfl, a, n, cc, ps, rfl, hd, ho, _, hk⟩
 have hr := ownO_rd ho
 have hl : ps.length = (opsM sl s e c l).length := by rw [← hd]; unfold dataO; rw [List.length_map]
 rcases ho.form with ⟨h1, h2⟩ | ⟨g, cap, h1, _, _, h2, _⟩
 ·injection h1 with h1 h3 h4
  subst h1 h3 h4
  have e0 : (opsM sl s e c l).length = 0 := by rw [← hl, h2]; rfl
  refine ⟨none, 0, ps.map OW.toE, by rw [e0], by rw [dat_toE]; exact hd, fun h => by omega, by rw [e0]; exact hr, hk⟩
 ·injection h1 with h1 h3 h4
  subst h1 h3 h4
  rw [hl] at hr h2 ⊢
  exact ⟨_, _, ps.map OW.toE, rfl, by rw [dat_toE]; exact hd, fun _ => ⟨g, rfl, h2⟩, hr, hk⟩
theorem isB_settle {sel : Nat → Bool} {dur : List Int} {ds : List (Int × List Int)} (h : IsB dur) (hd : ∀ p ∈ ds, IsB p.2) : ∀ n, n ≤ ds.length → IsB (settleN sel dur ds n)
 | 0, _ => h
 | n + 1, hn => by
  have ih := isB_settle (sel := sel) h hd n (by omega)
  have hm : ds.getD n (0, []) ∈ ds := by simp [List.getD, show n < ds.length from by omega]
  unfold settleN
  split
  ·exact isB_putAt ih (hd _ hm) _
  ·exact ih
theorem runM_zero (T : List Int) (sl s e c l : Int) : runD T [] ((opsM sl s e c l).take 0) = (T, []) := rfl
theorem runM_one {T : List Int} (hv : Valid T.length []) (hl : 1024 ≤ T.length) {sl s e c l : Int} (hm : mF s e c l = 0) (hs : sl = 0 ∨ sl = 1) : runD T [] ((opsM sl s e c l).take 1) = (T, [(1 - sl, mB s e c l)]) := by
 have hc : CanWrite T.length (1 - sl) (mB s e c l) := ⟨by omega, by omega, mB_length s e c l⟩
 rw [opsM_yes ⟨hm, by omega, by omega⟩]
 show doD T [] (1, 1 - sl, mB s e c l) = _
 unfold doD writeD putD roomD
 simp [hc]
theorem runM_two {T : List Int} (hv : Valid T.length []) (hl : 1024 ≤ T.length) {sl s e c l : Int} (hm : mF s e c l = 0) (hs : sl = 0 ∨ sl = 1) : runD T [] ((opsM sl s e c l).take 2) = (putAt T ((1 - sl).toNat * 512) (mB s e c l), []) := by
 have h1 := runM_one hv hl hm hs
 rw [opsM_yes ⟨hm, by omega, by omega⟩] at h1 ⊢
 have h2 : runD T [] ([(1, 1 - sl, mB s e c l), (2, 0, [])].take 2) = doD (runD T [] ([((1 : Int), 1 - sl, mB s e c l), (2, 0, [])].take 1)).1 (runD T [] ([((1 : Int), 1 - sl, mB s e c l), (2, 0, [])].take 1)).2 (2, 0, []) := rfl
 rw [h2, h1]
 rfl
theorem crash_M {T : List Int} (hv : Valid T.length []) (hl : 1024 ≤ T.length) {sl s e c l : Int} (hm : mF s e c l = 0) (hs : sl = 0 ∨ sl = 1) (sel : Nat → Bool) (k : Nat) (hk : k ≤ 2) :
  (k < 2 ∧ settleN sel (runD T [] ((opsM sl s e c l).take k)).1 (runD T [] ((opsM sl s e c l).take k)).2 (runD T [] ((opsM sl s e c l).take k)).2.length = T) ∨ settleN sel (runD T [] ((opsM sl s e c l).take k)).1 (runD T [] ((opsM sl s e c l).take k)).2 (runD T [] ((opsM sl s e c l).take k)).2.length = putAt T ((1 - sl).toNat * 512) (mB s e c l) := by
 rcases (show k = 0 ∨ k = 1 ∨ k = 2 by omega) with rfl | rfl | rfl
 ·rw [runM_zero]; exact .inl ⟨by omega, rfl⟩
 ·rw [runM_one hv hl hm hs]
  show (1 < 2 ∧ (if sel 0 = true then putAt T ((1 - sl).toNat * 512) (mB s e c l) else T) = T) ∨ (if sel 0 = true then putAt T ((1 - sl).toNat * 512) (mB s e c l) else T) = _
  cases sel 0
  ·exact .inl ⟨by omega, rfl⟩
  ·exact .inr rfl
 ·rw [runM_two hv hl hm hs]; exact .inr rfl
structure FmI (w wr : World) (D O M : Nat) (dv pv : Value) (T : List Int) (sl s e c l : Int) (s' c' : Int) (a0 a1 a2 a3 a4 : Addr) : Prop where
 dbox : Blk wr D 25 [dv, pv]
 obox : Blk wr O 30 [.bool true, .int .i64 sl, .int .i64 s, .int .i64 e, .int .i64 c, .int .i64 l]
 mbox : Blk wr M 28 [.int .i64 s', .int .i64 e, .int .i64 c', .int .i64 l]
 rd : RdD wr dv pv T []
 errs : Errs5 wr a0 a1 a2 a3 a4
 kept : Same w wr
section
variable {w wr wx : World} {D O M : Nat} {dv pv : Value} {T : List Int} {sl s e c l s' c' : Int} {a0 a1 a2 a3 a4 : Addr}
theorem FmI.same (h : FmI w wr D O M dv pv T sl s e c l s' c' a0 a1 a2 a3 a4) (hk : Same wr wx) : FmI w wx D O M dv pv T sl s e c l s' c' a0 a1 a2 a3 a4 :=
 ⟨h.dbox.same hk, h.obox.same hk, h.mbox.same hk, h.rd.same hk, h.errs.same hk, h.kept.trans hk⟩
theorem Errs5.kept {R : Nat → Prop} (h : Errs5 wr a0 a1 a2 a3 a4) (hk : Kept R wr wx) (hr : ∀ i, i < w.heap.size → ¬ R i) (h0 : Errs5 w a0 a1 a2 a3 a4) (hw : Same w wr) : Errs5 wx a0 a1 a2 a3 a4 := h0.same (hw.next hk (fun i hi e => absurd e (hr i hi)))
end
theorem rdD_nil {w : World} {dv : Value} {r : List Int} (h : Rd .u8 w dv r) (a : Option Addr) (c : Nat) : RdD w dv (.slice a 0 c) r [] := ⟨h, ⟨Nat.zero_le _, .inl ⟨rfl, _, _, rfl⟩, fun p hp => by simp at hp⟩⟩
def SyA (w w' : World) (e : Ending) (r : List Int) : Prop := ∃ (a a' : Option Addr) (c c' : Nat), e = .returned (.agg #[.slice a r.length c, .slice a' 0 c']) ∧ Rd .u8 w' (.slice a r.length c) r ∧ (∀ b, (Value.slice a r.length c).ownBlock = some b → w.heap.size ≤ b) ∧ Same w w'
theorem syA_any (dv pv : Value) (dur : List Int) (ps : List PW) (w : World) (hd : dur.length ≤ 1099511627776) (hn : ps.length ≤ 1073741824) (hv : RdD w dv pv dur ps) (hval : Valid dur.length (dataP ps)) :
  Calls Tryd.prog 12 #[.agg #[dv, pv]] w fun e w' => SyA w w' e (settleN (fun _ => true) dur (dataP ps) (dataP ps).length) := by
 refine (implSync_any dv pv dur ps w hd hn (valid_bs hval rfl) hv).mono ?_
 rintro e w' ⟨a, n, c, a', n', c', r, qs, rfl, hr, hf, ho, hk⟩
 obtain ⟨rfl, rfl⟩ := ans_yes hval hr
 have h := ho.rd
 obtain ⟨x, y, e1⟩ := h.dur.form
 obtain ⟨x', y', e2⟩ := h.pend.form
 injection e1 with _ e1 _
 injection e2 with _ e2 _
 have e2' : n' = 0 := e2
 subst e1 e2'
 exact ⟨a, a', c, c', rfl, h.dur, fun b hb => hf b (.inl hb), hk⟩
theorem fnMasters_law (v0 : Value) (cs : List Int) (v1 : Value) (ms : List Int) (a0 a1 a2 a3 a4 : Addr) (w : World) (hE : Errs5 w a0 a1 a2 a3 a4) (hv0 : Rd .u8 w v0 cs) (hB0 : IsB cs) (hv1 : Rd .u8 w v1 ms) (hB1 : IsB ms) :
  Calls Tryd.prog 3 #[v0, v1] w fun e w' => e = .returned (.bool true) ∧ Same w w' := by
 obtain ⟨av, cv, rfl⟩ := hv0.form
 obtain ⟨bv, dv1, rfl⟩ := hv1.form
 have hm0 := hv0.1
 have hm1 := hv1.1
 unfold maxLen at hm0 hm1
 by_cases h0 : (1048576 : Int) < (cs.length : Int)
 ·go_enter Tryd.func3, Tryd.ntmps3
  go_wp2
  go_ret
  exact ⟨rfl, Kept.refl _ _⟩
 by_cases h1 : (1048576 : Int) < (ms.length : Int)
 ·go_enter Tryd.func3, Tryd.ntmps3
  go_wp2
  go_ret
  exact ⟨rfl, Kept.refl _ _⟩
 have kD := drawPm_any (.slice av cs.length cv) cs w hB0 (by omega) hv0
 have kA := fun (j : Nat) (hj : j ≤ 1000) (n : Int) (hn : IsI n) wx (hx : Same w wx) => lwAt_any (.slice bv ms.length dv1) ms j n wx hB1 (by omega) (by omega) hn (hv1.same hx)
 have kK := fun wx (hx : Same w wx) => keep_any (.slice bv ms.length dv1) ms 2 wx hB1 (by omega) (by omega) (hv1.same hx)
 have HE0 := hid hE
 clear hv0 hv1 hB0 hB1 hm0 hm1 hE
 generalize cs.length = cn at kD h0
 generalize ms.length = mn at kA kK h1
 go_enter Tryd.func3, Tryd.ntmps3
 go_wp2_with fail
 refine kD.mono ?_
 rintro e w1 ⟨dv, pv, dur, ps, rfl, hd1, hd2, hd3, hdB, hrd, hk1⟩
 obtain ⟨da, dc, rfl⟩ := hrd.dur.form
 obtain ⟨pa, pc, rfl⟩ := hrd.pend.form
 have HRD := hid hrd
 have HD3 := hid hd3
 have HDB := hid hdB
 have HK1 := hid hk1
 obtain ⟨n, hn⟩ : ∃ n, dur.length = n := ⟨_, rfl⟩
 obtain ⟨np, hnp⟩ : ∃ n, ps.length = n := ⟨_, rfl⟩
 rw [hn, hnp] at HRD
 rw [hn, hnp]
 rw [hn] at hd1
 rw [hnp] at hd2
 have HN := hid hn
 have HNP := hid hnp
 clear hrd hd3 hdB hk1 kD hn hnp
 have HB2 := hid (Blk.new w1 #[.slice da n dc, .slice pa np pc] 25)
 have hk2 : Same w1 (w1.alloc (.cells #[.slice da n dc, .slice pa np pc] 25)) := (Kept.refl _ _).alloc _
 have HK2 := hid (HK1.out.trans hk2)
 have HRD2 := hid (HRD.out.same hk2)
 obtain ⟨D, hD⟩ : ∃ D, w1.heap.size = D := ⟨_, rfl⟩
 have hDw : w.heap.size ≤ D := by rw [← hD]; exact HK1.out.size
 rw [hD] at HB2
 have HDD := hid hD
 clear hD hk2
 have kP := implPick_any (.slice da n dc) (.slice pa np pc) dur ps a0 a1 a2 a3 a4 _ (HE0.out.same HK2.out) (by rw [HN.out]; omega) (fun p hp => by have := HD3.out p hp; omega) HDB.out HRD2.out
 go_wp2_with fail
 generalize w1.alloc (.cells #[.slice da n dc, .slice pa np pc] 25) = w2 at HB2 HK2 HRD2 kP ⊢
 try rw [HDD.out]
 clear HDD HRD HK1
 refine kP.mono ?_
 rintro e w3 ⟨⟨v, rfl, hpk⟩, hk3⟩
 obtain ⟨og, sl, s, ep, c, l, rfl⟩ := hpk.form
 have HPK := hid hpk
 have hk4 : Same w3 (w3.alloc (.cells #[.bool og, .int .i64 sl, .int .i64 s, .int .i64 ep, .int .i64 c, .int .i64 l] 30)) := (Kept.refl _ _).alloc _
 have HO4 := hid (Blk.new w3 #[.bool og, .int .i64 sl, .int .i64 s, .int .i64 ep, .int .i64 c, .int .i64 l] 30)
 have HB4 := hid ((HB2.out.same hk3).same hk4)
 have HK4 := hid ((HK2.out.trans hk3).trans hk4)
 have HRD4 := hid ((HRD2.out.same hk3).same hk4)
 obtain ⟨O, hO⟩ : ∃ D, w3.heap.size = D := ⟨_, rfl⟩
 rw [hO] at HO4
 have HOO := hid hO
 clear hO hk3 hk4 hpk kP HB2 HK2 HRD2
 go_upto_region 5 with fail
 try rw [HOO.out]
 generalize w3.alloc (.cells #[.bool og, .int .i64 sl, .int .i64 s, .int .i64 ep, .int .i64 c, .int .i64 l] 30) = w4 at HO4 HB4 HK4 HRD4 ⊢
 clear HOO
 go_cut [28] (fun v wx => v = .bool false ∧ Hid (Same w4 wx))
 case first =>
  let Y1 : World → Prop := fun wx : World => wx.cell? ⟨O, 0, none⟩ = some (.bool og) ∧ wx.cell? ⟨O, 1, none⟩ = some (.int .i64 sl) ∧ wx.cell? ⟨O, 2, none⟩ = some (.int .i64 s) ∧ wx.cell? ⟨O, 3, none⟩ = some (.int .i64 ep) ∧ wx.cell? ⟨O, 4, none⟩ = some (.int .i64 c) ∧ wx.cell? ⟨O, 5, none⟩ = some (.int .i64 l) ∧ wx.cell? ⟨D, 0, none⟩ = some (.slice da n dc) ∧ wx.cell? ⟨D, 1, none⟩ = some (.slice pa np pc)
  refine wp_region_V Y1 99 4 rfl (by kernel_rfl) ?_
  have HV := (show Hid (Same w4 w4.drew) from (Kept.refl _ _).drew)
  generalize w4.drew = u1 at HV ⊢
  have hS : Y1 u1 := ⟨(HO4.out.same HV.out).cell 0, (HO4.out.same HV.out).cell 1, (HO4.out.same HV.out).cell 2, (HO4.out.same HV.out).cell 3, (HO4.out.same HV.out).cell 4, (HO4.out.same HV.out).cell 5, (HB4.out.same HV.out).cell 0, (HB4.out.same HV.out).cell 1⟩
  refine tk 0 25 hS ?_
  refine tk 1 26 hS ?_
  refine wpAnyV_one (i := 2) (by kernel_rfl) rfl (fun K hK => ?_)
  go_simp
  refine (specPick_any (.slice da n dc) (.slice pa np pc) dur ps u1 (by rw [HN.out]; omega) (fun p hp => by have := HD3.out p hp; omega) HDB.out (HRD4.out.same HV.out)).mono ?_
  rintro e u2 ⟨⟨v, rfl, hpk⟩, hk'⟩
  obtain rfl := hpk.one HPK.out
  have HV' := hid (HV.out.trans hk')
  clear HV hk' hpk
  have HV := HV'
  have hS : Y1 u2 := ⟨(HO4.out.same HV.out).cell 0, (HO4.out.same HV.out).cell 1, (HO4.out.same HV.out).cell 2, (HO4.out.same HV.out).cell 3, (HO4.out.same HV.out).cell 4, (HO4.out.same HV.out).cell 5, (HB4.out.same HV.out).cell 0, (HB4.out.same HV.out).cell 1⟩
  go_wp2_with fail
  refine hK.out _ _ (fun _ => hS) ?_
  clear hK K
  try simp only [Act.put, sA, s0, sS]
  refine tkV 3 28 (.bool false) hS ?_
  refine wpAnyV_done (by kernel_rfl) ?_
  clear hS
  go_wp2_with fail
  go_meet
  case rel => exact ⟨rfl, HV⟩
 case rest =>
 obtain ⟨w5, rfl⟩ : ∃ x, x = wc := ⟨wc, rfl⟩
 obtain ⟨rfl, hk5⟩ := hcut
 have HB5 := hid (HB4.out.same hk5.out)
 have HO5 := hid (HO4.out.same hk5.out)
 have HK5 := hid (HK4.out.trans hk5.out)
 have HRD5 := hid (HRD4.out.same hk5.out)
 clear HB4 HO4 HK4 HRD4 hk5
 obtain ⟨o0, o1, o2, o3, o4, o5⟩ := HO5.out.all6
 cases og with
 | false =>
  go_wp2
  go_ret
  exact ⟨rfl, HK5.out⟩
 | true =>
 obtain ⟨hval, hsl, hmf⟩ := picked_valid HPK.out
 by_cases hsq : 1099511627776 ≤ s
 ·go_wp2
  go_ret
  exact ⟨rfl, HK5.out⟩
 have HVL := hid hval
 have HMF := hid hmf
 have hb := mF_good hmf
 obtain ⟨d0, d1⟩ := HB5.out.all2
 have kS := syA_any (.slice da n dc) (.slice pa np pc) dur ps w5 (by rw [HN.out]; omega) (by rw [HNP.out]; omega) HRD5.out hval
 clear hval hmf
 obtain ⟨Tt, hT⟩ : ∃ T, settleN (fun _ => true) dur (dataP ps) (dataP ps).length = T := ⟨_, rfl⟩
 have hTl : Tt.length = n := by rw [← hT, settle_len HVL.out]; exact HN.out
 have HTB := (show Hid (IsB Tt) from by unfold Hid; rw [← hT]; exact isB_settle HDB.out.1 (fun p hp => by obtain ⟨q, hq, rfl⟩ := List.mem_map.1 hp; exact HDB.out.2 q hq) _ (Nat.le_refl _))
 have HPT := (show Hid (1024 ≤ n → Valid Tt.length [] ∧ Picked Tt [] (resV true sl s ep c l)) from fun h => ⟨by rw [hTl, ← HN.out]; exact valid_nil HVL.out, by rw [← hT]; exact picked_sync HVL.out (by rw [HN.out]; exact h) HPK.out⟩)
 rw [hT] at kS
 have HTL := hid hTl
 clear hT hTl
 go_wp2_with fail
 refine kS.mono ?_
 rintro e w6 ⟨ra, rb, rc, rd', rfl, hrr, hrf, hk6⟩
 rw [HTL.out] at hrr hrf ⊢
 have HB6 := hid (HB5.out.same hk6)
 have HO6 := hid (HO5.out.same hk6)
 have HK6 := hid (HK5.out.trans hk6)
 have HR6 := hid hrr
 have hDl : D < w5.heap.size := HB5.out.lt
 have HRF := (show Hid (∀ b, (Value.slice ra n rc).ownBlock = some b → ¬ b = D) from fun b hb e => by have := hrf b hb; omega)
 have hOD : ¬ O = D := fun e => by
  have h1 := HB6.out; have h2 := HO6.out
  rw [e] at h2
  have h3 := h1.all2.1; have h4 := h2.all6.1
  rw [h3] at h4; cases h4
 clear kS hrr hrf hk6 d0 d1 o0 o1 o2 o3 o4 o5 HB5 HO5 HK5 HRD5 hDl
 obtain ⟨d0, d1⟩ := HB6.out.all2
 have fd := HB6.out.frozen
 have hkD : Kept (fun b => b = D) w6 ((w6.setCell ⟨D, 0, none⟩ (.slice ra n rc)).setCell ⟨D, 1, none⟩ (.slice rb 0 rd')) := ((Kept.refl (fun b => b = D) w6).setCell (p := ⟨D, 0, none⟩) (.inr rfl) _).setCell (p := ⟨D, 1, none⟩) (.inr rfl) _
 have HK7 := hid (HK6.out.next hkD (fun i hi e => by have e' : i = D := e; omega))
 have HB7 := hid ((HB6.out.stored 0 (.slice ra n rc)).stored 1 (.slice rb 0 rd'))
 have HO7 := hid (HO6.out.kept hkD (fun e => hOD e))
 have HR7 := hid (HR6.out.kept hkD (fun b hb e => HRF.out b hb e))
 clear hkD HR6 HRF
 go_upto_region 10 with fail
 generalize (w6.setCell ⟨D, 0, none⟩ (.slice ra n rc)).setCell ⟨D, 1, none⟩ (.slice rb 0 rd') = w7 at *
 clear d0 d1 fd HB6 HO6 HK6
 obtain ⟨d0, d1⟩ := HB7.out.all2
 by_cases hn2 : n < 1024
 ·have hn3 : (n : Int) < 1024 := by omega
  go_wp2
  go_ret
  exact ⟨rfl, HK7.out⟩
 have hn3 : ¬ (n : Int) < 1024 := by omega
 obtain ⟨HVT, HPT⟩ : Hid (Valid Tt.length []) ∧ Hid (Picked Tt [] (resV true sl s ep c l)) := HPT.out (by omega)
 obtain ⟨o0, o1, o2, o3, o4, o5⟩ := HO7.out.all6
 have hk8 : Same w7 (w7.alloc (.cells #[.int .i64 s, .int .i64 ep, .int .i64 c, .int .i64 l] 28)) := (Kept.refl _ _).alloc _
 have HM8 := hid (Blk.new w7 #[.int .i64 s, .int .i64 ep, .int .i64 c, .int .i64 l] 28)
 obtain ⟨Mb, hMb⟩ : ∃ D, w7.heap.size = D := ⟨_, rfl⟩
 rw [hMb] at HM8
 have hDM : D < Mb := by rw [← hMb]; exact HB7.out.lt
 have hOM : O < Mb := by rw [← hMb]; exact HO7.out.lt
 have HRM := (show Hid (∀ b, (Value.slice ra n rc).ownBlock = some b → ¬ b = Mb) from fun b hb e => by
  rcases HR7.out.2 with ⟨h, _⟩ | ⟨b', off, c', e1, _, hx⟩
  ·have := HTL.out; rw [h] at this; simp at this; omega
  ·injection e1 with e1 _ _
   subst e1
   have h2 := World.block_lt_of_cell? w7 _ (hx 0 (by have := HTL.out; omega))
   have e3 : b' = b := by simpa [Value.ownBlock] using hb
   simp only at h2
   omega)
 have hMw : w.heap.size ≤ Mb := by rw [← hMb]; exact HK7.out.size
 have HI8 := (show Hid (FmI w (w7.alloc (.cells #[.int .i64 s, .int .i64 ep, .int .i64 c, .int .i64 l] 28)) D O Mb (.slice ra n rc) (.slice rb 0 rd') Tt sl s ep c l s c a0 a1 a2 a3 a4) from ⟨HB7.out.same hk8, HO7.out.same hk8, HM8.out, rdD_nil (HR7.out.same hk8) _ _, HE0.out.same (HK7.out.trans hk8), HK7.out.trans hk8⟩)
 have HMM := hid hMb
 clear hMb hk8 HM8
 go_upto_region 13 with fail
 try rw [HMM.out]
 generalize w7.alloc (.cells #[.int .i64 s, .int .i64 ep, .int .i64 c, .int .i64 l] 28) = w8 at HI8 ⊢
 clear HMM HB7 HO7 HK7 HR7 d0 d1 o0 o1 o2 o3 o4 o5
 have q1 : IntKind.i64.wrap (s + 1) = s + 1 := by rw [IntKind.wrap_i64]; omega
 obtain ⟨m0, m1, m2, m3⟩ := HI8.out.mbox.all4
 have fm := HI8.out.mbox.frozen
 have HPM := (show Hid (∀ wa wb sq cq sq' cq', Kept (fun b => b = Mb) wa wb → FmI w wa D O Mb (.slice ra n rc) (.slice rb 0 rd') Tt sl s ep c l sq cq a0 a1 a2 a3 a4 → Blk wb Mb 28 [.int .i64 sq', .int .i64 ep, .int .i64 cq', .int .i64 l] → FmI w wb D O Mb (.slice ra n rc) (.slice rb 0 rd') Tt sl s ep c l sq' cq' a0 a1 a2 a3 a4) from fun wa wb sq cq sq' cq' hk h hb => by
  have hkk : Same w wb := h.kept.next hk (fun i hi e => by have e' : i = Mb := e; omega)
  exact ⟨h.dbox.kept hk (fun e => by omega), h.obox.kept hk (fun e => by omega), hb, rdD_nil (h.rd.dur.kept hk (fun b hb e => HRM.out b hb e)) _ _, HE0.out.same hkk, hkk⟩)
 have HI9 := hid (HPM.out _ _ _ _ _ _ ((Kept.refl (fun b => b = Mb) w8).setCell (p := ⟨Mb, 0, none⟩) (.inr rfl) _) HI8.out (HI8.out.mbox.stored 0 (.int .i64 (s + 1))))
 go_upto_region 14 with fail
 generalize w8.setCell ⟨Mb, 0, none⟩ (.int .i64 (s + 1)) = w9 at HI9 ⊢
 clear HI8 m0 m1 m2 m3 fm q1
 go_cut [54] (fun v wx => ∃ c' : Int, v = .int .i64 c' ∧ c ≤ c' ∧ c' ≤ c + 900 ∧ Hid (FmI w wx D O Mb (.slice ra n rc) (.slice rb 0 rd') Tt sl s ep c l (s + 1) c' a0 a1 a2 a3 a4))
 case first =>
  refine wp_region_V (fun wx : World => wx.cell? ⟨Mb, 2, none⟩ = some (.int .i64 c)) 6 7 rfl (by kernel_rfl) ?_
  have HV := hid (HI9.out.same (Kept.refl _ _).drew)
  generalize w9.drew = u1 at HV ⊢
  have hS : (fun wx : World => wx.cell? ⟨Mb, 2, none⟩ = some (.int .i64 c)) u1 := HV.out.mbox.cell 2
  refine tk 0 50 hS ?_
  refine tk 1 51 hS ?_
  refine tk 2 52 hS ?_
  refine wpAnyV_one (i := 3) (by kernel_rfl) rfl (fun K hK => ?_)
  go_simp
  refine (kA 0 (by omega) 900 (by constructor <;> decide) u1 HV.out.kept).mono ?_
  rintro e u2 ⟨r, rfl, hr, hk'⟩
  obtain ⟨hr1, hr2⟩ := hr.2 (by decide)
  have HV2 := hid (HV.out.same hk')
  have hS : (fun wx : World => wx.cell? ⟨Mb, 2, none⟩ = some (.int .i64 c)) u2 := HV2.out.mbox.cell 2
  clear HV hk' hr
  go_wp2_with fail
  refine hK.out _ _ (fun _ => hS) ?_
  clear hK K
  try simp only [Act.put, sA, s0, sS]
  have q2 : IntKind.i64.wrap (c + r) = c + r := by rw [IntKind.wrap_i64]; omega
  refine tkV 4 54 (.int .i64 (c + r)) hS ?_
  refine tk 5 55 hS ?_
  obtain ⟨m0, m1, m2, m3⟩ := HV2.out.mbox.all4
  have fm := HV2.out.mbox.frozen
  have HE := hid (HPM.out _ _ _ _ _ _ ((Kept.refl (fun b => b = Mb) u2).setCell (p := ⟨Mb, 2, none⟩) (.inr rfl) _) HV2.out (HV2.out.mbox.stored 2 (.int .i64 (c + r))))
  refine wpAnyV_one (i := 6) (by kernel_rfl) rfl (fun K hK => ?_)
  go_simp
  refine hK.out _ _ (fun h => absurd rfl h) ?_
  clear hK K
  refine wpAnyV_done (by kernel_rfl) ?_
  try simp only [Act.put, sA, s0, sS]
  generalize u2.setCell ⟨Mb, 2, none⟩ (.int .i64 (c + r)) = u3 at HE ⊢
  clear hS m0 m1 m2 m3 fm HV2
  go_wp2_with fail
  go_meet
  case rel => exact ⟨c + r, rfl, by omega, by omega, HE⟩
 case rest =>
 obtain ⟨w10, rfl⟩ : ∃ x, x = wc := ⟨wc, rfl⟩
 obtain ⟨c', rfl, hc1, hc2, HI10⟩ := hcut
 clear HI9 HPM
 obtain ⟨m0, m1, m2, m3⟩ := HI10.out.mbox.all4
 have kF := specMF_any (s + 1) ep c' l w10
 by_cases hmf : mF (s + 1) ep c' l = 0
 case neg =>
  obtain ⟨mf, hmf'⟩ : ∃ x, mF (s + 1) ep c' l = x := ⟨_, rfl⟩
  rw [hmf'] at kF hmf
  have hO0 : (opsM sl (s + 1) ep c' l).length = 0 := by rw [opsM_no (fun h => hmf (hmf'.symm.trans h.1))]; rfl
  have e0 : (mf == 0) = false := by simp [hmf]
  go_wp2_with fail
  refine kF.mono ?_
  rintro e w11 ⟨rfl, hk'⟩
  have HI11 := hid (HI10.out.same hk')
  clear hk' kF m0 m1 m2 m3 HI10
  obtain ⟨m0, m1, m2, m3⟩ := HI11.out.mbox.all4
  obtain ⟨o0, o1, o2, o3, o4, o5⟩ := HI11.out.obox.all6
  have kO := moAns_any sl (s + 1) ep c' l a0 a1 a2 w11 HI11.out.errs.errs
  go_wp2_with fail
  refine kO.mono ?_
  rintro e w12 ⟨oa, oc, os, rfl, _, _, _, hk'⟩
  rw [hO0]
  have HK12 := hid (HI11.out.kept.trans hk')
  clear hk' kO
  go_wp2
  go_ret
  exact ⟨rfl, HK12.out⟩
 rw [hmf] at kF
 have hO2 : (opsM sl (s + 1) ep c' l).length = 2 := by rw [opsM_yes ⟨hmf, by omega, by omega⟩]; rfl
 have HMF := hid hmf
 clear hmf
 go_wp2_with fail
 refine kF.mono ?_
 rintro e w11 ⟨rfl, hk'⟩
 have HI11 := hid (HI10.out.same hk')
 clear hk' kF m0 m1 m2 m3 HI10
 obtain ⟨m0, m1, m2, m3⟩ := HI11.out.mbox.all4
 obtain ⟨o0, o1, o2, o3, o4, o5⟩ := HI11.out.obox.all6
 have kO := moAns_any sl (s + 1) ep c' l a0 a1 a2 w11 HI11.out.errs.errs
 go_wp2_with fail
 refine kO.mono ?_
 rintro e w12 ⟨oa, oc, os, rfl, hos, hog, hor, hk'⟩
 obtain ⟨og, rfl, hoc⟩ := hog (by omega)
 rw [hO2] at hor hoc ⊢
 have hosl : os.length = 2 := by rw [← hO2, ← hos, datOpS_length]
 have HOS := hid hos
 have HOL := hid hosl
 have HOR := hid hor
 have HI12 := hid (HI11.out.same hk')
 clear hk' kO HI11 hos hosl hor hog m0 m1 m2 m3 o0 o1 o2 o3 o4 o5
 go_wp2_with fail
 refine (kA 1 (by omega) 3 (by constructor <;> decide) w12 HI12.out.kept).mono ?_
 rintro e w13 ⟨kr, rfl, hr, hk'⟩
 obtain ⟨hr1, hr2⟩ := hr.2 (by decide)
 obtain ⟨Kk, rfl⟩ : ∃ m : Nat, kr = (m : Int) := ⟨kr.toNat, by omega⟩
 have hKk : Kk ≤ 2 := by omega
 have HI13 := hid (HI12.out.same hk')
 have HOR := hid (HOR.out.same hk')
 clear hk' hr HI12
 obtain ⟨d0, d1⟩ := HI13.out.dbox.all2
 have kR := runAns_any (.slice ra n rc) (.slice rb 0 rd') Tt [] og 0 oc os 2 (Kk : Int) w13 (by rw [HTL.out]; omega) (by simp) (fun p hp => by simp at hp) HI13.out.rd HVT.out HOL.out.symm (by rw [HOL.out]; exact hoc) HOR.out
 rw [HOL.out, usedO_at Kk 2 hKk, HOS.out] at kR
 obtain ⟨Y, hY⟩ : ∃ Y, runD Tt (dataP []) ((opsM sl (s + 1) ep c' l).take Kk) = Y := ⟨_, rfl⟩
 have HYV := (show Hid (Y.1.length = n ∧ Valid Y.1.length Y.2) from by
  have h := runD_valid (show Valid Tt.length (dataP []) from HVT.out) (opsM sl (s + 1) ep c' l) Kk (by omega)
  rw [hY] at h
  exact ⟨h.1.trans HTL.out, by rw [h.1]; exact h.2⟩)
 have HCR := (show Hid (∀ sel, (Kk < 2 ∧ settleN sel Y.1 Y.2 Y.2.length = Tt) ∨ settleN sel Y.1 Y.2 Y.2.length = putAt Tt ((1 - sl).toNat * 512) (mB (s + 1) ep c' l)) from fun sel => by
  have h := crash_M HVT.out (by rw [HTL.out]; omega) HMF.out hsl sel Kk hKk
  rw [show runD Tt [] ((opsM sl (s + 1) ep c' l).take Kk) = Y from hY] at h
  exact h)
 rw [hY] at kR
 clear hY
 have hfd : ∀ (bq : Bool) (uq : Int) (xd xp : Value) wx, (Instr.field 39 (.agg #[.bool bq, .int .i64 uq, xd, xp]) 2).run Tryd.prog wx = .ok (.agg #[xd, xp]) wx := fun bq uq xd xp wx => by kernel_rfl
 go_wp2_with fail
 refine kR.mono ?_
 rintro e w14 ⟨xd, xp, xq, rfl, hxq, hxr, _, hk'⟩
 obtain ⟨xa, xc, rfl⟩ := hxr.dur.form
 obtain ⟨xb, xe, rfl⟩ := hxr.pend.form
 have HI14 := hid (HI13.out.same hk')
 have HXR := hid hxr
 have HXQ := hid hxq
 clear hk' kR HI13 hxr hxq d0 d1
 go_wp2_with fail
 refine (kK w14 HI14.out.kept).mono ?_
 rintro e w15 ⟨ka, kn, kc, ks, rfl, hkn, hks, hko, _, hk'⟩
 have HKS := hid hks
 have hk60 : kn = 60 := hkn.trans hks
 subst hk60
 clear hkn hks
 have HI15 := hid (HI14.out.same hk')
 have HXR := hid (HXR.out.same hk')
 have HKO := hid hko.rd
 clear hk' HI14 hko
 have kC := crashAns_any (.slice xa Y.1.length xc) (.slice xb xq.length xe) Y.1 xq (.slice ka 60 kc) ks Y.2 w15 (by rw [HYV.out.1]; omega) (by have h := HYV.out.2.1.2.2.2; rw [← HXQ.out, dataP_length] at h; omega) HXR.out (by rw [HKS.out]; omega) HKO.out HXQ.out HYV.out.2
 go_wp2_with fail
 refine kC.mono ?_
 obtain ⟨Z, hZ⟩ : ∃ Z, settleN (keepS ks) Y.1 Y.2 Y.2.length = Z := ⟨_, rfl⟩
 have HZC := (show Hid ((Kk < 2 ∧ Z = Tt) ∨ Z = putAt Tt ((1 - sl).toNat * 512) (mB (s + 1) ep c' l)) from by have h := HCR.out (keepS ks); rw [hZ] at h; exact h)
 rw [hZ]
 rintro e w16 ⟨za, zb, zc, zd, rfl, hzr, hk'⟩
 have hpn := picked_new HVT.out (by rw [HTL.out]; omega) HPT.out HMF.out
 have hZl : Z.length = n := by
  rcases HZC.out with ⟨_, h⟩ | h
  ·rw [h]; exact HTL.out
  ·rw [h, hpn.1]; exact HTL.out
 have HZB := (show Hid (IsB Z) from by
  rcases HZC.out with ⟨_, h⟩ | h
  ·unfold Hid; rw [h]; exact HTB.out
  ·unfold Hid; rw [h]; exact isB_putAt HTB.out (mB_isB _ _ _ _) _)
 have HZP := (show Hid ((Kk < 2 ∧ Picked Z [] (resV true sl s ep c l)) ∨ Picked Z [] (resV true (1 - sl) (s + 1) ep c' l)) from by
  rcases HZC.out with ⟨h0, h⟩ | h
  ·exact .inl ⟨h0, by rw [h]; exact HPT.out⟩
  ·exact .inr (by rw [h]; exact hpn.2))
 clear hZ hpn HZC HCR HXR HKO kC
 rw [hZl] at hzr ⊢
 have hk17 : Same w16 (w16.alloc (.cells #[.slice za n zc, .slice zb 0 zd] 25)) := (Kept.refl _ _).alloc _
 have HX17 := hid (Blk.new w16 #[.slice za n zc, .slice zb 0 zd] 25)
 have HI17 := hid ((HI15.out.same hk').same hk17)
 have HZR := hid (hzr.same hk17)
 obtain ⟨Xb, hXb⟩ : ∃ D, w16.heap.size = D := ⟨_, rfl⟩
 rw [hXb] at HX17
 have HXX := hid hXb
 clear hXb hk' hk17 hzr HI15
 go_upto_region 20 with fail
 try rw [HXX.out]
 generalize w16.alloc (.cells #[.slice za n zc, .slice zb 0 zd] 25) = w17 at HX17 HI17 HZR ⊢
 clear HXX
 obtain ⟨z0, z1⟩ := HX17.out.all2
 have kP := implPick_any (.slice za n zc) (.slice zb 0 zd) Z [] a0 a1 a2 a3 a4 w17 HI17.out.errs (by rw [hZl]; omega) (fun p hp => by simp at hp) ⟨HZB.out, fun p hp => by simp at hp⟩ (rdD_nil HZR.out _ _)
 go_wp2_with fail
 refine kP.mono ?_
 rintro e w18 ⟨⟨v, rfl, hpk⟩, hk'⟩
 have HI18 := hid (HI17.out.same hk')
 clear hk' HI17 kP z0 z1 HX17
 obtain ⟨m0, m1, m2, m3⟩ := HI18.out.mbox.all4
 obtain ⟨o0, o1, o2, o3, o4, o5⟩ := HI18.out.obox.all6
 have lo : O < w18.heap.size := HI18.out.obox.lt
 have lm : Mb < w18.heap.size := HI18.out.mbox.lt
 have q5 : IntKind.i64.wrap (1 - sl) = 1 - sl := by rw [IntKind.wrap_i64]; omega
 have n1 : (1 - sl == sl) = false := by simp; omega
 have n2 : (1 - sl == 1 - sl) = true := by simp
 rcases HZP.out with ⟨hK2, hp⟩ | hp
 ·have hv := hpk.one hp
  unfold resV at hv
  subst hv
  have hK3 : (Kk : Int) < 2 := by omega
  have HKE := (show Hid (∀ oa ob, Same w ((w18.alloc oa).alloc ob)) from fun oa ob => (HI18.out.kept.alloc oa).alloc ob)
  clear hpk hp HZP HI18
  go_wp2
  go_ret
  exact ⟨rfl, HKE.out _ _⟩
 ·have hv := hpk.one hp
  unfold resV at hv
  subst hv
  have HKE := (show Hid (∀ oa ob, Same w ((w18.alloc oa).alloc ob)) from fun oa ob => (HI18.out.kept.alloc oa).alloc ob)
  clear hpk hp HZP HI18
  by_cases hK3 : (Kk : Int) < 2
  ·go_wp2
   go_ret
   exact ⟨rfl, HKE.out _ _⟩
  ·go_wp2
   go_ret
   exact ⟨rfl, HKE.out _ _⟩
end Go.Proofs.YtnkollbhicmdhaaDoor
