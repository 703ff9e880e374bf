import Derived.Test.YtghbggahbbhgeaaG00
import Derived.Test.YtghbggahbbhgeaaHexD
import Derived.Deep.DeepCutAuto
import Derived.Lib.Bytealg
import Derived.Lib.Strings
import Derived.ChangeMaps5
namespace Go.Proofs.Ytghbggahbbhgeaa
open Go.RowKit
set_option linter.unusedVariables false
structure Row where
  e : TypeId
  m : Nat
  v : Value
  n : Nat
  xs : List Value
def FootL (rs : List Row) (b : Nat) : Prop := ∃ r ∈ rs, r.v.ownBlock = some b
structure OwnL (w : World) (rs : List Row) : Prop where
  own : ∀ r ∈ rs, w.ownsRow 0 r.e r.m r.v r.n r.xs
  apart : rs.Pairwise (fun r s => Apart r.v s.v)
theorem OwnL.kept {R : Nat → Prop} {w w' : World} {rs : List Row} (h : OwnL w rs) (hk : Kept R w w') (hr : ∀ b, FootL rs b → ¬ R b) : OwnL w' rs :=
  ⟨fun r hm => hk.owns (h.own r hm) (fun b hb => hr b ⟨r, hm, hb⟩), h.apart⟩
theorem OwnL.same {w w' : World} {rs : List Row} (h : OwnL w rs) (hk : Same w w') : OwnL w' rs := h.kept hk (fun _ _ => id)
theorem OwnL.lt {w : World} {rs : List Row} (h : OwnL w rs) (b : Nat) (hb : FootL rs b) : b < w.heap.size := by
  obtain ⟨r, hm, hr⟩ := hb
  exact (World.ownsRow.lt (h.own r hm) b hr).2
theorem OwnL.nil (w : World) : OwnL w [] := ⟨fun r hr => absurd hr (by simp), List.Pairwise.nil⟩
theorem FootL_one (r : Row) (b : Nat) : FootL [r] b ↔ r.v.ownBlock = some b := by simp [FootL]
theorem OwnL.append {w : World} {rs ss : List Row} (h : OwnL w rs) (h' : OwnL w ss) (hd : ∀ b, FootL rs b → ¬ FootL ss b) : OwnL w (rs ++ ss) := by
  refine ⟨fun r hr => ?_, List.pairwise_append.2 ⟨h.apart, h'.apart, fun r hr s hs b hb hs' => hd b ⟨r, hr, hb⟩ ⟨s, hs, hs'⟩⟩⟩
  rcases List.mem_append.1 hr with hr | hr
  · exact h.own r hr
  · exact h'.own r hr
def ints (e : TypeId) (k : IntKind) (v : Value) (bs : List Int) : Row := ⟨e, 1, v, bs.length, vals k bs⟩
theorem OwnL.one {w : World} {e : TypeId} {k : IntKind} {v : Value} {bs : List Int} (h : Own 0 e k w v bs) : OwnL w [ints e k v bs] :=
  ⟨fun r hr => by rw [List.mem_singleton.1 hr]; exact h, List.pairwise_singleton _ _⟩
theorem OwnL.of_one {w : World} {e : TypeId} {k : IntKind} {v : Value} {bs : List Int} (h : OwnL w [ints e k v bs]) : Own 0 e k w v bs :=
  h.own _ (List.mem_singleton.2 rfl)
theorem footL_ints (e : TypeId) (k : IntKind) (v : Value) (bs : List Int) (b : Nat) : FootL [ints e k v bs] b ↔ v.ownBlock = some b := FootL_one _ _
structure BS where
  e : TypeId
  a : Option Addr
  c : Nat
  bs : List Int
def BS.v (x : BS) : Value := .slice x.a x.bs.length x.c
def BS.rows (x : BS) : List Row := [ints x.e .u8 x.v x.bs]
def BS.marked (x : BS) (k : Int) : BS := ⟨x.e, x.a, x.c, marks k x.bs.length⟩
theorem BS.foot_marked (x : BS) (k : Int) (b : Nat) : FootL (x.marked k).rows b ↔ FootL x.rows b := by
  simp only [BS.rows, footL_ints, BS.v, BS.marked]
  exact Iff.of_eq (by cases x.a <;> rfl)
theorem BS.own_marked {w : World} {e : TypeId} {a : Option Addr} {c : Nat} {bs : List Int} {k : Int} : OwnL w (BS.rows (BS.marked ⟨e, a, c, bs⟩ k)) ↔ OwnL w [ints e .u8 (.slice a bs.length c) (marks k bs.length)] := by
  simp only [BS.rows, BS.marked, BS.v, marks_length]
structure FR where
  e : TypeId
  a : Option Addr
  n : Nat
  c : Nat
  bs : List Int
def FR.v (x : FR) : Value := .slice x.a x.n x.c
def FR.rows (m : Nat) (x : FR) : List Row := [⟨x.e, m, x.v, x.n, vals .i64 x.bs⟩]
def marksI (k : Int) (n : Nat) : List Int := (List.range n).map fun (i : Nat) => k + (i : Int)
def FR.marked (x : FR) (k : Int) : FR := ⟨x.e, x.a, x.n, x.c, marksI k x.bs.length⟩
theorem FR.foot_marked (m : Nat) (x : FR) (k : Int) (b : Nat) : FootL ((x.marked k).rows m) b ↔ FootL (x.rows m) b := by
  simp only [FR.rows, FootL_one]
  rfl
end Go.Proofs.Ytghbggahbbhgeaa

namespace Go.Proofs.Ytghbggahbbhgeaa
set_option maxHeartbeats 400000
open Go.RowKit
end Go.Proofs.Ytghbggahbbhgeaa

namespace Go.Proofs.Ytghbggahbbhgeaa
open Go.RowKit
set_option linter.unusedVariables false
set_option linter.unusedSimpArgs false
structure StHexResult where
  good : Bool
  data : BS
def StHexResult.val (x : StHexResult) : Value := .agg #[.bool x.good, x.data.v]
def StHexResult.rows (x : StHexResult) : List Row := x.data.rows
def StHexResult.dat (x : StHexResult) : Bool × List Int := (x.good, x.data.bs)
def StHexResult.size (x : StHexResult) : Int := (x.data.bs.length : Int)
theorem StHexResult.size_le (x : StHexResult) : 0 ≤ x.size := by
  unfold StHexResult.size
  omega
def StHexResult.marked (x : StHexResult) (k : Int) : StHexResult := ⟨x.good, x.data.marked (k)⟩
theorem StHexResult.foot_marked (x : StHexResult) (k : Int) (b : Nat) : FootL (x.marked k).rows b ↔ FootL x.rows b := by
  exact BS.foot_marked _ _ b
def StHexResult.rd (w : World) (x : StHexResult) : Prop := Rd .u8 w x.data.v x.data.bs
theorem StHexResult.rd.kept {R : Nat → Prop} {w w' : World} {x : StHexResult} (h : StHexResult.rd w x) (hk : Kept R w w') (hr : ∀ b, FootL x.rows b → ¬ R b) : StHexResult.rd w' x :=
  Rd.kept (h) hk (fun b hb => hr b (((footL_ints _ _ _ _ _).2 hb)))
theorem StHexResult.rd.same {w w' : World} {x : StHexResult} (h : StHexResult.rd w x) (hk : Same w w') : StHexResult.rd w' x := h.kept hk (fun _ _ => id)
set_option maxRecDepth 100000 in
set_option maxHeartbeats 4000000 in
theorem eqHexResult_own (x y : StHexResult) (w : World) (hn : x.size ≤ 1125899906842624) (hd : x.dat = y.dat) (ha : OwnL w x.rows) (hb : OwnL w y.rows) :
    Calls Try.prog 11 #[x.val, y.val] w fun e w' => e = .returned (.bool true) ∧ Same w w' := by
  obtain ⟨xgood, ⟨xdata_e, xdata_a, xdata_c, xdata_b⟩⟩ := x
  obtain ⟨ygood, ⟨ydata_e, ydata_a, ydata_c, ydata_b⟩⟩ := y
  simp only [StHexResult.dat, Prod.mk.injEq] at hd
  obtain ⟨rfl, rfl⟩ := hd
  simp only [StHexResult.size] at hn
  have Hx0 := (show Hid (OwnL w [ints xdata_e .u8 (.slice xdata_a xdata_b.length xdata_c) xdata_b]) from ha)
  have Hy0 := (show Hid (OwnL w [ints ydata_e .u8 (.slice ydata_a xdata_b.length ydata_c) xdata_b]) from hb)
  clear ha hb
  dsimp only [StHexResult.val, BS.v]
  go_enter Try.func11, Try.ntmps11
  have hk0 : Same w ((w.alloc (.cells #[.bool xgood, .slice xdata_a xdata_b.length xdata_c] 28)).alloc (.cells #[.bool xgood, .slice ydata_a xdata_b.length ydata_c] 28)) := ((Kept.refl _ _).alloc _).alloc _
  have HK0 := (show Hid (Same w _) from hk0)
  have HBx0 := (show Hid (Blk ((w.alloc (.cells #[.bool xgood, .slice xdata_a xdata_b.length xdata_c] 28)).alloc (.cells #[.bool xgood, .slice ydata_a xdata_b.length ydata_c] 28)) w.heap.size 28 [.bool xgood, .slice xdata_a xdata_b.length xdata_c]) from (Blk.new w #[.bool xgood, .slice xdata_a xdata_b.length xdata_c] 28).alloc _)
  have HBy0 := (show Hid (Blk ((w.alloc (.cells #[.bool xgood, .slice xdata_a xdata_b.length xdata_c] 28)).alloc (.cells #[.bool xgood, .slice ydata_a xdata_b.length ydata_c] 28)) (w.heap.size + 1) 28 [.bool xgood, .slice ydata_a xdata_b.length ydata_c]) from by have h := Blk.new (w.alloc (.cells #[.bool xgood, .slice xdata_a xdata_b.length xdata_c] 28)) #[.bool xgood, .slice ydata_a xdata_b.length ydata_c] 28; rwa [World.size_alloc] at h)
  clear hk0
  go_wp2_with fail
  refine (eqByteS_own 0 _ _ xdata_b _ (by omega) (Hx0.out.of_one.same HK0.out) (Hy0.out.of_one.same HK0.out)).mono ?_
  rintro e w1 ⟨rfl, nn, hww⟩
  have hk : Same ((w.alloc (.cells #[.bool xgood, .slice xdata_a xdata_b.length xdata_c] 28)).alloc (.cells #[.bool xgood, .slice ydata_a xdata_b.length ydata_c] 28)) w1 := by rw [hww]; exact (Kept.refl _ _).drewN _
  clear hww
  have HK1 := (show Hid (Same w w1) from HK0.out.trans hk)
  have HBx1 := (show Hid (Blk w1 w.heap.size 28 [.bool xgood, .slice xdata_a xdata_b.length xdata_c]) from HBx0.out.same hk)
  have HBy1 := (show Hid (Blk w1 (w.heap.size + 1) 28 [.bool xgood, .slice ydata_a xdata_b.length ydata_c]) from HBy0.out.same hk)
  clear hk HK0 HBx0 HBy0
  go_wp2
  go_ret
  exact ⟨rfl, HK1.out⟩
set_option maxRecDepth 100000 in
set_option maxHeartbeats 4000000 in
theorem markHexResult_own (x : StHexResult) (k0 : Int) (w : World) (h0 : 0 ≤ k0) (h1 : k0 + x.size ≤ 1125899906842624) (ha : OwnL w x.rows) :
    Calls Try.prog 12 #[x.val, .int .i64 k0] w fun e w' => e = .returned (.int .i64 (k0 + x.size)) ∧ OwnL w' (x.marked k0).rows ∧ Kept (FootL x.rows) w w' := by
  have hlt := ha.lt
  have HLT := (show Hid (∀ b, FootL x.rows b → b < w.heap.size) from hlt)
  have HA := (show Hid (OwnL w x.rows) from ha)
  clear hlt
  obtain ⟨xgood, ⟨xdata_e, xdata_a, xdata_c, xdata_b⟩⟩ := x
  have HO0_0 := (show Hid (OwnL w [ints xdata_e .u8 (.slice xdata_a xdata_b.length xdata_c) xdata_b]) from ha)
  clear ha
  simp only [StHexResult.size] at h1
  dsimp only [StHexResult.val, BS.v]
  go_enter Try.func12, Try.ntmps12
  have HK_0 := (show Hid (Kept (FootL (StHexResult.rows ⟨xgood, ⟨xdata_e, xdata_a, xdata_c, xdata_b⟩⟩)) w (w.alloc (.cells #[.bool xgood, .slice xdata_a xdata_b.length xdata_c] 28))) from (Kept.refl _ _).alloc _)
  have HB_0 := (show Hid (Blk (w.alloc (.cells #[.bool xgood, .slice xdata_a xdata_b.length xdata_c] 28)) w.heap.size 28 [.bool xgood, .slice xdata_a xdata_b.length xdata_c]) from Blk.new w #[.bool xgood, .slice xdata_a xdata_b.length xdata_c] 28)
  go_wp2_with fail
  refine (markByteS_own 0 _ xdata_b (k0) _ (by omega) (by omega) (by omega) (OwnL.of_one (HO0_0.out.same ((Kept.refl _ _).alloc _)))).mono ?_
  rintro e w1 ⟨rfl, ho, hk⟩
  have ho := (show OwnL w1 (BS.rows (BS.marked ⟨xdata_e, xdata_a, xdata_c, xdata_b⟩ (k0))) from BS.own_marked.2 (OwnL.one ho))
  have hk : Kept (FootL [ints xdata_e .u8 (.slice xdata_a xdata_b.length xdata_c) xdata_b]) _ w1 := hk.mono (fun b _ e => (footL_ints _ _ _ _ _).2 e)
  have HB_1 := (show Hid (Blk w1 w.heap.size 28 [.bool xgood, .slice xdata_a xdata_b.length xdata_c]) from HB_0.out.kept hk (fun e => by have := HLT.out _ (e); omega))
  have HK_1 := (show Hid (Kept (FootL (StHexResult.rows ⟨xgood, ⟨xdata_e, xdata_a, xdata_c, xdata_b⟩⟩)) w w1) from HK_0.out.next hk (fun b _ e => e))
  have HO0_1 := (show Hid (OwnL w1 (BS.rows (BS.marked ⟨xdata_e, xdata_a, xdata_c, xdata_b⟩ (k0)))) from ho)
  clear ho hk HB_0 HK_0 HO0_0
  go_wp2
  go_ret
  refine ⟨rfl, ?_, HK_1.out⟩
  exact HO0_1.out
set_option maxRecDepth 100000 in
set_option maxHeartbeats 4000000 in
theorem heldHexResult_own (x : StHexResult) (k0 : Int) (w : World) (h0 : 0 ≤ k0) (h1 : k0 + x.size ≤ 1125899906842624) (ha : OwnL w (x.marked k0).rows) :
    Calls Try.prog 13 #[x.val, .int .i64 k0] w fun e w' => e = .returned (.int .i64 (k0 + x.size)) ∧ Same w w' := by
  obtain ⟨xgood, ⟨xdata_e, xdata_a, xdata_c, xdata_b⟩⟩ := x
  have HO0 := (show Hid (OwnL w [ints xdata_e .u8 (.slice xdata_a xdata_b.length xdata_c) (marks (k0) xdata_b.length)]) from BS.own_marked.1 (ha))
  clear ha
  simp only [StHexResult.size] at h1
  dsimp only [StHexResult.val, BS.v]
  go_enter Try.func13, Try.ntmps13
  have HK0 := (show Hid (Same w (w.alloc (.cells #[.bool xgood, .slice xdata_a xdata_b.length xdata_c] 28))) from (Kept.refl _ _).alloc _)
  have HB0 := (show Hid (Blk (w.alloc (.cells #[.bool xgood, .slice xdata_a xdata_b.length xdata_c] 28)) w.heap.size 28 [.bool xgood, .slice xdata_a xdata_b.length xdata_c]) from Blk.new w #[.bool xgood, .slice xdata_a xdata_b.length xdata_c] 28)
  have hneg0 : ¬ (k0 + (xdata_b.length : Int)) < 0 := by omega
  go_wp2_with fail
  refine (heldByteS_own 0 _ xdata_b.length (k0) _ (by omega) (by omega) (by omega) (OwnL.of_one (HO0.out.same HK0.out))).mono ?_
  rintro e w1 ⟨rfl, hww⟩
  have hk : Same (w.alloc (.cells #[.bool xgood, .slice xdata_a xdata_b.length xdata_c] 28)) w1 := by rw [hww]; exact Kept.refl _ _
  clear hww
  have HK1 := (show Hid (Same w w1) from HK0.out.trans hk)
  have HB1 := (show Hid (Blk w1 w.heap.size 28 [.bool xgood, .slice xdata_a xdata_b.length xdata_c]) from HB0.out.same hk)
  clear hk
  go_wp2
  go_ret
  exact ⟨rfl, HK1.out⟩
end Go.Proofs.Ytghbggahbbhgeaa

namespace Go.Proofs.Ytghbggahbbhgeaa
set_option maxRecDepth 100000
set_option maxHeartbeats 4000000
open Go.RowKit
set_option linter.unusedVariables false
set_option linter.unusedSimpArgs false
def digZ (c : Int) : Int := if 48 ≤ c ∧ c ≤ 57 then c - 48 else if 97 ≤ c ∧ c ≤ 102 then c - 87 else -1
def chZ (s : ByteArray) (j : Nat) : Int := ((s.data.toList.getD j 0).toNat : Int)
theorem chZ_in (s : ByteArray) (j : Nat) : 0 ≤ chZ s j ∧ chZ s j ≤ 255 := by
  unfold chZ
  have := (s.data.toList.getD j 0).toNat_lt
  omega
theorem digZ_in (c : Int) : -1 ≤ digZ c ∧ digZ c ≤ 15 := by unfold digZ; split; omega; split <;> omega
theorem specDigit_any (c : Int) (w : World) (h : 0 ≤ c ∧ c ≤ 255) : Calls Try.prog 14 #[.int .u8 c] w fun e w' => e = .returned (.int .i64 (digZ c)) ∧ w' = w := by
  have s1 : 48 ≤ c ∧ c ≤ 57 → IntKind.u8.wrap (c - 48) = c - 48 := fun h => by rw [IntKind.wrap_u8]; omega
  by_cases h1 : 48 ≤ c
  · by_cases h2 : c ≤ 57
    · have e1 : IntKind.u8.wrap (c - 48) = c - 48 := by rw [IntKind.wrap_u8]; omega
      have e2 : IntKind.i64.wrap (c - 48) = c - 48 := by rw [IntKind.wrap_i64]; omega
      have e3 : digZ c = c - 48 := if_pos ⟨h1, h2⟩
      go_enter Try.func14, Try.ntmps14
      go_wp2
      go_ret
      exact ⟨by first | rfl | (rw [e3]; rfl), by first | rfl | trivial⟩
    · by_cases h3 : 97 ≤ c
      · by_cases h4 : c ≤ 102
        · have e1 : IntKind.u8.wrap (c - 97) = c - 97 := by rw [IntKind.wrap_u8]; omega
          have e2 : IntKind.i64.wrap (c - 97 + 10) = c - 87 := by rw [IntKind.wrap_i64]; omega
          have e3 : digZ c = c - 87 := by unfold digZ; rw [if_neg (by omega), if_pos ⟨h3, h4⟩]
          go_enter Try.func14, Try.ntmps14
          go_wp2
          go_ret
          exact ⟨by first | rfl | (rw [e3]; rfl), by first | rfl | trivial⟩
        · have e3 : digZ c = -1 := by unfold digZ; rw [if_neg (by omega), if_neg (by omega)]
          go_enter Try.func14, Try.ntmps14
          go_wp2
          go_ret
          exact ⟨by first | rfl | (rw [e3]; rfl), by first | rfl | trivial⟩
      · have e3 : digZ c = -1 := by unfold digZ; rw [if_neg (by omega), if_neg (by omega)]
        go_enter Try.func14, Try.ntmps14
        go_wp2
        go_ret
        exact ⟨by first | rfl | (rw [e3]; rfl), by first | rfl | trivial⟩
  · have h3 : ¬ 97 ≤ c := by omega
    have e3 : digZ c = -1 := by unfold digZ; rw [if_neg (by omega), if_neg (by omega)]
    go_enter Try.func14, Try.ntmps14
    go_wp2
    go_ret
    exact ⟨by first | rfl | (rw [e3]; rfl), by first | rfl | trivial⟩
theorem dig_index (c : Int) (h : 0 ≤ c ∧ c ≤ 255) : Lib.indexByte [48, 49, 50, 51, 52, 53, 54, 55, 56, 57, 97, 98, 99, 100, 101, 102] c.toNat.toUInt8 = digZ c := by
  obtain ⟨n, rfl⟩ : ∃ n : Nat, c = n := ⟨c.toNat, by omega⟩
  have h2 : ∀ n : Fin 256, Lib.indexByte [48, 49, 50, 51, 52, 53, 54, 55, 56, 57, 97, 98, 99, 100, 101, 102] (((n.val : Nat) : Int)).toNat.toUInt8 = digZ ((n.val : Nat) : Int) := by decide
  exact h2 ⟨n, by omega⟩
theorem sliteIndex_any (s : ByteArray) (c : Int) (w : World) :
    Calls Try.prog 18 #[.string s, .int .u8 c] w fun e w' => e = .returned (.int .i64 (Lib.indexByte s.data.toList c.toNat.toUInt8)) ∧ w' = w := by
  go_enter Try.func18, Try.ntmps18
  go_wp2
  rw [run_callFunc_extern Try.func19 (by kernel_rfl) (by kernel_rfl) (by kernel_rfl) (e := Extern.BytealgIndexByte.indexByte) (by kernel_rfl), Lib.run_indexByteString]
  simp only [Result.andThen]
  rw [Oper.upon_value]
  go_wp2
  go_ret
  exact ⟨rfl, rfl⟩
theorem strIndex_any (s : ByteArray) (c : Int) (w : World) :
    Calls Try.prog 15 #[.string s, .int .u8 c] w fun e w' => e = .returned (.int .i64 (Lib.indexByte s.data.toList c.toNat.toUInt8)) ∧ w' = w := by
  go_enter Try.func15, Try.ntmps15
  go_wp2_with (go_at_call 18; refine (sliteIndex_any _ _ _).mono ?_; rintro e w' ⟨rfl, rfl⟩)
  go_ret
  exact ⟨rfl, rfl⟩
def pairs (s : ByteArray) (k : Nat) : List Int := (List.range k).map (fun i => 16 * digZ (chZ s (2 * i)) + digZ (chZ s (2 * i + 1)))
theorem pairs_succ (s : ByteArray) (k : Nat) : pairs s (k + 1) = pairs s k ++ [16 * digZ (chZ s (2 * k)) + digZ (chZ s (2 * k + 1))] := by
  unfold pairs
  rw [List.range_succ, List.map_append]
  rfl
theorem pairs_length (s : ByteArray) (k : Nat) : (pairs s k).length = k := by simp [pairs]
def goodTo (s : ByteArray) (k : Nat) : Prop := ∀ j, j < k → 0 ≤ digZ (chZ s j)
def goodToDec (s : ByteArray) (k : Nat) : Decidable (goodTo s k) := by unfold goodTo; infer_instance
def decH (s : ByteArray) : Bool × List Int := if (s.toList == [45]) = true then (true, []) else if s.size = 0 ∨ s.size % 2 ≠ 0 then (false, []) else @ite _ (goodTo s s.size) (goodToDec s s.size) (true, pairs s (s.size / 2)) (false, [])
theorem decH_small {s : ByteArray} {x : StHexResult} (h : x.dat = decH s) (hs : s.size ≤ 1048576) : x.size ≤ 1099511627776 := by
  have e : x.data.bs = (decH s).2 := by rw [← h]; rfl
  unfold StHexResult.size
  rw [e]
  unfold decH
  split
  · simp
  split
  · simp
  split
  · simp only [pairs_length]; omega
  · simp
def HexAns (s : ByteArray) (w : World) (e : Ending) (w' : World) : Prop := ∃ y : StHexResult, e = .returned y.val ∧ y.dat = decH s ∧ (∀ b, FootL y.rows b → w.heap.size ≤ b) ∧ OwnL w' y.rows ∧ Same w w'
theorem HexAns.nil {s : ByteArray} {w w' : World} {g : Bool} (hd : decH s = (g, [])) (hk : Same w w') : HexAns s w (.returned (.agg #[.bool g, .slice none 0 0])) w' :=
  ⟨⟨g, ⟨0, none, 0, []⟩⟩, rfl, hd.symm, fun b h => by have := (footL_ints _ _ _ _ _).1 h; simp [BS.v, Value.ownBlock] at this, OwnL.one (Own.nil 0 0 .u8 w'), hk⟩
theorem ch_eq {s : ByteArray} {j : Nat} (h : j < s.size) : ((s[j]'h).toNat : Int) = chZ s j := by
  unfold chZ
  obtain ⟨⟨l⟩⟩ := s
  have hl : j < l.length := h
  have e : (ByteArray.mk ⟨l⟩)[j]'h = l.getD j 0 := by
    simp only [List.getD, List.getElem?_eq_getElem hl, Option.getD_some]
    rfl
  rw [e]
theorem specDecH_any (s : ByteArray) (w : World) (hs : s.size ≤ 1048576) : Calls Try.prog 9 #[.string s] w (HexAns s w) := by
  have HK0 := (show Hid (∀ o, Same w (w.alloc o)) from fun _ => (Kept.refl _ _).alloc _)
  by_cases h1 : (s.toList == [45]) = true
  · have HD := (show Hid (decH s = (true, [])) from if_pos h1)
    go_enter Try.func9, Try.ntmps9
    go_wp2
    exact bodyPost_ret (v := .agg #[.bool true, .slice none 0 0]) (by simp [results, Try.results9, go_sem]) rfl (HexAns.nil HD.out (by first | exact HK0.out _ | exact HKT.out))
  have h1' : (s.toList == [45]) = false := by simpa using h1
  by_cases h2 : s.size = 0 ∨ s.size % 2 ≠ 0
  · have HD := (show Hid (decH s = (false, [])) from by unfold Hid decH; rw [if_neg h1, if_pos h2])
    have h3 : ((s.size : Int) == 0 || (s.size : Int) % 2 != 0) = true := by
      rcases h2 with h | h
      · simp [h]
      · have : ((s.size : Int) % 2 != 0) = true := bne_iff_ne.2 (by omega)
        simp [this]
    go_enter Try.func9, Try.ntmps9
    go_wp2
    all_goals exact bodyPost_ret (v := .agg #[.bool false, .slice none 0 0]) (by simp [results, Try.results9, go_sem]) rfl (HexAns.nil HD.out (by first | exact HK0.out _ | exact HKT.out))
  have h3 : ((s.size : Int) == 0) = false := beq_eq_false_iff_ne.2 (by omega)
  have h4 : ((s.size : Int) % 2 != 0) = false := by simp; omega
  have HB := hid (Blk.new w #[.bool false, .slice none 0 0] 28)
  have hk1 : Same w (w.alloc (.cells #[.bool false, .slice none 0 0] 28)) := HK0.out _
  have HK1 := hid hk1
  have HK2 := (show Hid (Same w ((w.alloc (.cells #[.bool false, .slice none 0 0] 28)).alloc (.cells #[] 5))) from hk1.alloc _)
  have HB2 := hid (HB.out.same (((Kept.refl (fun _ => False) _).alloc (.cells #[] 5))))
  have HO2 := (show Hid (Own 0 5 .u8 ((w.alloc (.cells #[.bool false, .slice none 0 0] 28)).alloc (.cells #[] 5)) (.slice (some ⟨w.heap.size + 1, 0, none⟩) 0 0) []) from by have h := own_empty (w.alloc (.cells #[.bool false, .slice none 0 0] 28)) 5; simpa [Hid] using h)
  clear hk1
  go_enter Try.func9, Try.ntmps9
  go_wp2
  go_loopw [3, 4] (fun o i wr => ∃ (k : Nat) (a : Option Addr) (n c : Nat), 2 * k ≤ s.size ∧ o = .slice a n c ∧ i = .int .i64 ((2 * k : Nat) : Int) ∧ Hid (goodTo s (2 * k)) ∧ Hid (Own 0 5 .u8 wr (.slice a n c) (pairs s k)) ∧ Hid (∀ b, (Value.slice a n c).ownBlock = some b → w.heap.size < b) ∧ Hid (Blk wr w.heap.size 28 [.bool false, .slice none 0 0]) ∧ Hid (Same w wr)) (fun _ i _ => s.size - (intOf i).toNat)
  case atStart => exact ⟨0, _, _, _, Nat.zero_le _, rfl, rfl, fun j hj => by omega, HO2, fun b hb => by simp [Value.ownBlock] at hb; omega, HB2, HK2⟩
  case round =>
    obtain ⟨k, a, n, c, hk, rfl, rfl, HG, HO, HF, HBr, HK⟩ := hrel
    by_cases hlt : 2 * k < s.size
    · have hki : ((2 * k : Nat) : Int) < (s.size : Int) := by omega
      have hlt2 : 2 * k + 1 < s.size := by omega
      obtain ⟨x, hx⟩ : ∃ x, chZ s (2 * k) = x := ⟨_, rfl⟩
      obtain ⟨y, hy⟩ : ∃ y, chZ s (2 * k + 1) = y := ⟨_, rfl⟩
      have hx1 := chZ_in s (2 * k)
      have hy1 := chZ_in s (2 * k + 1)
      rw [hx] at hx1
      rw [hy] at hy1
      have cx := (ch_eq hlt).trans hx
      have cy := (ch_eq hlt2).trans hy
      have HX := hid hx
      have HY := hid hy
      obtain ⟨d, hd⟩ : ∃ d, digZ x = d := ⟨_, rfl⟩
      obtain ⟨f, hf⟩ : ∃ f, digZ y = f := ⟨_, rfl⟩
      have hd1 := digZ_in x
      have hf1 := digZ_in y
      rw [hd] at hd1
      rw [hf] at hf1
      have HDd := hid hd
      have HDf := hid hf
      have kd := specDigit_any x wr hx1
      have kf := specDigit_any y wr hy1
      rw [hd] at kd
      rw [hf] at kf
      clear hx hy hd hf
      have tn : ((2 * (k : Int) + 1)).toNat = 2 * k + 1 := by omega
      go_wp2_with fail
      refine kd.mono ?_
      rintro e w' ⟨rfl, rfl⟩
      go_wp2_with fail
      refine kf.mono ?_
      rintro e w' ⟨rfl, rfl⟩
      obtain ⟨c0, c1⟩ := HBr.out.all2
      have fb := HBr.out.frozen
      by_cases hbad : d < 0 ∨ f < 0
      · have HD := (show Hid (decH s = (false, [])) from by unfold Hid decH; rw [if_neg h1, if_neg h2, if_neg (fun hg => by have g1 := hg (2 * k) hlt; have g2 := hg (2 * k + 1) hlt2; rw [HX.out, HDd.out] at g1; rw [HY.out, HDf.out] at g2; omega)])
        have HKZ := (show Hid (∀ v0 v1, Same w ((w'.setCell ⟨w.heap.size, 0, none⟩ v0).setCell ⟨w.heap.size, 1, none⟩ v1)) from fun v0 v1 => (HK.out.setCell (.inl (Nat.le_refl _)) _).setCell (.inl (Nat.le_refl _)) _)
        have hbb : (decide (d < 0) || decide (f < 0)) = true := by simp only [Bool.or_eq_true, decide_eq_true_eq]; exact hbad
        clear hbad
        have HKR := hid HK.out
        go_wp2_with fail
        all_goals exact bodyPost_ret (v := .agg #[.bool false, .slice none 0 0]) (by simp [results, Try.results9, go_sem, c0, c1]) rfl (HexAns.nil HD.out (by first | exact HKR.out | exact HKZ.out _ _ | exact HK.out))
      · have hd0 : ¬ d < 0 := by omega
        have hf0 : ¬ f < 0 := by omega
        have q1 : IntKind.i64.wrap (16 * d) = 16 * d := by rw [IntKind.wrap_i64]; omega
        have q2 : IntKind.i64.wrap (16 * d + f) = 16 * d + f := by rw [IntKind.wrap_i64]; omega
        have q3 : IntKind.u8.wrap (16 * d + f) = 16 * d + f := by rw [IntKind.wrap_u8]; omega
        have hk5 : Same w' (w'.alloc (.cells #[.int .u8 (16 * d + f)] 5)) := (Kept.refl _ _).alloc _
        have HO5 := hid (HO.out.same hk5)
        have HX5 := hid (rd_one w' (16 * d + f))
        have HK5 := hid (HK.out.trans hk5)
        have HB5 := hid (HBr.out.same hk5)
        clear hk5 c0 c1 fb
        go_wp2_with (at_builtin; refine wpList_app rfl (.tmp 43) (.tmp 49) rfl (.slice a n c) (.slice (some ⟨w'.heap.size, 0, none⟩) 1 1) (pairs s k) [16 * d + f] rfl rfl HO5.out HX5.out (by rw [pairs_length]; simp; omega) ?_; intro a3 n3 c3 w3 hown hgr; have HO6 := (show Hid (Own 0 5 .u8 w3 (.slice a3 n3 c3) (pairs s (k + 1))) from by unfold Hid; rw [pairs_succ, HX.out, HY.out, HDd.out, HDf.out]; exact hown); have HF6 := (show Hid (∀ b, (Value.slice a3 n3 c3).ownBlock = some b → w.heap.size < b) from fun b hb => by rcases hgr.own b hb with h | h; exact HF.out b h; have h7 := HB5.out.lt; omega); have HK6 := (show Hid (Same w w3) from HK5.out.next hgr.kept (fun i hi e => by have := HF.out i e; omega)); have HB6 := (show Hid (Blk w3 w.heap.size 28 [.bool false, .slice none 0 0]) from HB5.out.kept hgr.kept (fun e => by have := HF.out _ e; omega)); clear hown hgr)
        have HG6 := (show Hid (goodTo s (2 * (k + 1))) from fun j hj => by by_cases h : j < 2 * k; exact HG.out j h; by_cases h2 : j = 2 * k; rw [h2, HX.out, HDd.out]; omega; rw [show j = 2 * k + 1 by omega, HY.out, HDf.out]; omega)
        go_roundw
        case rel => exact ⟨k + 1, a3, n3, c3, by omega, rfl, by go_num, HG6, HO6, HF6, HB6, HK6⟩
        case measure => simp [intOf]; omega
    · have hge : ¬ ((2 * k : Nat) : Int) < (s.size : Int) := by omega
      have hke : 2 * k = s.size := by omega
      obtain ⟨c0, c1⟩ := HBr.out.all2
      have fb := HBr.out.frozen
      have HD := (show Hid (decH s = (true, pairs s k)) from by unfold Hid decH; rw [if_neg h1, if_neg h2, if_pos (by rw [← hke]; exact HG.out), show s.size / 2 = k by omega])
      have hkz : Kept (fun b => b = w.heap.size) wr ((wr.setCell ⟨w.heap.size, 0, none⟩ (.bool true)).setCell ⟨w.heap.size, 1, none⟩ (.slice a n c)) := ((Kept.refl (fun b => b = w.heap.size) wr).setCell (p := ⟨w.heap.size, 0, none⟩) (.inr rfl) _).setCell (p := ⟨w.heap.size, 1, none⟩) (.inr rfl) _
      have HN := (show Hid (n = (pairs s k).length) from by unfold Hid; obtain ⟨a', c', h⟩ := HO.out.rd.form; injection h)
      have HOZ := (show Hid (Own 0 5 .u8 ((wr.setCell ⟨w.heap.size, 0, none⟩ (.bool true)).setCell ⟨w.heap.size, 1, none⟩ (.slice a n c)) (.slice a n c) (pairs s k)) from HO.out.kept hkz (fun b hb e => by have := HF.out b hb; omega))
      have HKZ := (show Hid (Same w ((wr.setCell ⟨w.heap.size, 0, none⟩ (.bool true)).setCell ⟨w.heap.size, 1, none⟩ (.slice a n c))) from HK.out.next hkz (fun i hi e => by omega))
      clear hkz hke
      go_wp2_with fail
      refine bodyPost_ret (v := .agg #[.bool true, .slice a n c]) (by simp [results, Try.results9, go_sem, c0, c1]) rfl ?_
      have hn := HN.out
      subst hn
      exact ⟨⟨true, ⟨5, a, c, pairs s k⟩⟩, rfl, HD.out.symm, fun b hb => by have h := (footL_ints _ _ _ _ _).1 hb; have := HF.out b h; omega, OwnL.one HOZ.out, HKZ.out⟩
theorem shl_or {d f : Int} (hd : 0 ≤ d ∧ d ≤ 15) (hf : 0 ≤ f ∧ f ≤ 15) : bits BinOp.or IntKind.i64 (d * 16) f = 16 * d + f := by
  obtain ⟨n, rfl⟩ : ∃ n : Nat, d = n := ⟨d.toNat, by omega⟩
  obtain ⟨m, rfl⟩ : ∃ n : Nat, f = n := ⟨f.toNat, by omega⟩
  have h2 : ∀ n m : Fin 16, bits BinOp.or IntKind.i64 (((n.val : Nat) : Int) * 16) ((m.val : Nat) : Int) = 16 * ((n.val : Nat) : Int) + ((m.val : Nat) : Int) := by decide
  exact h2 ⟨n, by omega⟩ ⟨m, by omega⟩
theorem implDecH_any (s : ByteArray) (w : World) (hs : s.size ≤ 1048576) : Calls Try.prog 10 #[.string s] w (HexAns s w) := by
  have HK0 := (show Hid (∀ o, Same w (w.alloc o)) from fun _ => (Kept.refl _ _).alloc _)
  by_cases h1 : (s.toList == [45]) = true
  · have HD := (show Hid (decH s = (true, [])) from if_pos h1)
    go_enter Try.func10, Try.ntmps10
    go_wp2
    exact bodyPost_ret (v := .agg #[.bool true, .slice none 0 0]) (by simp [results, Try.results10, go_sem]) rfl (HexAns.nil HD.out (by first | exact HK0.out _ | exact HKT.out))
  have h1' : (s.toList == [45]) = false := by simpa using h1
  by_cases h2 : s.size = 0 ∨ s.size % 2 ≠ 0
  · have HD := (show Hid (decH s = (false, [])) from by unfold Hid decH; rw [if_neg h1, if_pos h2])
    have h3 : ((s.size : Int) == 0 || (s.size : Int) % 2 != 0) = true := by
      rcases h2 with h | h
      · simp [h]
      · have : ((s.size : Int) % 2 != 0) = true := bne_iff_ne.2 (by omega)
        simp [this]
    go_enter Try.func10, Try.ntmps10
    go_wp2
    all_goals exact bodyPost_ret (v := .agg #[.bool false, .slice none 0 0]) (by simp [results, Try.results10, go_sem]) rfl (HexAns.nil HD.out (by first | exact HK0.out _ | exact HKT.out))
  have h3 : ((s.size : Int) == 0) = false := beq_eq_false_iff_ne.2 (by omega)
  have h4 : ((s.size : Int) % 2 != 0) = false := by simp; omega
  have HB := hid (Blk.new w #[.bool false, .slice none 0 0] 28)
  have hk1 : Same w (w.alloc (.cells #[.bool false, .slice none 0 0] 28)) := HK0.out _
  have HK1 := hid hk1
  obtain ⟨i0, hi0, hz0, hz1, hz2⟩ := info_parts Try.infoByte'
  clear hk1
  have q0 : (s.size : Int).tdiv 2 = ((s.size / 2 : Nat) : Int) := by rw [Int.tdiv_eq_ediv_of_nonneg (by omega)]; omega
  have q00 : IntKind.i64.wrap ((s.size : Int).tdiv 2) = ((s.size / 2 : Nat) : Int) := by rw [q0, IntKind.wrap_i64]; omega
  have q01 : IntKind.i64.wrap ((s.size : Int) / 2) = ((s.size / 2 : Nat) : Int) := by rw [IntKind.wrap_i64]; omega
  go_enter Try.func10, Try.ntmps10
  go_wp2_with (at_make; refine wpList_make_own _ rfl (.const (.int .i64 0)) (.tmp 22) 22 rfl 0 5 i0 (.int .u8 0) 1 Try.underlying22 hi0 hz0 hz1 .i64 .i64 _ (s.size / 2) rfl rfl (by first | rfl | omega) (by rw [hz2]; omega) (by unfold maxLen; omega) (Nat.zero_le _) ?_; intro w1 hown1 hgrow1; go_loud (have HO2 := (show Hid (Own 0 5 .u8 w1 (.slice (some ⟨w.heap.size + 1, 0, none⟩) 0 (s.size / 2)) []) from by rw [World.size_alloc] at hown1; exact hown1)); have hk2 : Same (w.alloc (.cells #[.bool false, .slice none 0 0] 28)) w1 := Kept.of_grown hgrow1 (fun k e => by cases e); have HK2 := hid (HK1.out.trans hk2); have HB2 := hid (HB.out.same hk2); clear hown1 hgrow1 hk2)
  go_loopw [3, 4, 5, 6] (fun o i _ _ wr => ∃ (k : Nat) (a : Option Addr) (n c : Nat), 2 * k ≤ s.size ∧ o = .slice a n c ∧ i = .int .i64 ((2 * k : Nat) : Int) ∧ Hid (goodTo s (2 * k)) ∧ Hid (Own 0 5 .u8 wr (.slice a n c) (pairs s k)) ∧ Hid (∀ b, (Value.slice a n c).ownBlock = some b → w.heap.size < b) ∧ Hid (Blk wr w.heap.size 28 [.bool false, .slice none 0 0]) ∧ Hid (Same w wr)) (fun _ i _ _ _ => s.size - (intOf i).toNat)
  case atStart => exact ⟨0, _, _, _, Nat.zero_le _, rfl, rfl, fun j hj => by omega, HO2, fun b hb => by simp [Value.ownBlock] at hb; omega, HB2, HK2⟩
  case round =>
    obtain ⟨k, a, n, c, hk, rfl, rfl, HG, HO, HF, HBr, HK⟩ := hrel
    by_cases hlt : 2 * k < s.size
    · have hki : ((2 * k : Nat) : Int) < (s.size : Int) := by omega
      have hlt2 : 2 * k + 1 < s.size := by omega
      obtain ⟨x, hx⟩ : ∃ x, chZ s (2 * k) = x := ⟨_, rfl⟩
      obtain ⟨y, hy⟩ : ∃ y, chZ s (2 * k + 1) = y := ⟨_, rfl⟩
      have hx1 := chZ_in s (2 * k)
      have hy1 := chZ_in s (2 * k + 1)
      rw [hx] at hx1
      rw [hy] at hy1
      have cx := (ch_eq hlt).trans hx
      have cy := (ch_eq hlt2).trans hy
      have HX := hid hx
      have HY := hid hy
      obtain ⟨d, hd⟩ : ∃ d, digZ x = d := ⟨_, rfl⟩
      obtain ⟨f, hf⟩ : ∃ f, digZ y = f := ⟨_, rfl⟩
      have hd1 := digZ_in x
      have hf1 := digZ_in y
      rw [hd] at hd1
      rw [hf] at hf1
      have HDd := hid hd
      have HDf := hid hf
      have kd := fun wx => strIndex_any ⟨#[48, 49, 50, 51, 52, 53, 54, 55, 56, 57, 97, 98, 99, 100, 101, 102]⟩ x wx
      have kf := fun wx => strIndex_any ⟨#[48, 49, 50, 51, 52, 53, 54, 55, 56, 57, 97, 98, 99, 100, 101, 102]⟩ y wx
      have gx := (dig_index x hx1).trans hd
      have gy := (dig_index y hy1).trans hf
      simp only [gx] at kd
      simp only [gy] at kf
      clear hx hy hd hf gx gy
      have tn : ((2 * (k : Int) + 1)).toNat = 2 * k + 1 := by omega
      have n0 : (0 : Int) ≤ 2 * (k : Int) := by omega
      have n1 : (0 : Int) ≤ 2 * (k : Int) + 1 := by omega
      have n2 : 2 * (k : Int) + 1 < (s.size : Int) := by omega
      have tn0 : (2 * (k : Int)).toNat = 2 * k := by omega
      have qa : IntKind.i64.wrap (2 * (k : Int) + 1) = 2 * (k : Int) + 1 := by rw [IntKind.wrap_i64]; omega
      go_upto_region 9 with fail
      refine wp_region_V (fun wx : World => True) 99 11 rfl (by kernel_rfl) ?_
      have hS : (fun wx : World => True) wr.drew := trivial
      have HO' := hid (HO.out.same (Kept.refl (fun _ => False) _).drew)
      have HB' := hid (HBr.out.same (Kept.refl (fun _ => False) _).drew)
      have HK' := hid (HK.out.drew)
      clear HO HBr HK
      generalize wr.drew = w' at hS HO' HB' HK' ⊢
      have HO := HO'
      have HBr := HB'
      have HK := HK'
      clear HO' HB' HK'
      refine tk 0 30 hS ?_
      refine tk 1 31 hS ?_
      refine tkV 2 32 (.int .u8 x) hS ?_
      refine tk 4 34 hS ?_
      refine tk 5 35 hS ?_
      refine tkV 6 36 (.int .i64 (2 * (k : Int) + 1)) hS ?_
      refine tkV 7 37 (.int .u8 y) hS ?_
      refine wpAnyV_one (i := 3) (by kernel_rfl) rfl (fun K hK => ?_)
      go_simp
      refine (kd _).mono ?_
      rintro e u2 ⟨rfl, hu⟩
      have hu := hu.symm
      subst hu
      go_wp2_with fail
      refine hK.out _ _ (fun _ => hS) ?_
      clear hK K
      try simp only [Act.put, sA, s0, sS]
      refine wpAnyV_one (i := 8) (by kernel_rfl) rfl (fun K hK => ?_)
      go_simp
      refine (kf _).mono ?_
      rintro e u2 ⟨rfl, hu⟩
      have hu := hu.symm
      subst hu
      go_wp2_with fail
      refine hK.out _ _ (fun _ => hS) ?_
      clear hK K
      try simp only [Act.put, sA, s0, sS]
      refine tk 9 5 hS ?_
      refine tk 10 6 hS ?_
      refine wpAnyV_done (by kernel_rfl) ?_
      obtain ⟨c0, c1⟩ := HBr.out.all2
      have fb := HBr.out.frozen
      by_cases hbad : d < 0 ∨ f < 0
      · have HD := (show Hid (decH s = (false, [])) from by unfold Hid decH; rw [if_neg h1, if_neg h2, if_neg (fun hg => by have g1 := hg (2 * k) hlt; have g2 := hg (2 * k + 1) hlt2; rw [HX.out, HDd.out] at g1; rw [HY.out, HDf.out] at g2; omega)])
        have HKZ := (show Hid (∀ v0 v1, Same w ((w'.setCell ⟨w.heap.size, 0, none⟩ v0).setCell ⟨w.heap.size, 1, none⟩ v1)) from fun v0 v1 => (HK.out.setCell (.inl (Nat.le_refl _)) _).setCell (.inl (Nat.le_refl _)) _)
        have hbb : (decide (d < 0) || decide (f < 0)) = true := by simp only [Bool.or_eq_true, decide_eq_true_eq]; exact hbad
        clear hbad
        have HKR := hid HK.out
        go_wp2_with fail
        all_goals exact bodyPost_ret (v := .agg #[.bool false, .slice none 0 0]) (by simp [results, Try.results10, go_sem, c0, c1]) rfl (HexAns.nil HD.out (by first | exact HKR.out | exact HKZ.out _ _ | exact HK.out))
      · have hd0 : ¬ d < 0 := by omega
        have hf0 : ¬ f < 0 := by omega
        have q1 : bits BinOp.or IntKind.i64 (d * 16) f = 16 * d + f := shl_or (by omega) (by omega)
        have q2 : (16 * d + f) % 256 = 16 * d + f := by omega
        have q3 : IntKind.u8.wrap (16 * d + f) = 16 * d + f := by rw [IntKind.wrap_u8]; omega
        have hk5 : Same w' (w'.alloc (.cells #[.int .u8 (16 * d + f)] 5)) := (Kept.refl _ _).alloc _
        have HO5 := hid (HO.out.same hk5)
        have HX5 := hid (rd_one w' (16 * d + f))
        have HK5 := hid (HK.out.trans hk5)
        have HB5 := hid (HBr.out.same hk5)
        clear hk5 c0 c1 fb
        go_wp2_with (at_builtin; refine wpList_app rfl (.tmp 46) (.tmp 52) rfl (.slice a n c) (.slice (some ⟨w'.heap.size, 0, none⟩) 1 1) (pairs s k) [16 * d + f] rfl rfl HO5.out HX5.out (by rw [pairs_length]; simp; omega) ?_; intro a3 n3 c3 w3 hown hgr; have HO6 := (show Hid (Own 0 5 .u8 w3 (.slice a3 n3 c3) (pairs s (k + 1))) from by unfold Hid; rw [pairs_succ, HX.out, HY.out, HDd.out, HDf.out]; exact hown); have HF6 := (show Hid (∀ b, (Value.slice a3 n3 c3).ownBlock = some b → w.heap.size < b) from fun b hb => by rcases hgr.own b hb with h | h; exact HF.out b h; have h7 := HB5.out.lt; omega); have HK6 := (show Hid (Same w w3) from HK5.out.next hgr.kept (fun i hi e => by have := HF.out i e; omega)); have HB6 := (show Hid (Blk w3 w.heap.size 28 [.bool false, .slice none 0 0]) from HB5.out.kept hgr.kept (fun e => by have := HF.out _ e; omega)); clear hown hgr)
        have HG6 := (show Hid (goodTo s (2 * (k + 1))) from fun j hj => by by_cases h : j < 2 * k; exact HG.out j h; by_cases h2 : j = 2 * k; rw [h2, HX.out, HDd.out]; omega; rw [show j = 2 * k + 1 by omega, HY.out, HDf.out]; omega)
        go_roundw
        case rel => exact ⟨k + 1, a3, n3, c3, by omega, rfl, by go_num, HG6, HO6, HF6, HB6, HK6⟩
        case measure => simp [intOf]; omega
    · have hge : ¬ ((2 * k : Nat) : Int) < (s.size : Int) := by omega
      have hke : 2 * k = s.size := by omega
      obtain ⟨c0, c1⟩ := HBr.out.all2
      have fb := HBr.out.frozen
      have HD := (show Hid (decH s = (true, pairs s k)) from by unfold Hid decH; rw [if_neg h1, if_neg h2, if_pos (by rw [← hke]; exact HG.out), show s.size / 2 = k by omega])
      have hkz : Kept (fun b => b = w.heap.size) wr ((wr.setCell ⟨w.heap.size, 0, none⟩ (.bool true)).setCell ⟨w.heap.size, 1, none⟩ (.slice a n c)) := ((Kept.refl (fun b => b = w.heap.size) wr).setCell (p := ⟨w.heap.size, 0, none⟩) (.inr rfl) _).setCell (p := ⟨w.heap.size, 1, none⟩) (.inr rfl) _
      have HN := (show Hid (n = (pairs s k).length) from by unfold Hid; obtain ⟨a', c', h⟩ := HO.out.rd.form; injection h)
      have HOZ := (show Hid (Own 0 5 .u8 ((wr.setCell ⟨w.heap.size, 0, none⟩ (.bool true)).setCell ⟨w.heap.size, 1, none⟩ (.slice a n c)) (.slice a n c) (pairs s k)) from HO.out.kept hkz (fun b hb e => by have := HF.out b hb; omega))
      have HKZ := (show Hid (Same w ((wr.setCell ⟨w.heap.size, 0, none⟩ (.bool true)).setCell ⟨w.heap.size, 1, none⟩ (.slice a n c))) from HK.out.next hkz (fun i hi e => by omega))
      clear hkz hke
      go_wp2_with fail
      refine bodyPost_ret (v := .agg #[.bool true, .slice a n c]) (by simp [results, Try.results10, go_sem, c0, c1]) rfl ?_
      have hn := HN.out
      subst hn
      exact ⟨⟨true, ⟨5, a, c, pairs s k⟩⟩, rfl, HD.out.symm, fun b hb => by have h := (footL_ints _ _ _ _ _).1 hb; have := HF.out b h; omega, OwnL.one HOZ.out, HKZ.out⟩
end Go.Proofs.Ytghbggahbbhgeaa

namespace Go.Proofs.Ytghbggahbbhgeaa
set_option maxRecDepth 100000
set_option maxHeartbeats 16000000
open Go.RowKit
set_option linter.unusedVariables false
theorem decodeHex_law (s0 : ByteArray) (w : World)  :
    Calls Try.prog 4 #[.string s0] w fun e w' => e = .returned (.bool true) ∧ Same w w' := by
  go_enter Try.func4, Try.ntmps4
  by_cases hb0 : (1048576 : Int) < (s0.size : Int)
  · go_wp2
    go_ret
    exact ⟨rfl, Kept.refl _ _⟩
  have hs : s0.size ≤ 1048576 := by omega
  have HKw : Hid (Same w w) := Kept.refl _ _
  go_wp2_with fail
  refine (specDecH_any s0 _ hs ).mono ?_
  rintro e w1 ⟨⟨Wgood, ⟨Wdata_e, Wdata_a, Wdata_c, Wdata_b⟩⟩, rfl, hd, hf, ho, hk⟩
  have hnW : StHexResult.size ⟨Wgood, ⟨Wdata_e, Wdata_a, Wdata_c, Wdata_b⟩⟩ ≤ 1099511627776 := decH_small hd hs
  have hnW0 := StHexResult.size_le ⟨Wgood, ⟨Wdata_e, Wdata_a, Wdata_c, Wdata_b⟩⟩
  have HDW := (show Hid (StHexResult.dat ⟨Wgood, ⟨Wdata_e, Wdata_a, Wdata_c, Wdata_b⟩⟩ = decH s0) from hd)
  dsimp only [StHexResult.val, BS.v]
  have HFW := (show Hid (∀ b, FootL (StHexResult.rows ⟨Wgood, ⟨Wdata_e, Wdata_a, Wdata_c, Wdata_b⟩⟩) b → w.heap.size ≤ b ∧ b < w1.heap.size) from fun b hb => ⟨hf b hb, ho.lt b hb⟩)
  have HWw1 := (show Hid (OwnL w1 (StHexResult.rows ⟨Wgood, ⟨Wdata_e, Wdata_a, Wdata_c, Wdata_b⟩⟩)) from ho)
  clear hd hf ho
  have hkk : Same w w1 := hk
  have hzw1 := hkk.size
  have HKw1 := (show Hid (Same w w1) from HKw.out.trans hkk)
  clear hkk hk
  go_wp2_with fail
  refine (implDecH_any s0 _ hs ).mono ?_
  rintro e w2 ⟨⟨Ggood, ⟨Gdata_e, Gdata_a, Gdata_c, Gdata_b⟩⟩, rfl, hd, hf, ho, hk⟩
  have hnG : StHexResult.size ⟨Ggood, ⟨Gdata_e, Gdata_a, Gdata_c, Gdata_b⟩⟩ ≤ 1099511627776 := decH_small hd hs
  have hnG0 := StHexResult.size_le ⟨Ggood, ⟨Gdata_e, Gdata_a, Gdata_c, Gdata_b⟩⟩
  have HDG := (show Hid (StHexResult.dat ⟨Ggood, ⟨Gdata_e, Gdata_a, Gdata_c, Gdata_b⟩⟩ = decH s0) from hd)
  dsimp only [StHexResult.val, BS.v]
  simp only [World.size_alloc] at hf
  have HFG := (show Hid (∀ b, FootL (StHexResult.rows ⟨Ggood, ⟨Gdata_e, Gdata_a, Gdata_c, Gdata_b⟩⟩) b → w1.heap.size < b ∧ b < w2.heap.size) from fun b hb => ⟨by have := hf b hb; omega, ho.lt b hb⟩)
  have HGw2 := (show Hid (OwnL w2 (StHexResult.rows ⟨Ggood, ⟨Gdata_e, Gdata_a, Gdata_c, Gdata_b⟩⟩)) from ho)
  clear hd hf ho
  have hkk : Same w1 w2 := ((Kept.refl _ _).alloc _).trans hk
  have hzw2 := hk.size
  rw [World.size_alloc] at hzw2
  have HWw2 := hid (HWw1.out.same hkk)
  have HZw2 := (show Hid (Blk w2 (w1.heap.size) 28 [.bool Wgood, .slice Wdata_a Wdata_b.length Wdata_c]) from (Blk.new w1 #[.bool Wgood, .slice Wdata_a Wdata_b.length Wdata_c] 28).same hk)
  have HKw2 := (show Hid (Same w w2) from HKw1.out.trans hkk)
  clear hkk hk
  have cZ_0 := HZw2.out.c0
  have cZ_1 := HZw2.out.c1
  have lZ := HZw2.out.lt
  go_wp2_with fail
  refine (eqHexResult_own ⟨Ggood, ⟨Gdata_e, Gdata_a, Gdata_c, Gdata_b⟩⟩ ⟨Wgood, ⟨Wdata_e, Wdata_a, Wdata_c, Wdata_b⟩⟩ _ (by omega) (HDG.out.trans HDW.out.symm) (HGw2.out.same ((Kept.refl _ _).alloc _)) (HWw2.out.same ((Kept.refl _ _).alloc _))).mono ?_
  rintro e w3 ⟨rfl, hk⟩
  have hkk : Same w2 w3 := ((Kept.refl _ _).alloc _).trans hk
  have hzw3 := hk.size
  rw [World.size_alloc] at hzw3
  have HWw3 := hid (HWw2.out.same hkk)
  have HZw3 := hid (HZw2.out.same hkk)
  have HGw3 := hid (HGw2.out.same hkk)
  have HYw3 := (show Hid (Blk w3 (w2.heap.size) 28 [.bool Ggood, .slice Gdata_a Gdata_b.length Gdata_c]) from (Blk.new w2 #[.bool Ggood, .slice Gdata_a Gdata_b.length Gdata_c] 28).same hk)
  have HKw3 := (show Hid (Same w w3) from HKw2.out.trans hkk)
  clear hkk hk
  clear cZ_0 cZ_1 lZ
  have hE0 : (0 : Int) ≤ 1 := by omega
  have hE0b : (1 : Int) ≤ 1 := by omega
  have hM2 : ¬ (1 + StHexResult.size ⟨Ggood, ⟨Gdata_e, Gdata_a, Gdata_c, Gdata_b⟩⟩) < 0 := by omega
  obtain ⟨M, hM⟩ : ∃ M, 1 + StHexResult.size ⟨Ggood, ⟨Gdata_e, Gdata_a, Gdata_c, Gdata_b⟩⟩ = M := ⟨_, rfl⟩
  have HM := (show Hid (1 + StHexResult.size ⟨Ggood, ⟨Gdata_e, Gdata_a, Gdata_c, Gdata_b⟩⟩ = M) from hM)
  have hM3 : 0 ≤ M ∧ M ≤ 1125899906842624 := by omega
  rw [hM] at hM2
  clear hM
  have cZ_0 := HZw3.out.c0
  have cZ_1 := HZw3.out.c1
  have lZ := HZw3.out.lt
  have cY_0 := HYw3.out.c0
  have cY_1 := HYw3.out.c1
  have lY := HYw3.out.lt
  go_wp2_with fail
  have hm := markHexResult_own ⟨Ggood, ⟨Gdata_e, Gdata_a, Gdata_c, Gdata_b⟩⟩ 1 w3 (by omega) (by rw [HM.out]; omega) HGw3.out
  rw [HM.out] at hm
  dsimp only [StHexResult.val, BS.v] at hm
  refine hm.mono ?_
  clear hm
  rintro e w4 ⟨rfl, ho, hk⟩
  have hzw4 := hk.size
  have HWw4 := (show Hid (OwnL w4 (StHexResult.rows ⟨Wgood, ⟨Wdata_e, Wdata_a, Wdata_c, Wdata_b⟩⟩)) from HWw3.out.kept hk (fun b hb e => by have h1 := HFG.out _ e; have h2 := HFW.out b hb; omega))
  have HZw4 := (show Hid (Blk w4 (w1.heap.size) 28 [.bool Wgood, .slice Wdata_a Wdata_b.length Wdata_c]) from HZw3.out.kept hk (fun e => by have h1 := HFG.out _ e; omega))
  have HYw4 := (show Hid (Blk w4 (w2.heap.size) 28 [.bool Ggood, .slice Gdata_a Gdata_b.length Gdata_c]) from HYw3.out.kept hk (fun e => by have h1 := HFG.out _ e; omega))
  have HKw4 := (show Hid (Same w w4) from HKw3.out.next hk (fun b hb e => by have h1 := HFG.out _ e; omega))
  have HUw4 := (show Hid (OwnL w4 (StHexResult.marked ⟨Ggood, ⟨Gdata_e, Gdata_a, Gdata_c, Gdata_b⟩⟩ 1).rows) from ho)
  clear cZ_0 cZ_1 lZ cY_0 cY_1 lY
  clear hk ho
  have HFU := (show Hid (∀ b, FootL (StHexResult.marked ⟨Ggood, ⟨Gdata_e, Gdata_a, Gdata_c, Gdata_b⟩⟩ 1).rows b → _ ∧ _) from fun b hb => HFG.out b ((StHexResult.foot_marked _ _ b).1 hb))
  have cZ_0 := HZw4.out.c0
  have cZ_1 := HZw4.out.c1
  have lZ := HZw4.out.lt
  have cY_0 := HYw4.out.c0
  have cY_1 := HYw4.out.c1
  have lY := HYw4.out.lt
  go_wp2_with fail
  have hm := heldHexResult_own ⟨Ggood, ⟨Gdata_e, Gdata_a, Gdata_c, Gdata_b⟩⟩ 1 w4 (by omega) (by rw [HM.out]; omega) HUw4.out
  rw [HM.out] at hm
  dsimp only [StHexResult.val, BS.v] at hm
  refine hm.mono ?_
  clear hm
  rintro e w5 ⟨rfl, hk⟩
  have hkk : Same w4 w5 := hk
  have hzw5 := hkk.size
  have HWw5 := hid (HWw4.out.same hkk)
  have HZw5 := hid (HZw4.out.same hkk)
  have HYw5 := hid (HYw4.out.same hkk)
  have HUw5 := hid (HUw4.out.same hkk)
  have HKw5 := (show Hid (Same w w5) from HKw4.out.trans hkk)
  clear hkk hk
  clear cZ_0 cZ_1 lZ cY_0 cY_1 lY
  have cZ_0 := HZw5.out.c0
  have cZ_1 := HZw5.out.c1
  have lZ := HZw5.out.lt
  have cY_0 := HYw5.out.c0
  have cY_1 := HYw5.out.c1
  have lY := HYw5.out.lt
  go_wp2_with fail
  refine (implDecH_any s0 _ hs ).mono ?_
  rintro e w6 ⟨⟨Lgood, ⟨Ldata_e, Ldata_a, Ldata_c, Ldata_b⟩⟩, rfl, hd, hf, ho, hk⟩
  have hnL : StHexResult.size ⟨Lgood, ⟨Ldata_e, Ldata_a, Ldata_c, Ldata_b⟩⟩ ≤ 1099511627776 := decH_small hd hs
  have hnL0 := StHexResult.size_le ⟨Lgood, ⟨Ldata_e, Ldata_a, Ldata_c, Ldata_b⟩⟩
  have HDL := (show Hid (StHexResult.dat ⟨Lgood, ⟨Ldata_e, Ldata_a, Ldata_c, Ldata_b⟩⟩ = decH s0) from hd)
  dsimp only [StHexResult.val, BS.v]
  have HFL := (show Hid (∀ b, FootL (StHexResult.rows ⟨Lgood, ⟨Ldata_e, Ldata_a, Ldata_c, Ldata_b⟩⟩) b → w5.heap.size ≤ b ∧ b < w6.heap.size) from fun b hb => ⟨hf b hb, ho.lt b hb⟩)
  have HLw6 := (show Hid (OwnL w6 (StHexResult.rows ⟨Lgood, ⟨Ldata_e, Ldata_a, Ldata_c, Ldata_b⟩⟩)) from ho)
  clear hd hf ho
  have hkk : Same w5 w6 := hk
  have hzw6 := hkk.size
  have HWw6 := hid (HWw5.out.same hkk)
  have HZw6 := hid (HZw5.out.same hkk)
  have HYw6 := hid (HYw5.out.same hkk)
  have HUw6 := hid (HUw5.out.same hkk)
  have HKw6 := (show Hid (Same w w6) from HKw5.out.trans hkk)
  clear hkk hk
  clear cZ_0 cZ_1 lZ cY_0 cY_1 lY
  have cZ_0 := HZw6.out.c0
  have cZ_1 := HZw6.out.c1
  have lZ := HZw6.out.lt
  have cY_0 := HYw6.out.c0
  have cY_1 := HYw6.out.c1
  have lY := HYw6.out.lt
  go_wp2_with fail
  refine (eqHexResult_own ⟨Lgood, ⟨Ldata_e, Ldata_a, Ldata_c, Ldata_b⟩⟩ ⟨Wgood, ⟨Wdata_e, Wdata_a, Wdata_c, Wdata_b⟩⟩ _ (by omega) (HDL.out.trans HDW.out.symm) (HLw6.out.same ((Kept.refl _ _).alloc _)) (HWw6.out.same ((Kept.refl _ _).alloc _))).mono ?_
  rintro e w7 ⟨rfl, hk⟩
  have hkk : Same w6 w7 := ((Kept.refl _ _).alloc _).trans hk
  have hzw7 := hk.size
  rw [World.size_alloc] at hzw7
  have HWw7 := hid (HWw6.out.same hkk)
  have HZw7 := hid (HZw6.out.same hkk)
  have HYw7 := hid (HYw6.out.same hkk)
  have HUw7 := hid (HUw6.out.same hkk)
  have HLw7 := hid (HLw6.out.same hkk)
  have HVw7 := (show Hid (Blk w7 (w6.heap.size) 28 [.bool Lgood, .slice Ldata_a Ldata_b.length Ldata_c]) from (Blk.new w6 #[.bool Lgood, .slice Ldata_a Ldata_b.length Ldata_c] 28).same hk)
  have HKw7 := (show Hid (Same w w7) from HKw6.out.trans hkk)
  clear hkk hk
  clear cZ_0 cZ_1 lZ cY_0 cY_1 lY
  have cY_0 := HYw7.out.c0
  have cY_1 := HYw7.out.c1
  have lY := HYw7.out.lt
  go_wp2_with fail
  have hm := heldHexResult_own ⟨Ggood, ⟨Gdata_e, Gdata_a, Gdata_c, Gdata_b⟩⟩ 1 w7 (by omega) (by rw [HM.out]; omega) HUw7.out
  rw [HM.out] at hm
  dsimp only [StHexResult.val, BS.v] at hm
  refine hm.mono ?_
  clear hm
  rintro e w8 ⟨rfl, hk⟩
  have hkk : Same w7 w8 := hk
  have hzw8 := hkk.size
  have HYw8 := hid (HYw7.out.same hkk)
  have HUw8 := hid (HUw7.out.same hkk)
  have HKw8 := (show Hid (Same w w8) from HKw7.out.trans hkk)
  clear hkk hk
  clear cY_0 cY_1 lY
  go_wp2
  go_ret
  exact ⟨rfl, HKw8.out⟩
end Go.Proofs.Ytghbggahbbhgeaa

namespace Go.Proofs.Ytghbggahbbhgeaa.fnExactDecodeHex
open Go.ChangeShapes Go.WideShapes Go.ChangeAt Go.RowKit
set_option linter.unusedVariables false
theorem own : ownKnob Try.prog.godebug = none := by kernel_rfl
theorem laidOut : laidOutB Try.prog = true := by kernel_rfl
set_option maxRecDepth 100000 in
theorem lifted (os : Os) (started : os.Started) (H : Type) (enc : TypeId × Value → H) :
    ReturnsInHanded {} Try.checked os 4 .any (Rows.fnExactDecodeHexSpec.pre6 enc Try.prog Try.f4 Rows.fnExactDecodeHexRow.domain false) (Rows.fnExactDecodeHexSpec.post enc Try.prog Try.f4 false true false false) := by
  refine returnsInHanded_of_change (C := Try.checked) own started (by kernel_rfl) Try.func4
    (ChangeSpec.witness6 (enc := enc) (C := Try.checked) false ⟨#[], #[.string ⟨#[]⟩], []⟩ 8 (by kernel_rfl) (by kernel_rfl) (by kernel_rfl) (by kernel_rfl)) ?_
  intro W base args ds gs before hval0 hW hcnd _
  have hval : ∀ (j : Nat) t v, Try.f4.params[j]? = some t → args[j]? = some v → Value.okWide Try.prog W .any base t v := hval0
  have hW' := hW
  obtain ⟨p, q, hA0, hV, rfl, hfz, hnd⟩ := hW
  have hA : DataW.TrodAll enc Try.prog W 0 (fun _ => true) true Try.f4.params.toList args.toList ds p := hA0
  rw [Try.params4] at hA hval
  obtain ⟨v0, vs0, d0, ds0, p0, q0, hargs, rfl, rfl, h0, r0⟩ := trodAll_cons hA
  obtain ⟨rfl, rfl, rfl⟩ := trodAll_nil r0
  obtain rfl : args = #[v0] := by cases args; simp_all
  obtain ⟨rfl, rfl⟩ := trodVars_none hV
  obtain ⟨a0, rfl, rfl, rfl, w0⟩ := Go.ChangeMaps.open_string Try.underlying9 (hval 0 9 v0 rfl rfl) h0
  clear hA0 hval0
  refine (decodeHex_law a0 W ).mono fun e W' ⟨he, hk⟩ => ?_
  have bel : Below W.heap.size W W' := hk.below (Nat.le_refl _) (fun _ _ => id)
  subst he
  exact ⟨_, rfl, _, _, _, [], _, [], hW', trodAll_mk1 (shut_bool Try.underlying4 _), (trodAll_cons_mk (Go.ChangeMaps.shut_string Try.underlying9 w0) trodAll_mk0), rfl, bel.frame _, fun h => by cases h⟩
theorem over : Rows.fnExactDecodeHexRow.holds Try.pinned (OpenSpec.ofChange Rows.fnExactDecodeHexSpec) :=
  OpenClaim.holds_of_wide 4 Try.f4 rfl rfl rfl rfl rfl rfl rfl ⟨rfl, rfl, rfl, rfl, rfl⟩ rfl rfl rfl rfl rfl (by kernel_rfl) Try.func4 (by kernel_rfl)
    (of_decide_eq_true (by kernel_rfl)) (by unfold Func.isWrapper; first | (rw [if_pos (by decide +kernel)]; kernel_rfl) | (rw [if_neg (by decide +kernel)]; exact ⟨rfl, rfl⟩))
    (fun os started H enc _ => lifted os started H enc)
end Go.Proofs.Ytghbggahbbhgeaa.fnExactDecodeHex
namespace Go.Proofs.Ytghbggahbbhgeaa
theorem decodeHex_proved : Rows.FnExactDecodeHexSaid := fnExactDecodeHex.over
#print axioms decodeHex_proved
end Go.Proofs.Ytghbggahbbhgeaa
