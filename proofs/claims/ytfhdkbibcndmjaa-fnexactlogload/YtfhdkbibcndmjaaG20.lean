import Derived.Test.YtfhdkbibcndmjaaG00
import Derived.Test.YtfhdkbibcndmjaaG02
import Derived.Test.YtfhdkbibcndmjaaG01
import Derived.Deep.DeepCutAuto
namespace Go.Proofs.Ytfhdkbibcndmjaa
open Go.RowKit
set_option linter.unusedVariables false
set_option linter.unusedSimpArgs false
def inB (v a b : Int) : Bool := decide (a ≤ v) && decide (v ≤ b)
set_option maxRecDepth 100000 in
theorem l4In_any (v a b : Int) (w : World) : Calls Try.prog 75 #[.int .i64 v, .int .i64 a, .int .i64 b] w fun e w' => e = .returned (.bool (inB v a b)) ∧ Same w w' := by
  unfold inB
  by_cases h : a ≤ v
  · by_cases h2 : v ≤ b
    · go_enter Try.func75, Try.ntmps75
      go_wp2
      go_ret
      exact ⟨by simp [h, h2], Kept.refl _ _⟩
    · go_enter Try.func75, Try.ntmps75
      go_wp2
      go_ret
      exact ⟨by simp [h]; try omega, Kept.refl _ _⟩
  · go_enter Try.func75, Try.ntmps75
    go_wp2
    go_ret
    exact ⟨by rw [show decide (a ≤ v) = false from by simp; omega]; rfl, Kept.refl _ _⟩
end Go.Proofs.Ytfhdkbibcndmjaa

namespace Go.Proofs.Ytfhdkbibcndmjaa
open Go.RowKit
set_option linter.unusedVariables false
structure Row where
  e : TypeId
  m : Nat
  v : Value
  n : Nat
  xs : List Value
def FootL (rs : List Row) (b : Nat) : Prop := ∃ r ∈ rs, r.v.ownBlock = some b
structure OwnL (w : World) (rs : List Row) : Prop where
  own : ∀ r ∈ rs, w.ownsRow 0 r.e r.m r.v r.n r.xs
  apart : rs.Pairwise (fun r s => Apart r.v s.v)
theorem OwnL.kept {R : Nat → Prop} {w w' : World} {rs : List Row} (h : OwnL w rs) (hk : Kept R w w') (hr : ∀ b, FootL rs b → ¬ R b) : OwnL w' rs :=
  ⟨fun r hm => hk.owns (h.own r hm) (fun b hb => hr b ⟨r, hm, hb⟩), h.apart⟩
theorem OwnL.same {w w' : World} {rs : List Row} (h : OwnL w rs) (hk : Same w w') : OwnL w' rs := h.kept hk (fun _ _ => id)
theorem OwnL.lt {w : World} {rs : List Row} (h : OwnL w rs) (b : Nat) (hb : FootL rs b) : b < w.heap.size := by
  obtain ⟨r, hm, hr⟩ := hb
  exact (World.ownsRow.lt (h.own r hm) b hr).2
theorem OwnL.nil (w : World) : OwnL w [] := ⟨fun r hr => absurd hr (by simp), List.Pairwise.nil⟩
theorem FootL_one (r : Row) (b : Nat) : FootL [r] b ↔ r.v.ownBlock = some b := by simp [FootL]
theorem OwnL.append {w : World} {rs ss : List Row} (h : OwnL w rs) (h' : OwnL w ss) (hd : ∀ b, FootL rs b → ¬ FootL ss b) : OwnL w (rs ++ ss) := by
  refine ⟨fun r hr => ?_, List.pairwise_append.2 ⟨h.apart, h'.apart, fun r hr s hs b hb hs' => hd b ⟨r, hr, hb⟩ ⟨s, hs, hs'⟩⟩⟩
  rcases List.mem_append.1 hr with hr | hr
  · exact h.own r hr
  · exact h'.own r hr
theorem OwnL.left {w : World} {rs ss : List Row} (h : OwnL w (rs ++ ss)) : OwnL w rs := ⟨fun r hr => h.own r (List.mem_append_left _ hr), (List.pairwise_append.1 h.apart).1⟩
def ints (e : TypeId) (k : IntKind) (v : Value) (bs : List Int) : Row := ⟨e, 1, v, bs.length, vals k bs⟩
theorem OwnL.one {w : World} {e : TypeId} {k : IntKind} {v : Value} {bs : List Int} (h : Own 0 e k w v bs) : OwnL w [ints e k v bs] :=
  ⟨fun r hr => by rw [List.mem_singleton.1 hr]; exact h, List.pairwise_singleton _ _⟩
theorem OwnL.of_one {w : World} {e : TypeId} {k : IntKind} {v : Value} {bs : List Int} (h : OwnL w [ints e k v bs]) : Own 0 e k w v bs :=
  h.own _ (List.mem_singleton.2 rfl)
theorem footL_ints (e : TypeId) (k : IntKind) (v : Value) (bs : List Int) (b : Nat) : FootL [ints e k v bs] b ↔ v.ownBlock = some b := FootL_one _ _
structure BS where
  e : TypeId
  a : Option Addr
  c : Nat
  bs : List Int
def BS.v (x : BS) : Value := .slice x.a x.bs.length x.c
def BS.rows (x : BS) : List Row := [ints x.e .u8 x.v x.bs]
def BS.marked (x : BS) (k : Int) : BS := ⟨x.e, x.a, x.c, marks k x.bs.length⟩
theorem BS.foot_marked (x : BS) (k : Int) (b : Nat) : FootL (x.marked k).rows b ↔ FootL x.rows b := by
  simp only [BS.rows, footL_ints, BS.v, BS.marked]
  exact Iff.of_eq (by cases x.a <;> rfl)
theorem BS.own_marked {w : World} {e : TypeId} {a : Option Addr} {c : Nat} {bs : List Int} {k : Int} : OwnL w (BS.rows (BS.marked ⟨e, a, c, bs⟩ k)) ↔ OwnL w [ints e .u8 (.slice a bs.length c) (marks k bs.length)] := by
  simp only [BS.rows, BS.marked, BS.v, marks_length]
structure FR where
  e : TypeId
  a : Option Addr
  n : Nat
  c : Nat
  bs : List Int
def FR.v (x : FR) : Value := .slice x.a x.n x.c
def FR.rows (m : Nat) (x : FR) : List Row := [⟨x.e, m, x.v, x.n, vals .i64 x.bs⟩]
def marksI (k : Int) (n : Nat) : List Int := (List.range n).map fun (i : Nat) => k + (i : Int)
def FR.marked (x : FR) (k : Int) : FR := ⟨x.e, x.a, x.n, x.c, marksI k x.bs.length⟩
theorem FR.foot_marked (m : Nat) (x : FR) (k : Int) (b : Nat) : FootL ((x.marked k).rows m) b ↔ FootL (x.rows m) b := by
  simp only [FR.rows, FootL_one]
  rfl
end Go.Proofs.Ytfhdkbibcndmjaa

namespace Go.Proofs.Ytfhdkbibcndmjaa
set_option maxRecDepth 100000
set_option maxHeartbeats 16000000
open Go.RowKit
set_option linter.unusedVariables false
set_option linter.unusedSimpArgs false
structure StLog where
  sectors : Int
  epoch : Int
  stop : Int
  flushed : Int
  tail : BS
def StLog.val (x : StLog) : Value := .agg #[.int .i64 x.sectors, .int .i64 x.epoch, .int .i64 x.stop, .int .i64 x.flushed, x.tail.v]
def StLog.rows (x : StLog) : List Row := x.tail.rows
def StLog.dat (x : StLog) : Int × Int × Int × Int × List Int := (x.sectors, x.epoch, x.stop, x.flushed, x.tail.bs)
def StLog.size (x : StLog) : Int := (x.tail.bs.length : Int)
theorem StLog.size_le (x : StLog) : 0 ≤ x.size := by
  unfold StLog.size
  omega
def StLog.marked (x : StLog) (k : Int) : StLog := ⟨x.sectors, x.epoch, x.stop, x.flushed, x.tail.marked (k)⟩
theorem StLog.foot_marked (x : StLog) (k : Int) (b : Nat) : FootL (x.marked k).rows b ↔ FootL x.rows b := by
  exact BS.foot_marked _ _ b
def StLog.rd (w : World) (x : StLog) : Prop := Rd .u8 w x.tail.v x.tail.bs
theorem StLog.rd.kept {R : Nat → Prop} {w w' : World} {x : StLog} (h : StLog.rd w x) (hk : Kept R w w') (hr : ∀ b, FootL x.rows b → ¬ R b) : StLog.rd w' x :=
  Rd.kept (h) hk (fun b hb => hr b (((footL_ints _ _ _ _ _).2 hb)))
theorem StLog.rd.same {w w' : World} {x : StLog} (h : StLog.rd w x) (hk : Same w w') : StLog.rd w' x := h.kept hk (fun _ _ => id)
def StLog.szs (x : StLog) : Int := (x.tail.bs.length : Int)
theorem eqLog_own (x y : StLog) (w : World) (hn : x.size ≤ 1125899906842624) (hd : x.dat = y.dat) (ha : OwnL w x.rows) (hb : OwnL w y.rows) :
    Calls Try.prog 43 #[x.val, y.val] w fun e w' => e = .returned (.bool true) ∧ Same w w' := by
  obtain ⟨xsectors, xepoch, xstop, xflushed, ⟨xtail_e, xtail_a, xtail_c, xtail_b⟩⟩ := x
  obtain ⟨ysectors, yepoch, ystop, yflushed, ⟨ytail_e, ytail_a, ytail_c, ytail_b⟩⟩ := y
  simp only [StLog.dat, Prod.mk.injEq] at hd
  obtain ⟨rfl, rfl, rfl, rfl, rfl⟩ := hd
  simp only [StLog.size] at hn
  have Hx0 := (show Hid (OwnL w [ints xtail_e .u8 (.slice xtail_a xtail_b.length xtail_c) xtail_b]) from ha)
  have Hy0 := (show Hid (OwnL w [ints ytail_e .u8 (.slice ytail_a xtail_b.length ytail_c) xtail_b]) from hb)
  clear ha hb
  dsimp only [StLog.val, BS.v]
  go_enter Try.func43, Try.ntmps43
  have hk0 : Same w ((w.alloc (.cells #[.int .i64 xsectors, .int .i64 xepoch, .int .i64 xstop, .int .i64 xflushed, .slice xtail_a xtail_b.length xtail_c] 66)).alloc (.cells #[.int .i64 xsectors, .int .i64 xepoch, .int .i64 xstop, .int .i64 xflushed, .slice ytail_a xtail_b.length ytail_c] 66)) := ((Kept.refl _ _).alloc _).alloc _
  have HK0 := (show Hid (Same w _) from hk0)
  obtain ⟨_, HBx0, HBy0⟩ := new2 w [.int .i64 xsectors, .int .i64 xepoch, .int .i64 xstop, .int .i64 xflushed, .slice xtail_a xtail_b.length xtail_c] 66 [.int .i64 xsectors, .int .i64 xepoch, .int .i64 xstop, .int .i64 xflushed, .slice ytail_a xtail_b.length ytail_c] 66
  clear hk0
  go_wp2_with fail
  refine (eqByteS_own 0 _ _ xtail_b _ (by omega) (Hx0.out.of_one.same HK0.out) (Hy0.out.of_one.same HK0.out)).mono ?_
  rintro e w1 ⟨rfl, nn, hww⟩
  have hk : Same ((w.alloc (.cells #[.int .i64 xsectors, .int .i64 xepoch, .int .i64 xstop, .int .i64 xflushed, .slice xtail_a xtail_b.length xtail_c] 66)).alloc (.cells #[.int .i64 xsectors, .int .i64 xepoch, .int .i64 xstop, .int .i64 xflushed, .slice ytail_a xtail_b.length ytail_c] 66)) w1 := by rw [hww]; exact (Kept.refl _ _).drewN _
  clear hww
  have HK1 := (show Hid (Same w w1) from HK0.out.trans hk)
  have HBx1 := hid (HBx0.out.same hk)
  have HBy1 := hid (HBy0.out.same hk)
  clear hk HK0 HBx0 HBy0
  go_wp2
  go_ret
  exact ⟨rfl, HK1.out⟩
theorem markLog_own (x : StLog) (k0 : Int) (w : World) (h0 : 0 ≤ k0) (h1 : k0 + x.size ≤ 1125899906842624) (ha : OwnL w x.rows) :
    Calls Try.prog 44 #[x.val, .int .i64 k0] w fun e w' => e = .returned (.int .i64 (k0 + x.size)) ∧ OwnL w' (x.marked k0).rows ∧ Kept (FootL x.rows) w w' := by
  have hlt := ha.lt
  have HLT := (show Hid (∀ b, FootL x.rows b → b < w.heap.size) from hlt)
  have HA := (show Hid (OwnL w x.rows) from ha)
  clear hlt
  obtain ⟨xsectors, xepoch, xstop, xflushed, ⟨xtail_e, xtail_a, xtail_c, xtail_b⟩⟩ := x
  have HO0_0 := (show Hid (OwnL w [ints xtail_e .u8 (.slice xtail_a xtail_b.length xtail_c) xtail_b]) from ha)
  clear ha
  simp only [StLog.size] at h1
  dsimp only [StLog.val, BS.v]
  go_enter Try.func44, Try.ntmps44
  have HK_0 := (show Hid (Kept (FootL (StLog.rows ⟨xsectors, xepoch, xstop, xflushed, ⟨xtail_e, xtail_a, xtail_c, xtail_b⟩⟩)) w (w.alloc (.cells #[.int .i64 xsectors, .int .i64 xepoch, .int .i64 xstop, .int .i64 xflushed, .slice xtail_a xtail_b.length xtail_c] 66))) from (Kept.refl _ _).alloc _)
  have HB_0 := hid (Blk.newL w [.int .i64 xsectors, .int .i64 xepoch, .int .i64 xstop, .int .i64 xflushed, .slice xtail_a xtail_b.length xtail_c] 66)
  go_wp2_with fail
  refine (markByteS_own 0 _ xtail_b (k0) _ (by omega) (by omega) (by omega) (OwnL.of_one (HO0_0.out.same ((Kept.refl _ _).alloc _)))).mono ?_
  rintro e w1 ⟨rfl, ho, hk⟩
  have ho := (show OwnL w1 (BS.rows (BS.marked ⟨xtail_e, xtail_a, xtail_c, xtail_b⟩ (k0))) from BS.own_marked.2 (OwnL.one ho))
  have hk : Kept (FootL [ints xtail_e .u8 (.slice xtail_a xtail_b.length xtail_c) xtail_b]) _ w1 := hk.mono (fun b _ e => (footL_ints _ _ _ _ _).2 e)
  have HB_1 := (show Hid (Blk w1 w.heap.size 66 [.int .i64 xsectors, .int .i64 xepoch, .int .i64 xstop, .int .i64 xflushed, .slice xtail_a xtail_b.length xtail_c]) from HB_0.out.kept hk (fun e => by have := HLT.out _ (e); omega))
  have HK_1 := (show Hid (Kept (FootL (StLog.rows ⟨xsectors, xepoch, xstop, xflushed, ⟨xtail_e, xtail_a, xtail_c, xtail_b⟩⟩)) w w1) from HK_0.out.next hk (fun b _ e => e))
  have HO0_1 := (show Hid (OwnL w1 (BS.rows (BS.marked ⟨xtail_e, xtail_a, xtail_c, xtail_b⟩ (k0)))) from ho)
  clear ho hk HB_0 HK_0 HO0_0
  go_wp2
  go_ret
  refine ⟨rfl, ?_, HK_1.out⟩
  exact HO0_1.out
theorem heldLog_own (x : StLog) (k0 : Int) (w : World) (h0 : 0 ≤ k0) (h1 : k0 + x.size ≤ 1125899906842624) (ha : OwnL w (x.marked k0).rows) :
    Calls Try.prog 45 #[x.val, .int .i64 k0] w fun e w' => e = .returned (.int .i64 (k0 + x.size)) ∧ Same w w' := by
  obtain ⟨xsectors, xepoch, xstop, xflushed, ⟨xtail_e, xtail_a, xtail_c, xtail_b⟩⟩ := x
  have HO0 := (show Hid (OwnL w [ints xtail_e .u8 (.slice xtail_a xtail_b.length xtail_c) (marks (k0) xtail_b.length)]) from BS.own_marked.1 (ha))
  clear ha
  simp only [StLog.size] at h1
  dsimp only [StLog.val, BS.v]
  go_enter Try.func45, Try.ntmps45
  obtain ⟨HK0, HB0⟩ := new1 w [.int .i64 xsectors, .int .i64 xepoch, .int .i64 xstop, .int .i64 xflushed, .slice xtail_a xtail_b.length xtail_c] 66
  have hneg0 : ¬ (k0 + (xtail_b.length : Int)) < 0 := by omega
  go_wp2_with fail
  refine (heldByteS_own 0 _ xtail_b.length (k0) _ (by omega) (by omega) (by omega) (OwnL.of_one (HO0.out.same HK0.out))).mono ?_
  rintro e w1 ⟨rfl, hww⟩
  have hk : Same (w.alloc (.cells #[.int .i64 xsectors, .int .i64 xepoch, .int .i64 xstop, .int .i64 xflushed, .slice xtail_a xtail_b.length xtail_c] 66)) w1 := by rw [hww]; exact Kept.refl _ _
  clear hww
  have HK1 := (show Hid (Same w w1) from HK0.out.trans hk)
  have HB1 := hid (HB0.out.same hk)
  clear hk
  go_wp2
  go_ret
  exact ⟨rfl, HK1.out⟩
end Go.Proofs.Ytfhdkbibcndmjaa

namespace Go.Proofs.Ytfhdkbibcndmjaa
set_option maxRecDepth 100000
set_option maxHeartbeats 2000000
open Go.RowKit
set_option linter.unusedVariables false
set_option linter.unusedSimpArgs false
def logPlace (s l : Int) : Int := if (16 ≤ s ∧ s ≤ 800) ∧ (512 ≤ l ∧ l ≤ 1099511627776) then 2 + (l / 512 - 1) % s else -1
theorem logPlace_no {s l : Int} (h : ¬ ((16 ≤ s ∧ s ≤ 800) ∧ (512 ≤ l ∧ l ≤ 1099511627776))) : logPlace s l = -1 := if_neg h
theorem logPlace_yes {s l : Int} (h : (16 ≤ s ∧ s ≤ 800) ∧ (512 ≤ l ∧ l ≤ 1099511627776)) : logPlace s l = 2 + (l / 512 - 1) % s := if_pos h
theorem logPlace_bound {s l : Int} (h : (16 ≤ s ∧ s ≤ 800) ∧ (512 ≤ l ∧ l ≤ 1099511627776)) : 2 ≤ logPlace s l ∧ logPlace s l < 2 + s := by
  rw [logPlace_yes h]
  have h1 := Int.emod_nonneg (l / 512 - 1) (show s ≠ 0 by omega)
  have h2 := Int.emod_lt_of_pos (l / 512 - 1) (show 0 < s by omega)
  omega
theorem inB_true {v a b : Int} (h : a ≤ v ∧ v ≤ b) : inB v a b = true := by simp [inB, h.1, h.2]
theorem inB_false {v a b : Int} (h : ¬ (a ≤ v ∧ v ≤ b)) : inB v a b = false := by simp [inB]; omega
theorem specPlace_any (s l : Int) (w : World) : Calls Try.prog 74 #[.int .i64 s, .int .i64 l] w fun e w' => e = .returned (.int .i64 (logPlace s l)) ∧ Same w w' := by
  have h1 := fun wx => l4In_any s 16 800 wx
  by_cases hs : 16 ≤ s ∧ s ≤ 800
  · rw [inB_true hs] at h1
    have h2 := fun wx => l4In_any l 512 1099511627776 wx
    by_cases hl : 512 ≤ l ∧ l ≤ 1099511627776
    · rw [inB_true hl] at h2
      rw [logPlace_yes ⟨hs, hl⟩]
      obtain ⟨hs1, hs2⟩ := hs
      obtain ⟨hl1, hl2⟩ := hl
      have hs0 : ¬ s = 0 := by omega
      have hm1 := Int.emod_nonneg (l / 512 - 1) hs0
      have hm2 := Int.emod_lt_of_pos (l / 512 - 1) (show 0 < s by omega)
      have hq : 0 ≤ l / 512 - 1 := by omega
      go_enter Try.func74, Try.ntmps74
      go_wp2_with (first
        | (go_at_call 75; (with_reducible refine (h1 _).mono ?_); rintro e w1 ⟨rfl, hk1⟩)
        | (go_at_call 75; (with_reducible refine (h2 _).mono ?_); rintro e w2 ⟨rfl, hk2⟩))
      go_ret
      exact ⟨ret_int (by omega), hk1.trans hk2⟩
    · rw [inB_false hl] at h2
      rw [logPlace_no (fun h => hl h.2)]
      go_enter Try.func74, Try.ntmps74
      go_wp2_with (first
        | (go_at_call 75; (with_reducible refine (h1 _).mono ?_); rintro e w1 ⟨rfl, hk1⟩)
        | (go_at_call 75; (with_reducible refine (h2 _).mono ?_); rintro e w2 ⟨rfl, hk2⟩))
      go_ret
      exact ⟨rfl, hk1.trans hk2⟩
  · rw [inB_false hs] at h1
    rw [logPlace_no (fun h => hs h.1)]
    go_enter Try.func74, Try.ntmps74
    go_wp2_with (go_at_call 75; (with_reducible refine (h1 _).mono ?_); rintro e w1 ⟨rfl, hk1⟩)
    go_ret
    exact ⟨rfl, hk1⟩
theorem isLogSize_any (s : Int) (w : World) : Calls Try.prog 90 #[.int .i64 s] w fun e w' => e = .returned (.bool (inB s 16 800)) ∧ Same w w' := by
  unfold inB
  by_cases h : 16 ≤ s
  · go_enter Try.func90, Try.ntmps90
    go_wp2
    go_ret
    exact ⟨by simp [h], Kept.refl _ _⟩
  · go_enter Try.func90, Try.ntmps90
    go_wp2
    go_ret
    exact ⟨by rw [show decide (16 ≤ s) = false from by simp; omega]; rfl, Kept.refl _ _⟩
theorem implPlace_any (s l : Int) (w : World) : Calls Try.prog 80 #[.int .i64 s, .int .i64 l] w fun e w' => e = .returned (.int .i64 (logPlace s l)) ∧ Same w w' := by
  have h1 := fun wx => isLogSize_any s wx
  by_cases hs : 16 ≤ s ∧ s ≤ 800
  · rw [inB_true hs] at h1
    by_cases hl : 512 ≤ l ∧ l ≤ 1099511627776
    · rw [logPlace_yes ⟨hs, hl⟩]
      obtain ⟨hs1, hs2⟩ := hs
      obtain ⟨hl1, hl2⟩ := hl
      have hs0 : ¬ s = 0 := by omega
      have hl3 : ¬ l < 512 := by omega
      have hl4 : ¬ 1099511627776 < l := by omega
      have hm1 := Int.emod_nonneg (l / 512 - 1) hs0
      have hm2 := Int.emod_lt_of_pos (l / 512 - 1) (show 0 < s by omega)
      have hq : 0 ≤ l / 512 - 1 := by omega
      go_enter Try.func80, Try.ntmps80
      go_wp2_with (go_at_call 90; (with_reducible refine (h1 _).mono ?_); rintro e w1 ⟨rfl, hk1⟩)
      go_ret
      exact ⟨ret_int (by omega), hk1⟩
    · rw [logPlace_no (fun h => hl h.2)]
      by_cases hl1 : l < 512
      · go_enter Try.func80, Try.ntmps80
        go_wp2_with (go_at_call 90; (with_reducible refine (h1 _).mono ?_); rintro e w1 ⟨rfl, hk1⟩)
        go_ret
        exact ⟨rfl, hk1⟩
      · have hl2 : 1099511627776 < l := by omega
        go_enter Try.func80, Try.ntmps80
        go_wp2_with (go_at_call 90; (with_reducible refine (h1 _).mono ?_); rintro e w1 ⟨rfl, hk1⟩)
        go_ret
        exact ⟨rfl, hk1⟩
  · rw [inB_false hs] at h1
    rw [logPlace_no (fun h => hs h.1)]
    go_enter Try.func80, Try.ntmps80
    go_wp2_with (go_at_call 90; (with_reducible refine (h1 _).mono ?_); rintro e w1 ⟨rfl, hk1⟩)
    go_ret
    exact ⟨rfl, hk1⟩
def logFault (s e st fl : Int) (n : Nat) : Int :=
  if ¬ (16 ≤ s ∧ s ≤ 800) then 1 else if ¬ (1 ≤ e ∧ e ≤ 4294967295) then 2 else if fl < 512 ∨ st < fl ∨ 1099511627776 < st then 3 else if (n : Int) ≠ st - fl + fl % 512 then 4 else 0
def logFd (d : Int × Int × Int × Int × List Int) : Int := logFault d.1 d.2.1 d.2.2.1 d.2.2.2.1 d.2.2.2.2.length
theorem sectorStart_any (p : Int) (w : World) (h0 : 0 ≤ p) (h1 : p ≤ 1099511627776) : Calls Try.prog 91 #[.int .i64 p] w fun e w' => e = .returned (.int .i64 (p - p % 512)) ∧ Same w w' := by
  go_enter Try.func91, Try.ntmps91
  go_wp2
  go_ret
  exact ⟨ret_int (by omega), Kept.refl _ _⟩
end Go.Proofs.Ytfhdkbibcndmjaa

namespace Go.Proofs.Ytfhdkbibcndmjaa
set_option maxRecDepth 100000
set_option maxHeartbeats 2000000
open Go.RowKit
set_option linter.unusedVariables false
set_option linter.unusedSimpArgs false
theorem implLogFault0 (x : StLog) (w : World) (hn : x.szs ≤ 1073741824) :
    Calls Try.prog 81 #[x.val] w fun e w' => e = .returned (.int .i64 (logFd x.dat)) ∧ Same w w' := by
  obtain ⟨s, ep, st, fl, te, ta, tc, tb⟩ := x
  simp only [StLog.szs] at hn
  dsimp only [StLog.val, StLog.dat, logFd, BS.v, logFault]
  have h1 := fun wx => isLogSize_any s wx
  have b0 := Blk.new w #[.int .i64 s, .int .i64 ep, .int .i64 st, .int .i64 fl, .slice ta tb.length tc] 66
  by_cases hs : 16 ≤ s ∧ s ≤ 800
  · rw [inB_true hs] at h1
    rw [if_neg (not_not_intro hs)]
    by_cases he : 1 ≤ ep ∧ ep ≤ 4294967295
    · rw [if_neg (not_not_intro he)]
      have he1 : ¬ ep < 1 := by omega
      have he2 : ¬ 4294967295 < ep := by omega
      clear hs he
      by_cases hp : fl < 512 ∨ st < fl ∨ 1099511627776 < st
      · rw [if_pos hp]
        by_cases hp1 : fl < 512
        · clear hp
          go_enter Try.func81, Try.ntmps81
          go_wp2_with (go_at_call 90; (with_reducible refine (h1 _).mono ?_); rintro e w1 ⟨rfl, hk1⟩; have b1 := b0.same hk1; have c0 : w1.cell? ⟨w.heap.size, 0, none⟩ = some (.int .i64 s) := b1.cell 0; have c1 : w1.cell? ⟨w.heap.size, 1, none⟩ = some (.int .i64 ep) := b1.cell 1; have c2 : w1.cell? ⟨w.heap.size, 2, none⟩ = some (.int .i64 st) := b1.cell 2; have c3 : w1.cell? ⟨w.heap.size, 3, none⟩ = some (.int .i64 fl) := b1.cell 3; have c4 : w1.cell? ⟨w.heap.size, 4, none⟩ = some (.slice ta tb.length tc) := b1.cell 4)
          go_ret
          exact ⟨rfl, ((Kept.refl _ _).alloc _).trans hk1⟩
        · by_cases hp2 : st < fl
          · clear hp
            go_enter Try.func81, Try.ntmps81
            go_wp2_with (go_at_call 90; (with_reducible refine (h1 _).mono ?_); rintro e w1 ⟨rfl, hk1⟩; have b1 := b0.same hk1; have c0 : w1.cell? ⟨w.heap.size, 0, none⟩ = some (.int .i64 s) := b1.cell 0; have c1 : w1.cell? ⟨w.heap.size, 1, none⟩ = some (.int .i64 ep) := b1.cell 1; have c2 : w1.cell? ⟨w.heap.size, 2, none⟩ = some (.int .i64 st) := b1.cell 2; have c3 : w1.cell? ⟨w.heap.size, 3, none⟩ = some (.int .i64 fl) := b1.cell 3; have c4 : w1.cell? ⟨w.heap.size, 4, none⟩ = some (.slice ta tb.length tc) := b1.cell 4)
            go_ret
            exact ⟨rfl, ((Kept.refl _ _).alloc _).trans hk1⟩
          · have hp3 : 1099511627776 < st := by omega
            clear hp
            go_enter Try.func81, Try.ntmps81
            go_wp2_with (go_at_call 90; (with_reducible refine (h1 _).mono ?_); rintro e w1 ⟨rfl, hk1⟩; have b1 := b0.same hk1; have c0 : w1.cell? ⟨w.heap.size, 0, none⟩ = some (.int .i64 s) := b1.cell 0; have c1 : w1.cell? ⟨w.heap.size, 1, none⟩ = some (.int .i64 ep) := b1.cell 1; have c2 : w1.cell? ⟨w.heap.size, 2, none⟩ = some (.int .i64 st) := b1.cell 2; have c3 : w1.cell? ⟨w.heap.size, 3, none⟩ = some (.int .i64 fl) := b1.cell 3; have c4 : w1.cell? ⟨w.heap.size, 4, none⟩ = some (.slice ta tb.length tc) := b1.cell 4)
            go_ret
            exact ⟨rfl, ((Kept.refl _ _).alloc _).trans hk1⟩
      · rw [if_neg hp]
        have hp1 : ¬ fl < 512 := by omega
        have hp2 : ¬ st < fl := by omega
        have hp3 : ¬ 1099511627776 < st := by omega
        clear hp
        have h3 := fun wx => sectorStart_any fl wx (by omega) (by omega)
        have hwr : IntKind.i64.wrap (st - (fl - fl % 512)) = st - (fl - fl % 512) := by rw [IntKind.wrap_i64]; omega
        by_cases ht : (tb.length : Int) ≠ st - fl + fl % 512
        · rw [if_pos ht]
          go_enter Try.func81, Try.ntmps81
          go_wp2_with (go_at_call 90; (with_reducible refine (h1 _).mono ?_); rintro e w1 ⟨rfl, hk1⟩; have b1 := b0.same hk1; have c0 : w1.cell? ⟨w.heap.size, 0, none⟩ = some (.int .i64 s) := b1.cell 0; have c1 : w1.cell? ⟨w.heap.size, 1, none⟩ = some (.int .i64 ep) := b1.cell 1; have c2 : w1.cell? ⟨w.heap.size, 2, none⟩ = some (.int .i64 st) := b1.cell 2; have c3 : w1.cell? ⟨w.heap.size, 3, none⟩ = some (.int .i64 fl) := b1.cell 3; have c4 : w1.cell? ⟨w.heap.size, 4, none⟩ = some (.slice ta tb.length tc) := b1.cell 4)
          have hS : ((fun wx : World => wx.cell? ⟨w.heap.size, 2, none⟩ = some (.int .i64 st) ∧ wx.cell? ⟨w.heap.size, 3, none⟩ = some (.int .i64 fl) ∧ wx.cell? ⟨w.heap.size, 4, none⟩ = some (.slice ta tb.length tc))) w1.drew := by exact ⟨c2, c3, c4⟩
          refine wp_region_V ((fun wx : World => wx.cell? ⟨w.heap.size, 2, none⟩ = some (.int .i64 st) ∧ wx.cell? ⟨w.heap.size, 3, none⟩ = some (.int .i64 fl) ∧ wx.cell? ⟨w.heap.size, 4, none⟩ = some (.slice ta tb.length tc))) 99 11 rfl (by kernel_rfl) ?_
          refine tk 0 34 hS ?_
          refine tk 1 35 hS ?_
          refine tk 2 36 hS ?_
          refine tk 3 37 hS ?_
          refine tk 4 38 hS ?_
          refine tk 5 39 hS ?_
          refine tk 6 40 hS ?_
          refine wpAnyV_one (i := 7) (by kernel_rfl) rfl (fun K hK => ?_)
          go_simp
          refine (h3 _).mono ?_
          rintro e w2 ⟨rfl, hk2⟩
          have b2 := b1.same ((Kept.refl _ _).drew.trans hk2)
          have hS : ((fun wx : World => wx.cell? ⟨w.heap.size, 2, none⟩ = some (.int .i64 st) ∧ wx.cell? ⟨w.heap.size, 3, none⟩ = some (.int .i64 fl) ∧ wx.cell? ⟨w.heap.size, 4, none⟩ = some (.slice ta tb.length tc))) w2 := by exact ⟨b2.cell 2, b2.cell 3, b2.cell 4⟩
          refine hK.out _ _ (fun _ => hS) ?_
          clear hK K
          try simp only [Act.put, sA, s0, sS]
          refine tk 8 42 hS ?_
          refine tk 9 43 hS ?_
          refine tk 10 33 hS ?_
          refine wpAnyV_done (by kernel_rfl) ?_
          go_wp2
          go_ret
          exact ⟨rfl, (((Kept.refl _ _).alloc _).trans hk1).drew.trans hk2⟩
        · rw [if_neg ht]
          have ht' : (tb.length : Int) = st - fl + fl % 512 := by omega
          clear ht
          go_enter Try.func81, Try.ntmps81
          go_wp2_with (go_at_call 90; (with_reducible refine (h1 _).mono ?_); rintro e w1 ⟨rfl, hk1⟩; have b1 := b0.same hk1; have c0 : w1.cell? ⟨w.heap.size, 0, none⟩ = some (.int .i64 s) := b1.cell 0; have c1 : w1.cell? ⟨w.heap.size, 1, none⟩ = some (.int .i64 ep) := b1.cell 1; have c2 : w1.cell? ⟨w.heap.size, 2, none⟩ = some (.int .i64 st) := b1.cell 2; have c3 : w1.cell? ⟨w.heap.size, 3, none⟩ = some (.int .i64 fl) := b1.cell 3; have c4 : w1.cell? ⟨w.heap.size, 4, none⟩ = some (.slice ta tb.length tc) := b1.cell 4)
          have hS : ((fun wx : World => wx.cell? ⟨w.heap.size, 2, none⟩ = some (.int .i64 st) ∧ wx.cell? ⟨w.heap.size, 3, none⟩ = some (.int .i64 fl) ∧ wx.cell? ⟨w.heap.size, 4, none⟩ = some (.slice ta tb.length tc))) w1.drew := by exact ⟨c2, c3, c4⟩
          refine wp_region_V ((fun wx : World => wx.cell? ⟨w.heap.size, 2, none⟩ = some (.int .i64 st) ∧ wx.cell? ⟨w.heap.size, 3, none⟩ = some (.int .i64 fl) ∧ wx.cell? ⟨w.heap.size, 4, none⟩ = some (.slice ta tb.length tc))) 99 11 rfl (by kernel_rfl) ?_
          refine tk 0 34 hS ?_
          refine tk 1 35 hS ?_
          refine tk 2 36 hS ?_
          refine tk 3 37 hS ?_
          refine tk 4 38 hS ?_
          refine tk 5 39 hS ?_
          refine tk 6 40 hS ?_
          refine wpAnyV_one (i := 7) (by kernel_rfl) rfl (fun K hK => ?_)
          go_simp
          refine (h3 _).mono ?_
          rintro e w2 ⟨rfl, hk2⟩
          have b2 := b1.same ((Kept.refl _ _).drew.trans hk2)
          have hS : ((fun wx : World => wx.cell? ⟨w.heap.size, 2, none⟩ = some (.int .i64 st) ∧ wx.cell? ⟨w.heap.size, 3, none⟩ = some (.int .i64 fl) ∧ wx.cell? ⟨w.heap.size, 4, none⟩ = some (.slice ta tb.length tc))) w2 := by exact ⟨b2.cell 2, b2.cell 3, b2.cell 4⟩
          refine hK.out _ _ (fun _ => hS) ?_
          clear hK K
          try simp only [Act.put, sA, s0, sS]
          refine tk 8 42 hS ?_
          refine tk 9 43 hS ?_
          refine tk 10 33 hS ?_
          refine wpAnyV_done (by kernel_rfl) ?_
          go_wp2
          go_ret
          exact ⟨rfl, (((Kept.refl _ _).alloc _).trans hk1).drew.trans hk2⟩
    · rw [if_pos he]
      by_cases he1 : ep < 1
      · clear hs he
        go_enter Try.func81, Try.ntmps81
        go_wp2_with (go_at_call 90; (with_reducible refine (h1 _).mono ?_); rintro e w1 ⟨rfl, hk1⟩; have b1 := b0.same hk1; have c0 : w1.cell? ⟨w.heap.size, 0, none⟩ = some (.int .i64 s) := b1.cell 0; have c1 : w1.cell? ⟨w.heap.size, 1, none⟩ = some (.int .i64 ep) := b1.cell 1; have c2 : w1.cell? ⟨w.heap.size, 2, none⟩ = some (.int .i64 st) := b1.cell 2; have c3 : w1.cell? ⟨w.heap.size, 3, none⟩ = some (.int .i64 fl) := b1.cell 3; have c4 : w1.cell? ⟨w.heap.size, 4, none⟩ = some (.slice ta tb.length tc) := b1.cell 4)
        go_ret
        exact ⟨rfl, ((Kept.refl _ _).alloc _).trans hk1⟩
      · have he2 : 4294967295 < ep := by omega
        clear hs he
        go_enter Try.func81, Try.ntmps81
        go_wp2_with (go_at_call 90; (with_reducible refine (h1 _).mono ?_); rintro e w1 ⟨rfl, hk1⟩; have b1 := b0.same hk1; have c0 : w1.cell? ⟨w.heap.size, 0, none⟩ = some (.int .i64 s) := b1.cell 0; have c1 : w1.cell? ⟨w.heap.size, 1, none⟩ = some (.int .i64 ep) := b1.cell 1; have c2 : w1.cell? ⟨w.heap.size, 2, none⟩ = some (.int .i64 st) := b1.cell 2; have c3 : w1.cell? ⟨w.heap.size, 3, none⟩ = some (.int .i64 fl) := b1.cell 3; have c4 : w1.cell? ⟨w.heap.size, 4, none⟩ = some (.slice ta tb.length tc) := b1.cell 4)
        go_ret
        exact ⟨rfl, ((Kept.refl _ _).alloc _).trans hk1⟩
  · rw [inB_false hs] at h1
    rw [if_pos hs]
    go_enter Try.func81, Try.ntmps81
    go_wp2_with (go_at_call 90; (with_reducible refine (h1 _).mono ?_); rintro e w1 ⟨rfl, hk1⟩; have b1 := b0.same hk1; have c0 : w1.cell? ⟨w.heap.size, 0, none⟩ = some (.int .i64 s) := b1.cell 0; have c1 : w1.cell? ⟨w.heap.size, 1, none⟩ = some (.int .i64 ep) := b1.cell 1; have c2 : w1.cell? ⟨w.heap.size, 2, none⟩ = some (.int .i64 st) := b1.cell 2; have c3 : w1.cell? ⟨w.heap.size, 3, none⟩ = some (.int .i64 fl) := b1.cell 3; have c4 : w1.cell? ⟨w.heap.size, 4, none⟩ = some (.slice ta tb.length tc) := b1.cell 4)
    go_ret
    exact ⟨rfl, ((Kept.refl _ _).alloc _).trans hk1⟩
end Go.Proofs.Ytfhdkbibcndmjaa

namespace Go.Proofs.Ytfhdkbibcndmjaa
set_option maxRecDepth 100000
set_option maxHeartbeats 4000000
open Go.RowKit
set_option linter.unusedVariables false
set_option linter.unusedSimpArgs false
def flushed (d : Int × Int × Int × Int × List Int) : Int × Int × Int × Int × List Int :=
  if logFd d = 0 then (d.1, d.2.1, d.2.2.1, d.2.2.1, d.2.2.2.2.drop (d.2.2.2.2.length - (d.2.2.1 % 512).toNat)) else (0, 0, 0, 0, [])
theorem zeroLog_own (w : World) : OwnL w (StLog.rows ⟨0, 0, 0, 0, ⟨0, none, 0, []⟩⟩) := OwnL.one (Own.nil 0 0 .u8 w)
theorem zeroLog_foot (b : Nat) : ¬ FootL (StLog.rows ⟨0, 0, 0, 0, ⟨0, none, 0, []⟩⟩) b := fun h => by have := (footL_ints _ _ _ _ _).1 h; simp [BS.v, Value.ownBlock] at this
end Go.Proofs.Ytfhdkbibcndmjaa

namespace Go.Proofs.Ytfhdkbibcndmjaa
set_option maxHeartbeats 1000000
open Go.RowKit
set_option linter.unusedVariables false
set_option linter.unusedSimpArgs false
theorem Own.take {base : Nat} {e : TypeId} {k : IntKind} {w : World} {g n cap : Nat} {bs : List Int} (h : Own base e k w (.slice (some ⟨g, 0, none⟩) n cap) bs) (m : Nat) (hm : m ≤ bs.length) : Own base e k w (.slice (some ⟨g, 0, none⟩) m cap) (bs.take m) := by
  unfold Own at *
  rcases h with ⟨h1, ⟨h2, _⟩ | ⟨g', cap', cur, hv, hb, hg, hn, hc, hs, ht⟩⟩
  · cases h2
  · injection hv with e1 e2 e3
    injection e1 with e1
    injection e1 with e1
    subst e1 e3
    have hl : (bs.take m).length = m := by simp; omega
    refine ⟨by simp [vals], .inr ⟨g, cap, cur, by rw [hl], hb, hg, by omega, hc, hs, ?_⟩⟩
    have e4 : vals k (bs.take m) = (vals k bs).take m := by simp [vals, List.map_take]
    rw [hl, e4, ← ht, List.take_take]
    congr 1
    omega
theorem seeD_length {s : Int} {dur : List Int} {ds : List (Int × List Int)} (hv : Valid dur.length ds) (h0 : 0 ≤ s) (h1 : s < (dur.length / 512 : Nat)) : (seeD s dur ds).length = 512 := by
  unfold seeD
  cases hl : lastP s ds with
  | none => simp; omega
  | some cs =>
    obtain ⟨p, hp, rfl⟩ := lastP_mem s ds cs hl
    have := (hv.2 p hp).2.2
    simp [this]
def Room (len : Nat) (ds : List (Int × List Int)) (s : Int) : Prop := Valid len ds ∧ s + 2 ≤ (len / 512 : Nat)
def LoadOK (len : Nat) (ds : List (Int × List Int)) (s st ep : Int) : Prop := ((16 ≤ s ∧ s ≤ 800) ∧ (512 ≤ st ∧ st ≤ 1099511627776)) ∧ (1 ≤ ep ∧ ep ≤ 4294967295) ∧ Room len ds s
def loadOKDec (len : Nat) (ds : List (Int × List Int)) (s st ep : Int) : Decidable (LoadOK len ds s st ep) := by unfold LoadOK Room Valid validHead validP; infer_instance
def loadD (dur : List Int) (ds : List (Int × List Int)) (s st ep : Int) : Int × Int × Int × Int × List Int :=
  @ite _ (LoadOK dur.length ds s st ep) (loadOKDec dur.length ds s st ep) (s, ep, st, st, (seeD (logPlace s st) dur ds).take (st % 512).toNat) (0, 0, 0, 0, [])
theorem loadD_yes {dur : List Int} {ds : List (Int × List Int)} {s st ep : Int} (h : LoadOK dur.length ds s st ep) : loadD dur ds s st ep = (s, ep, st, st, (seeD (logPlace s st) dur ds).take (st % 512).toNat) := if_pos h
theorem loadD_no {dur : List Int} {ds : List (Int × List Int)} {s st ep : Int} (h : ¬ LoadOK dur.length ds s st ep) : loadD dur ds s st ep = (0, 0, 0, 0, []) := if_neg h
theorem loadD_small {dur : List Int} {ds : List (Int × List Int)} {s st ep : Int} {y : StLog} (h : y.dat = loadD dur ds s st ep) : y.size ≤ 1099511627776 := by
  have h2 : y.tail.bs = (loadD dur ds s st ep).2.2.2.2 := by rw [← h]; rfl
  simp only [StLog.size]
  rw [h2]
  by_cases hl : LoadOK dur.length ds s st ep
  · rw [loadD_yes hl]
    simp
    omega
  · rw [loadD_no hl]
    simp
theorem l5Room_any (dv pv : Value) (dur : List Int) (ps : List PW) (s : Int) (w : World) (hs : -1000 ≤ s ∧ s ≤ 1000) (hp : RdD w dv pv dur ps) :
    Calls Try.prog 76 #[.agg #[dv, pv], .int .i64 s] w fun e w' => Says e (Room dur.length (dataP ps) s) ∧ Same w w' := by
  obtain ⟨a1, c1, rfl⟩ := hp.dur.form
  obtain ⟨a2, c2, rfl⟩ := hp.pend.form
  have hm := hp.dur.1
  have hm' := hm
  unfold maxLen at hm'
  have b0 := Box.new w (.slice a1 dur.length c1) (.slice a2 ps.length c2) 25
  have hV := specValid_any _ _ dur ps _ (hp.same ((Kept.refl _ _).alloc (.cells #[.slice a1 dur.length c1, .slice a2 ps.length c2] 25)))
  clear hp
  obtain ⟨hs0, hs1⟩ := hs
  go_enter Try.func76, Try.ntmps76
  go_wp2_with fail
  refine hV.mono ?_
  rintro e w1 ⟨⟨B, rfl, hB⟩, hk1⟩
  obtain ⟨c0, c1'⟩ := b0.same hk1
  have HK1 : Hid (Same w w1) := ((Kept.refl _ _).alloc _).trans hk1
  clear hk1 b0 hV
  cases B with
  | false =>
    have HN : Hid (¬ Valid dur.length (dataP ps)) := fun h => by have := hB.2 h; cases this
    clear hB
    go_wp2
    go_ret
    exact ⟨says_false (fun h => HN.out h.1), HK1.out⟩
  | true =>
    have HV : Hid (Valid dur.length (dataP ps)) := hB.1 rfl
    clear hB
    go_wp2_with (go_at_call 50; refine (l1Sectors_any _ _ _ _ _ _ _ hm).mono ?_; rintro e w2 ⟨rfl, hk2⟩)
    go_ret
    subst hk2
    refine ⟨?_, HK1.out.alloc _⟩
    by_cases h : s + 2 ≤ (dur.length / 512 : Nat)
    · exact ⟨true, by simp; omega, fun _ => ⟨HV.out, h⟩, fun _ => rfl⟩
    · exact ⟨false, by simp; omega, fun h => (by cases h), fun h' => absurd h'.2 h⟩
theorem holdsLog_any (dv pv : Value) (dur : List Int) (ps : List PW) (s : Int) (w : World) (hp : RdD w dv pv dur ps) :
    Calls Try.prog 79 #[.agg #[dv, pv], .int .i64 s] w fun e w' => Says e ((16 ≤ s ∧ s ≤ 800) ∧ Room dur.length (dataP ps) s) ∧ Same w w' := by
  obtain ⟨a1, c1, rfl⟩ := hp.dur.form
  obtain ⟨a2, c2, rfl⟩ := hp.pend.form
  have hm := hp.dur.1
  have hm' := hm
  unfold maxLen at hm'
  have b0 := Box.new w (.slice a1 dur.length c1) (.slice a2 ps.length c2) 25
  have h1 := fun wx => isLogSize_any s wx
  have hV := fun wx (hk : Same w wx) => implValid_any _ _ dur ps wx (hp.same hk)
  clear hp
  by_cases hs : 16 ≤ s ∧ s ≤ 800
  · rw [inB_true hs] at h1
    obtain ⟨hs0, hs1⟩ := hs
    go_enter Try.func79, Try.ntmps79
    go_wp2_with (go_at_call 90; refine (h1 _).mono ?_; rintro e w0 ⟨rfl, hk0⟩; obtain ⟨c0, c1'⟩ := b0.same hk0; have HK0 := (show Hid (Same w w0) from ((Kept.refl _ _).alloc _).trans hk0))
    refine (hV _ HK0.out).mono ?_
    rintro e w1 ⟨⟨B, rfl, hB⟩, hk1⟩
    obtain ⟨d0, d1⟩ := (b0.same hk0).same hk1
    have HK1 : Hid (Same w w1) := HK0.out.trans hk1
    clear hk1 b0 hV hk0
    cases B with
    | false =>
      have HN : Hid (¬ Valid dur.length (dataP ps)) := fun h => by have := hB.2 h; cases this
      clear hB
      go_wp2
      go_ret
      exact ⟨says_false (fun h => HN.out h.2.1), HK1.out⟩
    | true =>
      have HV : Hid (Valid dur.length (dataP ps)) := hB.1 rfl
      clear hB
      go_wp2_with (go_at_call 51; refine (countSectors_any _ _ _ _ _ _ _ hm).mono ?_; rintro e w2 ⟨rfl, hk2⟩)
      go_ret
      subst hk2
      refine ⟨?_, HK1.out.alloc _⟩
      by_cases h : s + 2 ≤ (dur.length / 512 : Nat)
      · exact ⟨true, by simp; omega, fun _ => ⟨⟨hs0, hs1⟩, HV.out, h⟩, fun _ => rfl⟩
      · exact ⟨false, by simp; omega, fun h => (by cases h), fun h' => absurd h'.2.2 h⟩
  · rw [inB_false hs] at h1
    go_enter Try.func79, Try.ntmps79
    go_wp2_with (go_at_call 90; refine (h1 _).mono ?_; rintro e w0 ⟨rfl, hk0⟩)
    go_ret
    exact ⟨says_false (fun h => hs h.1), ((Kept.refl _ _).alloc _).trans hk0⟩
end Go.Proofs.Ytfhdkbibcndmjaa

namespace Go.Proofs.Ytfhdkbibcndmjaa
set_option maxRecDepth 100000
set_option maxHeartbeats 4000000
open Go.RowKit
set_option linter.unusedVariables false
set_option linter.unusedSimpArgs false
theorem said_true {f : FuncId} {args : Array Value} {w : World} {P : Prop} (hP : P) (h : Calls Try.prog f args w fun e w' => Says e P ∧ Same w w') : Calls Try.prog f args w fun e w' => e = .returned (.bool true) ∧ Same w w' :=
  h.mono fun e w' ⟨⟨B, he, hB⟩, hk⟩ => ⟨by rw [he, hB.2 hP], hk⟩
theorem said_false {f : FuncId} {args : Array Value} {w : World} {P : Prop} (hP : ¬ P) (h : Calls Try.prog f args w fun e w' => Says e P ∧ Same w w') : Calls Try.prog f args w fun e w' => e = .returned (.bool false) ∧ Same w w' :=
  h.mono fun e w' ⟨⟨B, he, hB⟩, hk⟩ => ⟨by rw [he]; cases B with | false => rfl | true => exact absurd (hB.1 rfl) hP, hk⟩
theorem own_form512 {e : TypeId} {w : World} {a : Option Addr} {n c : Nat} {bs : List Int} (h : Own 0 e .u8 w (.slice a n c) bs) (hl : bs.length = 512) : ∃ g, a = some ⟨g, 0, none⟩ ∧ n = 512 ∧ 512 ≤ c := by
  rcases h.form with ⟨h1, rfl⟩ | ⟨g, cap, h1, _, _, h2, _⟩
  · simp at hl
  · injection h1 with e1 e2 e3
    exact ⟨g, e1, by omega, by omega⟩
theorem specLoad_any (dv pv : Value) (dur : List Int) (ps : List PW) (s st ep : Int) (w : World) (hd : dur.length ≤ 1099511627776) (hn : ps.length ≤ 1073741824) (hs : ∀ p ∈ ps, p.bs.length ≤ 1099511627776) (hv : RdD w dv pv dur ps) :
    Calls Try.prog 41 #[.agg #[dv, pv], .int .i64 s, .int .i64 st, .int .i64 ep] w fun e w' => ∃ y : StLog, e = .returned y.val ∧ y.dat = loadD dur (dataP ps) s st ep ∧ (∀ b, FootL y.rows b → w.heap.size ≤ b) ∧ OwnL w' y.rows ∧ Same w w' := by
  obtain ⟨a1, c1, rfl⟩ := hv.dur.form
  obtain ⟨a2, c2, rfl⟩ := hv.pend.form
  have HV := (show Hid (RdD w (.slice a1 dur.length c1) (.slice a2 ps.length c2) dur ps) from hv)
  have HS := (show Hid (∀ p ∈ ps, p.bs.length ≤ 1099511627776) from hs)
  clear hv hs hn
  dsimp only [StLog.val, BS.v]
  have b0 : Blk ((w.alloc (.cells #[.slice a1 dur.length c1, .slice a2 ps.length c2] 25)).alloc (.cells #[.int .i64 0, .int .i64 0, .int .i64 0, .int .i64 0, .slice none 0 0] 66)) w.heap.size 25 [.slice a1 dur.length c1, .slice a2 ps.length c2] := (Blk.new w #[.slice a1 dur.length c1, .slice a2 ps.length c2] 25).same ((Kept.refl _ _).alloc _)
  have z0 := Blk.newB w [.slice a1 dur.length c1, .slice a2 ps.length c2] 25 [.int .i64 0, .int .i64 0, .int .i64 0, .int .i64 0, .slice none 0 0] 66
  have hk0 : Same w ((w.alloc (.cells #[.slice a1 dur.length c1, .slice a2 ps.length c2] 25)).alloc (.cells #[.int .i64 0, .int .i64 0, .int .i64 0, .int .i64 0, .slice none 0 0] 66)) := ((Kept.refl _ _).alloc _).alloc _
  have HK0 := (show Hid (Same w ((w.alloc (.cells #[.slice a1 dur.length c1, .slice a2 ps.length c2] 25)).alloc (.cells #[.int .i64 0, .int .i64 0, .int .i64 0, .int .i64 0, .slice none 0 0] 66))) from hk0)
  clear hk0
  have hP := fun wx => specPlace_any s st wx
  have hE := fun wx => l4In_any ep 1 4294967295 wx
  by_cases hp : (16 ≤ s ∧ s ≤ 800) ∧ (512 ≤ st ∧ st ≤ 1099511627776)
  · obtain ⟨pl, hpl⟩ : ∃ pl, logPlace s st = pl := ⟨_, rfl⟩
    have hpb := logPlace_bound hp
    rw [hpl] at hP hpb
    obtain ⟨hpb1, hpb2⟩ := hpb
    have hp0 : ¬ pl < 0 := by omega
    by_cases he : 1 ≤ ep ∧ ep ≤ 4294967295
    · rw [inB_true he] at hE
      by_cases hr : Room dur.length (dataP ps) s
      · have hR := fun wx (hk : Same w wx) => said_true hr (l5Room_any _ _ dur ps s wx (by omega) (HV.out.same hk))
        rw [loadD_yes ⟨hp, he, hr⟩, hpl]
        have hplt : pl < (dur.length / 512 : Nat) := by have := hr.2; omega
        have hsl := seeD_length hr.1 (by omega) hplt
        have h512 : (pl.toNat + 1) * 512 ≤ dur.length := by omega
        have hsm : pl ≤ 1048576 := by omega
        obtain ⟨m, hm⟩ : ∃ m : Nat, st % 512 = m := ⟨(st % 512).toNat, by omega⟩
        rw [hm, Int.toNat_natCast]
        have hm5 : m < 512 := by omega
        have hst0 : 0 ≤ st := by omega
        have hst1 : st ≤ 1099511627776 := by omega
        obtain ⟨sec, hsec⟩ : ∃ sec, seeD pl dur (dataP ps) = sec := ⟨_, rfl⟩
        rw [hsec] at hsl ⊢
        have HSec := (show Hid (seeD pl dur (dataP ps) = sec) from hsec)
        have hlen : (sec.take m).length ≤ 1099511627776 := by simp; omega
        clear hr hp he hplt hsec
        go_enter Try.func41, Try.ntmps41
        go_wp2_with (first
          | (go_at_call 74; refine (hP _).mono ?_; rintro e w1 ⟨rfl, hk⟩; have b1 := b0.same hk; have z1 := z0.same hk; have HK1 := (show Hid (Same w w1) from HK0.out.trans hk); clear hk; have c1_0 : w1.cell? ⟨w.heap.size, 0, none⟩ = some (.slice a1 dur.length c1) := b1.cell 0; have c1_1 : w1.cell? ⟨w.heap.size, 1, none⟩ = some (.slice a2 ps.length c2) := b1.cell 1; have y1_0 : w1.cell? ⟨w.heap.size + 1, 0, none⟩ = some (.int .i64 0) := z1.cell 0; have y1_1 : w1.cell? ⟨w.heap.size + 1, 1, none⟩ = some (.int .i64 0) := z1.cell 1; have y1_2 : w1.cell? ⟨w.heap.size + 1, 2, none⟩ = some (.int .i64 0) := z1.cell 2; have y1_3 : w1.cell? ⟨w.heap.size + 1, 3, none⟩ = some (.int .i64 0) := z1.cell 3; have y1_4 : w1.cell? ⟨w.heap.size + 1, 4, none⟩ = some (.slice none 0 0) := z1.cell 4; have f1 := z1.frozen)
          | (go_at_call 75; refine (hE _).mono ?_; rintro e w2 ⟨rfl, hk⟩; have b2 := b1.same hk; have z2 := z1.same hk; have HK2 := (show Hid (Same w w2) from HK1.out.trans hk); clear hk; have c2_0 : w2.cell? ⟨w.heap.size, 0, none⟩ = some (.slice a1 dur.length c1) := b2.cell 0; have c2_1 : w2.cell? ⟨w.heap.size, 1, none⟩ = some (.slice a2 ps.length c2) := b2.cell 1; have y2_0 : w2.cell? ⟨w.heap.size + 1, 0, none⟩ = some (.int .i64 0) := z2.cell 0; have y2_1 : w2.cell? ⟨w.heap.size + 1, 1, none⟩ = some (.int .i64 0) := z2.cell 1; have y2_2 : w2.cell? ⟨w.heap.size + 1, 2, none⟩ = some (.int .i64 0) := z2.cell 2; have y2_3 : w2.cell? ⟨w.heap.size + 1, 3, none⟩ = some (.int .i64 0) := z2.cell 3; have y2_4 : w2.cell? ⟨w.heap.size + 1, 4, none⟩ = some (.slice none 0 0) := z2.cell 4; have f2 := z2.frozen)
          | (go_at_call 76; refine (hR _ HK2.out).mono ?_; rintro e w3 ⟨rfl, hk⟩; have b3 := b2.same hk; have z3 := z2.same hk; have HK3 := (show Hid (Same w w3) from HK2.out.trans hk); clear hk; have c3_0 : w3.cell? ⟨w.heap.size, 0, none⟩ = some (.slice a1 dur.length c1) := b3.cell 0; have c3_1 : w3.cell? ⟨w.heap.size, 1, none⟩ = some (.slice a2 ps.length c2) := b3.cell 1; have y3_0 : w3.cell? ⟨w.heap.size + 1, 0, none⟩ = some (.int .i64 0) := z3.cell 0; have y3_1 : w3.cell? ⟨w.heap.size + 1, 1, none⟩ = some (.int .i64 0) := z3.cell 1; have y3_2 : w3.cell? ⟨w.heap.size + 1, 2, none⟩ = some (.int .i64 0) := z3.cell 2; have y3_3 : w3.cell? ⟨w.heap.size + 1, 3, none⟩ = some (.int .i64 0) := z3.cell 3; have y3_4 : w3.cell? ⟨w.heap.size + 1, 4, none⟩ = some (.slice none 0 0) := z3.cell 4; have f3 := z3.frozen))
        have hS : ((fun wx : World => wx.cell? ⟨w.heap.size, 0, none⟩ = some (.slice a1 dur.length c1) ∧ wx.cell? ⟨w.heap.size, 1, none⟩ = some (.slice a2 ps.length c2))) w3.drew := by exact ⟨c3_0, c3_1⟩
        refine wp_region_V ((fun wx : World => wx.cell? ⟨w.heap.size, 0, none⟩ = some (.slice a1 dur.length c1) ∧ wx.cell? ⟨w.heap.size, 1, none⟩ = some (.slice a2 ps.length c2))) 99 6 rfl (by kernel_rfl) ?_
        refine tk 0 26 hS ?_
        refine tk 1 27 hS ?_
        refine tk 2 28 hS ?_
        refine wpAnyV_one (i := 3) (by kernel_rfl) rfl (fun K hK => ?_)
        go_simp
        refine (hP _).mono ?_
        rintro e w4 ⟨rfl, hk⟩
        have b4 := b3.same ((Kept.refl _ _).drew.trans hk)
        have z4 := z3.same ((Kept.refl _ _).drew.trans hk)
        have HK4 := (show Hid (Same w w4) from HK3.out.drew.trans hk)
        clear hk
        have hS : ((fun wx : World => wx.cell? ⟨w.heap.size, 0, none⟩ = some (.slice a1 dur.length c1) ∧ wx.cell? ⟨w.heap.size, 1, none⟩ = some (.slice a2 ps.length c2))) w4 := by exact ⟨b4.cell 0, b4.cell 1⟩
        refine hK.out _ _ (fun _ => hS) ?_
        clear hK K
        try simp only [Act.put, sA, s0, sS]
        refine wpAnyV_one (i := 4) (by kernel_rfl) rfl (fun K hK => ?_)
        go_simp
        refine (l1See_any _ _ dur ps pl _ (by omega) hsm h512 hd HS.out (HV.out.same HK4.out)).mono ?_
        rintro e w5 ⟨a5, n5, c5, rfl, hown, hfr, hk⟩
        rw [HSec.out] at hown
        obtain ⟨g5, rfl, rfl, hc5⟩ := own_form512 hown hsl
        have b5 := b4.same hk
        have z5 := z4.same hk
        have HK5 := (show Hid (Same w w5) from HK4.out.trans hk)
        have HO5 := (show Hid (Own 0 5 .u8 w5 (.slice (some ⟨g5, 0, none⟩) m c5) (sec.take m)) from hown.take m (by omega))
        have hmc : (m : Int) ≤ (c5 : Int) := by omega
        clear hk hown hfr
        have hS : ((fun wx : World => wx.cell? ⟨w.heap.size, 0, none⟩ = some (.slice a1 dur.length c1) ∧ wx.cell? ⟨w.heap.size, 1, none⟩ = some (.slice a2 ps.length c2))) w5 := by exact ⟨b5.cell 0, b5.cell 1⟩
        refine hK.out _ _ (fun _ => hS) ?_
        clear hK K
        try simp only [Act.put, sA, s0, sS]
        refine tk 5 9 hS ?_
        refine wpAnyV_done (by kernel_rfl) ?_
        have hm0 : (0 : Int) ≤ (m : Int) := by omega
        go_wp2_with (go_at_call 78; refine (l1Copy_any _ _ _ hlen HO5.out.rd).mono ?_; rintro e w6 ⟨a6, n6, c6, rfl, hown, hfr, hk⟩; have z6 := z5.same hk; have y6_0 : w6.cell? ⟨w.heap.size + 1, 0, none⟩ = some (.int .i64 0) := z6.cell 0; have y6_1 : w6.cell? ⟨w.heap.size + 1, 1, none⟩ = some (.int .i64 0) := z6.cell 1; have y6_2 : w6.cell? ⟨w.heap.size + 1, 2, none⟩ = some (.int .i64 0) := z6.cell 2; have y6_3 : w6.cell? ⟨w.heap.size + 1, 3, none⟩ = some (.int .i64 0) := z6.cell 3; have y6_4 : w6.cell? ⟨w.heap.size + 1, 4, none⟩ = some (.slice none 0 0) := z6.cell 4; have f6 := z6.frozen)
        obtain rfl : n6 = (sec.take m).length := by obtain ⟨_, _, he⟩ := hown.rd.form; injection he
        have hz5 := z5.lt
        refine bodyPost_ret (v := .agg #[.int .i64 s, .int .i64 ep, .int .i64 st, .int .i64 st, .slice a6 (sec.take m).length c6]) (by simp [results, Try.results41, go_sem, y6_0, y6_1, y6_2, y6_3, y6_4]) rfl ⟨⟨s, ep, st, st, ⟨5, a6, c6, sec.take m⟩⟩, rfl, (by first | rfl | exact ⟨rfl, rfl, rfl, rfl, rfl⟩), fun b hb => ?_, OwnL.one (Own.kept hown (R := fun b => b = w.heap.size + 1) ?_ (fun b hb e => ?_)), ?_⟩
        · have := hfr b ((footL_ints _ _ _ _ _).1 hb); omega
        · (iterate 5 refine Kept.setCell ?_ (.inr (by simp)) _); exact Kept.refl _ _
        · have := hfr b hb; omega
        · (iterate 5 refine Kept.setCell ?_ (.inl (by first | exact Nat.le_refl _ | exact Nat.le_succ _)) _); exact HK5.out.trans hk
      · have hR := fun wx (hk : Same w wx) => said_false hr (l5Room_any _ _ dur ps s wx (by omega) (HV.out.same hk))
        rw [loadD_no (fun h => hr h.2.2)]
        clear hr hp he
        go_enter Try.func41, Try.ntmps41
        go_wp2_with (first
          | (go_at_call 74; refine (hP _).mono ?_; rintro e w1 ⟨rfl, hk⟩; have b1 := b0.same hk; have z1 := z0.same hk; have HK1 := (show Hid (Same w w1) from HK0.out.trans hk); clear hk; have c1_0 : w1.cell? ⟨w.heap.size, 0, none⟩ = some (.slice a1 dur.length c1) := b1.cell 0; have c1_1 : w1.cell? ⟨w.heap.size, 1, none⟩ = some (.slice a2 ps.length c2) := b1.cell 1; have y1_0 : w1.cell? ⟨w.heap.size + 1, 0, none⟩ = some (.int .i64 0) := z1.cell 0; have y1_1 : w1.cell? ⟨w.heap.size + 1, 1, none⟩ = some (.int .i64 0) := z1.cell 1; have y1_2 : w1.cell? ⟨w.heap.size + 1, 2, none⟩ = some (.int .i64 0) := z1.cell 2; have y1_3 : w1.cell? ⟨w.heap.size + 1, 3, none⟩ = some (.int .i64 0) := z1.cell 3; have y1_4 : w1.cell? ⟨w.heap.size + 1, 4, none⟩ = some (.slice none 0 0) := z1.cell 4; have f1 := z1.frozen)
          | (go_at_call 75; refine (hE _).mono ?_; rintro e w2 ⟨rfl, hk⟩; have b2 := b1.same hk; have z2 := z1.same hk; have HK2 := (show Hid (Same w w2) from HK1.out.trans hk); clear hk; have c2_0 : w2.cell? ⟨w.heap.size, 0, none⟩ = some (.slice a1 dur.length c1) := b2.cell 0; have c2_1 : w2.cell? ⟨w.heap.size, 1, none⟩ = some (.slice a2 ps.length c2) := b2.cell 1; have y2_0 : w2.cell? ⟨w.heap.size + 1, 0, none⟩ = some (.int .i64 0) := z2.cell 0; have y2_1 : w2.cell? ⟨w.heap.size + 1, 1, none⟩ = some (.int .i64 0) := z2.cell 1; have y2_2 : w2.cell? ⟨w.heap.size + 1, 2, none⟩ = some (.int .i64 0) := z2.cell 2; have y2_3 : w2.cell? ⟨w.heap.size + 1, 3, none⟩ = some (.int .i64 0) := z2.cell 3; have y2_4 : w2.cell? ⟨w.heap.size + 1, 4, none⟩ = some (.slice none 0 0) := z2.cell 4; have f2 := z2.frozen)
          | (go_at_call 76; refine (hR _ HK2.out).mono ?_; rintro e w3 ⟨rfl, hk⟩; have b3 := b2.same hk; have z3 := z2.same hk; have HK3 := (show Hid (Same w w3) from HK2.out.trans hk); clear hk; have c3_0 : w3.cell? ⟨w.heap.size, 0, none⟩ = some (.slice a1 dur.length c1) := b3.cell 0; have c3_1 : w3.cell? ⟨w.heap.size, 1, none⟩ = some (.slice a2 ps.length c2) := b3.cell 1; have y3_0 : w3.cell? ⟨w.heap.size + 1, 0, none⟩ = some (.int .i64 0) := z3.cell 0; have y3_1 : w3.cell? ⟨w.heap.size + 1, 1, none⟩ = some (.int .i64 0) := z3.cell 1; have y3_2 : w3.cell? ⟨w.heap.size + 1, 2, none⟩ = some (.int .i64 0) := z3.cell 2; have y3_3 : w3.cell? ⟨w.heap.size + 1, 3, none⟩ = some (.int .i64 0) := z3.cell 3; have y3_4 : w3.cell? ⟨w.heap.size + 1, 4, none⟩ = some (.slice none 0 0) := z3.cell 4; have f3 := z3.frozen))
        refine bodyPost_ret (v := .agg #[.int .i64 0, .int .i64 0, .int .i64 0, .int .i64 0, .slice none 0 0]) (by simp [results, Try.results41, go_sem, y3_0, y3_1, y3_2, y3_3, y3_4]) rfl ⟨⟨0, 0, 0, 0, ⟨0, none, 0, []⟩⟩, rfl, rfl, fun b hb => absurd hb (zeroLog_foot b), zeroLog_own _, ?_⟩
        (iterate 5 refine Kept.setCell ?_ (.inl (by first | exact Nat.le_refl _ | exact Nat.le_succ _)) _); exact HK3.out
    · rw [inB_false he] at hE
      rw [loadD_no (fun h => he h.2.1)]
      clear hp he
      go_enter Try.func41, Try.ntmps41
      go_wp2_with (first
        | (go_at_call 74; refine (hP _).mono ?_; rintro e w1 ⟨rfl, hk⟩; have b1 := b0.same hk; have z1 := z0.same hk; have HK1 := (show Hid (Same w w1) from HK0.out.trans hk); clear hk; have c1_0 : w1.cell? ⟨w.heap.size, 0, none⟩ = some (.slice a1 dur.length c1) := b1.cell 0; have c1_1 : w1.cell? ⟨w.heap.size, 1, none⟩ = some (.slice a2 ps.length c2) := b1.cell 1; have y1_0 : w1.cell? ⟨w.heap.size + 1, 0, none⟩ = some (.int .i64 0) := z1.cell 0; have y1_1 : w1.cell? ⟨w.heap.size + 1, 1, none⟩ = some (.int .i64 0) := z1.cell 1; have y1_2 : w1.cell? ⟨w.heap.size + 1, 2, none⟩ = some (.int .i64 0) := z1.cell 2; have y1_3 : w1.cell? ⟨w.heap.size + 1, 3, none⟩ = some (.int .i64 0) := z1.cell 3; have y1_4 : w1.cell? ⟨w.heap.size + 1, 4, none⟩ = some (.slice none 0 0) := z1.cell 4; have f1 := z1.frozen)
        | (go_at_call 75; refine (hE _).mono ?_; rintro e w2 ⟨rfl, hk⟩; have b2 := b1.same hk; have z2 := z1.same hk; have HK2 := (show Hid (Same w w2) from HK1.out.trans hk); clear hk; have c2_0 : w2.cell? ⟨w.heap.size, 0, none⟩ = some (.slice a1 dur.length c1) := b2.cell 0; have c2_1 : w2.cell? ⟨w.heap.size, 1, none⟩ = some (.slice a2 ps.length c2) := b2.cell 1; have y2_0 : w2.cell? ⟨w.heap.size + 1, 0, none⟩ = some (.int .i64 0) := z2.cell 0; have y2_1 : w2.cell? ⟨w.heap.size + 1, 1, none⟩ = some (.int .i64 0) := z2.cell 1; have y2_2 : w2.cell? ⟨w.heap.size + 1, 2, none⟩ = some (.int .i64 0) := z2.cell 2; have y2_3 : w2.cell? ⟨w.heap.size + 1, 3, none⟩ = some (.int .i64 0) := z2.cell 3; have y2_4 : w2.cell? ⟨w.heap.size + 1, 4, none⟩ = some (.slice none 0 0) := z2.cell 4; have f2 := z2.frozen))
      refine bodyPost_ret (v := .agg #[.int .i64 0, .int .i64 0, .int .i64 0, .int .i64 0, .slice none 0 0]) (by simp [results, Try.results41, go_sem, y2_0, y2_1, y2_2, y2_3, y2_4]) rfl ⟨⟨0, 0, 0, 0, ⟨0, none, 0, []⟩⟩, rfl, rfl, fun b hb => absurd hb (zeroLog_foot b), zeroLog_own _, ?_⟩
      (iterate 5 refine Kept.setCell ?_ (.inl (by first | exact Nat.le_refl _ | exact Nat.le_succ _)) _); exact HK2.out
  · rw [logPlace_no hp] at hP
    rw [loadD_no (fun h => hp h.1)]
    clear hp
    go_enter Try.func41, Try.ntmps41
    go_wp2_with (go_at_call 74; refine (hP _).mono ?_; rintro e w1 ⟨rfl, hk⟩; have b1 := b0.same hk; have z1 := z0.same hk; have HK1 := (show Hid (Same w w1) from HK0.out.trans hk); clear hk; have c1_0 : w1.cell? ⟨w.heap.size, 0, none⟩ = some (.slice a1 dur.length c1) := b1.cell 0; have c1_1 : w1.cell? ⟨w.heap.size, 1, none⟩ = some (.slice a2 ps.length c2) := b1.cell 1; have y1_0 : w1.cell? ⟨w.heap.size + 1, 0, none⟩ = some (.int .i64 0) := z1.cell 0; have y1_1 : w1.cell? ⟨w.heap.size + 1, 1, none⟩ = some (.int .i64 0) := z1.cell 1; have y1_2 : w1.cell? ⟨w.heap.size + 1, 2, none⟩ = some (.int .i64 0) := z1.cell 2; have y1_3 : w1.cell? ⟨w.heap.size + 1, 3, none⟩ = some (.int .i64 0) := z1.cell 3; have y1_4 : w1.cell? ⟨w.heap.size + 1, 4, none⟩ = some (.slice none 0 0) := z1.cell 4; have f1 := z1.frozen)
    refine bodyPost_ret (v := .agg #[.int .i64 0, .int .i64 0, .int .i64 0, .int .i64 0, .slice none 0 0]) (by simp [results, Try.results41, go_sem, y1_0, y1_1, y1_2, y1_3, y1_4]) rfl ⟨⟨0, 0, 0, 0, ⟨0, none, 0, []⟩⟩, rfl, rfl, fun b hb => absurd hb (zeroLog_foot b), zeroLog_own _, ?_⟩
    (iterate 5 refine Kept.setCell ?_ (.inl (by first | exact Nat.le_refl _ | exact Nat.le_succ _)) _); exact HK1.out
end Go.Proofs.Ytfhdkbibcndmjaa
