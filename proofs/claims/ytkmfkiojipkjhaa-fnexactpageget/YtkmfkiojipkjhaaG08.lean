import Derived.Test.YtkmfkiojipkjhaaG01
import Derived.Test.YtkmfkiojipkjhaaG00
import Derived.Test.YtkmfkiojipkjhaaUsedFn
import Derived.Laws.AppendOwnNone
import Derived.Deep.DeepCutAuto
namespace Go.Proofs.Ytkmfkiojipkjhaa
set_option maxHeartbeats 16000000
set_option linter.unusedVariables false
set_option maxRecDepth 100000
set_option linter.unusedSimpArgs false
open Go.RowKit
theorem l1Copy_any (v : Value) (bs : List Int) (w : World) (hn : bs.length ≤ 1099511627776) (hv : Rd .u8 w v bs) :
  Calls Try.prog 37 #[v] w fun e w' => ∃ a n c, e = .returned (.slice a n c) ∧ Own 0 5 .u8 w' (.slice a n c) bs ∧ (∀ b, (Value.slice a n c).ownBlock = some b → w.heap.size ≤ b) ∧ Same w w' := by
 obtain ⟨i0, hi, hz0, hz1, hz2⟩ := info_parts Try.infoByte'
 rcases hv.2 with ⟨rfl, a, c, rfl, hac⟩ | ⟨b, off, c, rfl, _, hc⟩
 ·cases a with
  | none =>
   obtain rfl : c = 0 := hac rfl
   clear hv hn hac
   go_enter Try.func37, Try.ntmps37
   go_wp2_with (at_builtin; refine wpList_append_own_none rfl (.tmp 3) (.tmp 4) 22 rfl w.heap.size 5 i0 1 Try.underlying22 hi _ 0 [] rfl (World.ownsRow_made w #[] 0 (Nat.le_refl _) (by simp) (by simp)) rfl ?_)
   go_ret
   exact ⟨_, _, _, rfl, (World.ownsRow_made w #[] 0 (Nat.zero_le _) (by simp) (by simp)), fun b hb => by simp [Value.ownBlock] at hb; omega, (Kept.refl _ _).alloc _⟩
  | some ad =>
   clear hv hn hac
   go_enter Try.func37, Try.ntmps37
   go_wp2_with (at_builtin; refine wpList_append_own _ rfl (.tmp 3) (.tmp 4) 22 rfl w.heap.size 5 i0 (.int .u8 0) 1 1 Try.underlying22 hi hz0 hz1 hz2 rfl (by decide) (.slice (some ⟨w.heap.size, 0, none⟩) 0 0) 0 [] rfl (World.ownsRow_made w #[] 0 (Nat.le_refl _) (by simp) (by simp)) ad 0 c [] rfl rfl (fun j u h => by simp at h) (fun u h => by simp at h) (by simp) (by simp) (by simp) ?_; intro v' w1 hown1 hgrow1 _; have HF := (show Hid (Own w.heap.size 5 .u8 w1 v' []) from hown1); have HK : Hid (Same w w1) := ((Kept.refl _ _).alloc _).grown hgrow1 (fun k e => .inl (by simp [Value.ownBlock] at e; omega)); obtain ⟨aa, na, ca, rfl⟩ := slice_of_own HF.out; clear hown1 hgrow1)
   go_ret
   exact ⟨_, _, _, rfl, HF.out.mono (fun b _ => Nat.zero_le b), fun b hb => (HF.out.lt b hb).1, HK.out⟩
 ·have HC : Hid (∀ i, i < bs.length → (w.alloc (.cells #[] 5)).cell? ⟨b, off + i, none⟩ = some (.int .u8 (bs.getD i 0))) := fun i hi => ((Kept.refl (fun _ => False) w).alloc _).cellOf (hc i hi) id
  clear hv hc
  go_enter Try.func37, Try.ntmps37
  go_wp2_with (at_builtin; refine wpList_append_own _ rfl (.tmp 3) (.tmp 4) 22 rfl w.heap.size 5 i0 (.int .u8 0) 1 1 Try.underlying22 hi hz0 hz1 hz2 rfl (by decide) (.slice (some ⟨w.heap.size, 0, none⟩) 0 0) 0 [] rfl (World.ownsRow_made w #[] 0 (Nat.le_refl _) (by simp) (by simp)) ⟨b, off, none⟩ bs.length c (vals .u8 bs) rfl (by simp [vals_length]) (news_of HC.out) vals_one (by unfold maxLen; omega) (by omega) (by simp) ?_; intro v' w1 hown1 hgrow1 _; have HF := (show Hid (Own w.heap.size 5 .u8 w1 v' bs) from (by simpa [Own, Hid] using hown1)); have HK : Hid (Same w w1) := ((Kept.refl _ _).alloc _).grown hgrow1 (fun k e => .inl (by simp [Value.ownBlock] at e; omega)); obtain ⟨aa, na, ca, rfl⟩ := slice_of_own HF.out; clear hown1 hgrow1)
  go_ret
  exact ⟨_, _, _, rfl, HF.out.mono (fun b _ => Nat.zero_le b), fun b hb => (HF.out.lt b hb).1, HK.out⟩
theorem clone_any (v : Value) (bs : List Int) (w : World) (hn : bs.length ≤ 1099511627776) (hv : Rd .u8 w v bs) :
  Calls Try.prog 56 #[v] w fun e w' => ∃ a n c, e = .returned (.slice a n c) ∧ Own 0 5 .u8 w' (.slice a n c) bs ∧ (∀ b, (Value.slice a n c).ownBlock = some b → w.heap.size ≤ b) ∧ Same w w' := by
 obtain ⟨i0, hi, hz0, hz1, hz2⟩ := info_parts Try.infoByte'
 have hnil := fun (wx : World) (a : Option Addr) (n c : Nat) => Lib.run_eql_slice_nil (P := Try.prog) wx 22 5 a n c 0 0 Try.underlying22
 rcases hv.2 with ⟨rfl, a, c, rfl, hac⟩ | ⟨b, off, c, rfl, _, hc⟩
 ·cases a with
  | none =>
   obtain rfl : c = 0 := hac rfl
   clear hv hn hac
   go_enter Try.func56, Try.ntmps56
   go_wp2
   go_ret
   exact ⟨_, _, _, rfl, Own.nil _ _ _ _, fun b hb => by simp [Value.ownBlock] at hb, Kept.refl _ _⟩
  | some ad =>
   clear hv hn hac
   go_enter Try.func56, Try.ntmps56
   go_wp2_with (at_builtin; refine wpList_append_own _ rfl (.tmp 5) (.tmp 6) 22 rfl w.heap.size 5 i0 (.int .u8 0) 1 1 Try.underlying22 hi hz0 hz1 hz2 rfl (by decide) (.slice (some ⟨w.heap.size, 0, none⟩) 0 0) 0 [] rfl (World.ownsRow_made w #[] 0 (Nat.le_refl _) (by simp) (by simp)) ad 0 c [] rfl rfl (fun j u h => by simp at h) (fun u h => by simp at h) (by simp) (by simp) (by simp) ?_; intro v' w1 hown1 hgrow1 _; have HF := (show Hid (Own w.heap.size 5 .u8 w1 v' []) from hown1); have HK : Hid (Same w w1) := ((Kept.refl _ _).alloc _).grown hgrow1 (fun k e => .inl (by simp [Value.ownBlock] at e; omega)); obtain ⟨aa, na, ca, rfl⟩ := slice_of_own HF.out; clear hown1 hgrow1)
   go_ret
   exact ⟨_, _, _, rfl, HF.out.mono (fun b _ => Nat.zero_le b), fun b hb => (HF.out.lt b hb).1, HK.out⟩
 ·have HC : Hid (∀ i, i < bs.length → (w.alloc (.cells #[] 5)).cell? ⟨b, off + i, none⟩ = some (.int .u8 (bs.getD i 0))) := fun i hi => ((Kept.refl (fun _ => False) w).alloc _).cellOf (hc i hi) id
  clear hv hc
  go_enter Try.func56, Try.ntmps56
  go_wp2_with (at_builtin; refine wpList_append_own _ rfl (.tmp 5) (.tmp 6) 22 rfl w.heap.size 5 i0 (.int .u8 0) 1 1 Try.underlying22 hi hz0 hz1 hz2 rfl (by decide) (.slice (some ⟨w.heap.size, 0, none⟩) 0 0) 0 [] rfl (World.ownsRow_made w #[] 0 (Nat.le_refl _) (by simp) (by simp)) ⟨b, off, none⟩ bs.length c (vals .u8 bs) rfl (by simp [vals_length]) (news_of HC.out) vals_one (by unfold maxLen; omega) (by omega) (by simp) ?_; intro v' w1 hown1 hgrow1 _; have HF := (show Hid (Own w.heap.size 5 .u8 w1 v' bs) from (by simpa [Own, Hid] using hown1)); have HK : Hid (Same w w1) := ((Kept.refl _ _).alloc _).grown hgrow1 (fun k e => .inl (by simp [Value.ownBlock] at e; omega)); obtain ⟨aa, na, ca, rfl⟩ := slice_of_own HF.out; clear hown1 hgrow1)
  go_ret
  exact ⟨_, _, _, rfl, HF.out.mono (fun b _ => Nat.zero_le b), fun b hb => (HF.out.lt b hb).1, HK.out⟩
structure Row where
 e : TypeId
 m : Nat
 v : Value
 n : Nat
 xs : List Value
def FootL (rs : List Row) (b : Nat) : Prop := ∃ r ∈ rs, r.v.ownBlock = some b
structure OwnL (w : World) (rs : List Row) : Prop where
 own : ∀ r ∈ rs, w.ownsRow 0 r.e r.m r.v r.n r.xs
 apart : rs.Pairwise (fun r s => Apart r.v s.v)
theorem OwnL.kept {R : Nat → Prop} {w w' : World} {rs : List Row} (h : OwnL w rs) (hk : Kept R w w') (hr : ∀ b, FootL rs b → ¬ R b) : OwnL w' rs :=
 ⟨fun r hm => hk.owns (h.own r hm) (fun b hb => hr b ⟨r, hm, hb⟩), h.apart⟩
theorem OwnL.same {w w' : World} {rs : List Row} (h : OwnL w rs) (hk : Same w w') : OwnL w' rs := h.kept hk (fun _ _ => id)
theorem OwnL.lt {w : World} {rs : List Row} (h : OwnL w rs) (b : Nat) (hb : FootL rs b) : b < w.heap.size := by
 obtain ⟨r, hm, hr⟩ := hb
 exact (World.ownsRow.lt (h.own r hm) b hr).2
theorem OwnL.nil (w : World) : OwnL w [] := ⟨fun r hr => absurd hr (by simp), List.Pairwise.nil⟩
theorem FootL_one (r : Row) (b : Nat) : FootL [r] b ↔ r.v.ownBlock = some b := by simp [FootL]
theorem OwnL.append {w : World} {rs ss : List Row} (h : OwnL w rs) (h' : OwnL w ss) (hd : ∀ b, FootL rs b → ¬ FootL ss b) : OwnL w (rs ++ ss) := by
 refine ⟨fun r hr => ?_, List.pairwise_append.2 ⟨h.apart, h'.apart, fun r hr s hs b hb hs' => hd b ⟨r, hr, hb⟩ ⟨s, hs, hs'⟩⟩⟩
 rcases List.mem_append.1 hr with hr | hr
 ·exact h.own r hr
 ·exact h'.own r hr
theorem OwnL.right {w : World} {rs ss : List Row} (h : OwnL w (rs ++ ss)) : OwnL w ss := ⟨fun r hr => h.own r (List.mem_append_right _ hr), (List.pairwise_append.1 h.apart).2.1⟩
theorem OwnL.cut {w : World} {rs ss : List Row} (h : OwnL w (rs ++ ss)) (b : Nat) (hr : FootL rs b) : ¬ FootL ss b := by
 obtain ⟨r, hm, hb⟩ := hr
 rintro ⟨s, hs, hb'⟩
 exact (List.pairwise_append.1 h.apart).2.2 r hm s hs b hb hb'
def ints (e : TypeId) (k : IntKind) (v : Value) (bs : List Int) : Row := ⟨e, 1, v, bs.length, vals k bs⟩
theorem OwnL.one {w : World} {e : TypeId} {k : IntKind} {v : Value} {bs : List Int} (h : Own 0 e k w v bs) : OwnL w [ints e k v bs] :=
 ⟨fun r hr => by rw [List.mem_singleton.1 hr]; exact h, List.pairwise_singleton _ _⟩
theorem OwnL.of_one {w : World} {e : TypeId} {k : IntKind} {v : Value} {bs : List Int} (h : OwnL w [ints e k v bs]) : Own 0 e k w v bs :=
 h.own _ (List.mem_singleton.2 rfl)
theorem footL_ints (e : TypeId) (k : IntKind) (v : Value) (bs : List Int) (b : Nat) : FootL [ints e k v bs] b ↔ v.ownBlock = some b := FootL_one _ _
structure BS where
 e : TypeId
 a : Option Addr
 c : Nat
 bs : List Int
def BS.v (x : BS) : Value := .slice x.a x.bs.length x.c
def BS.rows (x : BS) : List Row := [ints x.e .u8 x.v x.bs]
def BS.marked (x : BS) (k : Int) : BS := ⟨x.e, x.a, x.c, marks k x.bs.length⟩
theorem BS.foot_marked (x : BS) (k : Int) (b : Nat) : FootL (x.marked k).rows b ↔ FootL x.rows b := by
 simp only [BS.rows, footL_ints, BS.v, BS.marked]
 exact Iff.of_eq (by cases x.a <;> rfl)
theorem BS.own_marked {w : World} {e : TypeId} {a : Option Addr} {c : Nat} {bs : List Int} {k : Int} : OwnL w (BS.rows (BS.marked ⟨e, a, c, bs⟩ k)) ↔ OwnL w [ints e .u8 (.slice a bs.length c) (marks k bs.length)] := by
 simp only [BS.rows, BS.marked, BS.v, marks_length]
structure FR where
 e : TypeId
 a : Option Addr
 n : Nat
 c : Nat
 bs : List Int
def FR.v (x : FR) : Value := .slice x.a x.n x.c
def FR.rows (m : Nat) (x : FR) : List Row := [⟨x.e, m, x.v, x.n, vals .i64 x.bs⟩]
def marksI (k : Int) (n : Nat) : List Int := (List.range n).map fun (i : Nat) => k + (i : Int)
def FR.marked (x : FR) (k : Int) : FR := ⟨x.e, x.a, x.n, x.c, marksI k x.bs.length⟩
theorem FR.foot_marked (m : Nat) (x : FR) (k : Int) (b : Nat) : FootL ((x.marked k).rows m) b ↔ FootL (x.rows m) b := by
 simp only [FR.rows, FootL_one]
 rfl
structure StPageRecord where
 used : Bool
 data : BS
def StPageRecord.val (x : StPageRecord) : Value := .agg #[.bool x.used, x.data.v]
def StPageRecord.rows (x : StPageRecord) : List Row := x.data.rows
def StPageRecord.dat (x : StPageRecord) : Bool × List Int := (x.used, x.data.bs)
def StPageRecord.size (x : StPageRecord) : Int := (x.data.bs.length : Int)
theorem StPageRecord.size_le (x : StPageRecord) : 0 ≤ x.size := by
 unfold StPageRecord.size
 omega
def StPageRecord.marked (x : StPageRecord) (k : Int) : StPageRecord := ⟨x.used, x.data.marked (k)⟩
theorem StPageRecord.foot_marked (x : StPageRecord) (k : Int) (b : Nat) : FootL (x.marked k).rows b ↔ FootL x.rows b := by
 exact BS.foot_marked _ _ b
def StPageRecord.rd (w : World) (x : StPageRecord) : Prop := Rd .u8 w x.data.v x.data.bs
theorem StPageRecord.rd.kept {R : Nat → Prop} {w w' : World} {x : StPageRecord} (h : StPageRecord.rd w x) (hk : Kept R w w') (hr : ∀ b, FootL x.rows b → ¬ R b) : StPageRecord.rd w' x :=
 Rd.kept (h) hk (fun b hb => hr b (((footL_ints _ _ _ _ _).2 hb)))
theorem StPageRecord.rd.same {w w' : World} {x : StPageRecord} (h : StPageRecord.rd w x) (hk : Same w w') : StPageRecord.rd w' x := h.kept hk (fun _ _ => id)
theorem eqPageRecord_own (x y : StPageRecord) (w : World) (hn : x.size ≤ 1125899906842624) (hd : x.dat = y.dat) (ha : OwnL w x.rows) (hb : OwnL w y.rows) :
  Calls Try.prog 30 #[x.val, y.val] w fun e w' => e = .returned (.bool true) ∧ Same w w' := by
 obtain ⟨xused, ⟨xdata_e, xdata_a, xdata_c, xdata_b⟩⟩ := x
 obtain ⟨yused, ⟨ydata_e, ydata_a, ydata_c, ydata_b⟩⟩ := y
 simp only [StPageRecord.dat, Prod.mk.injEq] at hd
 obtain ⟨rfl, rfl⟩ := hd
 simp only [StPageRecord.size] at hn
 have Hx0 := (show Hid (OwnL w [ints xdata_e .u8 (.slice xdata_a xdata_b.length xdata_c) xdata_b]) from ha)
 have Hy0 := (show Hid (OwnL w [ints ydata_e .u8 (.slice ydata_a xdata_b.length ydata_c) xdata_b]) from hb)
 clear ha hb
 dsimp only [StPageRecord.val, BS.v]
 go_enter Try.func30, Try.ntmps30
 have hk0 : Same w ((w.alloc (.cells #[.bool xused, .slice xdata_a xdata_b.length xdata_c] 41)).alloc (.cells #[.bool xused, .slice ydata_a xdata_b.length ydata_c] 41)) := ((Kept.refl _ _).alloc _).alloc _
 have HK0 := (show Hid (Same w _) from hk0)
 obtain ⟨_, HBx0, HBy0⟩ := new2 w [.bool xused, .slice xdata_a xdata_b.length xdata_c] 41 [.bool xused, .slice ydata_a xdata_b.length ydata_c] 41
 clear hk0
 go_wp2_with fail
 refine (eqByteS_own 0 _ _ xdata_b _ (by omega) (Hx0.out.of_one.same HK0.out) (Hy0.out.of_one.same HK0.out)).mono ?_
 rintro e w1 ⟨rfl, nn, hww⟩
 have hk : Same ((w.alloc (.cells #[.bool xused, .slice xdata_a xdata_b.length xdata_c] 41)).alloc (.cells #[.bool xused, .slice ydata_a xdata_b.length ydata_c] 41)) w1 := by rw [hww]; exact (Kept.refl _ _).drewN _
 clear hww
 have HK1 := hid (HK0.out.trans hk)
 have HBx1 := hid (HBx0.out.same hk)
 have HBy1 := hid (HBy0.out.same hk)
 clear hk HK0 HBx0 HBy0
 go_wp2
 go_ret
 exact ⟨rfl, HK1.out⟩
theorem markPageRecord_own (x : StPageRecord) (k0 : Int) (w : World) (h0 : 0 ≤ k0) (h1 : k0 + x.size ≤ 1125899906842624) (ha : OwnL w x.rows) :
  Calls Try.prog 31 #[x.val, .int .i64 k0] w fun e w' => e = .returned (.int .i64 (k0 + x.size)) ∧ OwnL w' (x.marked k0).rows ∧ Kept (FootL x.rows) w w' := by
 have hlt := ha.lt
 have HLT := (show Hid (∀ b, FootL x.rows b → b < w.heap.size) from hlt)
 have HA := (show Hid (OwnL w x.rows) from ha)
 clear hlt
 obtain ⟨xused, ⟨xdata_e, xdata_a, xdata_c, xdata_b⟩⟩ := x
 have HO0_0 := (show Hid (OwnL w [ints xdata_e .u8 (.slice xdata_a xdata_b.length xdata_c) xdata_b]) from ha)
 clear ha
 simp only [StPageRecord.size] at h1
 dsimp only [StPageRecord.val, BS.v]
 go_enter Try.func31, Try.ntmps31
 have HK_0 := (show Hid (Kept (FootL (StPageRecord.rows ⟨xused, ⟨xdata_e, xdata_a, xdata_c, xdata_b⟩⟩)) w (w.alloc (.cells #[.bool xused, .slice xdata_a xdata_b.length xdata_c] 41))) from (Kept.refl _ _).alloc _)
 have HB_0 := hid (Blk.newL w [.bool xused, .slice xdata_a xdata_b.length xdata_c] 41)
 go_wp2_with fail
 refine (markByteS_own 0 _ xdata_b (k0) _ (by omega) (by omega) (by omega) (OwnL.of_one (HO0_0.out.same ((Kept.refl _ _).alloc _)))).mono ?_
 rintro e w1 ⟨rfl, ho, hk⟩
 have ho := (show OwnL w1 (BS.rows (BS.marked ⟨xdata_e, xdata_a, xdata_c, xdata_b⟩ (k0))) from BS.own_marked.2 (OwnL.one ho))
 have hk : Kept (FootL [ints xdata_e .u8 (.slice xdata_a xdata_b.length xdata_c) xdata_b]) _ w1 := hk.mono (fun b _ e => (footL_ints _ _ _ _ _).2 e)
 have HB_1 := (show Hid (Blk w1 w.heap.size 41 [.bool xused, .slice xdata_a xdata_b.length xdata_c]) from HB_0.out.kept hk (fun e => by have := HLT.out _ (e); omega))
 have HK_1 := (show Hid (Kept (FootL (StPageRecord.rows ⟨xused, ⟨xdata_e, xdata_a, xdata_c, xdata_b⟩⟩)) w w1) from HK_0.out.next hk (fun b _ e => e))
 have HO0_1 := (show Hid (OwnL w1 (BS.rows (BS.marked ⟨xdata_e, xdata_a, xdata_c, xdata_b⟩ (k0)))) from ho)
 clear ho hk HB_0 HK_0 HO0_0
 go_wp2
 go_ret
 refine ⟨rfl, ?_, HK_1.out⟩
 exact HO0_1.out
theorem heldPageRecord_own (x : StPageRecord) (k0 : Int) (w : World) (h0 : 0 ≤ k0) (h1 : k0 + x.size ≤ 1125899906842624) (ha : OwnL w (x.marked k0).rows) :
  Calls Try.prog 32 #[x.val, .int .i64 k0] w fun e w' => e = .returned (.int .i64 (k0 + x.size)) ∧ Same w w' := by
 obtain ⟨xused, ⟨xdata_e, xdata_a, xdata_c, xdata_b⟩⟩ := x
 have HO0 := (show Hid (OwnL w [ints xdata_e .u8 (.slice xdata_a xdata_b.length xdata_c) (marks (k0) xdata_b.length)]) from BS.own_marked.1 (ha))
 clear ha
 simp only [StPageRecord.size] at h1
 dsimp only [StPageRecord.val, BS.v]
 go_enter Try.func32, Try.ntmps32
 obtain ⟨HK0, HB0⟩ := new1 w [.bool xused, .slice xdata_a xdata_b.length xdata_c] 41
 have hneg0 : ¬ (k0 + (xdata_b.length : Int)) < 0 := by omega
 go_wp2_with fail
 refine (heldByteS_own 0 _ xdata_b.length (k0) _ (by omega) (by omega) (by omega) (OwnL.of_one (HO0.out.same HK0.out))).mono ?_
 rintro e w1 ⟨rfl, hww⟩
 have hk : Same (w.alloc (.cells #[.bool xused, .slice xdata_a xdata_b.length xdata_c] 41)) w1 := by rw [hww]; exact Kept.refl _ _
 clear hww
 have HK1 := hid (HK0.out.trans hk)
 have HB1 := hid (HB0.out.same hk)
 clear hk
 go_wp2
 go_ret
 exact ⟨rfl, HK1.out⟩
theorem ownOK_len {raw : List Int} (h : ownOK raw = true) : raw.length = 4096 := by unfold ownOK at h; simp at h; exact h.1
theorem ownOK_parts {raw : List Int} (h : ownOK raw = true) : 148 ≤ numAt raw 16 2 ∧ numAt raw 16 2 ≤ 4096 ∧ astray (numAt raw 16 2) (slotsOf raw) = false ∧ share (slotsOf raw) = false := by
 have hl := ownOK_len h
 unfold ownOK pageFault faultP at h
 simp only [hl, ne_eq, not_true_eq_false, if_false] at h
 simp only [beq_self_eq_true, Bool.true_and] at h
 by_cases h2 : headBad (raw.take 4) (numAt raw 4 8) (numAt raw 12 4) (numAt raw 16 2) (slotsOf raw) raw = true
 ·simp [h2] at h
 by_cases h3 : numAt raw 16 2 < 148 ∨ 4096 < numAt raw 16 2
 ·simp [h2, h3] at h
 by_cases h4 : astray (numAt raw 16 2) (slotsOf raw) = true
 ·simp [h2, h3, h4] at h
 by_cases h5 : share (slotsOf raw) = true
 ·simp [h2, h3, h4, h5] at h
 exact ⟨by omega, by omega, by simpa using h4, by simpa using h5⟩
theorem astray_at {bot : Int} {sl : List Int} (h : astray bot sl = false) (k : Nat) (hk : k < 32) : astrayAt bot (sl.getD (2 * k) 0) (sl.getD (2 * k + 1) 0) = false := by
 cases hx : astrayAt bot (sl.getD (2 * k) 0) (sl.getD (2 * k + 1) 0) with
 | false => rfl
 | true => rw [astray_yes bot sl k hk hx] at h; cases h
theorem ownOK_slot {raw : List Int} (h : ownOK raw = true) (k : Nat) (hk : k < 32) : ((slotsOf raw).getD (2 * k) 0 = 0 ∧ (slotsOf raw).getD (2 * k + 1) 0 = 0) ∨
  ((slotsOf raw).getD (2 * k) 0 ≠ 0 ∧ (slotsOf raw).getD (2 * k + 1) 0 ≤ 1000 ∧ 148 ≤ (slotsOf raw).getD (2 * k) 0 ∧ (slotsOf raw).getD (2 * k) 0 + (slotsOf raw).getD (2 * k + 1) 0 ≤ 4096) := by
 obtain ⟨h1, h2, h3, h4⟩ := ownOK_parts h
 rcases not_astray _ _ _ (astray_at h3 k hk) with h | ⟨a, b, c, d⟩
 ·exact .inl h
 ·exact .inr ⟨a, b, by omega, d⟩
def stretch (raw : List Int) (x y : Int) : List Int := (raw.drop x.toNat).take y.toNat
theorem SP.rdRaw {w : World} {P : Nat} {sum : List Int} {lsn num bot : Int} {sl raw : List Int} (h : SP w P sum lsn num bot sl raw) (x y : Nat) (c : Nat) (hxy : x + y ≤ 4096) (hc : y ≤ c) : Rd .u8 w (.slice (some ⟨P, 71 + x, none⟩) y c) ((raw.drop x).take y) := by
 have hl : ((raw.drop x).take y).length = y := by simp [h.l3]; omega
 refine ⟨by rw [hl]; unfold maxLen; omega, .inr ⟨P, 71 + x, c, by rw [hl], by rw [hl]; exact hc, fun i hi => ?_⟩⟩
 rw [hl] at hi
 rw [show 71 + x + i = 71 + (x + i) from by omega, h.rawAt (x + i) (by omega)]
 simp [List.getD, List.getElem?_take, List.getElem?_drop, hi]
theorem record_any (P : Nat) (sum : List Int) (lsn num bot : Int) (sl raw : List Int) (x y : Nat) (w : World) (hp : SP w P sum lsn num bot sl raw) (hxy : x + y ≤ 4096) :
  Calls Try.prog 57 #[.pointer (some ⟨P, 0, none⟩), .agg #[.int .i64 x, .int .i64 y]] w fun e w' => ∃ a c, e = .returned (.slice a y c) ∧ Rd .u8 w' (.slice a y c) ((raw.drop x).take y) ∧ Same w w' := by
 have hx : (0 : Int) ≤ x ∧ (x : Int) ≤ 65535 := by omega
 have hy : (0 : Int) ≤ y ∧ (y : Int) ≤ 65535 := by omega
 have HP := (show Hid (SP w P sum lsn num bot sl raw) from hp)
 have hrun : ∀ wx : World, (Instr.sliceAt 70 (.pointer (some ⟨P, 71, none⟩)) (some (.int .i64 (x : Int))) (some (.int .i64 ((x : Int) + (y : Int)))) none).run Try.prog wx = .ok (.slice (some (if 4096 = x then ⟨P, 71, none⟩ else ⟨P, 71 + x, none⟩)) y (4096 - x)) wx := by
  intro wx
  have hal : Try.prog.arrayLen 70 = 4096 := by kernel_rfl
  rw [run_sliceAt_array_lh wx 70 ⟨P, 71, none⟩ (by kernel_rfl) .i64 .i64 x (x + y) (by omega) (by omega) (by rw [hal]; omega), hal]
  have hsz : (sizeOf (Try.prog.elem 70)).run Try.prog wx = .ok 1 wx := by kernel_rfl
  rw [hsz]
  have e1 : ((x : Int) + (y : Int)).toNat - ((x : Int)).toNat = y := by omega
  simp only [Result.andThen, slicedAt, Int.toNat_natCast, Nat.mul_one]
  rw [show ((x : Int) + (y : Int)).toNat - x = y from by omega, addr_add]
 obtain ⟨A, hA⟩ : ∃ A : Addr, (if 4096 = x then ⟨P, 71, none⟩ else ⟨P, 71 + x, none⟩) = A := ⟨_, rfl⟩
 have HA := (show Hid ((if 4096 = x then (⟨P, 71, none⟩ : Addr) else ⟨P, 71 + x, none⟩) = A) from hA)
 rw [hA] at hrun
 clear hp hA
 go_enter Try.func57, Try.ntmps57
 go_wp2_with fail
 have hb1 := Blk.new w #[.int .i64 x, .int .i64 y] 67
 have hk1 : Same w (w.alloc (.cells #[.int .i64 x, .int .i64 y] 67)) := (Kept.refl _ _).alloc _
 obtain ⟨w1, hw1⟩ : ∃ w1, w.alloc (.cells #[.int .i64 x, .int .i64 y] 67) = w1 := ⟨_, rfl⟩
 rw [hw1] at hb1 hk1 ⊢
 clear hw1
 let Y1 : World → Prop := fun wx : World => wx.cell? ⟨w.heap.size, 0, none⟩ = some (.int .i64 x) ∧ wx.cell? ⟨w.heap.size, 1, none⟩ = some (.int .i64 y)
 have hSx : ∀ wx, Same w1 wx → Y1 wx := fun wx h => ⟨by rw [(hb1.same h).cell]; rfl, by rw [(hb1.same h).cell]; rfl⟩
 have hS : Y1 w1.drew := by exact hSx _ (Kept.refl _ _).drew
 refine wp_region_V Y1 8 9 rfl (by kernel_rfl) ?_
 refine tk 0 5 hS ?_
 refine tk 1 6 hS ?_
 refine tk 2 7 hS ?_
 refine tk 3 8 hS ?_
 refine tk 4 9 hS ?_
 refine tk 5 10 hS ?_
 refine wpAnyV_one (i := 6) (by kernel_rfl) rfl (fun K hK => ?_)
 go_simp
 have hc := end_any x y w1.drew hx hy
 with_reducible refine hc.mono ?_
 clear hc
 rintro e w2 ⟨rfl, hkk⟩
 have hkw2 : Same w1 w2 := Kept.trans ((Kept.refl _ _).drew) hkk
 clear hkk
 have hS : Y1 w2 := hSx _ hkw2
 refine hK.out _ _ (fun _ => hS) ?_
 clear hK K
 try simp only [Act.put, sA, s0, sS]
 refine wpAnyV_take (i := 7) (v := .slice (some A) y (4096 - x)) (some 12) rfl rfl (by kernel_rfl) (by kernel_rfl) (by kernel_rfl) (by kernel_rfl) (fun _ _ _ h => h) (Or.inl ⟨by rfl, fun wx hSw => by have h := hrun wx; go_simp⟩) hS ?_
 try simp only [Act.put, sA, s0, sS]
 refine wpAnyV_one (i := 8) (by kernel_rfl) rfl (fun K hK => ?_)
 go_simp
 refine hK.out _ _ (fun h => absurd rfl h) ?_
 clear hK K
 refine wpAnyV_done (by kernel_rfl) ?_
 try simp only [Act.put, sA, s0, sS]
 go_wp2
 go_ret
 refine ⟨_, _, rfl, ?_, hk1.trans hkw2⟩
 have hsp := HP.out.same (hk1.trans hkw2)
 rw [← HA.out]
 by_cases h : 4096 = x
 ·obtain rfl : y = 0 := by omega
  rw [if_pos h, List.take_zero]
  exact ⟨by simp, .inl ⟨rfl, _, _, rfl, fun h => by cases h⟩⟩
 ·rw [if_neg h]
  exact hsp.rdRaw x y (4096 - x) hxy (by omega)
def pageGet (raw : List Int) (s : Int) : Bool × List Int :=
 if ownOK raw = true ∧ 0 ≤ s ∧ s < 32 ∧ (slotsOf raw).getD (2 * s.toNat) 0 ≠ 0 then (true, stretch raw ((slotsOf raw).getD (2 * s.toNat) 0) ((slotsOf raw).getD (2 * s.toNat + 1) 0)) else (false, [])
theorem pageGet_yes {raw : List Int} {k : Nat} (h : ownOK raw = true) (hk : k < 32) (h0 : (slotsOf raw).getD (2 * k) 0 ≠ 0) : pageGet raw k = (true, stretch raw ((slotsOf raw).getD (2 * k) 0) ((slotsOf raw).getD (2 * k + 1) 0)) := by
 unfold pageGet
 rw [if_pos ⟨h, by omega, by omega, by simpa using h0⟩]
 rfl
theorem pageGet_no {raw : List Int} {s : Int} (h : ownOK raw = false ∨ s < 0 ∨ 32 ≤ s ∨ (slotsOf raw).getD (2 * s.toNat) 0 = 0) : pageGet raw s = (false, []) := by
 unfold pageGet
 rw [if_neg]
 rintro ⟨h1, h2, h3, h4⟩
 rcases h with h | h | h | h
 ·rw [h1] at h; cases h
 ·omega
 ·omega
 ·exact h4 h
theorem pageGet_small {y : StPageRecord} {raw : List Int} {s : Int} (h : y.dat = pageGet raw s) : y.size ≤ 1099511627776 := by
 have h2 : y.data.bs = (pageGet raw s).2 := congrArg Prod.snd h
 have h3 : (pageGet raw s).2.length ≤ 4096 := by
  unfold pageGet
  split
  ·next h => simp [stretch, ownOK_len h.1]; omega
  ·simp
 unfold StPageRecord.size
 rw [h2]
 omega
theorem isSlot_any (s : Int) (w : World) : Calls Try.prog 54 #[.int .i64 s] w fun e w' => e = .returned (.bool (decide (0 ≤ s) && decide (s < 32))) ∧ Same w w' := by
 by_cases h : 0 ≤ s
 ·by_cases h2 : s < 32
  ·have h2' : ¬ (32 ≤ s) := by omega
   go_enter Try.func54, Try.ntmps54
   go_wp2
   go_ret
   exact ⟨by simp [h, h2], Kept.refl _ _⟩
  ·have h2' : (32 ≤ s) := by omega
   go_enter Try.func54, Try.ntmps54
   go_wp2
   go_ret
   exact ⟨by simp [h, h2], Kept.refl _ _⟩
 ·go_enter Try.func54, Try.ntmps54
  go_wp2
  go_ret
  exact ⟨by rw [show decide (0 ≤ s) = false from by simp; omega]; rfl, Kept.refl _ _⟩
theorem Rd.cut {w : World} {b off c : Nat} {raw : List Int} (h : Rd .u8 w (.slice (some ⟨b, off, none⟩) raw.length c) raw) (x y : Nat) (hxy : x + y ≤ raw.length) :
  Rd .u8 w (.slice (some (if c = x then ⟨b, off, none⟩ else ⟨b, off + x, none⟩)) y (c - x)) ((raw.drop x).take y) := by
 have hl : ((raw.drop x).take y).length = y := by simp; omega
 rcases h.2 with ⟨rfl, _⟩ | ⟨b', off', c', he, hle, hc⟩
 ·simp at hxy
  obtain ⟨rfl, rfl⟩ := hxy
  exact ⟨by simp, .inl ⟨by simp, _, _, rfl, fun h => by cases h⟩⟩
 ·injection he with h1 h2 h3
  injection h1 with h1
  injection h1 with h1 h4
  subst h1 h4 h3
  by_cases h0 : y = 0
  ·subst h0
   exact ⟨by rw [hl]; simp, .inl ⟨by simp, _, _, rfl, fun h => by cases h⟩⟩
  ·rw [if_neg (by omega)]
   refine ⟨by have := h.1; omega, .inr ⟨b, off + x, c - x, by rw [hl], by omega, fun i hi => ?_⟩⟩
   rw [hl] at hi
   rw [Nat.add_assoc, hc (x + i) (by omega)]
   simp [List.getD, List.getElem?_take, List.getElem?_drop, hi]
theorem Rd.part {k : IntKind} {w : World} {b off n c : Nat} {bs : List Int} (h : ∀ i, i < bs.length → w.cell? ⟨b, off + i, none⟩ = some (.int k (bs.getD i 0))) (lo m : Nat) (hm : lo + m ≤ bs.length) (hn : n = m) (hc : m ≤ c) (hmax : m ≤ maxLen) :
  Rd k w (.slice (some ⟨b, off + lo, none⟩) n c) ((bs.drop lo).take m) := by
 have hl : ((bs.drop lo).take m).length = m := by simp; omega
 refine ⟨by omega, .inr ⟨b, off + lo, c, by rw [hn, hl], by rw [hl]; exact hc, fun i hi => ?_⟩⟩
 rw [hl] at hi
 have h1 := h (lo + i) (by omega)
 rw [← Nat.add_assoc] at h1
 rw [h1]
 simp [List.getD, hi]
theorem zeroPR_own (w : World) : OwnL w (StPageRecord.rows ⟨false, ⟨0, none, 0, []⟩⟩) := OwnL.one (Own.nil 0 0 .u8 w)
theorem zeroPR_foot (b : Nat) : ¬ FootL (StPageRecord.rows ⟨false, ⟨0, none, 0, []⟩⟩) b := fun h => by have := (footL_ints _ _ _ _ _).1 h; simp [BS.v, Value.ownBlock] at this
theorem wellFormed_yes (v : Value) (raw : List Int) (w : World) (hB : IsB raw) (hn : raw.length ≤ 1099511627776) (hv : Rd .u8 w v raw) (hok : ownOK raw = true) :
  Calls Try.prog 40 #[v] w fun e w' => ∃ P, e = .returned (.pointer (some ⟨P, 0, none⟩)) ∧ w.heap.size ≤ P ∧ SP w' P (raw.take 4) (numAt raw 4 8) (numAt raw 12 4) (numAt raw 16 2) (slotsOf raw) raw ∧ Same w w' := by
 refine (wellFormed_any v raw w hB hn hv).mono ?_
 rintro e w1 ⟨hk, ⟨_, P, rfl, hP, hsp⟩ | ⟨hno, rfl⟩⟩
 ·exact ⟨P, rfl, hP, hsp, hk⟩
 ·rw [hok] at hno; cases hno
theorem wellFormed_no (v : Value) (raw : List Int) (w : World) (hB : IsB raw) (hn : raw.length ≤ 1099511627776) (hv : Rd .u8 w v raw) (hok : ownOK raw = false) :
  Calls Try.prog 40 #[v] w fun e w' => e = .returned (.pointer none) ∧ Same w w' := by
 refine (wellFormed_any v raw w hB hn hv).mono ?_
 rintro e w1 ⟨hk, ⟨hyes, P, rfl, hP, hsp⟩ | ⟨hno, rfl⟩⟩
 ·rw [hok] at hyes; cases hyes
 ·exact ⟨rfl, hk⟩
theorem implPageGet_any (v : Value) (raw : List Int) (s : Int) (w : World) (hB : IsB raw) (hn : raw.length ≤ 1099511627776) (hv : Rd .u8 w v raw) :
  Calls Try.prog 29 #[v, .int .i64 s] w fun e w' => ∃ y : StPageRecord, e = .returned y.val ∧ y.dat = pageGet raw s ∧ (∀ b, FootL y.rows b → w.heap.size ≤ b) ∧ OwnL w' y.rows ∧ Same w w' := by
 have b0 := Blk.new w #[.bool false, .slice none 0 0] 41
 have hr0 := hv.same ((Kept.refl _ w).alloc (.cells #[.bool false, .slice none 0 0] 41))
 cases hok : ownOK raw with
 | false =>
  have h := wellFormed_no v raw _ hB hn hr0 hok
  rw [pageGet_no (.inl hok)]
  clear hv hB hr0
  go_enter Try.func29, Try.ntmps29
  go_wp2_with (go_at_call 40; refine h.mono ?_; rintro e w1 ⟨rfl, hk⟩; have b1 := b0.same hk; have c0 : w1.cell? ⟨w.heap.size, 0, none⟩ = some (.bool false) := b1.cell 0; have c1 : w1.cell? ⟨w.heap.size, 1, none⟩ = some (.slice none 0 0) := b1.cell 1; have f0 := b1.frozen 0; have f1 := b1.frozen 1)
  have hk2 := ((((Kept.refl _ w).alloc _).trans hk).setCell (p := ⟨w.heap.size, 0, none⟩) (.inl (Nat.le_refl _)) (.bool false)).setCell (p := ⟨w.heap.size, 1, none⟩) (.inl (Nat.le_refl _)) (.slice none 0 0)
  refine bodyPost_ret (v := .agg #[.bool false, .slice none 0 0]) (by simp [results, Try.results29, go_sem, c0, c1]) rfl ⟨⟨false, ⟨0, none, 0, []⟩⟩, rfl, rfl, fun b hb => absurd hb (zeroPR_foot b), zeroPR_own _, hk2⟩
 | true =>
  have hl := ownOK_len hok
  have h := wellFormed_yes v raw _ hB hn hr0 hok
  by_cases hs : 0 ≤ s ∧ s < 32
  ·obtain ⟨k, rfl⟩ : ∃ k : Nat, s = k := ⟨s.toNat, by omega⟩
   have hk32 : k < 32 := by omega
   have hS := fun wx => isSlot_any k wx
   rw [show (decide (0 ≤ (k : Int)) && decide ((k : Int) < 32)) = true from by simp; omega] at hS
   have hsl := ownOK_slot hok k hk32
   have hsm := slotsOf_small raw hB hl
   have hx := hsm.at (2 * k)
   have hy := hsm.at (2 * k + 1)
   have HS := (show Hid (∀ P wx, SP wx P (raw.take 4) (numAt raw 4 8) (numAt raw 12 4) (numAt raw 16 2) (slotsOf raw) raw → wx.cell? ⟨P, 7 + k * 2, none⟩ = some (.int .i64 ((slotsOf raw).getD (2 * k) 0)) ∧ wx.cell? ⟨P, 7 + k * 2 + 1, none⟩ = some (.int .i64 ((slotsOf raw).getD (2 * k + 1) 0))) from fun P wx h => ⟨by rw [Nat.mul_comm]; exact h.slAt (2 * k) (by omega), by rw [Nat.mul_comm, Nat.add_assoc]; exact h.slAt (2 * k + 1) (by omega)⟩)
   by_cases h0 : (slotsOf raw).getD (2 * k) 0 = 0
   ·rw [pageGet_no (raw := raw) (s := k) (.inr (.inr (.inr h0)))]
    have hU := fun y wx => used_any 0 y wx
    rw [h0] at HS
    clear hv hB hr0
    go_enter Try.func29, Try.ntmps29
    go_wp2_with (first
     | (go_at_call 40; refine h.mono ?_; rintro e w1 ⟨P, rfl, hP, hsp, hk⟩; have b1 := b0.same hk)
     | (go_at_call 54; refine (hS _).mono ?_; rintro e w2 ⟨rfl, hk2⟩; have b2 := b1.same hk2; have hsp2 := hsp.same hk2; obtain ⟨q0, q1⟩ := HS.out P w2 hsp2)
     | (go_at_call 55; refine (hU _ _).mono ?_; rintro e w3 ⟨rfl, hk3⟩; have b3 := b2.same hk3; have c0 : w3.cell? ⟨w.heap.size, 0, none⟩ = some (.bool false) := b3.cell 0; have c1 : w3.cell? ⟨w.heap.size, 1, none⟩ = some (.slice none 0 0) := b3.cell 1; have f0 := b3.frozen 0; have f1 := b3.frozen 1))
    have hk4 := ((((((Kept.refl _ w).alloc _).trans hk).trans hk2).trans hk3).setCell (p := ⟨w.heap.size, 0, none⟩) (.inl (Nat.le_refl _)) (.bool false)).setCell (p := ⟨w.heap.size, 1, none⟩) (.inl (Nat.le_refl _)) (.slice none 0 0)
    refine bodyPost_ret (v := .agg #[.bool false, .slice none 0 0]) (by simp [results, Try.results29, go_sem, c0, c1]) rfl ⟨⟨false, ⟨0, none, 0, []⟩⟩, rfl, rfl, fun b hb => absurd hb (zeroPR_foot b), zeroPR_own _, hk4⟩
   ·rw [pageGet_yes hok hk32 h0]
    obtain ⟨x, hxe⟩ : ∃ x : Nat, (slotsOf raw).getD (2 * k) 0 = x := ⟨((slotsOf raw).getD (2 * k) 0).toNat, by omega⟩
    obtain ⟨y, hye⟩ : ∃ y : Nat, (slotsOf raw).getD (2 * k + 1) 0 = y := ⟨((slotsOf raw).getD (2 * k + 1) 0).toNat, by omega⟩
    have hxy : x + y ≤ 4096 := by omega
    have hx0 : ¬ (x : Int) = 0 := by omega
    rw [hxe, hye] at HS ⊢
    have hU := fun wx => used_any x y wx
    rw [show ((x : Int) != 0) = true from by simpa using hx0] at hU
    have hst : stretch raw x y = (raw.drop x).take y := rfl
    rw [hst]
    have hR := fun P wx (h : SP wx P (raw.take 4) (numAt raw 4 8) (numAt raw 12 4) (numAt raw 16 2) (slotsOf raw) raw) => record_any P _ _ _ _ _ raw x y wx h hxy
    have hlen : ((raw.drop x).take y).length ≤ 1099511627776 := by simp; omega
    obtain ⟨bs, hbs⟩ : ∃ bs, (raw.drop x).take y = bs := ⟨_, rfl⟩
    rw [hbs] at hR hlen ⊢
    clear hv hB hr0 hxe hye hsl h0 hx hy hsm hbs hst
    go_enter Try.func29, Try.ntmps29
    go_wp2_with (first
     | (go_at_call 40; refine h.mono ?_; rintro e w1 ⟨P, rfl, hP, hsp, hk⟩; have b1 := b0.same hk)
     | (go_at_call 54; refine (hS _).mono ?_; rintro e w2 ⟨rfl, hk2⟩; have b2 := b1.same hk2; have hsp2 := hsp.same hk2; obtain ⟨q0, q1⟩ := HS.out P w2 hsp2)
     | (go_at_call 55; refine (hU _).mono ?_; rintro e w3 ⟨rfl, hk3⟩; have b3 := b2.same hk3; have hsp3 := hsp2.same hk3; obtain ⟨q0', q1'⟩ := HS.out P w3 hsp3)
     | (go_at_call 57; refine (hR P w3 hsp3).mono ?_; rintro e w4 ⟨a4, c4, rfl, hrd, hk4⟩; have b4 := b3.same hk4)
     | (go_at_call 56; refine (clone_any _ bs _ hlen hrd).mono ?_; rintro e w5 ⟨a5, n5, c5, rfl, hown, hfr, hk5⟩; have b5 := b4.same hk5; have c0 : w5.cell? ⟨w.heap.size, 0, none⟩ = some (.bool false) := b5.cell 0; have c1 : w5.cell? ⟨w.heap.size, 1, none⟩ = some (.slice none 0 0) := b5.cell 1; have f0 := b5.frozen 0; have f1 := b5.frozen 1))
    obtain rfl : n5 = bs.length := by obtain ⟨_, _, he⟩ := hown.rd.form; injection he
    have hb5 := b5.lt
    have hb4 := b4.lt
    have hkw := ((((((Kept.refl (fun _ => False) w).alloc _).trans hk).trans hk2).trans hk3).trans hk4).trans hk5
    have hkz := (hkw.setCell (p := ⟨w.heap.size, 0, none⟩) (.inl (Nat.le_refl _)) (.bool true)).setCell (p := ⟨w.heap.size, 1, none⟩) (.inl (Nat.le_refl _)) (.slice a5 bs.length c5)
    have hko : Kept (fun b => b = w.heap.size) w5 ((w5.setCell ⟨w.heap.size, 0, none⟩ (.bool true)).setCell ⟨w.heap.size, 1, none⟩ (.slice a5 bs.length c5)) := ((Kept.refl (fun b => b = w.heap.size) w5).setCell (p := ⟨w.heap.size, 0, none⟩) (.inr rfl) _).setCell (p := ⟨w.heap.size, 1, none⟩) (.inr rfl) _
    refine bodyPost_ret (v := .agg #[.bool true, .slice a5 bs.length c5]) (by simp [results, Try.results29, go_sem, c0, c1]) rfl ⟨⟨true, ⟨5, a5, c5, bs⟩⟩, rfl, rfl, fun b hb => ?_, OwnL.one (hown.kept hko (fun b hb e => ?_)), hkz⟩
    ·have := hfr b ((footL_ints _ _ _ _ _).1 hb); omega
    ·have := hfr b hb; omega
  ·have hg := pageGet_no (raw := raw) (s := s) (by omega)
   rw [hg]
   have hS := fun wx => isSlot_any s wx
   rw [show (decide (0 ≤ s) && decide (s < 32)) = false from by simp; omega] at hS
   clear hv hB hr0
   go_enter Try.func29, Try.ntmps29
   go_wp2_with (first
    | (go_at_call 40; refine h.mono ?_; rintro e w1 ⟨P, rfl, hP, hsp, hk⟩; have b1 := b0.same hk)
    | (go_at_call 54; refine (hS _).mono ?_; rintro e w2 ⟨rfl, hk2⟩; have b2 := b1.same hk2; have c0 : w2.cell? ⟨w.heap.size, 0, none⟩ = some (.bool false) := b2.cell 0; have c1 : w2.cell? ⟨w.heap.size, 1, none⟩ = some (.slice none 0 0) := b2.cell 1; have f0 := b2.frozen 0; have f1 := b2.frozen 1))
   have hk3 := (((((Kept.refl _ w).alloc _).trans hk).trans hk2).setCell (p := ⟨w.heap.size, 0, none⟩) (.inl (Nat.le_refl _)) (.bool false)).setCell (p := ⟨w.heap.size, 1, none⟩) (.inl (Nat.le_refl _)) (.slice none 0 0)
   refine bodyPost_ret (v := .agg #[.bool false, .slice none 0 0]) (by simp [results, Try.results29, go_sem, c0, c1]) rfl ⟨⟨false, ⟨0, none, 0, []⟩⟩, rfl, rfl, fun b hb => absurd hb (zeroPR_foot b), zeroPR_own _, hk3⟩
theorem specPageGet_any (v : Value) (raw : List Int) (s : Int) (w : World) (hB : IsB raw) (hn : raw.length ≤ 1099511627776) (hv : Rd .u8 w v raw) :
  Calls Try.prog 28 #[v, .int .i64 s] w fun e w' => ∃ y : StPageRecord, e = .returned y.val ∧ y.dat = pageGet raw s ∧ (∀ b, FootL y.rows b → w.heap.size ≤ b) ∧ OwnL w' y.rows ∧ Same w w' := by
 have b0 := Blk.new w #[.bool false, .slice none 0 0] 41
 have hr0 := hv.same ((Kept.refl _ w).alloc (.cells #[.bool false, .slice none 0 0] 41))
 have h := l3Own_any v raw _ hB hn hr0
 by_cases hno : ownOK raw = false ∨ s < 0 ∨ 32 ≤ s
 ·rw [pageGet_no (hno.elim .inl (fun h => h.elim (fun h => .inr (.inl h)) (fun h => .inr (.inr (.inl h)))))]
  have hz : ∀ w1, Same (w.alloc (.cells #[.bool false, .slice none 0 0] 41)) w1 → w1.cell? ⟨w.heap.size, 0, none⟩ = some (.bool false) ∧ w1.cell? ⟨w.heap.size, 1, none⟩ = some (.slice none 0 0) ∧ w1.frozen? ⟨w.heap.size, 0, none⟩ = false ∧ w1.frozen? ⟨w.heap.size, 1, none⟩ = false := fun w1 hk => ⟨(b0.same hk).cell 0, (b0.same hk).cell 1, (b0.same hk).frozen 0, (b0.same hk).frozen 1⟩
  have hz2 : ∀ w1, Same (w.alloc (.cells #[.bool false, .slice none 0 0] 41)) w1 → Same w ((w1.setCell ⟨w.heap.size, 0, none⟩ (.bool false)).setCell ⟨w.heap.size, 1, none⟩ (.slice none 0 0)) := fun w1 hk => ((((Kept.refl _ w).alloc _).trans hk).setCell (p := ⟨w.heap.size, 0, none⟩) (.inl (Nat.le_refl _)) (.bool false)).setCell (p := ⟨w.heap.size, 1, none⟩) (.inl (Nat.le_refl _)) (.slice none 0 0)
  clear b0 hr0 hv hB
  cases hok : ownOK raw with
  | false =>
   rw [hok] at h
   go_enter Try.func28, Try.ntmps28
   go_wp2_with (go_at_call 52; refine h.mono ?_; rintro e w1 ⟨rfl, hk⟩; obtain ⟨c0, c1, f0, f1⟩ := hz w1 hk)
   refine bodyPost_ret (v := .agg #[.bool false, .slice none 0 0]) (by simp [results, Try.results28, go_sem, c0, c1]) rfl ⟨⟨false, ⟨0, none, 0, []⟩⟩, rfl, rfl, fun b hb => absurd hb (zeroPR_foot b), zeroPR_own _, hz2 w1 hk⟩
  | true =>
   rw [hok] at h
   by_cases h1 : s < 0
   ·go_enter Try.func28, Try.ntmps28
    go_wp2_with (go_at_call 52; refine h.mono ?_; rintro e w1 ⟨rfl, hk⟩; obtain ⟨c0, c1, f0, f1⟩ := hz w1 hk)
    refine bodyPost_ret (v := .agg #[.bool false, .slice none 0 0]) (by simp [results, Try.results28, go_sem, c0, c1]) rfl ⟨⟨false, ⟨0, none, 0, []⟩⟩, rfl, rfl, fun b hb => absurd hb (zeroPR_foot b), zeroPR_own _, hz2 w1 hk⟩
   ·have h2 : 32 ≤ s := hno.elim (fun h => by rw [hok] at h; cases h) (fun h => by omega)
    go_enter Try.func28, Try.ntmps28
    go_wp2_with (go_at_call 52; refine h.mono ?_; rintro e w1 ⟨rfl, hk⟩; obtain ⟨c0, c1, f0, f1⟩ := hz w1 hk)
    refine bodyPost_ret (v := .agg #[.bool false, .slice none 0 0]) (by simp [results, Try.results28, go_sem, c0, c1]) rfl ⟨⟨false, ⟨0, none, 0, []⟩⟩, rfl, rfl, fun b hb => absurd hb (zeroPR_foot b), zeroPR_own _, hz2 w1 hk⟩
 ·have hok : ownOK raw = true := by cases h : ownOK raw with | true => rfl | false => exact absurd (.inl h) hno
  obtain ⟨k, rfl⟩ : ∃ k : Nat, s = k := ⟨s.toNat, by omega⟩
  have hk32 : k < 32 := by omega
  have hl := ownOK_len hok
  obtain ⟨a, c, rfl⟩ := hv.form
  obtain ⟨b, off, rfl, hc⟩ := rd_some hv (by omega)
  rw [hok] at h
  have hsl64 := slotsOf_length raw
  have hS := fun wx (h : Same w wx) => l3Slots_any b off c raw wx hB hl (by rw [← hl]; exact hv.same h)
  have hsl := ownOK_slot hok k hk32
  have hsm := slotsOf_small raw hB hl
  have hx := hsm.at (2 * k)
  have hy := hsm.at (2 * k + 1)
  rw [hl] at h ⊢
  have hc4 : 4096 ≤ c := by
   rcases hv.2 with ⟨h, _⟩ | ⟨_, _, _, he, hle, _⟩
   ·rw [h] at hl; cases hl
   ·injection he with _ _ h3; omega
  have hneg : ¬ (k : Int) < 0 := by omega
  have hge : ¬ (32 : Int) ≤ k := by omega
  obtain ⟨x, hxe⟩ : ∃ x : Nat, (slotsOf raw).getD (2 * k) 0 = x := ⟨((slotsOf raw).getD (2 * k) 0).toNat, by omega⟩
  obtain ⟨y, hye⟩ : ∃ y : Nat, (slotsOf raw).getD (2 * k + 1) 0 = y := ⟨((slotsOf raw).getD (2 * k + 1) 0).toNat, by omega⟩
  have HQ := (show Hid (∀ (wx : World) g, Rows2 wx g (slotsOf raw) → wx.cell? ⟨g, k * 2, none⟩ = some (.int .i64 x) ∧ wx.cell? ⟨g, k * 2 + 1, none⟩ = some (.int .i64 y)) from fun wx g h => ⟨by rw [h.at0 k hk32, hxe], by rw [h.at1 k hk32, hye]⟩)
  by_cases h0 : (slotsOf raw).getD (2 * k) 0 = 0
  ·rw [pageGet_no (raw := raw) (s := k) (.inr (.inr (.inr h0)))]
   have hx0 : (x : Int) = 0 := by omega
   clear hv hB hr0 hxe hye hx hy hsl h0
   go_enter Try.func28, Try.ntmps28
   go_wp2_with (first
    | (go_at_call 52; refine h.mono ?_; rintro e w1 ⟨rfl, hk⟩; have b1 := b0.same hk; have hS' := hS w1 (((Kept.refl _ _).alloc _).trans hk))
    | (go_at_call 53; refine hS'.mono ?_; rintro e w2 ⟨g, cap, rfl, hg, hown, hk2⟩; have b2 := b1.same hk2; obtain ⟨q0, q1⟩ := HQ.out w2 g (rows2_of hown hsl64); have c0 : w2.cell? ⟨w.heap.size, 0, none⟩ = some (.bool false) := b2.cell 0; have c1 : w2.cell? ⟨w.heap.size, 1, none⟩ = some (.slice none 0 0) := b2.cell 1; have f0 := b2.frozen 0; have f1 := b2.frozen 1; have hlt := b2.lt; clear hown))
   have hk4 := (((((Kept.refl (fun _ => False) w).alloc _).trans hk).trans hk2).setCell (p := ⟨w.heap.size, 0, none⟩) (.inl (Nat.le_refl _)) (.bool false)).setCell (p := ⟨w.heap.size, 1, none⟩) (.inl (Nat.le_refl _)) (.slice none 0 0)
   have hk5 := hk4.alloc (.cells #[.int .i64 0, .int .i64 (y : Int)] 84)
   have bz := ((b2.stored 0 (.bool false)).stored 1 (.slice none 0 0)).alloc (.cells #[.int .i64 0, .int .i64 (y : Int)] 84)
   have d0 := bz.cell 0
   have d1 := bz.cell 1
   simp only [List.set_cons_zero, List.set_cons_succ, List.getElem?_cons_zero, List.getElem?_cons_succ] at d0 d1
   refine bodyPost_ret (v := .agg #[.bool false, .slice none 0 0]) (by simp [results, Try.results28, go_sem, d0, d1]) rfl ⟨⟨false, ⟨0, none, 0, []⟩⟩, rfl, rfl, fun b hb => absurd hb (zeroPR_foot b), zeroPR_own _, hk5⟩
  ·rw [pageGet_yes hok hk32 h0]
   have hxy : x + y ≤ 4096 := by omega
   have hx0 : ¬ (x : Int) = 0 := by omega
   rw [hxe, hye]
   have hst : stretch raw x y = (raw.drop x).take y := rfl
   rw [hst]
   have hrd0 := Rd.cut hv x y (by omega)
   have hlen : ((raw.drop x).take y).length ≤ 1099511627776 := by simp; omega
   obtain ⟨bs, hbs⟩ : ∃ bs, (raw.drop x).take y = bs := ⟨_, rfl⟩
   rw [hbs] at hrd0 hlen ⊢
   obtain ⟨A, hA⟩ : ∃ A : Addr, (if c = x then ⟨b, off, none⟩ else ⟨b, off + x, none⟩) = A := ⟨_, rfl⟩
   rw [hA] at hrd0
   have hrun : ∀ wx : World, (Instr.slice 22 (.slice (some ⟨b, off, none⟩) 4096 c) (some (.int .i64 (x : Int))) (some (.int .i64 ((x : Int) + (y : Int)))) none).run Try.prog wx = .ok (.slice (some A) y (c - x)) wx := by
    intro wx
    rw [run_slice_lh wx 22 (some ⟨b, off, none⟩) 4096 c (by kernel_rfl) .i64 .i64 x (x + y) (by omega) (by omega) (by omega)]
    have hsz : (sizeOf (Try.prog.elem 22)).run Try.prog wx = .ok 1 wx := by kernel_rfl
    rw [hsz]
    simp only [Result.andThen, sliced, Int.toNat_natCast, Nat.mul_one]
    rw [show ((x : Int) + (y : Int)).toNat - x = y from by omega, ← hA]
    split
    ·rfl
    ·simp [addr_add]
   have HRD := (show Hid (Rd .u8 w (.slice (some A) y (c - x)) bs) from hrd0)
   clear hv hB hr0 hxe hye hx hy hsl h0 hbs hst hA hrd0
   go_enter Try.func28, Try.ntmps28
   go_wp2_with (first
    | (go_at_call 52; refine h.mono ?_; rintro e w1 ⟨rfl, hk⟩; have b1 := b0.same hk; have hS' := hS w1 (((Kept.refl _ _).alloc _).trans hk))
    | (go_at_call 53; refine hS'.mono ?_; rintro e w2 ⟨g, cap, rfl, hg, hown, hk2⟩; have b2 := b1.same hk2; obtain ⟨q0, q1⟩ := HQ.out w2 g (rows2_of hown hsl64); have hlt := b2.lt; have hkw2 := (((Kept.refl (fun _ => False) w).alloc _).trans hk).trans hk2; clear hown)
    | (go_at_call 37; refine (l1Copy_any _ bs _ hlen (HRD.out.same (hkw2.alloc _))).mono ?_; rintro e w5 ⟨a5, n5, c5, rfl, hown, hfr, hk5⟩; have b5 := (b2.alloc _).same hk5; have c0 : w5.cell? ⟨w.heap.size, 0, none⟩ = some (.bool false) := b5.cell 0; have c1 : w5.cell? ⟨w.heap.size, 1, none⟩ = some (.slice none 0 0) := b5.cell 1; have f0 := b5.frozen 0; have f1 := b5.frozen 1))
   obtain rfl : n5 = bs.length := by obtain ⟨_, _, he⟩ := hown.rd.form; injection he
   have hb5 := b5.lt
   have hkz := (((hkw2.alloc _).trans hk5).setCell (p := ⟨w.heap.size, 0, none⟩) (.inl (Nat.le_refl _)) (.bool true)).setCell (p := ⟨w.heap.size, 1, none⟩) (.inl (Nat.le_refl _)) (.slice a5 bs.length c5)
   have hko : Kept (fun b => b = w.heap.size) w5 ((w5.setCell ⟨w.heap.size, 0, none⟩ (.bool true)).setCell ⟨w.heap.size, 1, none⟩ (.slice a5 bs.length c5)) := ((Kept.refl (fun b => b = w.heap.size) w5).setCell (p := ⟨w.heap.size, 0, none⟩) (.inr rfl) _).setCell (p := ⟨w.heap.size, 1, none⟩) (.inr rfl) _
   simp only [World.size_alloc] at hfr
   refine bodyPost_ret (v := .agg #[.bool true, .slice a5 bs.length c5]) (by simp [results, Try.results28, go_sem, c0, c1]) rfl ⟨⟨true, ⟨5, a5, c5, bs⟩⟩, rfl, rfl, fun b hb => ?_, OwnL.one (hown.kept hko (fun b hb e => ?_)), hkz⟩
   ·have := hfr b ((footL_ints _ _ _ _ _).1 hb); omega
   ·have := hfr b hb; omega
end Go.Proofs.Ytkmfkiojipkjhaa
