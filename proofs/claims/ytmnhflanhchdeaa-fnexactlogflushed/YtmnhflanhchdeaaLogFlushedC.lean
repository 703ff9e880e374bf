import Derived.Test.YtmnhflanhchdeaaG02
import Derived.Test.YtmnhflanhchdeaaG03
namespace Go.Proofs.Ytmnhflanhchdeaa
set_option maxRecDepth 100000
set_option maxHeartbeats 4000000
set_option linter.unusedVariables false
set_option linter.unusedSimpArgs false
open Go.RowKit
def flushed (d : Int × Int × Int × Int × List Int) : Int × Int × Int × Int × List Int :=
 if logFd d = 0 then (d.1, d.2.1, d.2.2.1, d.2.2.1, d.2.2.2.2.drop (d.2.2.2.2.length - (d.2.2.1 % 512).toNat)) else (0, 0, 0, 0, [])
theorem zeroLog_own (w : World) : OwnL w (StLog.rows ⟨0, 0, 0, 0, ⟨0, none, 0, []⟩⟩) := OwnL.one (Own.nil 0 0 .u8 w)
theorem zeroLog_foot (b : Nat) : ¬ FootL (StLog.rows ⟨0, 0, 0, 0, ⟨0, none, 0, []⟩⟩) b := fun h => by have := (footL_ints _ _ _ _ _).1 h; simp [BS.v, Value.ownBlock] at this
theorem flushed_small {d : Int × Int × Int × Int × List Int} {y : StLog} (h : y.dat = flushed d) (hn : d.2.2.2.2.length ≤ 1048576) : y.size ≤ 1099511627776 := by
 have h2 : y.tail.bs = (flushed d).2.2.2.2 := by rw [← h]; rfl
 simp only [StLog.size]
 rw [h2]
 unfold flushed
 split
 ·simp; omega
 ·simp
theorem Rd.tail_some {w : World} {b off c : Nat} {raw : List Int} (h : Rd .u8 w (.slice (some ⟨b, off, none⟩) raw.length c) raw) (k : Nat) (hk : k ≤ raw.length) :
  Rd .u8 w (.slice (some (if c = k then ⟨b, off, none⟩ else ⟨b, off + k, none⟩)) (raw.length - k) (c - k)) (raw.drop k) := by
 have h1 := h.cut k (raw.length - k) (by omega)
 rwa [List.take_of_length_le (by simp)] at h1
theorem implFlushed_any (x : StLog) (w : World) (hB : x.isB) (hn : x.szs ≤ 1073741824) (hv : StLog.rd w x) :
  Calls Try.prog 15 #[x.val] w fun e w' => ∃ y : StLog, e = .returned y.val ∧ y.dat = flushed x.dat ∧ (∀ b, FootL y.rows b → w.heap.size ≤ b) ∧ OwnL w' y.rows ∧ Same w w' := by
 have hF := fun wx (hk : Same w wx) => implLogFault_any x wx hB hn (StLog.rd.same hv hk)
 obtain ⟨s, ep, st, fl, te, ta, tc, tb⟩ := x
 simp only [StLog.szs] at hn
 have hv : Rd .u8 w (.slice ta tb.length tc) tb := hv
 clear hB
 dsimp only [StLog.val, StLog.dat, BS.v, flushed] at hF ⊢
 have b0 : Blk ((w.alloc (.cells #[.int .i64 s, .int .i64 ep, .int .i64 st, .int .i64 fl, .slice ta tb.length tc] 29)).alloc (.cells #[.int .i64 0, .int .i64 0, .int .i64 0, .int .i64 0, .slice none 0 0] 29)) w.heap.size 29 [.int .i64 s, .int .i64 ep, .int .i64 st, .int .i64 fl, .slice ta tb.length tc] := (Blk.new w #[.int .i64 s, .int .i64 ep, .int .i64 st, .int .i64 fl, .slice ta tb.length tc] 29).same ((Kept.refl _ _).alloc _)
 have z0 := Blk.newB w [.int .i64 s, .int .i64 ep, .int .i64 st, .int .i64 fl, .slice ta tb.length tc] 29 [.int .i64 0, .int .i64 0, .int .i64 0, .int .i64 0, .slice none 0 0] 29
 have hk0 : Same w ((w.alloc (.cells #[.int .i64 s, .int .i64 ep, .int .i64 st, .int .i64 fl, .slice ta tb.length tc] 29)).alloc (.cells #[.int .i64 0, .int .i64 0, .int .i64 0, .int .i64 0, .slice none 0 0] 29)) := ((Kept.refl _ _).alloc _).alloc _
 have hF := hF _ hk0
 by_cases hg : logFd (s, ep, st, fl, tb) = 0
 ·rw [hg] at hF
  rw [if_pos hg]
  obtain ⟨h1, h2, h3, h4, h5, h6⟩ := logFault_good hg
  dsimp only at h1 h2 h3 h4 h5 h6 ⊢
  obtain ⟨m, hm⟩ : ∃ m : Nat, st % 512 = m := ⟨(st % 512).toNat, by omega⟩
  rw [hm, Int.toNat_natCast]
  have hml : m ≤ tb.length := by omega
  obtain ⟨k, hkm⟩ : ∃ k : Nat, tb.length - m = k := ⟨_, rfl⟩
  rw [hkm]
  have hk1 : (tb.length : Int) - (m : Int) = (k : Int) := by omega
  have hkl : k ≤ tb.length := by omega
  have hlen : (tb.drop k).length ≤ 1099511627776 := by simp; omega
  have hst0 : 0 ≤ st := by omega
  clear hg h1 h2 h3 h4 h6 hkm
  rcases hv.2 with ⟨rfl, a, c, he, hac⟩ | ⟨b, off, c, he, hle, hc⟩
  ·injection he with he1 he2 he3
   subst he1 he3
   obtain rfl : k = 0 := by simpa using hkl
   obtain rfl : m = 0 := by simpa using hml
   clear hk1
   cases ta with
   | none =>
    obtain rfl : tc = 0 := hac rfl
    have hr : ∀ wx, Same w wx → Rd .u8 wx (.slice none 0 0) [] := fun wx hk => hv.same hk
    go_enter Try.func15, Try.ntmps15
    go_wp2_with (first
     | (go_at_call 12; refine hF.mono ?_; rintro e w1 ⟨rfl, hk1'⟩; have b1 := b0.same hk1'; have z1 := z0.same hk1'; have HK1 := (show Hid (Same w w1) from hk0.trans hk1'); have c0 : w1.cell? ⟨w.heap.size, 0, none⟩ = some (.int .i64 s) := b1.cell 0; have c1 : w1.cell? ⟨w.heap.size, 1, none⟩ = some (.int .i64 ep) := b1.cell 1; have c2 : w1.cell? ⟨w.heap.size, 2, none⟩ = some (.int .i64 st) := b1.cell 2; have c3 : w1.cell? ⟨w.heap.size, 3, none⟩ = some (.int .i64 fl) := b1.cell 3; have c4 : w1.cell? ⟨w.heap.size, 4, none⟩ = some (.slice none 0 0) := b1.cell 4)
     | (go_at_call 30; refine (clone_any _ _ _ hlen (hr _ HK1.out)).mono ?_; rintro e w2 ⟨a5, n5, c5, rfl, hown, hfr, hk2⟩; have b2 := b1.same hk2; have z2 := z1.same hk2; have d0 : w2.cell? ⟨w.heap.size, 0, none⟩ = some (.int .i64 s) := b2.cell 0; have d1 : w2.cell? ⟨w.heap.size, 1, none⟩ = some (.int .i64 ep) := b2.cell 1; have d2 : w2.cell? ⟨w.heap.size, 2, none⟩ = some (.int .i64 st) := b2.cell 2; have d3 : w2.cell? ⟨w.heap.size, 3, none⟩ = some (.int .i64 fl) := b2.cell 3; have d4 : w2.cell? ⟨w.heap.size, 4, none⟩ = some (.slice none 0 0) := b2.cell 4; have y0 : w2.cell? ⟨w.heap.size + 1, 0, none⟩ = some (.int .i64 0) := z2.cell 0; have y1 : w2.cell? ⟨w.heap.size + 1, 1, none⟩ = some (.int .i64 0) := z2.cell 1; have y2 : w2.cell? ⟨w.heap.size + 1, 2, none⟩ = some (.int .i64 0) := z2.cell 2; have y3 : w2.cell? ⟨w.heap.size + 1, 3, none⟩ = some (.int .i64 0) := z2.cell 3; have y4 : w2.cell? ⟨w.heap.size + 1, 4, none⟩ = some (.slice none 0 0) := z2.cell 4; have fz := z2.frozen; have fb := b2.frozen))
    obtain rfl : n5 = (List.drop 0 ([] : List Int)).length := by obtain ⟨_, _, he⟩ := hown.rd.form; injection he
    have hb1 := b1.lt
    have hz1 := z1.lt
    refine bodyPost_ret (v := .agg #[.int .i64 s, .int .i64 ep, .int .i64 st, .int .i64 st, .slice a5 (List.drop 0 ([] : List Int)).length c5]) (by simp [results, Try.results15, go_sem, y0, y1, y2, y3, y4]) rfl ⟨⟨s, ep, st, st, ⟨5, a5, c5, List.drop 0 ([] : List Int)⟩⟩, rfl, (by first | rfl | exact ⟨rfl, rfl, rfl, rfl, rfl⟩), fun b hb => ?_, OwnL.one (Own.kept hown (R := fun b => b = w.heap.size ∨ b = w.heap.size + 1) ?_ (fun b hb e => ?_)), ?_⟩
    ·have := hfr b ((footL_ints _ _ _ _ _).1 hb); omega
    ·(iterate 7 refine Kept.setCell ?_ (.inr (by simp)) _); exact Kept.refl _ _
    ·have := hfr b hb; omega
    ·(iterate 7 refine Kept.setCell ?_ (.inl (by first | exact Nat.le_refl _ | exact Nat.le_succ _)) _); exact HK1.out.trans hk2
   | some ad =>
    have hr : ∀ wx, Same w wx → Rd .u8 wx (.slice (some ad) 0 tc) [] := fun wx hk => hv.same hk
    go_enter Try.func15, Try.ntmps15
    go_wp2_with (first
     | (go_at_call 12; refine hF.mono ?_; rintro e w1 ⟨rfl, hk1'⟩; have b1 := b0.same hk1'; have z1 := z0.same hk1'; have HK1 := (show Hid (Same w w1) from hk0.trans hk1'); have c0 : w1.cell? ⟨w.heap.size, 0, none⟩ = some (.int .i64 s) := b1.cell 0; have c1 : w1.cell? ⟨w.heap.size, 1, none⟩ = some (.int .i64 ep) := b1.cell 1; have c2 : w1.cell? ⟨w.heap.size, 2, none⟩ = some (.int .i64 st) := b1.cell 2; have c3 : w1.cell? ⟨w.heap.size, 3, none⟩ = some (.int .i64 fl) := b1.cell 3; have c4 : w1.cell? ⟨w.heap.size, 4, none⟩ = some (.slice (some ad) 0 tc) := b1.cell 4)
     | (go_at_call 30; refine (clone_any _ _ _ hlen (hr _ HK1.out)).mono ?_; rintro e w2 ⟨a5, n5, c5, rfl, hown, hfr, hk2⟩; have b2 := b1.same hk2; have z2 := z1.same hk2; have d0 : w2.cell? ⟨w.heap.size, 0, none⟩ = some (.int .i64 s) := b2.cell 0; have d1 : w2.cell? ⟨w.heap.size, 1, none⟩ = some (.int .i64 ep) := b2.cell 1; have d2 : w2.cell? ⟨w.heap.size, 2, none⟩ = some (.int .i64 st) := b2.cell 2; have d3 : w2.cell? ⟨w.heap.size, 3, none⟩ = some (.int .i64 fl) := b2.cell 3; have d4 : w2.cell? ⟨w.heap.size, 4, none⟩ = some (.slice (some ad) 0 tc) := b2.cell 4; have y0 : w2.cell? ⟨w.heap.size + 1, 0, none⟩ = some (.int .i64 0) := z2.cell 0; have y1 : w2.cell? ⟨w.heap.size + 1, 1, none⟩ = some (.int .i64 0) := z2.cell 1; have y2 : w2.cell? ⟨w.heap.size + 1, 2, none⟩ = some (.int .i64 0) := z2.cell 2; have y3 : w2.cell? ⟨w.heap.size + 1, 3, none⟩ = some (.int .i64 0) := z2.cell 3; have y4 : w2.cell? ⟨w.heap.size + 1, 4, none⟩ = some (.slice none 0 0) := z2.cell 4; have fz := z2.frozen; have fb := b2.frozen))
    obtain rfl : n5 = (List.drop 0 ([] : List Int)).length := by obtain ⟨_, _, he⟩ := hown.rd.form; injection he
    have hb1 := b1.lt
    have hz1 := z1.lt
    refine bodyPost_ret (v := .agg #[.int .i64 s, .int .i64 ep, .int .i64 st, .int .i64 st, .slice a5 (List.drop 0 ([] : List Int)).length c5]) (by simp [results, Try.results15, go_sem, y0, y1, y2, y3, y4]) rfl ⟨⟨s, ep, st, st, ⟨5, a5, c5, List.drop 0 ([] : List Int)⟩⟩, rfl, (by first | rfl | exact ⟨rfl, rfl, rfl, rfl, rfl⟩), fun b hb => ?_, OwnL.one (Own.kept hown (R := fun b => b = w.heap.size ∨ b = w.heap.size + 1) ?_ (fun b hb e => ?_)), ?_⟩
    ·have := hfr b ((footL_ints _ _ _ _ _).1 hb); omega
    ·(iterate 7 refine Kept.setCell ?_ (.inr (by simp)) _); exact Kept.refl _ _
    ·have := hfr b hb; omega
    ·(iterate 7 refine Kept.setCell ?_ (.inl (by first | exact Nat.le_refl _ | exact Nat.le_succ _)) _); exact HK1.out.trans hk2
  ·injection he with he1 he2 he3
   subst he1 he3
   have hwr : IntKind.i64.wrap ((tb.length : Int) - (m : Int)) = (k : Int) := by rw [IntKind.wrap_i64]; omega
   have hkn : (k : Int).toNat = k := Int.toNat_natCast k
   clear hc
   by_cases hck : tc = k
   ·subst hck
    obtain rfl : tc = tb.length := by omega
    obtain rfl : m = 0 := by omega
    rw [List.drop_length] at hlen ⊢
    have hr : ∀ wx, Same w wx → Rd .u8 wx (.slice (some ⟨b, off, none⟩) 0 0) [] := fun wx hk => ⟨Nat.zero_le _, .inl ⟨rfl, _, _, rfl, fun h => by cases h⟩⟩
    clear hk1 hwr hkn hle hkl hml
    go_enter Try.func15, Try.ntmps15
    go_wp2_with (first
     | (go_at_call 12; refine hF.mono ?_; rintro e w1 ⟨rfl, hk1'⟩; have b1 := b0.same hk1'; have z1 := z0.same hk1'; have HK1 := (show Hid (Same w w1) from hk0.trans hk1'); have c0 : w1.cell? ⟨w.heap.size, 0, none⟩ = some (.int .i64 s) := b1.cell 0; have c1 : w1.cell? ⟨w.heap.size, 1, none⟩ = some (.int .i64 ep) := b1.cell 1; have c2 : w1.cell? ⟨w.heap.size, 2, none⟩ = some (.int .i64 st) := b1.cell 2; have c3 : w1.cell? ⟨w.heap.size, 3, none⟩ = some (.int .i64 fl) := b1.cell 3; have c4 : w1.cell? ⟨w.heap.size, 4, none⟩ = some (.slice (some ⟨b, off, none⟩) tb.length tb.length) := b1.cell 4)
     | (go_at_call 30; refine (clone_any _ _ _ hlen (hr _ HK1.out)).mono ?_; rintro e w2 ⟨a5, n5, c5, rfl, hown, hfr, hk2⟩; have b2 := b1.same hk2; have z2 := z1.same hk2; have d0 : w2.cell? ⟨w.heap.size, 0, none⟩ = some (.int .i64 s) := b2.cell 0; have d1 : w2.cell? ⟨w.heap.size, 1, none⟩ = some (.int .i64 ep) := b2.cell 1; have d2 : w2.cell? ⟨w.heap.size, 2, none⟩ = some (.int .i64 st) := b2.cell 2; have d3 : w2.cell? ⟨w.heap.size, 3, none⟩ = some (.int .i64 fl) := b2.cell 3; have d4 : w2.cell? ⟨w.heap.size, 4, none⟩ = some (.slice (some ⟨b, off, none⟩) tb.length tb.length) := b2.cell 4; have y0 : w2.cell? ⟨w.heap.size + 1, 0, none⟩ = some (.int .i64 0) := z2.cell 0; have y1 : w2.cell? ⟨w.heap.size + 1, 1, none⟩ = some (.int .i64 0) := z2.cell 1; have y2 : w2.cell? ⟨w.heap.size + 1, 2, none⟩ = some (.int .i64 0) := z2.cell 2; have y3 : w2.cell? ⟨w.heap.size + 1, 3, none⟩ = some (.int .i64 0) := z2.cell 3; have y4 : w2.cell? ⟨w.heap.size + 1, 4, none⟩ = some (.slice none 0 0) := z2.cell 4; have fz := z2.frozen; have fb := b2.frozen))
    obtain rfl : n5 = (([] : List Int)).length := by obtain ⟨_, _, he⟩ := hown.rd.form; injection he
    have hb1 := b1.lt
    have hz1 := z1.lt
    refine bodyPost_ret (v := .agg #[.int .i64 s, .int .i64 ep, .int .i64 st, .int .i64 st, .slice a5 (([] : List Int)).length c5]) (by simp [results, Try.results15, go_sem, y0, y1, y2, y3, y4]) rfl ⟨⟨s, ep, st, st, ⟨5, a5, c5, ([] : List Int)⟩⟩, rfl, (by first | rfl | exact ⟨rfl, rfl, rfl, rfl, rfl⟩), fun b hb => ?_, OwnL.one (Own.kept hown (R := fun b => b = w.heap.size ∨ b = w.heap.size + 1) ?_ (fun b hb e => ?_)), ?_⟩
    ·have := hfr b ((footL_ints _ _ _ _ _).1 hb); omega
    ·(iterate 7 refine Kept.setCell ?_ (.inr (by simp)) _); exact Kept.refl _ _
    ·have := hfr b hb; omega
    ·(iterate 7 refine Kept.setCell ?_ (.inl (by first | exact Nat.le_refl _ | exact Nat.le_succ _)) _); exact HK1.out.trans hk2
   ·have hr : ∀ wx, Same w wx → Rd .u8 wx (.slice (some ⟨b, off + k, none⟩) (tb.length - k) (tc - k)) (tb.drop k) := fun wx hk => by have h := hv.tail_some k hkl; rw [if_neg hck] at h; exact h.same hk
    go_enter Try.func15, Try.ntmps15
    go_wp2_with (first
     | (go_at_call 12; refine hF.mono ?_; rintro e w1 ⟨rfl, hk1'⟩; have b1 := b0.same hk1'; have z1 := z0.same hk1'; have HK1 := (show Hid (Same w w1) from hk0.trans hk1'); have c0 : w1.cell? ⟨w.heap.size, 0, none⟩ = some (.int .i64 s) := b1.cell 0; have c1 : w1.cell? ⟨w.heap.size, 1, none⟩ = some (.int .i64 ep) := b1.cell 1; have c2 : w1.cell? ⟨w.heap.size, 2, none⟩ = some (.int .i64 st) := b1.cell 2; have c3 : w1.cell? ⟨w.heap.size, 3, none⟩ = some (.int .i64 fl) := b1.cell 3; have c4 : w1.cell? ⟨w.heap.size, 4, none⟩ = some (.slice (some ⟨b, off, none⟩) tb.length tc) := b1.cell 4)
     | (go_at_call 30; refine (clone_any _ _ _ hlen (hr _ HK1.out)).mono ?_; rintro e w2 ⟨a5, n5, c5, rfl, hown, hfr, hk2⟩; have b2 := b1.same hk2; have z2 := z1.same hk2; have d0 : w2.cell? ⟨w.heap.size, 0, none⟩ = some (.int .i64 s) := b2.cell 0; have d1 : w2.cell? ⟨w.heap.size, 1, none⟩ = some (.int .i64 ep) := b2.cell 1; have d2 : w2.cell? ⟨w.heap.size, 2, none⟩ = some (.int .i64 st) := b2.cell 2; have d3 : w2.cell? ⟨w.heap.size, 3, none⟩ = some (.int .i64 fl) := b2.cell 3; have d4 : w2.cell? ⟨w.heap.size, 4, none⟩ = some (.slice (some ⟨b, off, none⟩) tb.length tc) := b2.cell 4; have y0 : w2.cell? ⟨w.heap.size + 1, 0, none⟩ = some (.int .i64 0) := z2.cell 0; have y1 : w2.cell? ⟨w.heap.size + 1, 1, none⟩ = some (.int .i64 0) := z2.cell 1; have y2 : w2.cell? ⟨w.heap.size + 1, 2, none⟩ = some (.int .i64 0) := z2.cell 2; have y3 : w2.cell? ⟨w.heap.size + 1, 3, none⟩ = some (.int .i64 0) := z2.cell 3; have y4 : w2.cell? ⟨w.heap.size + 1, 4, none⟩ = some (.slice none 0 0) := z2.cell 4; have fz := z2.frozen; have fb := b2.frozen))
    obtain rfl : n5 = (tb.drop k).length := by obtain ⟨_, _, he⟩ := hown.rd.form; injection he
    have hb1 := b1.lt
    have hz1 := z1.lt
    refine bodyPost_ret (v := .agg #[.int .i64 s, .int .i64 ep, .int .i64 st, .int .i64 st, .slice a5 (tb.drop k).length c5]) (by simp [results, Try.results15, go_sem, y0, y1, y2, y3, y4]) rfl ⟨⟨s, ep, st, st, ⟨5, a5, c5, tb.drop k⟩⟩, rfl, (by first | rfl | exact ⟨rfl, rfl, rfl, rfl, rfl⟩), fun b hb => ?_, OwnL.one (Own.kept hown (R := fun b => b = w.heap.size ∨ b = w.heap.size + 1) ?_ (fun b hb e => ?_)), ?_⟩
    ·have := hfr b ((footL_ints _ _ _ _ _).1 hb); omega
    ·(iterate 7 refine Kept.setCell ?_ (.inr (by simp)) _); exact Kept.refl _ _
    ·have := hfr b hb; omega
    ·(iterate 7 refine Kept.setCell ?_ (.inl (by first | exact Nat.le_refl _ | exact Nat.le_succ _)) _); exact HK1.out.trans hk2
 ·rw [if_neg hg]
  obtain ⟨q, hq⟩ : ∃ q, logFd (s, ep, st, fl, tb) = q := ⟨_, rfl⟩
  rw [hq] at hg hF
  clear hv
  go_enter Try.func15, Try.ntmps15
  go_wp2_with (go_at_call 12; refine hF.mono ?_; rintro e w1 ⟨rfl, hk1⟩; have b1 := b0.same hk1; have z1 := z0.same hk1; have HK1 := (show Hid (Same w w1) from hk0.trans hk1); have y0 : w1.cell? ⟨w.heap.size + 1, 0, none⟩ = some (.int .i64 0) := z1.cell 0; have y1 : w1.cell? ⟨w.heap.size + 1, 1, none⟩ = some (.int .i64 0) := z1.cell 1; have y2 : w1.cell? ⟨w.heap.size + 1, 2, none⟩ = some (.int .i64 0) := z1.cell 2; have y3 : w1.cell? ⟨w.heap.size + 1, 3, none⟩ = some (.int .i64 0) := z1.cell 3; have y4 : w1.cell? ⟨w.heap.size + 1, 4, none⟩ = some (.slice none 0 0) := z1.cell 4; have fz0 := z1.frozen 0; have fz1 := z1.frozen 1; have fz2 := z1.frozen 2; have fz3 := z1.frozen 3; have fz4 := z1.frozen 4)
  refine bodyPost_ret (v := .agg #[.int .i64 0, .int .i64 0, .int .i64 0, .int .i64 0, .slice none 0 0]) (by simp [results, Try.results15, go_sem, y0, y1, y2, y3, y4]) rfl ⟨⟨0, 0, 0, 0, ⟨0, none, 0, []⟩⟩, rfl, rfl, fun b hb => absurd hb (zeroLog_foot b), zeroLog_own _, ?_⟩
  (iterate 5 refine Kept.setCell ?_ (.inl (by first | exact Nat.le_refl _ | exact Nat.le_succ _)) _); exact HK1.out
theorem specFlushed_any (x : StLog) (w : World) (hB : x.isB) (hn : x.szs ≤ 1073741824) (hv : StLog.rd w x) :
  Calls Try.prog 14 #[x.val] w fun e w' => ∃ y : StLog, e = .returned y.val ∧ y.dat = flushed x.dat ∧ (∀ b, FootL y.rows b → w.heap.size ≤ b) ∧ OwnL w' y.rows ∧ Same w w' := by
 have hF := fun wx (hk : Same w wx) => specLogFault_any x wx hB hn (StLog.rd.same hv hk)
 obtain ⟨s, ep, st, fl, te, ta, tc, tb⟩ := x
 simp only [StLog.szs] at hn
 have hv : Rd .u8 w (.slice ta tb.length tc) tb := hv
 clear hB
 dsimp only [StLog.val, StLog.dat, BS.v, flushed] at hF ⊢
 have b0 : Blk ((w.alloc (.cells #[.int .i64 s, .int .i64 ep, .int .i64 st, .int .i64 fl, .slice ta tb.length tc] 29)).alloc (.cells #[.int .i64 0, .int .i64 0, .int .i64 0, .int .i64 0, .slice none 0 0] 29)) w.heap.size 29 [.int .i64 s, .int .i64 ep, .int .i64 st, .int .i64 fl, .slice ta tb.length tc] := (Blk.new w #[.int .i64 s, .int .i64 ep, .int .i64 st, .int .i64 fl, .slice ta tb.length tc] 29).same ((Kept.refl _ _).alloc _)
 have z0 := Blk.newB w [.int .i64 s, .int .i64 ep, .int .i64 st, .int .i64 fl, .slice ta tb.length tc] 29 [.int .i64 0, .int .i64 0, .int .i64 0, .int .i64 0, .slice none 0 0] 29
 have hk0 : Same w ((w.alloc (.cells #[.int .i64 s, .int .i64 ep, .int .i64 st, .int .i64 fl, .slice ta tb.length tc] 29)).alloc (.cells #[.int .i64 0, .int .i64 0, .int .i64 0, .int .i64 0, .slice none 0 0] 29)) := ((Kept.refl _ _).alloc _).alloc _
 have hF := hF _ hk0
 by_cases hg : logFd (s, ep, st, fl, tb) = 0
 ·rw [hg] at hF
  rw [if_pos hg]
  obtain ⟨h1, h2, h3, h4, h5, h6⟩ := logFault_good hg
  dsimp only at h1 h2 h3 h4 h5 h6 ⊢
  obtain ⟨m, hm⟩ : ∃ m : Nat, st % 512 = m := ⟨(st % 512).toNat, by omega⟩
  rw [hm, Int.toNat_natCast]
  have hml : m ≤ tb.length := by omega
  obtain ⟨k, hkm⟩ : ∃ k : Nat, tb.length - m = k := ⟨_, rfl⟩
  rw [hkm]
  have hk1 : (tb.length : Int) - (m : Int) = (k : Int) := by omega
  have hkl : k ≤ tb.length := by omega
  have hlen : (tb.drop k).length ≤ 1099511627776 := by simp; omega
  have hst0 : 0 ≤ st := by omega
  clear hg h1 h2 h3 h4 h6 hkm
  rcases hv.2 with ⟨rfl, a, c, he, hac⟩ | ⟨b, off, c, he, hle, hc⟩
  ·injection he with he1 he2 he3
   subst he1 he3
   obtain rfl : k = 0 := by simpa using hkl
   obtain rfl : m = 0 := by simpa using hml
   clear hk1
   cases ta with
   | none =>
    obtain rfl : tc = 0 := hac rfl
    have hr : ∀ wx, Same w wx → Rd .u8 wx (.slice none 0 0) [] := fun wx hk => hv.same hk
    have hw0 : IntKind.i64.wrap 0 = 0 := by decide
    go_enter Try.func14, Try.ntmps14
    go_wp2_with (go_at_call 10; refine hF.mono ?_; rintro e w1 ⟨rfl, hk1'⟩; have b1 := b0.same hk1'; have z1 := z0.same hk1'; have HK1 := (show Hid (Same w w1) from hk0.trans hk1'); have c0 : w1.cell? ⟨w.heap.size, 0, none⟩ = some (.int .i64 s) := b1.cell 0; have c1 : w1.cell? ⟨w.heap.size, 1, none⟩ = some (.int .i64 ep) := b1.cell 1; have c2 : w1.cell? ⟨w.heap.size, 2, none⟩ = some (.int .i64 st) := b1.cell 2; have c3 : w1.cell? ⟨w.heap.size, 3, none⟩ = some (.int .i64 fl) := b1.cell 3; have c4 : w1.cell? ⟨w.heap.size, 4, none⟩ = some (.slice none 0 0) := b1.cell 4)
    let Y4 : World → Prop := fun wx : World => wx.cell? ⟨w.heap.size, 0, none⟩ = some (.int .i64 s) ∧ wx.cell? ⟨w.heap.size, 1, none⟩ = some (.int .i64 ep) ∧ wx.cell? ⟨w.heap.size, 2, none⟩ = some (.int .i64 st) ∧ wx.cell? ⟨w.heap.size, 4, none⟩ = some (.slice none 0 0)
    have hS : Y4 w1.drew := by exact ⟨c0, c1, c2, c4⟩
    refine wp_region_V Y4 18 19 rfl (by kernel_rfl) ?_
    refine tk 0 11 hS ?_
    refine tk 1 12 hS ?_
    refine tk 2 13 hS ?_
    refine tk 3 14 hS ?_
    refine tk 4 15 hS ?_
    refine tk 5 16 hS ?_
    refine tk 6 17 hS ?_
    refine tk 7 18 hS ?_
    refine tk 8 19 hS ?_
    refine tk 9 20 hS ?_
    refine tk 10 21 hS ?_
    refine tk 11 22 hS ?_
    refine tk 12 23 hS ?_
    refine tk 13 24 hS ?_
    refine tk 14 25 hS ?_
    refine tk 15 26 hS ?_
    refine wpAnyV_one (i := 16) (by kernel_rfl) rfl (fun K hK => ?_)
    go_simp
    refine (l1Copy_any _ _ _ hlen (hr _ HK1.out.drew)).mono ?_
    rintro e w2 ⟨a5, n5, c5, rfl, hown, hfr, hk2⟩
    have hfr : ∀ b, (Value.slice a5 n5 c5).ownBlock = some b → w1.heap.size ≤ b := hfr
    have hkd : Same w1 w2 := (Kept.refl _ _).drew.trans hk2
    have b2 := b1.same hkd
    have z2 := z1.same hkd
    have y0 : w2.cell? ⟨w.heap.size + 1, 0, none⟩ = some (.int .i64 0) := z2.cell 0; have y1 : w2.cell? ⟨w.heap.size + 1, 1, none⟩ = some (.int .i64 0) := z2.cell 1; have y2 : w2.cell? ⟨w.heap.size + 1, 2, none⟩ = some (.int .i64 0) := z2.cell 2; have y3 : w2.cell? ⟨w.heap.size + 1, 3, none⟩ = some (.int .i64 0) := z2.cell 3; have y4 : w2.cell? ⟨w.heap.size + 1, 4, none⟩ = some (.slice none 0 0) := z2.cell 4
    have fz := z2.frozen
    have hS : Y4 w2 := by exact ⟨b2.cell 0, b2.cell 1, b2.cell 2, b2.cell 4⟩
    refine hK.out _ _ (fun _ => hS) ?_
    clear hK K
    try simp only [Act.put, sA, s0, sS]
    refine tk 17 28 hS ?_
    refine wpAnyV_one (i := 18) (by kernel_rfl) rfl (fun K hK => ?_)
    go_simp
    refine hK.out _ _ (fun h => absurd rfl h) ?_
    clear hK K
    refine wpAnyV_done (by kernel_rfl) ?_
    try simp only [Act.put, sA, s0, sS]
    go_wp2
    obtain rfl : n5 = (List.drop 0 ([] : List Int)).length := by obtain ⟨_, _, he⟩ := hown.rd.form; injection he
    have hb1 := b1.lt
    have hz1 := z1.lt
    refine bodyPost_ret (v := .agg #[.int .i64 s, .int .i64 ep, .int .i64 st, .int .i64 st, .slice a5 (List.drop 0 ([] : List Int)).length c5]) (by simp [results, Try.results14, go_sem, y0, y1, y2, y3, y4]) rfl ⟨⟨s, ep, st, st, ⟨5, a5, c5, List.drop 0 ([] : List Int)⟩⟩, rfl, (by first | rfl | exact ⟨rfl, rfl, rfl, rfl, rfl⟩), fun b hb => ?_, OwnL.one (Own.kept hown (R := fun b => b = w.heap.size ∨ b = w.heap.size + 1) ?_ (fun b hb e => ?_)), ?_⟩
    ·have := hfr b ((footL_ints _ _ _ _ _).1 hb); omega
    ·(iterate 5 refine Kept.setCell ?_ (.inr (by simp)) _); exact Kept.refl _ _
    ·have := hfr b hb; omega
    ·(iterate 5 refine Kept.setCell ?_ (.inl (by first | exact Nat.le_refl _ | exact Nat.le_succ _)) _); exact HK1.out.trans hkd
   | some ad =>
    have hr : ∀ wx, Same w wx → Rd .u8 wx (.slice (some ad) 0 tc) [] := fun wx hk => hv.same hk
    have hw0 : IntKind.i64.wrap 0 = 0 := by decide
    go_enter Try.func14, Try.ntmps14
    go_wp2_with (go_at_call 10; refine hF.mono ?_; rintro e w1 ⟨rfl, hk1'⟩; have b1 := b0.same hk1'; have z1 := z0.same hk1'; have HK1 := (show Hid (Same w w1) from hk0.trans hk1'); have c0 : w1.cell? ⟨w.heap.size, 0, none⟩ = some (.int .i64 s) := b1.cell 0; have c1 : w1.cell? ⟨w.heap.size, 1, none⟩ = some (.int .i64 ep) := b1.cell 1; have c2 : w1.cell? ⟨w.heap.size, 2, none⟩ = some (.int .i64 st) := b1.cell 2; have c3 : w1.cell? ⟨w.heap.size, 3, none⟩ = some (.int .i64 fl) := b1.cell 3; have c4 : w1.cell? ⟨w.heap.size, 4, none⟩ = some (.slice (some ad) 0 tc) := b1.cell 4)
    let Y3 : World → Prop := fun wx : World => wx.cell? ⟨w.heap.size, 0, none⟩ = some (.int .i64 s) ∧ wx.cell? ⟨w.heap.size, 1, none⟩ = some (.int .i64 ep) ∧ wx.cell? ⟨w.heap.size, 2, none⟩ = some (.int .i64 st) ∧ wx.cell? ⟨w.heap.size, 4, none⟩ = some (.slice (some ad) 0 tc)
    have hS : Y3 w1.drew := by exact ⟨c0, c1, c2, c4⟩
    refine wp_region_V Y3 18 19 rfl (by kernel_rfl) ?_
    refine tk 0 11 hS ?_
    refine tk 1 12 hS ?_
    refine tk 2 13 hS ?_
    refine tk 3 14 hS ?_
    refine tk 4 15 hS ?_
    refine tk 5 16 hS ?_
    refine tk 6 17 hS ?_
    refine tk 7 18 hS ?_
    refine tk 8 19 hS ?_
    refine tk 9 20 hS ?_
    refine tk 10 21 hS ?_
    refine tk 11 22 hS ?_
    refine tk 12 23 hS ?_
    refine tk 13 24 hS ?_
    refine tk 14 25 hS ?_
    refine tk 15 26 hS ?_
    refine wpAnyV_one (i := 16) (by kernel_rfl) rfl (fun K hK => ?_)
    go_simp
    refine (l1Copy_any _ _ _ hlen (hr _ HK1.out.drew)).mono ?_
    rintro e w2 ⟨a5, n5, c5, rfl, hown, hfr, hk2⟩
    have hfr : ∀ b, (Value.slice a5 n5 c5).ownBlock = some b → w1.heap.size ≤ b := hfr
    have hkd : Same w1 w2 := (Kept.refl _ _).drew.trans hk2
    have b2 := b1.same hkd
    have z2 := z1.same hkd
    have y0 : w2.cell? ⟨w.heap.size + 1, 0, none⟩ = some (.int .i64 0) := z2.cell 0; have y1 : w2.cell? ⟨w.heap.size + 1, 1, none⟩ = some (.int .i64 0) := z2.cell 1; have y2 : w2.cell? ⟨w.heap.size + 1, 2, none⟩ = some (.int .i64 0) := z2.cell 2; have y3 : w2.cell? ⟨w.heap.size + 1, 3, none⟩ = some (.int .i64 0) := z2.cell 3; have y4 : w2.cell? ⟨w.heap.size + 1, 4, none⟩ = some (.slice none 0 0) := z2.cell 4
    have fz := z2.frozen
    have hS : Y3 w2 := by exact ⟨b2.cell 0, b2.cell 1, b2.cell 2, b2.cell 4⟩
    refine hK.out _ _ (fun _ => hS) ?_
    clear hK K
    try simp only [Act.put, sA, s0, sS]
    refine tk 17 28 hS ?_
    refine wpAnyV_one (i := 18) (by kernel_rfl) rfl (fun K hK => ?_)
    go_simp
    refine hK.out _ _ (fun h => absurd rfl h) ?_
    clear hK K
    refine wpAnyV_done (by kernel_rfl) ?_
    try simp only [Act.put, sA, s0, sS]
    go_wp2
    obtain rfl : n5 = (List.drop 0 ([] : List Int)).length := by obtain ⟨_, _, he⟩ := hown.rd.form; injection he
    have hb1 := b1.lt
    have hz1 := z1.lt
    refine bodyPost_ret (v := .agg #[.int .i64 s, .int .i64 ep, .int .i64 st, .int .i64 st, .slice a5 (List.drop 0 ([] : List Int)).length c5]) (by simp [results, Try.results14, go_sem, y0, y1, y2, y3, y4]) rfl ⟨⟨s, ep, st, st, ⟨5, a5, c5, List.drop 0 ([] : List Int)⟩⟩, rfl, (by first | rfl | exact ⟨rfl, rfl, rfl, rfl, rfl⟩), fun b hb => ?_, OwnL.one (Own.kept hown (R := fun b => b = w.heap.size ∨ b = w.heap.size + 1) ?_ (fun b hb e => ?_)), ?_⟩
    ·have := hfr b ((footL_ints _ _ _ _ _).1 hb); omega
    ·(iterate 5 refine Kept.setCell ?_ (.inr (by simp)) _); exact Kept.refl _ _
    ·have := hfr b hb; omega
    ·(iterate 5 refine Kept.setCell ?_ (.inl (by first | exact Nat.le_refl _ | exact Nat.le_succ _)) _); exact HK1.out.trans hkd
  ·injection he with he1 he2 he3
   subst he1 he3
   have hwr : IntKind.i64.wrap ((tb.length : Int) - (m : Int)) = (k : Int) := by rw [IntKind.wrap_i64]; omega
   have hkn : (k : Int).toNat = k := Int.toNat_natCast k
   clear hc
   by_cases hck : tc = k
   ·subst hck
    obtain rfl : tc = tb.length := by omega
    obtain rfl : m = 0 := by omega
    rw [List.drop_length] at hlen ⊢
    have hr : ∀ wx, Same w wx → Rd .u8 wx (.slice (some ⟨b, off, none⟩) 0 0) [] := fun wx hk => ⟨Nat.zero_le _, .inl ⟨rfl, _, _, rfl, fun h => by cases h⟩⟩
    clear hk1 hwr hkn hle hkl hml
    have hw0 : IntKind.i64.wrap 0 = 0 := by decide
    have hw1 : IntKind.i64.wrap (tb.length : Int) = (tb.length : Int) := by rw [IntKind.wrap_i64]; omega
    have hb0 : (0 : Int) ≤ (tb.length : Int) := by omega
    go_enter Try.func14, Try.ntmps14
    go_wp2_with (go_at_call 10; refine hF.mono ?_; rintro e w1 ⟨rfl, hk1'⟩; have b1 := b0.same hk1'; have z1 := z0.same hk1'; have HK1 := (show Hid (Same w w1) from hk0.trans hk1'); have c0 : w1.cell? ⟨w.heap.size, 0, none⟩ = some (.int .i64 s) := b1.cell 0; have c1 : w1.cell? ⟨w.heap.size, 1, none⟩ = some (.int .i64 ep) := b1.cell 1; have c2 : w1.cell? ⟨w.heap.size, 2, none⟩ = some (.int .i64 st) := b1.cell 2; have c3 : w1.cell? ⟨w.heap.size, 3, none⟩ = some (.int .i64 fl) := b1.cell 3; have c4 : w1.cell? ⟨w.heap.size, 4, none⟩ = some (.slice (some ⟨b, off, none⟩) tb.length tb.length) := b1.cell 4)
    let Y1 : World → Prop := fun wx : World => wx.cell? ⟨w.heap.size, 0, none⟩ = some (.int .i64 s) ∧ wx.cell? ⟨w.heap.size, 1, none⟩ = some (.int .i64 ep) ∧ wx.cell? ⟨w.heap.size, 2, none⟩ = some (.int .i64 st) ∧ wx.cell? ⟨w.heap.size, 4, none⟩ = some (.slice (some ⟨b, off, none⟩) tb.length tb.length)
    have hS : Y1 w1.drew := by exact ⟨c0, c1, c2, c4⟩
    refine wp_region_V Y1 18 19 rfl (by kernel_rfl) ?_
    refine tk 0 11 hS ?_
    refine tk 1 12 hS ?_
    refine tk 2 13 hS ?_
    refine tk 3 14 hS ?_
    refine tk 4 15 hS ?_
    refine tk 5 16 hS ?_
    refine tk 6 17 hS ?_
    refine tk 7 18 hS ?_
    refine tk 8 19 hS ?_
    refine tk 9 20 hS ?_
    refine tk 10 21 hS ?_
    refine tk 11 22 hS ?_
    refine tk 12 23 hS ?_
    refine tk 13 24 hS ?_
    refine tk 14 25 hS ?_
    refine tk 15 26 hS ?_
    refine wpAnyV_one (i := 16) (by kernel_rfl) rfl (fun K hK => ?_)
    go_simp
    refine (l1Copy_any _ _ _ hlen (hr _ HK1.out.drew)).mono ?_
    rintro e w2 ⟨a5, n5, c5, rfl, hown, hfr, hk2⟩
    have hfr : ∀ b, (Value.slice a5 n5 c5).ownBlock = some b → w1.heap.size ≤ b := hfr
    have hkd : Same w1 w2 := (Kept.refl _ _).drew.trans hk2
    have b2 := b1.same hkd
    have z2 := z1.same hkd
    have y0 : w2.cell? ⟨w.heap.size + 1, 0, none⟩ = some (.int .i64 0) := z2.cell 0; have y1 : w2.cell? ⟨w.heap.size + 1, 1, none⟩ = some (.int .i64 0) := z2.cell 1; have y2 : w2.cell? ⟨w.heap.size + 1, 2, none⟩ = some (.int .i64 0) := z2.cell 2; have y3 : w2.cell? ⟨w.heap.size + 1, 3, none⟩ = some (.int .i64 0) := z2.cell 3; have y4 : w2.cell? ⟨w.heap.size + 1, 4, none⟩ = some (.slice none 0 0) := z2.cell 4
    have fz := z2.frozen
    have hS : Y1 w2 := by exact ⟨b2.cell 0, b2.cell 1, b2.cell 2, b2.cell 4⟩
    refine hK.out _ _ (fun _ => hS) ?_
    clear hK K
    try simp only [Act.put, sA, s0, sS]
    refine tk 17 28 hS ?_
    refine wpAnyV_one (i := 18) (by kernel_rfl) rfl (fun K hK => ?_)
    go_simp
    refine hK.out _ _ (fun h => absurd rfl h) ?_
    clear hK K
    refine wpAnyV_done (by kernel_rfl) ?_
    try simp only [Act.put, sA, s0, sS]
    go_wp2
    obtain rfl : n5 = (([] : List Int)).length := by obtain ⟨_, _, he⟩ := hown.rd.form; injection he
    have hb1 := b1.lt
    have hz1 := z1.lt
    refine bodyPost_ret (v := .agg #[.int .i64 s, .int .i64 ep, .int .i64 st, .int .i64 st, .slice a5 (([] : List Int)).length c5]) (by simp [results, Try.results14, go_sem, y0, y1, y2, y3, y4]) rfl ⟨⟨s, ep, st, st, ⟨5, a5, c5, ([] : List Int)⟩⟩, rfl, (by first | rfl | exact ⟨rfl, rfl, rfl, rfl, rfl⟩), fun b hb => ?_, OwnL.one (Own.kept hown (R := fun b => b = w.heap.size ∨ b = w.heap.size + 1) ?_ (fun b hb e => ?_)), ?_⟩
    ·have := hfr b ((footL_ints _ _ _ _ _).1 hb); omega
    ·(iterate 5 refine Kept.setCell ?_ (.inr (by simp)) _); exact Kept.refl _ _
    ·have := hfr b hb; omega
    ·(iterate 5 refine Kept.setCell ?_ (.inl (by first | exact Nat.le_refl _ | exact Nat.le_succ _)) _); exact HK1.out.trans hkd
   ·have hr : ∀ wx, Same w wx → Rd .u8 wx (.slice (some ⟨b, off + k, none⟩) (tb.length - k) (tc - k)) (tb.drop k) := fun wx hk => by have h := hv.tail_some k hkl; rw [if_neg hck] at h; exact h.same hk
    have hw1 : IntKind.i64.wrap (k : Int) = (k : Int) := by rw [IntKind.wrap_i64]; omega
    have hb0 : (0 : Int) ≤ (k : Int) := by omega
    have hb1 : (k : Int) ≤ (tb.length : Int) := by omega
    go_enter Try.func14, Try.ntmps14
    go_wp2_with (go_at_call 10; refine hF.mono ?_; rintro e w1 ⟨rfl, hk1'⟩; have b1 := b0.same hk1'; have z1 := z0.same hk1'; have HK1 := (show Hid (Same w w1) from hk0.trans hk1'); have c0 : w1.cell? ⟨w.heap.size, 0, none⟩ = some (.int .i64 s) := b1.cell 0; have c1 : w1.cell? ⟨w.heap.size, 1, none⟩ = some (.int .i64 ep) := b1.cell 1; have c2 : w1.cell? ⟨w.heap.size, 2, none⟩ = some (.int .i64 st) := b1.cell 2; have c3 : w1.cell? ⟨w.heap.size, 3, none⟩ = some (.int .i64 fl) := b1.cell 3; have c4 : w1.cell? ⟨w.heap.size, 4, none⟩ = some (.slice (some ⟨b, off, none⟩) tb.length tc) := b1.cell 4)
    let Y2 : World → Prop := fun wx : World => wx.cell? ⟨w.heap.size, 0, none⟩ = some (.int .i64 s) ∧ wx.cell? ⟨w.heap.size, 1, none⟩ = some (.int .i64 ep) ∧ wx.cell? ⟨w.heap.size, 2, none⟩ = some (.int .i64 st) ∧ wx.cell? ⟨w.heap.size, 4, none⟩ = some (.slice (some ⟨b, off, none⟩) tb.length tc)
    have hS : Y2 w1.drew := by exact ⟨c0, c1, c2, c4⟩
    refine wp_region_V Y2 18 19 rfl (by kernel_rfl) ?_
    refine tk 0 11 hS ?_
    refine tk 1 12 hS ?_
    refine tk 2 13 hS ?_
    refine tk 3 14 hS ?_
    refine tk 4 15 hS ?_
    refine tk 5 16 hS ?_
    refine tk 6 17 hS ?_
    refine tk 7 18 hS ?_
    refine tk 8 19 hS ?_
    refine tk 9 20 hS ?_
    refine tk 10 21 hS ?_
    refine tk 11 22 hS ?_
    refine tk 12 23 hS ?_
    refine tk 13 24 hS ?_
    refine tk 14 25 hS ?_
    refine tk 15 26 hS ?_
    refine wpAnyV_one (i := 16) (by kernel_rfl) rfl (fun K hK => ?_)
    go_simp
    refine (l1Copy_any _ _ _ hlen (hr _ HK1.out.drew)).mono ?_
    rintro e w2 ⟨a5, n5, c5, rfl, hown, hfr, hk2⟩
    have hfr : ∀ b, (Value.slice a5 n5 c5).ownBlock = some b → w1.heap.size ≤ b := hfr
    have hkd : Same w1 w2 := (Kept.refl _ _).drew.trans hk2
    have b2 := b1.same hkd
    have z2 := z1.same hkd
    have y0 : w2.cell? ⟨w.heap.size + 1, 0, none⟩ = some (.int .i64 0) := z2.cell 0; have y1 : w2.cell? ⟨w.heap.size + 1, 1, none⟩ = some (.int .i64 0) := z2.cell 1; have y2 : w2.cell? ⟨w.heap.size + 1, 2, none⟩ = some (.int .i64 0) := z2.cell 2; have y3 : w2.cell? ⟨w.heap.size + 1, 3, none⟩ = some (.int .i64 0) := z2.cell 3; have y4 : w2.cell? ⟨w.heap.size + 1, 4, none⟩ = some (.slice none 0 0) := z2.cell 4
    have fz := z2.frozen
    have hS : Y2 w2 := by exact ⟨b2.cell 0, b2.cell 1, b2.cell 2, b2.cell 4⟩
    refine hK.out _ _ (fun _ => hS) ?_
    clear hK K
    try simp only [Act.put, sA, s0, sS]
    refine tk 17 28 hS ?_
    refine wpAnyV_one (i := 18) (by kernel_rfl) rfl (fun K hK => ?_)
    go_simp
    refine hK.out _ _ (fun h => absurd rfl h) ?_
    clear hK K
    refine wpAnyV_done (by kernel_rfl) ?_
    try simp only [Act.put, sA, s0, sS]
    go_wp2
    obtain rfl : n5 = (tb.drop k).length := by obtain ⟨_, _, he⟩ := hown.rd.form; injection he
    have hb1 := b1.lt
    have hz1 := z1.lt
    refine bodyPost_ret (v := .agg #[.int .i64 s, .int .i64 ep, .int .i64 st, .int .i64 st, .slice a5 (tb.drop k).length c5]) (by simp [results, Try.results14, go_sem, y0, y1, y2, y3, y4]) rfl ⟨⟨s, ep, st, st, ⟨5, a5, c5, tb.drop k⟩⟩, rfl, (by first | rfl | exact ⟨rfl, rfl, rfl, rfl, rfl⟩), fun b hb => ?_, OwnL.one (Own.kept hown (R := fun b => b = w.heap.size ∨ b = w.heap.size + 1) ?_ (fun b hb e => ?_)), ?_⟩
    ·have := hfr b ((footL_ints _ _ _ _ _).1 hb); omega
    ·(iterate 5 refine Kept.setCell ?_ (.inr (by simp)) _); exact Kept.refl _ _
    ·have := hfr b hb; omega
    ·(iterate 5 refine Kept.setCell ?_ (.inl (by first | exact Nat.le_refl _ | exact Nat.le_succ _)) _); exact HK1.out.trans hkd
 ·rw [if_neg hg]
  obtain ⟨q, hq⟩ : ∃ q, logFd (s, ep, st, fl, tb) = q := ⟨_, rfl⟩
  rw [hq] at hg hF
  clear hv
  go_enter Try.func14, Try.ntmps14
  go_wp2_with (go_at_call 10; refine hF.mono ?_; rintro e w1 ⟨rfl, hk1⟩; have b1 := b0.same hk1; have z1 := z0.same hk1; have HK1 := (show Hid (Same w w1) from hk0.trans hk1); have y0 : w1.cell? ⟨w.heap.size + 1, 0, none⟩ = some (.int .i64 0) := z1.cell 0; have y1 : w1.cell? ⟨w.heap.size + 1, 1, none⟩ = some (.int .i64 0) := z1.cell 1; have y2 : w1.cell? ⟨w.heap.size + 1, 2, none⟩ = some (.int .i64 0) := z1.cell 2; have y3 : w1.cell? ⟨w.heap.size + 1, 3, none⟩ = some (.int .i64 0) := z1.cell 3; have y4 : w1.cell? ⟨w.heap.size + 1, 4, none⟩ = some (.slice none 0 0) := z1.cell 4; have fz0 := z1.frozen 0; have fz1 := z1.frozen 1; have fz2 := z1.frozen 2; have fz3 := z1.frozen 3; have fz4 := z1.frozen 4)
  refine bodyPost_ret (v := .agg #[.int .i64 0, .int .i64 0, .int .i64 0, .int .i64 0, .slice none 0 0]) (by simp [results, Try.results14, go_sem, y0, y1, y2, y3, y4]) rfl ⟨⟨0, 0, 0, 0, ⟨0, none, 0, []⟩⟩, rfl, rfl, fun b hb => absurd hb (zeroLog_foot b), zeroLog_own _, ?_⟩
  (iterate 5 refine Kept.setCell ?_ (.inl (by first | exact Nat.le_refl _ | exact Nat.le_succ _)) _); exact HK1.out
end Go.Proofs.Ytmnhflanhchdeaa
