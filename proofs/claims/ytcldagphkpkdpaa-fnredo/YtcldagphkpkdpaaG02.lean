import Derived.Test.YtcldagphkpkdpaaG01
import Derived.Deep.Onto
namespace Go.Proofs.Ytcldagphkpkdpaa
set_option linter.unusedVariables false
set_option linter.unusedSimpArgs false
set_option maxRecDepth 100000
set_option maxHeartbeats 16000000
open Go Go.RowKit
theorem SrcR.lt {w0 w : World} {B : Nat} {v : Value} {cs : List Int} {k : Nat} {size : Int} (h : SrcR w0 w B v cs k size) : B < w.heap.size := h.src.lt
theorem SrcR.on {R : Nat → Prop} {w0 w w' : World} {B : Nat} {v : Value} {cs : List Int} {k : Nat} {size : Int} (h : SrcR w0 w B v cs k size) (hk : Kept R w w') (hB : ¬ R B) (hR : ∀ i, i < w0.heap.size → ¬ R i) : SrcR w0 w' B v cs k size := by
 have hk' : Kept (fun b => b = B) w0 w' := h.kept.next hk (fun i hi e => absurd e (hR i hi))
 exact ⟨h.src.kept hk hB (h.rd w' hk'), hk', h.rd⟩
theorem SrcR.same {w0 w w' : World} {B : Nat} {v : Value} {cs : List Int} {k : Nat} {size : Int} (h : SrcR w0 w B v cs k size) (hk : Same w w') : SrcR w0 w' B v cs k size := h.on hk id (fun _ _ => id)
theorem next_k {w0 w : World} {B : Nat} {v : Value} {cs : List Int} {k : Nat} {size : Int} (n : Int) (h : SrcR w0 w B v cs k size) (hk : k ≤ 1073741824) (hn : IsI n) :
  Calls Try.prog 13 #[.pointer (some ⟨B, 0, none⟩), .int .i64 n] w fun e w' => ∃ r, e = .returned (.int .i64 r) ∧ Drawn n r ∧ SrcR w0 w' B v cs (k + 1) size ∧ Kept (fun b => b = B) w w' := by
 refine (next_any B v cs k size n w h.src (fun w' hw => h.rd w' (h.kept.trans hw)) hk hn).mono ?_
 rintro e w' ⟨r, rfl, hd, hs, hk'⟩
 exact ⟨r, rfl, hd, ⟨hs, h.kept.trans hk', h.rd⟩, hk'⟩
theorem chance_k {w0 w : World} {B : Nat} {v : Value} {cs : List Int} {k : Nat} {size : Int} (n : Int) (h : SrcR w0 w B v cs k size) (hk : k ≤ 1073741824) (hn : IsI n) :
  Calls Try.prog 15 #[.pointer (some ⟨B, 0, none⟩), .int .i64 n] w fun e w' => ∃ b, e = .returned (.bool b) ∧ SrcR w0 w' B v cs (k + 1) size ∧ Kept (fun b => b = B) w w' := by
 have k0 := next_k n h hk hn
 clear h
 go_enter Try.func15, Try.ntmps15
 go_wp2_with fail
 refine k0.mono ?_
 rintro e w1 ⟨r, rfl, hd, hs, hk1⟩
 have HS := hid hs
 have HK := hid hk1
 clear k0 hs hk1
 go_wp2
 go_ret
 exact ⟨_, rfl, HS.out, HK.out⟩
theorem lsn_k {w0 w : World} {B : Nat} {v : Value} {cs : List Int} {k : Nat} {size : Int} (h : SrcR w0 w B v cs k size) (hk : k ≤ 1073741824) :
  Calls Try.prog 71 #[.pointer (some ⟨B, 0, none⟩)] w fun e w' => ∃ r, e = .returned (.int .i64 r) ∧ 512 ≤ r ∧ r < 60512 ∧ SrcR w0 w' B v cs (k + 1) size ∧ Kept (fun b => b = B) w w' := by
 have k0 := next_k 60000 h hk (by constructor <;> decide)
 clear h
 go_enter Try.func71, Try.ntmps71
 go_wp2_with fail
 refine k0.mono ?_
 rintro e w1 ⟨r, rfl, hd, hs, hk1⟩
 have HS := hid hs
 have HK := hid hk1
 obtain ⟨hr1, hr2⟩ := hd.2 (by decide)
 clear k0 hs hd hk1
 go_wp2
 go_ret
 exact ⟨_, rfl, by omega, by omega, HS.out, HK.out⟩
theorem wrapU8_bounds (x : Int) : 0 ≤ IntKind.u8.wrap x ∧ IntKind.u8.wrap x ≤ 255 := by
 simp [IntKind.wrap, IntKind.bits, IntKind.signed]
 omega
theorem fill_k {w0 w : World} {B : Nat} {v : Value} {cs : List Int} {k : Nat} {size : Int} (N : Nat) (h : SrcR w0 w B v cs k size) (hk : k ≤ 1073741821) (hN : N ≤ 4096) :
  Calls Try.prog 58 #[.pointer (some ⟨B, 0, none⟩), .int .i64 (N : Int)] w fun e w' => ∃ (g : Nat) (bs : List Int), e = .returned (.slice (some ⟨g, 0, none⟩) N N) ∧ bs.length = N ∧ IsB bs ∧ Own w0.heap.size 5 .u8 w' (.slice (some ⟨g, 0, none⟩) N N) bs ∧ g ≠ B ∧ SrcR w0 w' B v cs (k + 2) size ∧ w.heap.size ≤ g ∧ Kept (fun b => b = B) w w' := by
 obtain ⟨i0, hi, hz0, hz1, hz2⟩ := info_parts Try.infoByte'
 have k0 := next_k 256 h (by omega) (by constructor <;> decide)
 clear h
 go_enter Try.func58, Try.ntmps58
 go_wp2_with fail
 refine k0.mono ?_
 rintro e w1 ⟨a, rfl, hd, hs, hk1⟩
 have HK1 := hid hk1
 have HS1 := hid hs
 clear k0 hs hk1 hd
 go_wp2_with fail
 refine (next_k 5 HS1.out (by omega) (by constructor <;> decide)).mono ?_
 rintro e w2 ⟨b, rfl, hd, hs2, hk2⟩
 have HK2 := hid (HK1.out.trans hk2)
 have HS2 := hid hs2
 have hsz := hs2.kept.size
 have hBl := hs2.lt
 have hw2s := HK2.out.size
 clear hs2 hk2 hd
 obtain ⟨a', ha'⟩ : ∃ x, IntKind.u8.wrap a = x := ⟨_, rfl⟩
 obtain ⟨b', hb'⟩ : ∃ x, IntKind.u8.wrap b = x := ⟨_, rfl⟩
 go_wp2_with (at_make; refine wpList_make_full _ rfl (.tmp 15) (.tmp 15) 22 rfl w0.heap.size 5 i0 (.int .u8 0) 1 Try.underlying22 hi hz0 hz1 .i64 .i64 _ _ N rfl rfl (by simp) (by simp) (by rw [hz2]; omega) (by unfold maxLen; omega) hsz ?_; intro w3 hown1 hgrow1; have HO : Hid (∃ bs : List Int, bs.length = N ∧ IsB bs ∧ Own w0.heap.size 5 .u8 w3 (.slice (some ⟨w2.heap.size, 0, none⟩) N N) bs) := ⟨List.replicate N 0, List.length_replicate, fun y hy => by rw [List.eq_of_mem_replicate hy]; omega, own_made (by simpa using hown1)⟩; have HS3 := hid (HS2.out.same (Kept.of_grown hgrow1 (fun k e => by cases e))); have HK3 := hid (HK2.out.trans ((Kept.of_grown hgrow1 (fun k e => by cases e) : Same w2 w3).mono (fun _ _ e => e.elim))); clear hown1 hgrow1)
 go_loopw [8] (fun i wr => ∃ (j : Nat), j ≤ N ∧ i = .int .i64 (j : Int) ∧ Hid (∃ bs : List Int, bs.length = N ∧ IsB bs ∧ Own w0.heap.size 5 .u8 wr (.slice (some ⟨w2.heap.size, 0, none⟩) N N) bs) ∧ Hid (SrcR w0 wr B v cs (k + 2) size) ∧ Hid (Kept (fun b => b = B) w wr)) (fun i _ => N - (intOf i).toNat)
 case atStart => exact ⟨0, Nat.zero_le _, rfl, HO, HS3, HK3⟩
 case round =>
  obtain ⟨j, hj, rfl, HOj, HSj, HKj⟩ := hrel
  by_cases hlt : j < N
  ·obtain ⟨bs, hbl, hbb, ho⟩ := HOj.out
   have hc := ho.cell hbl.symm j (by omega)
   have hf := ho.frozen hbl.symm j
   have HO2 := hid ho
   clear ho
   go_wp2_with fail
   go_roundw
   case rel =>
    refine ⟨j + 1, by omega, by go_num, ⟨_, by rw [List.length_set, hbl], ?_, HO2.out.stored hbl.symm j _⟩, HSj.out.on (Kept.setCell (R := fun b => b = w2.heap.size) (Kept.refl _ _) (p := ⟨w2.heap.size, j, none⟩) (.inr rfl) _) (by omega) (fun i hi => by omega), HKj.out.setCell (p := ⟨w2.heap.size, j, none⟩) (.inl (by omega)) _⟩
    intro y hy
    rcases List.mem_or_eq_of_mem_set hy with hy | rfl
    ·exact hbb y hy
    ·exact wrapU8_bounds _
   case measure => simp [intOf]; omega
  ·go_wp2
   go_ret
   obtain ⟨bs, hbl, hbb, ho⟩ := HOj.out
   exact ⟨w2.heap.size, bs, rfl, hbl, hbb, ho, by omega, HSj.out, by omega, HKj.out⟩
theorem Own.low {base : Nat} {e : TypeId} {k : IntKind} {w : World} {v : Value} {bs : List Int} (h : Own base e k w v bs) : Own 0 e k w v bs := World.ownsRow.mono h (Nat.zero_le _)
def RecO (w0 w w' : World) (e : Ending) (B : Nat) (v : Value) (cs : List Int) (k : Nat) (size : Int) : Prop :=
 ∃ (u : Bool) (a : Option Addr) (c : Nat) (d : List Int) (k' : Nat), e = .returned (.agg #[.bool u, .slice a d.length c]) ∧ d.length ≤ 1000 ∧ IsB d ∧ Own 0 5 .u8 w' (.slice a d.length c) d ∧ (∀ b, (Value.slice a d.length c).ownBlock = some b → w.heap.size ≤ b ∧ ¬ b = B) ∧ k' ≤ k + 8 ∧ SrcR w0 w' B v cs k' size ∧ Kept (fun b => b = B) w w'
theorem rec_o {w0 w : World} {B : Nat} {v : Value} {cs : List Int} {k : Nat} {size : Int} (h : SrcR w0 w B v cs k size) (hk : k ≤ 1073741800) :
  Calls Try.prog 35 #[.pointer (some ⟨B, 0, none⟩)] w fun e w' => RecO w0 w w' e B v cs k size := by
 have b0 := Blk.new w #[.bool false, .slice none 0 0] 44
 have hBw := h.lt
 have hw0 := h.kept.size
 have hk0 : Same w (w.alloc (.cells #[.bool false, .slice none 0 0] 44)) := (Kept.refl _ _).alloc _
 have HS0 := hid (h.same hk0)
 clear h
 go_enter Try.func35, Try.ntmps35
 go_upto_region 1 with fail
 obtain ⟨X, hX⟩ : ∃ X, w.heap.size = X := ⟨_, rfl⟩
 have HX := hid hX
 rw [hX] at b0 hBw hw0
 generalize hw1 : w.alloc (.cells #[.bool false, .slice none 0 0] 44) = w1 at *
 have HK0 := hid hk0
 have HB0 := hid b0
 rw [hX]
 clear hk0 b0 hX hw1
 go_wp2_with fail
 refine (next_k 10 HS0.out (by omega) (by constructor <;> decide)).mono ?_
 rintro e w2 ⟨z, rfl, hd, hs2, hk2⟩
 obtain ⟨hz1, hz2⟩ := hd.2 (by decide)
 have HS2 := hid hs2
 have HK2 := (show Hid (Kept (fun b => b = B) w w2) from (HK0.out.mono (fun _ _ e => e.elim)).trans hk2)
 have HB2 := hid (HB0.out.kept hk2 (fun e => by omega))
 clear hd hs2 hk2 HS0 HB0
 by_cases z0 : z = 0
 ·subst z0
  obtain ⟨r0, r1⟩ := HB2.out.all2
  have fr := HB2.out.frozen
  have lr := HB2.out.lt
  have hkr : Kept (fun b => b = X) w2 ((w2.setCell ⟨X, 0, none⟩ (.bool false)).setCell ⟨X, 1, none⟩ (.slice none 0 0)) := ((Kept.refl (fun b => b = X) w2).setCell (p := ⟨X, 0, none⟩) (.inr rfl) _).setCell (p := ⟨X, 1, none⟩) (.inr rfl) _
  have HEN := (show Hid (RecO w0 w ((w2.setCell ⟨X, 0, none⟩ (.bool false)).setCell ⟨X, 1, none⟩ (.slice none 0 0)) (.returned (.agg #[.bool false, .slice none 0 0])) B v cs k size) from ⟨false, none, 0, [], k + 1, rfl, by simp, fun x hx => by simp at hx, Own.nil _ _ _ _, fun b hb => by simp [Value.ownBlock] at hb, by omega, HS2.out.on hkr (fun e => by omega) (fun i hi e => by omega), HK2.out.next hkr (fun i hi e => by have := HX.out; omega)⟩)
  have HBE := hid ((HB2.out.stored 0 (.bool false)).stored 1 (.slice none 0 0))
  clear hkr
  go_wp2
  generalize (w2.setCell ⟨X, 0, none⟩ (.bool false)).setCell ⟨X, 1, none⟩ (.slice none 0 0) = wz at *
  obtain ⟨x0, x1⟩ := HBE.out.all2
  exact bodyPost_ret (v := .agg #[.bool false, .slice none 0 0]) (by simp [results, Try.results35, go_sem, x0, x1]) rfl HEN.out
 have e0 : (z == 0) = false := by simp [z0]
 have HS := HS2
 have HB := HB2
 have HK := HK2
 clear HS2 HB2 HK2
 go_wp2_with fail
 refine (next_k 60 HS.out (by omega) (by constructor <;> decide)).mono ?_
 rintro e w3 ⟨n1, rfl, hd, hs', hk'⟩
 obtain ⟨hn11, hn12⟩ := hd.2 (by decide)
 have HB' := hid (HB.out.kept hk' (fun e => by omega))
 have HK' := hid (HK.out.trans hk')
 clear HS HB HK
 have HS := hid hs'
 have HB := HB'
 have HK := HK'
 clear hd hs' hk' HB' HK'
 obtain ⟨n1, rfl⟩ : ∃ m : Nat, n1 = (m : Int) := ⟨n1.toNat, by omega⟩
 by_cases z4 : z < 4
 ·have e4 : (z == 4) = false := by simp; omega
  go_wp2_with fail
  refine (next_k 3 HS.out (by omega) (by constructor <;> decide)).mono ?_
  rintro e w4 ⟨q, rfl, hd, hs', hk'⟩
  obtain ⟨hq1, hq2⟩ := hd.2 (by decide)
  have HB' := hid (HB.out.kept hk' (fun e => by omega))
  have HK' := hid (HK.out.trans hk')
  clear HS HB HK
  have HS := hid hs'
  have HB := HB'
  have HK := HK'
  clear hd hs' hk' HB' HK'
  go_wp2_with fail
  refine (next_k 200 HS.out (by omega) (by constructor <;> decide)).mono ?_
  rintro e w5 ⟨r, rfl, hd, hs', hk'⟩
  obtain ⟨hr1, hr2⟩ := hd.2 (by decide)
  have HB' := hid (HB.out.kept hk' (fun e => by omega))
  have HK' := hid (HK.out.trans hk')
  clear HS HB HK
  have HS := hid hs'
  have HB := HB'
  have HK := HK'
  clear hd hs' hk' HB' HK'
  obtain ⟨m, hm⟩ : ∃ m, q * r = m := ⟨_, rfl⟩
  have hm1 : 0 ≤ m := by rw [← hm]; exact Int.mul_nonneg (by omega) (by omega)
  have hm2 : m ≤ 398 := by
   have h := Int.mul_le_mul (show q ≤ 2 from by omega) (show r ≤ 199 from by omega) (by omega) (by omega)
   omega
  have q1 : IntKind.i64.wrap (q * r) = m := by rw [IntKind.wrap_i64, hm]; omega
  obtain ⟨N, hN⟩ : ∃ N : Nat, 1000 - m = (N : Int) := ⟨(1000 - m).toNat, by omega⟩
  have q2 : IntKind.i64.wrap (1000 - m) = (N : Int) := by rw [IntKind.wrap_i64, hN]; omega
  have hN2 : N ≤ 1000 := by omega
  clear hm hN
  go_wp2_with fail
  refine (fill_k N HS.out (by omega) (by omega)).mono ?_
  rintro e w9 ⟨g, bs, rfl, hbl, hbb, ho, hgB, hs, hgw, hk9⟩
  have HO := hid ho
  have HS9 := hid hs
  have HB9 := hid (HB.out.kept hk9 (fun e => by omega))
  have HK9 := hid (HK.out.trans hk9)
  have hgl := (ho.lt g rfl).2
  have hwX : X < w9.heap.size := HB9.out.lt
  have hgw9 : X ≤ g := by have := HB.out.lt; omega
  have hgX : ¬ g = X := fun e => by have := HB.out.lt; omega
  clear ho hs hk9 HS HB HK hgw
  obtain ⟨r0, r1⟩ := HB9.out.all2
  have fr := HB9.out.frozen
  have hkr : Kept (fun b => b = X) w9 ((w9.setCell ⟨X, 0, none⟩ (.bool true)).setCell ⟨X, 1, none⟩ (.slice (some ⟨g, 0, none⟩) N N)) := ((Kept.refl (fun b => b = X) w9).setCell (p := ⟨X, 0, none⟩) (.inr rfl) _).setCell (p := ⟨X, 1, none⟩) (.inr rfl) _
  have HEN := (show Hid (RecO w0 w ((w9.setCell ⟨X, 0, none⟩ (.bool true)).setCell ⟨X, 1, none⟩ (.slice (some ⟨g, 0, none⟩) N N)) (.returned (.agg #[.bool true, .slice (some ⟨g, 0, none⟩) N N])) B v cs k size) from ⟨true, some ⟨g, 0, none⟩, N, bs, _, by rw [hbl], by omega, hbb, by
   rw [hbl]
   exact Own.low (HO.out.kept hkr (fun b hb e => by have e1 : g = b := (by simpa [Value.ownBlock] using hb); omega)), by
   rw [hbl]
   intro b hb
   have e1 : g = b := (by simpa [Value.ownBlock] using hb)
   subst e1
   exact ⟨by have := HX.out; omega, hgB⟩, by omega, HS9.out.on hkr (fun e => by omega) (fun i hi e => by omega), HK9.out.next hkr (fun i hi e => by have := HX.out; omega)⟩)
  have HBE := hid ((HB9.out.stored 0 (.bool true)).stored 1 (.slice (some ⟨g, 0, none⟩) N N))
  clear hkr
  go_wp2
  generalize (w9.setCell ⟨X, 0, none⟩ (.bool true)).setCell ⟨X, 1, none⟩ (.slice (some ⟨g, 0, none⟩) N N) = wz at *
  obtain ⟨x0, x1⟩ := HBE.out.all2
  exact bodyPost_ret (v := .agg #[.bool true, .slice (some ⟨g, 0, none⟩) N N]) (by simp [results, Try.results35, go_sem, x0, x1]) rfl HEN.out
 by_cases z5 : z = 4
 ·subst z5
  go_wp2_with fail
  refine (fill_k 0 HS.out (by omega) (by omega)).mono ?_
  rintro e w9 ⟨g, bs, rfl, hbl, hbb, ho, hgB, hs, hgw, hk9⟩
  have HO := hid ho
  have HS9 := hid hs
  have HB9 := hid (HB.out.kept hk9 (fun e => by omega))
  have HK9 := hid (HK.out.trans hk9)
  have hgl := (ho.lt g rfl).2
  have hwX : X < w9.heap.size := HB9.out.lt
  have hgw9 : X ≤ g := by have := HB.out.lt; omega
  have hgX : ¬ g = X := fun e => by have := HB.out.lt; omega
  clear ho hs hk9 HS HB HK hgw
  obtain ⟨r0, r1⟩ := HB9.out.all2
  have fr := HB9.out.frozen
  have hkr : Kept (fun b => b = X) w9 ((w9.setCell ⟨X, 0, none⟩ (.bool true)).setCell ⟨X, 1, none⟩ (.slice (some ⟨g, 0, none⟩) 0 0)) := ((Kept.refl (fun b => b = X) w9).setCell (p := ⟨X, 0, none⟩) (.inr rfl) _).setCell (p := ⟨X, 1, none⟩) (.inr rfl) _
  have HEN := (show Hid (RecO w0 w ((w9.setCell ⟨X, 0, none⟩ (.bool true)).setCell ⟨X, 1, none⟩ (.slice (some ⟨g, 0, none⟩) 0 0)) (.returned (.agg #[.bool true, .slice (some ⟨g, 0, none⟩) 0 0])) B v cs k size) from ⟨true, some ⟨g, 0, none⟩, 0, bs, _, by rw [hbl], by omega, hbb, by
   rw [hbl]
   exact Own.low (HO.out.kept hkr (fun b hb e => by have e1 : g = b := (by simpa [Value.ownBlock] using hb); omega)), by
   rw [hbl]
   intro b hb
   have e1 : g = b := (by simpa [Value.ownBlock] using hb)
   subst e1
   exact ⟨by have := HX.out; omega, hgB⟩, by omega, HS9.out.on hkr (fun e => by omega) (fun i hi e => by omega), HK9.out.next hkr (fun i hi e => by have := HX.out; omega)⟩)
  have HBE := hid ((HB9.out.stored 0 (.bool true)).stored 1 (.slice (some ⟨g, 0, none⟩) 0 0))
  clear hkr
  go_wp2
  generalize (w9.setCell ⟨X, 0, none⟩ (.bool true)).setCell ⟨X, 1, none⟩ (.slice (some ⟨g, 0, none⟩) 0 0) = wz at *
  obtain ⟨x0, x1⟩ := HBE.out.all2
  exact bodyPost_ret (v := .agg #[.bool true, .slice (some ⟨g, 0, none⟩) 0 0]) (by simp [results, Try.results35, go_sem, x0, x1]) rfl HEN.out
 have e4 : (z == 4) = false := by simp [z5]
 have e4' : ¬ z < 4 := z4
 go_wp2_with fail
 refine (fill_k n1 HS.out (by omega) (by omega)).mono ?_
 rintro e w9 ⟨g, bs, rfl, hbl, hbb, ho, hgB, hs, hgw, hk9⟩
 have HO := hid ho
 have HS9 := hid hs
 have HB9 := hid (HB.out.kept hk9 (fun e => by omega))
 have HK9 := hid (HK.out.trans hk9)
 have hgl := (ho.lt g rfl).2
 have hwX : X < w9.heap.size := HB9.out.lt
 have hgw9 : X ≤ g := by have := HB.out.lt; omega
 have hgX : ¬ g = X := fun e => by have := HB.out.lt; omega
 clear ho hs hk9 HS HB HK hgw
 obtain ⟨r0, r1⟩ := HB9.out.all2
 have fr := HB9.out.frozen
 have hkr : Kept (fun b => b = X) w9 ((w9.setCell ⟨X, 0, none⟩ (.bool true)).setCell ⟨X, 1, none⟩ (.slice (some ⟨g, 0, none⟩) n1 n1)) := ((Kept.refl (fun b => b = X) w9).setCell (p := ⟨X, 0, none⟩) (.inr rfl) _).setCell (p := ⟨X, 1, none⟩) (.inr rfl) _
 have HEN := (show Hid (RecO w0 w ((w9.setCell ⟨X, 0, none⟩ (.bool true)).setCell ⟨X, 1, none⟩ (.slice (some ⟨g, 0, none⟩) n1 n1)) (.returned (.agg #[.bool true, .slice (some ⟨g, 0, none⟩) n1 n1])) B v cs k size) from ⟨true, some ⟨g, 0, none⟩, n1, bs, _, by rw [hbl], by omega, hbb, by
  rw [hbl]
  exact Own.low (HO.out.kept hkr (fun b hb e => by have e1 : g = b := (by simpa [Value.ownBlock] using hb); omega)), by
  rw [hbl]
  intro b hb
  have e1 : g = b := (by simpa [Value.ownBlock] using hb)
  subst e1
  exact ⟨by have := HX.out; omega, hgB⟩, by omega, HS9.out.on hkr (fun e => by omega) (fun i hi e => by omega), HK9.out.next hkr (fun i hi e => by have := HX.out; omega)⟩)
 have HBE := hid ((HB9.out.stored 0 (.bool true)).stored 1 (.slice (some ⟨g, 0, none⟩) n1 n1))
 clear hkr
 go_wp2
 generalize (w9.setCell ⟨X, 0, none⟩ (.bool true)).setCell ⟨X, 1, none⟩ (.slice (some ⟨g, 0, none⟩) n1 n1) = wz at *
 obtain ⟨x0, x1⟩ := HBE.out.all2
 exact bodyPost_ret (v := .agg #[.bool true, .slice (some ⟨g, 0, none⟩) n1 n1]) (by simp [results, Try.results35, go_sem, x0, x1]) rfl HEN.out
def RcT (r : StLogRecord) : Prop := (r.txns.e = 106 ∨ r.txns.a = none) ∧ (r.dirty.e = 108 ∨ r.dirty.a = none) ∧ (r.image.e = 5 ∨ r.image.a = none)
def RcR (w0 w w' : World) (e : Ending) (B : Nat) (v : Value) (cs : List Int) (k : Nat) (size : Int) (n : Nat) : Prop :=
 ∃ (y : StLogRecord) (k' : Nat), e = .returned y.val ∧ (IsB y.before.data.bs ∧ IsB y.after.data.bs ∧ IsB y.image.bs ∧ RcT y) ∧ y.szs ≤ 5000 ∧ OwnL w' y.rows ∧ (∀ b, FootL y.rows b → w.heap.size ≤ b ∧ ¬ b = B) ∧ k' ≤ k + n ∧ SrcR w0 w' B v cs k' size ∧ Kept (fun b => b = B) w w'
def recU (txn prev page slot : Int) (bu : Bool) (ba : Option Addr) (bc : Nat) (bd : List Int) (au : Bool) (aa : Option Addr) (ac : Nat) (ad : List Int) : StLogRecord := ⟨1, txn, prev, page, slot, ⟨bu, ⟨5, ba, bc, bd⟩⟩, ⟨au, ⟨5, aa, ac, ad⟩⟩, 0, 0, ⟨106, none, 0, 0, []⟩, ⟨108, none, 0, 0, []⟩, ⟨5, none, 0, []⟩⟩
def celU (txn prev page slot : Int) (bu : Bool) (ba : Option Addr) (bc : Nat) (bd : List Int) (au : Bool) (aa : Option Addr) (ac : Nat) (ad : List Int) : List Value := [.int .i64 1, .int .i64 txn, .int .i64 prev, .int .i64 page, .int .i64 slot, .bool bu, .slice ba bd.length bc, .bool au, .slice aa ad.length ac, .int .i64 0, .int .i64 0, .slice none 0 0, .slice none 0 0, .slice none 0 0]
theorem endV {fn : Func} {p : Tmp} {ty : TypeId} {tmps : Array Value} {P : Program} {w : World} {Z : Nat} {cs : List Value} {d : TypeDesc} (h : fn.results = #[.cell p ty]) (hp : tmps.getD p undef = .pointer (some ⟨Z, 0, none⟩)) (hc : w.rangeAt Z 0 cs)
  (hu : P.underlying ty = some d) (hd : d.isRow = true) (hi : (P.info? ty).map (·.size) = some cs.length) : (results fn tmps).run P w = .ok (.agg cs.toArray) w := by
 rw [Array.getD_eq_getD_getElem?] at hp
 simp only [results, h]
 simp [Sem.run_bind, Result.andThen, hp, asAddr, run_loadVar_mid w Z 0 ty cs d hc hu hd hi]
theorem own_nilQ (m : Nat) (e : TypeId) (w : World) : OwnL w (FR.rows m ⟨e, none, 0, 0, []⟩) :=
 ⟨fun r hr => by rw [List.mem_singleton.1 hr]; exact ⟨by simp [vals], .inl ⟨rfl, rfl⟩⟩, List.pairwise_singleton _ _⟩
def IsBl (v : Value) : Prop := ∃ b : Bool, v = .bool b
def UpI (w0 w : World) (B X Y : Nat) (v : Value) (cs : List Int) (k : Nat) (size z1 z2 z3 : Int) (bu : Bool) (ba : Option Addr) (bc : Nat) (bd : List Int) (aa : Option Addr) (ac : Nat) (ad : List Int) (n : Nat) (wx : World) : Prop :=
 ∃ (prev : Int) (au : Bool) (k' : Nat), Blk wx Y 48 (celU z1 prev z2 z3 bu ba bc bd au aa ac ad) ∧ Blk wx X 48 [.int .i64 0, .int .i64 0, .int .i64 0, .int .i64 0, .int .i64 0, .bool false, .slice none 0 0, .bool false, .slice none 0 0, .int .i64 0, .int .i64 0, .slice none 0 0, .slice none 0 0, .slice none 0 0] ∧ SrcR w0 wx B v cs k' size ∧ k' ≤ k + n ∧ Own 0 5 .u8 wx (.slice ba bd.length bc) bd ∧ Own 0 5 .u8 wx (.slice aa ad.length ac) ad ∧ Kept (fun b => b = B) w wx
theorem upd_k {w0 w : World} {B : Nat} {v : Value} {cs : List Int} {k : Nat} {size : Int} (h : SrcR w0 w B v cs k size) (hk : k ≤ 1073741000) :
  Calls Try.prog 56 #[.pointer (some ⟨B, 0, none⟩)] w fun e w' => RcR w0 w w' e B v cs k size 40 := by
 have b0 := Blk.new w #[.int .i64 0, .int .i64 0, .int .i64 0, .int .i64 0, .int .i64 0, .bool false, .slice none 0 0, .bool false, .slice none 0 0, .int .i64 0, .int .i64 0, .slice none 0 0, .slice none 0 0, .slice none 0 0] 48
 have hBw := h.lt
 have hw0 := h.kept.size
 have hk0 : Same w (w.alloc (.cells #[.int .i64 0, .int .i64 0, .int .i64 0, .int .i64 0, .int .i64 0, .bool false, .slice none 0 0, .bool false, .slice none 0 0, .int .i64 0, .int .i64 0, .slice none 0 0, .slice none 0 0, .slice none 0 0] 48)) := (Kept.refl _ _).alloc _
 have HS := hid (h.same hk0)
 clear h
 go_enter Try.func56, Try.ntmps56
 go_upto_region 1 with fail
 obtain ⟨X, hX⟩ : ∃ X, w.heap.size = X := ⟨_, rfl⟩
 have HX := hid hX
 rw [hX] at b0 hBw hw0
 generalize hw1 : w.alloc (.cells #[.int .i64 0, .int .i64 0, .int .i64 0, .int .i64 0, .int .i64 0, .bool false, .slice none 0 0, .bool false, .slice none 0 0, .int .i64 0, .int .i64 0, .slice none 0 0, .slice none 0 0, .slice none 0 0] 48) = w1 at *
 have HK := hid (hk0.mono (R' := fun b => b = B) (fun _ _ e => e.elim))
 have HB := hid b0
 rw [hX]
 clear hk0 b0 hX hw1
 go_wp2_with fail
 refine (next_k 9 HS.out (by omega) (by constructor <;> decide)).mono ?_
 rintro e w2 ⟨z1, rfl, hd, hs', hk'⟩
 have HB' := hid (HB.out.kept hk' (fun e => by omega))
 have HK' := hid (HK.out.trans hk')
 clear HS HB HK
 have HS := hid hs'
 have HB := HB'
 have HK := HK'
 have hyw2 := hk'.size
 have hxw2 := HB.out.lt
 obtain ⟨hz11, hz12⟩ := hd.2 (by decide)
 clear hd
 clear hs' hk' HB' HK'
 go_wp2_with fail
 refine (next_k 4 HS.out (by omega) (by constructor <;> decide)).mono ?_
 rintro e w3 ⟨z2, rfl, hd, hs', hk'⟩
 have HB' := hid (HB.out.kept hk' (fun e => by omega))
 have HK' := hid (HK.out.trans hk')
 clear HS HB HK
 have HS := hid hs'
 have HB := HB'
 have HK := HK'
 have hyw3 := hk'.size
 have hxw3 := HB.out.lt
 obtain ⟨hz21, hz22⟩ := hd.2 (by decide)
 clear hd
 clear hs' hk' HB' HK'
 go_wp2_with fail
 refine (next_k 6 HS.out (by omega) (by constructor <;> decide)).mono ?_
 rintro e w4 ⟨z3, rfl, hd, hs', hk'⟩
 have HB' := hid (HB.out.kept hk' (fun e => by omega))
 have HK' := hid (HK.out.trans hk')
 clear HS HB HK
 have HS := hid hs'
 have HB := HB'
 have HK := HK'
 have hyw4 := hk'.size
 have hxw4 := HB.out.lt
 obtain ⟨hz31, hz32⟩ := hd.2 (by decide)
 clear hd
 clear hs' hk' HB' HK'
 go_wp2_with fail
 refine (rec_o HS.out (by omega)).mono ?_
 rintro e w5 ⟨bu, ba, bc, bd, kb, rfl, hlb, hbb, ho, hf, hkb, hs', hk'⟩
 have HB' := hid (HB.out.kept hk' (fun e => by omega))
 have HK' := hid (HK.out.trans hk')
 clear HS HB HK
 have HS := hid hs'
 have HB := HB'
 have HK := HK'
 have hyw5 := hk'.size
 have hxw5 := HB.out.lt
 have HOb := hid ho
 have HObF := (show Hid (∀ b, (Value.slice ba bd.length bc).ownBlock = some b → X ≤ b ∧ ¬ b = B ∧ w4.heap.size ≤ b ∧ b < w5.heap.size) from fun b hb => by have h1 := hf b hb; have h2 := (ho.lt b hb).2; have h3 := HX.out; omega)
 have HIb := hid hbb
 clear ho hf hbb
 clear hs' hk' HB' HK'
 go_wp2_with fail
 refine (rec_o HS.out (by omega)).mono ?_
 rintro e w6 ⟨au, aa, ac, ad, ka, rfl, hla, hba, ho, hf, hka, hs', hk'⟩
 have HB' := hid (HB.out.kept hk' (fun e => by omega))
 have HK' := hid (HK.out.trans hk')
 have HOb' := hid (HOb.out.kept hk' (fun b hb e => by have := HObF.out b hb; omega))
 clear HS HB HK HOb
 have HS := hid hs'
 have HB := HB'
 have HK := HK'
 have HOb := HOb'
 have hyw6 := hk'.size
 have hxw6 := HB.out.lt
 have HOa := hid ho
 have HOaF := (show Hid (∀ b, (Value.slice aa ad.length ac).ownBlock = some b → X ≤ b ∧ ¬ b = B ∧ w5.heap.size ≤ b ∧ b < w6.heap.size) from fun b hb => by have h1 := hf b hb; have h2 := (ho.lt b hb).2; have h3 := HX.out; omega)
 have HIa := hid hba
 clear ho hf hba
 clear hs' hk' HB' HK' HOb'
 obtain ⟨z1', hz1'⟩ : ∃ z, 1 + z1 = z := ⟨_, rfl⟩
 have hwz : IntKind.i64.wrap z1' = z1' := by rw [IntKind.wrap_i64]; omega
 have hX6 := HB.out.lt
 have hXw := HX.out
 have hYB : ¬ w6.heap.size = B := by omega
 have hYX : ¬ w6.heap.size = X := by omega
 have hkA : Same w6 (w6.alloc (.cells (celU z1' 0 z2 z3 bu ba bc bd au aa ac ad).toArray 48)) := (Kept.refl _ _).alloc _
 have HUP := (show Hid (UpI w0 w B X w6.heap.size v cs k size z1' z2 z3 bu ba bc bd aa ac ad 20 (w6.alloc (.cells (celU z1' 0 z2 z3 bu ba bc bd au aa ac ad).toArray 48))) from ⟨0, au, _, Blk.newL _ _ _, HB.out.same hkA, HS.out.same hkA, by omega, HOb.out.same hkA, HOa.out.same hkA, HK.out.next hkA (fun i hi e => e.elim)⟩)
 have HOF := (show Hid ((∀ b, (Value.slice ba bd.length bc).ownBlock = some b → X ≤ b ∧ ¬ b = B ∧ b < w6.heap.size) ∧ (∀ b, (Value.slice aa ad.length ac).ownBlock = some b → X ≤ b ∧ ¬ b = B ∧ b < w6.heap.size) ∧ (∀ b, (Value.slice ba bd.length bc).ownBlock = some b → ¬ (Value.slice aa ad.length ac).ownBlock = some b) ∧ (∀ b, (Value.slice ba bd.length bc).ownBlock = some b → ¬ b = X) ∧ ∀ b, (Value.slice aa ad.length ac).ownBlock = some b → ¬ b = X) from ⟨fun b hb => by have := HObF.out b hb; omega, fun b hb => by have := HOaF.out b hb; omega, fun b hb h => by have h1 := HObF.out b hb; have h2 := HOaF.out b h; omega, fun b hb e => by have := HObF.out b hb; have h2 := HB.out.lt; omega, fun b hb e => by have := HOaF.out b hb; omega⟩)
 clear hkA HB HS HK HOb HOa HObF HOaF hkb hka
 unfold celU at HUP
 dsimp only [List.toArray] at HUP
 obtain ⟨Y, hY⟩ : ∃ Y, w6.heap.size = Y := ⟨_, rfl⟩
 have hYX' : X < w6.heap.size := hX6
 rw [hY] at HUP HOF hYB hYX hYX'
 clear hXw
 have HY := hid hY
 clear hY
 go_upto_region 2 with fail
 rw [HY.out]
 generalize World.alloc w6 _ = w7 at HUP ⊢
 clear HY
 obtain ⟨prev, au', k7, hBY, hBX, hS, hk7, hOb, hOa, hK⟩ := HUP.out
 clear HUP
 have HBY := hid hBY
 have HBX := hid hBX
 have HS := hid hS
 have HOb := hid hOb
 have HOa := hid hOa
 have HK := hid hK
 clear hBY hBX hS hOb hOa hK
 go_wp2_with fail
 refine (chance_k 2 HS.out (by omega) (by constructor <;> decide)).mono ?_
 rintro ex w8 ⟨ch, rfl, hs, hk8⟩
 have HS8 := hid hs
 have HBY8 := hid (HBY.out.kept hk8 hYB)
 have HBX8 := hid (HBX.out.kept hk8 (by omega))
 have HOb8 := hid (HOb.out.kept hk8 (fun b hb e => (HOF.out.1 b hb).2.1 e))
 have HOa8 := hid (HOa.out.kept hk8 (fun b hb e => (HOF.out.2.1 b hb).2.1 e))
 have HK8 := hid (HK.out.trans hk8)
 clear hs hk8 HS HBY HBX HOb HOa HK
 go_upto_if 17 with fail
 go_cut [3] (fun x wx => x = .pointer (some ⟨Y, 0, none⟩) ∧ Hid (UpI w0 w B X Y v cs k size z1' z2 z3 bu ba bc bd aa ac ad 24 wx))
 case first =>
  cases ch
  case false =>
   go_wp2_with fail
   go_meet
   case rel => exact ⟨rfl, prev, au', _, HBY8.out, HBX8.out, HS8.out, by omega, HOb8.out, HOa8.out, HK8.out⟩
  go_wp2_with fail
  refine (lsn_k HS8.out (by omega)).mono ?_
  rintro ex w9 ⟨r, rfl, hr1, hr2, hs, hk9⟩
  have HBY9 := hid (HBY8.out.kept hk9 hYB)
  have c2 : w9.cell? ⟨Y, 2, none⟩ = some (.int .i64 prev) := HBY9.out.cell 2
  have fy := HBY9.out.frozen
  have hkr : Kept (fun b => b = Y) w9 (w9.setCell ⟨Y, 2, none⟩ (.int .i64 r)) := Kept.setCell (R := fun b => b = Y) (Kept.refl _ _) (p := ⟨Y, 2, none⟩) (.inr rfl) _
  have HE := (show Hid (UpI w0 w B X Y v cs k size z1' z2 z3 bu ba bc bd aa ac ad 24 (w9.setCell ⟨Y, 2, none⟩ (.int .i64 r))) from ⟨r, au', _, HBY9.out.stored 2 _, (HBX8.out.kept hk9 (by omega)).kept hkr (fun e => hYX e.symm), hs.on hkr (fun e => hYB e.symm) (fun i hi e => by have e' : i = Y := e; have := HX.out; omega), by omega, (HOb8.out.kept hk9 (fun b hb e => (HOF.out.1 b hb).2.1 e)).kept hkr (fun b hb e => by have e' : b = Y := e; have := (HOF.out.1 b hb).2.2; omega), (HOa8.out.kept hk9 (fun b hb e => (HOF.out.2.1 b hb).2.1 e)).kept hkr (fun b hb e => by have e' : b = Y := e; have := (HOF.out.2.1 b hb).2.2; omega), (HK8.out.trans hk9).next hkr (fun i hi e => by have e' : i = Y := e; have := HX.out; omega)⟩)
  clear hs hk9 hkr
  go_wp2_with fail
  generalize w9.setCell ⟨Y, 2, none⟩ (.int .i64 r) = w10 at HE ⊢
  go_meet
  case rel => exact ⟨rfl, HE⟩
 case rest =>
 obtain ⟨rfl, HUP⟩ := hcut
 clear HS8 HBY8 HBX8 HOb8 HOa8 HK8
 obtain ⟨w8', hw8'⟩ : ∃ z, wc = z := ⟨_, rfl⟩
 rw [hw8'] at HUP ⊢
 clear hw8'
 rename_i au0 _
 obtain ⟨prev, au, k7, hBY, hBX, hS, hk7, hOb, hOa, hK⟩ := HUP.out
 clear HUP
 have HBY := hid hBY
 have HBX := hid hBX
 have HS := hid hS
 have HOb := hid hOb
 have HOa := hid hOa
 have HK := hid hK
 clear hBY hBX hS hOb hOa hK
 have c5 : w8'.cell? ⟨Y, 5, none⟩ = some (.bool bu) := HBY.out.cell 5
 have c7 : w8'.cell? ⟨Y, 7, none⟩ = some (.bool au) := HBY.out.cell 7
 have fy := HBY.out.frozen
 go_upto_region 4 with fail
 go_cut [30] (fun x wx => Hid (IsBl x) ∧ w8' = wx)
 case first =>
  cases bu <;> cases au
  all_goals
   go_wp2_with fail
   go_meet
   case rel => exact ⟨⟨_, rfl⟩, rfl⟩
 case rest =>
 obtain ⟨⟨ch2, rfl⟩, rfl⟩ := hcut
 clear c5
 go_upto_if 30 with fail
 go_cut [3] (fun x wx => x = .pointer (some ⟨Y, 0, none⟩) ∧ Hid (UpI w0 w B X Y v cs k size z1' z2 z3 bu ba bc bd aa ac ad 24 wx))
 case first =>
  have HE0 := (show Hid (UpI w0 w B X Y v cs k size z1' z2 z3 bu ba bc bd aa ac ad 24 w8') from ⟨prev, au, _, HBY.out, HBX.out, HS.out, hk7, HOb.out, HOa.out, HK.out⟩)
  have hkr : Kept (fun b => b = Y) w8' (w8'.setCell ⟨Y, 7, none⟩ (.bool true)) := Kept.setCell (R := fun b => b = Y) (Kept.refl _ _) (p := ⟨Y, 7, none⟩) (.inr rfl) _
  have HE := (show Hid (UpI w0 w B X Y v cs k size z1' z2 z3 bu ba bc bd aa ac ad 24 (w8'.setCell ⟨Y, 7, none⟩ (.bool true))) from ⟨prev, true, _, HBY.out.stored 7 _, HBX.out.kept hkr (fun e => hYX e.symm), HS.out.on hkr (fun e => hYB e.symm) (fun i hi e => by have e' : i = Y := e; have := HX.out; omega), hk7, HOb.out.kept hkr (fun b hb e => by have e' : b = Y := e; have := (HOF.out.1 b hb).2.2; omega), HOa.out.kept hkr (fun b hb e => by have e' : b = Y := e; have := (HOF.out.2.1 b hb).2.2; omega), HK.out.next hkr (fun i hi e => by have e' : i = Y := e; have := HX.out; omega)⟩)
  clear hkr
  cases ch2
  all_goals
   go_wp2_with fail
   try generalize w8'.setCell ⟨Y, 7, none⟩ (.bool true) = w10 at HE ⊢
   go_meet
   case rel => first | exact ⟨rfl, HE⟩ | exact ⟨rfl, HE0⟩
 case rest =>
 obtain ⟨rfl, HUP⟩ := hcut
 clear HBY HBX HS HOb HOa HK c7 fy
 rename_i au1 _
 obtain ⟨prev, au, k7, hBY, hBX, hS, hk7, hOb, hOa, hK⟩ := HUP.out
 clear HUP
 have HBY := hid hBY
 have HBX := hid hBX
 have HS := hid hS
 have HOb := hid hOb
 have HOa := hid hOa
 have HK := hid hK
 clear hBY hBX hS hOb hOa hK
 obtain ⟨cl, hcl⟩ : ∃ z, celU z1' prev z2 z3 bu ba bc bd au aa ac ad = z := ⟨_, rfl⟩
 have HCL := hid hcl
 have HLc : Hid (cl.length = 14) := by unfold Hid; rw [← hcl]; rfl
 have HOc : Hid (cl.toArray.all (·.oneCell') = true) := by unfold Hid; rw [← hcl]; simp [celU, Value.oneCell']
 rw [hcl] at HBY
 clear hcl
 have HTH := hid (HBX.out.there 0 cl.toArray.size (by rw [List.size_toArray, HLc.out]; exact Nat.le_refl 14))
 go_wp2_with (first | (refine wpList_load_mid rfl 48 _ rfl Y 0 rfl cl _ HBY.out.rangeAll Try.underlying48 rfl (by rw [HLc.out]; kernel_rfl) ?_) | (refine wpList_store_mid rfl 48 _ _ rfl X 0 cl.toArray rfl rfl HTH.out (by rw [List.size_toArray, HLc.out]; kernel_rfl) HOc.out ?_; rw [List.toList_toArray]))
 have hkr : Kept (fun b => b = X) wc (wc.setCells X 0 cl) := Kept.setCells (R := fun b => b = X) (.inr rfl) _ _ (Kept.refl _ _)
 have hbX : Blk (wc.setCells X 0 cl) X 48 cl := by
  have h1 := HBX.out.setCells cl 0 (by rw [HLc.out]; exact Nat.le_refl 14)
  rwa [lay_all _ _ (by rw [HLc.out]; rfl)] at h1
 generalize wc.setCells X 0 cl = wz at hkr hbX ⊢
 refine bodyPost_ret (v := .agg cl.toArray) (endV Try.results56 rfl hbX.rangeAll Try.underlying48 rfl (by rw [HLc.out]; kernel_rfl)) rfl ?_
 have hXw := HX.out
 have ho1 := HOb.out.kept hkr (fun b hb e => HOF.out.2.2.2.1 b hb e)
 have ho2 := HOa.out.kept hkr (fun b hb e => HOF.out.2.2.2.2 b hb e)
 have fB : ∀ b, ¬ FootL [ints 5 .u8 (.slice none 0 0) []] b := fun b h => by have h := (footL_ints _ _ _ _ _).1 h; simp [Value.ownBlock] at h
 have fF : ∀ (m : Nat) (t : TypeId) (b : Nat), ¬ FootL (FR.rows m ⟨t, none, 0, 0, []⟩) b := fun m t b h => by have h := (FootL_one _ _).1 h; simp [FR.v, Value.ownBlock] at h
 have fT : ∀ b, ¬ FootL (FR.rows 4 ⟨106, none, 0, 0, []⟩ ++ (FR.rows 2 ⟨108, none, 0, 0, []⟩ ++ [ints 5 .u8 (.slice none 0 0) []])) b := fun b h => by
  rcases (FootL_append _ _ _).1 h with h | h
  ·exact fF _ _ _ h
  rcases (FootL_append _ _ _).1 h with h | h
  ·exact fF _ _ _ h
  ·exact fB _ h
 refine ⟨recU z1' prev z2 z3 bu ba bc bd au aa ac ad, k7, by rw [← HCL.out]; rfl, ⟨HIb.out, HIa.out, fun x hx => by simp [recU] at hx, .inl rfl, .inl rfl, .inl rfl⟩, ?_, ?_, ?_, by omega, HS.out.on hkr (fun e => by omega) (fun i hi e => by have e' : i = X := e; omega), HK.out.next hkr (fun i hi e => by have e' : i = X := e; omega)⟩
 ·simp only [StLogRecord.szs, StPageRecord.szs, recU, List.length_nil]
  omega
 ·exact (OwnL.one ho1).append ((OwnL.one ho2).append ((own_nilQ 4 _ wz).append ((own_nilQ 2 _ wz).append (OwnL.one (Own.nil 0 _ .u8 _)) (fun b h => (fF _ _ _ h).elim)) (fun b h => (fF _ _ _ h).elim)) (fun b _ e => fT b e)) (fun b hb e => by
   rcases (FootL_append _ _ _).1 e with e | e
   ·exact HOF.out.2.2.1 b ((footL_ints _ _ _ _ _).1 hb) ((footL_ints _ _ _ _ _).1 e)
   ·exact fT b e)
 ·intro b hb
  rcases (FootL_append _ _ _).1 hb with hb | hb
  ·have := HOF.out.1 b ((footL_ints _ _ _ _ _).1 hb); omega
  rcases (FootL_append _ _ _).1 hb with hb | hb
  ·have := HOF.out.2.1 b ((footL_ints _ _ _ _ _).1 hb); omega
  ·exact absurd hb (fT b)
structure StLog where
 sectors : Int
 epoch : Int
 stop : Int
 flushed : Int
 tail : BS
def StLog.val (x : StLog) : Value := .agg #[.int .i64 x.sectors, .int .i64 x.epoch, .int .i64 x.stop, .int .i64 x.flushed, x.tail.v]
def StLog.rows (x : StLog) : List Row := x.tail.rows
def StLog.dat (x : StLog) : Int × Int × Int × Int × List Int := (x.sectors, x.epoch, x.stop, x.flushed, x.tail.bs)
def StLog.size (x : StLog) : Int := (x.tail.bs.length : Int)
def StLog.marked (x : StLog) (k : Int) : StLog := ⟨x.sectors, x.epoch, x.stop, x.flushed, x.tail.marked (k)⟩
def StLog.rd (w : World) (x : StLog) : Prop := Rd .u8 w x.tail.v x.tail.bs
theorem StLog.rd.kept {R : Nat → Prop} {w w' : World} {x : StLog} (h : StLog.rd w x) (hk : Kept R w w') (hr : ∀ b, FootL x.rows b → ¬ R b) : StLog.rd w' x :=
 Rd.kept (h) hk (fun b hb => hr b (((footL_ints _ _ _ _ _).2 hb)))
theorem StLog.rd.same {w w' : World} {x : StLog} (h : StLog.rd w x) (hk : Same w w') : StLog.rd w' x := h.kept hk (fun _ _ => id)
theorem StLog.own_rd {w : World} {x : StLog} (h : OwnL w x.rows) : StLog.rd w x :=
 (OwnL.of_one h).rd
def StLog.szs (x : StLog) : Int := (x.tail.bs.length : Int)
theorem StLog.szs_le (x : StLog) : 0 ≤ x.szs := by
 unfold StLog.szs
 omega
structure StAppendResult where
 code : Int
 lsn : Int
 log : StLog
def StAppendResult.val (x : StAppendResult) : Value := .agg #[.int .i64 x.code, .int .i64 x.lsn, .int .i64 x.log.sectors, .int .i64 x.log.epoch, .int .i64 x.log.stop, .int .i64 x.log.flushed, x.log.tail.v]
def StAppendResult.rows (x : StAppendResult) : List Row := x.log.rows
def StAppendResult.dat (x : StAppendResult) : Int × Int × (Int × Int × Int × Int × List Int) := (x.code, x.lsn, x.log.dat)
def StAppendResult.size (x : StAppendResult) : Int := x.log.size
def StAppendResult.marked (x : StAppendResult) (k : Int) : StAppendResult := ⟨x.code, x.lsn, x.log.marked (k)⟩
def StAppendResult.rd (w : World) (x : StAppendResult) : Prop := StLog.rd w x.log
theorem StAppendResult.rd.kept {R : Nat → Prop} {w w' : World} {x : StAppendResult} (h : StAppendResult.rd w x) (hk : Kept R w w') (hr : ∀ b, FootL x.rows b → ¬ R b) : StAppendResult.rd w' x :=
 StLog.rd.kept (h) hk (fun b hb => hr b (hb))
theorem StAppendResult.rd.same {w w' : World} {x : StAppendResult} (h : StAppendResult.rd w x) (hk : Same w w') : StAppendResult.rd w' x := h.kept hk (fun _ _ => id)
theorem StAppendResult.own_rd {w : World} {x : StAppendResult} (h : OwnL w x.rows) : StAppendResult.rd w x :=
 (StLog.own_rd h)
def StAppendResult.szs (x : StAppendResult) : Int := x.log.szs
theorem StAppendResult.szs_le (x : StAppendResult) : 0 ≤ x.szs := by
 unfold StAppendResult.szs
 have h0 := x.log.szs_le
 omega
def inB (v a b : Int) : Bool := decide (a ≤ v) && decide (v ≤ b)
set_option maxRecDepth 100000 in
theorem l4In_any (v a b : Int) (w : World) : Calls Try.prog 74 #[.int .i64 v, .int .i64 a, .int .i64 b] w fun e w' => e = .returned (.bool (inB v a b)) ∧ Same w w' := by
 unfold inB
 by_cases h : a ≤ v
 ·by_cases h2 : v ≤ b
  ·go_enter Try.func74, Try.ntmps74
   go_wp2
   go_ret
   exact ⟨by simp [h, h2], Kept.refl _ _⟩
  ·go_enter Try.func74, Try.ntmps74
   go_wp2
   go_ret
   exact ⟨by simp [h]; try omega, Kept.refl _ _⟩
 ·go_enter Try.func74, Try.ntmps74
  go_wp2
  go_ret
  exact ⟨by rw [show decide (a ≤ v) = false from by simp; omega]; rfl, Kept.refl _ _⟩
theorem inB_true {v a b : Int} (h : a ≤ v ∧ v ≤ b) : inB v a b = true := by simp [inB, h.1, h.2]
theorem inB_false {v a b : Int} (h : ¬ (a ≤ v ∧ v ≤ b)) : inB v a b = false := by simp [inB]; omega
def logFault (s e st fl : Int) (n : Nat) : Int :=
 if ¬ (16 ≤ s ∧ s ≤ 800) then 1 else if ¬ (1 ≤ e ∧ e ≤ 4294967295) then 2 else if fl < 512 ∨ st < fl ∨ 1099511627776 < st then 3 else if (n : Int) ≠ st - fl + fl % 512 then 4 else 0
def logFd (d : Int × Int × Int × Int × List Int) : Int := logFault d.1 d.2.1 d.2.2.1 d.2.2.2.1 d.2.2.2.2.length
theorem logFault_good {s e st fl : Int} {n : Nat} (h : logFault s e st fl n = 0) : (16 ≤ s ∧ s ≤ 800) ∧ (1 ≤ e ∧ e ≤ 4294967295) ∧ 512 ≤ fl ∧ fl ≤ st ∧ st ≤ 1099511627776 ∧ (n : Int) = st - fl + fl % 512 := by
 unfold logFault at h
 split at h
 ·cases h
 ·split at h
  ·cases h
  ·split at h
   ·cases h
   ·split at h
    ·cases h
    ·omega
def StLog.isB (x : StLog) : Prop := IsB x.tail.bs
theorem specLogFault_any (x : StLog) (w : World) (hB : x.isB) (hn : x.szs ≤ 1073741824) (hv : StLog.rd w x) :
  Calls Try.prog 65 #[x.val] w fun e w' => e = .returned (.int .i64 (logFd x.dat)) ∧ Same w w' := by
 obtain ⟨s, ep, st, fl, te, ta, tc, tb⟩ := x
 simp only [StLog.szs] at hn
 clear hB hv
 dsimp only [StLog.val, StLog.dat, logFd, BS.v, logFault]
 have h1 := fun wx => l4In_any s 16 800 wx
 have h2 := fun wx => l4In_any ep 1 4294967295 wx
 have b0 := Blk.new w #[.int .i64 s, .int .i64 ep, .int .i64 st, .int .i64 fl, .slice ta tb.length tc] 74
 by_cases hs : 16 ≤ s ∧ s ≤ 800
 ·rw [inB_true hs] at h1
  rw [if_neg (not_not_intro hs)]
  by_cases he : 1 ≤ ep ∧ ep ≤ 4294967295
  ·rw [inB_true he] at h2
   rw [if_neg (not_not_intro he)]
   clear hs he
   by_cases hp : fl < 512 ∨ st < fl ∨ 1099511627776 < st
   ·rw [if_pos hp]
    by_cases hp1 : fl < 512
    ·clear hp
     go_enter Try.func65, Try.ntmps65
     go_wp2_with (first
      | (go_at_call 74; (with_reducible refine (h1 _).mono ?_); rintro e w1 ⟨rfl, hk1⟩; have b1 := b0.same hk1; have c1 : w1.cell? ⟨w.heap.size, 1, none⟩ = some (.int .i64 ep) := b1.cell 1)
      | (go_at_call 74; (with_reducible refine (h2 _).mono ?_); rintro e w2 ⟨rfl, hk2⟩; have b2 := b1.same hk2; have c2 : w2.cell? ⟨w.heap.size, 2, none⟩ = some (.int .i64 st) := b2.cell 2; have c3 : w2.cell? ⟨w.heap.size, 3, none⟩ = some (.int .i64 fl) := b2.cell 3; have c4 : w2.cell? ⟨w.heap.size, 4, none⟩ = some (.slice ta tb.length tc) := b2.cell 4))
     go_ret
     exact ⟨rfl, (((Kept.refl _ _).alloc _).trans hk1).trans hk2⟩
    ·by_cases hp2 : st < fl
     ·clear hp
      go_enter Try.func65, Try.ntmps65
      go_wp2_with (first
       | (go_at_call 74; (with_reducible refine (h1 _).mono ?_); rintro e w1 ⟨rfl, hk1⟩; have b1 := b0.same hk1; have c1 : w1.cell? ⟨w.heap.size, 1, none⟩ = some (.int .i64 ep) := b1.cell 1)
       | (go_at_call 74; (with_reducible refine (h2 _).mono ?_); rintro e w2 ⟨rfl, hk2⟩; have b2 := b1.same hk2; have c2 : w2.cell? ⟨w.heap.size, 2, none⟩ = some (.int .i64 st) := b2.cell 2; have c3 : w2.cell? ⟨w.heap.size, 3, none⟩ = some (.int .i64 fl) := b2.cell 3; have c4 : w2.cell? ⟨w.heap.size, 4, none⟩ = some (.slice ta tb.length tc) := b2.cell 4))
      go_ret
      exact ⟨rfl, (((Kept.refl _ _).alloc _).trans hk1).trans hk2⟩
     ·have hp3 : 1099511627776 < st := by omega
      clear hp
      go_enter Try.func65, Try.ntmps65
      go_wp2_with (first
       | (go_at_call 74; (with_reducible refine (h1 _).mono ?_); rintro e w1 ⟨rfl, hk1⟩; have b1 := b0.same hk1; have c1 : w1.cell? ⟨w.heap.size, 1, none⟩ = some (.int .i64 ep) := b1.cell 1)
       | (go_at_call 74; (with_reducible refine (h2 _).mono ?_); rintro e w2 ⟨rfl, hk2⟩; have b2 := b1.same hk2; have c2 : w2.cell? ⟨w.heap.size, 2, none⟩ = some (.int .i64 st) := b2.cell 2; have c3 : w2.cell? ⟨w.heap.size, 3, none⟩ = some (.int .i64 fl) := b2.cell 3; have c4 : w2.cell? ⟨w.heap.size, 4, none⟩ = some (.slice ta tb.length tc) := b2.cell 4))
      go_ret
      exact ⟨rfl, (((Kept.refl _ _).alloc _).trans hk1).trans hk2⟩
   ·rw [if_neg hp]
    have hp1 : ¬ fl < 512 := by omega
    have hp2 : ¬ st < fl := by omega
    have hp3 : ¬ 1099511627776 < st := by omega
    clear hp
    by_cases ht : (tb.length : Int) ≠ st - fl + fl % 512
    ·rw [if_pos ht]
     go_enter Try.func65, Try.ntmps65
     go_wp2_with (first
      | (go_at_call 74; (with_reducible refine (h1 _).mono ?_); rintro e w1 ⟨rfl, hk1⟩; have b1 := b0.same hk1; have c1 : w1.cell? ⟨w.heap.size, 1, none⟩ = some (.int .i64 ep) := b1.cell 1)
      | (go_at_call 74; (with_reducible refine (h2 _).mono ?_); rintro e w2 ⟨rfl, hk2⟩; have b2 := b1.same hk2; have c2 : w2.cell? ⟨w.heap.size, 2, none⟩ = some (.int .i64 st) := b2.cell 2; have c3 : w2.cell? ⟨w.heap.size, 3, none⟩ = some (.int .i64 fl) := b2.cell 3; have c4 : w2.cell? ⟨w.heap.size, 4, none⟩ = some (.slice ta tb.length tc) := b2.cell 4))
     go_ret
     exact ⟨rfl, (((Kept.refl _ _).alloc _).trans hk1).trans hk2⟩
    ·rw [if_neg ht]
     have ht' : (tb.length : Int) = st - fl + fl % 512 := by omega
     clear ht
     go_enter Try.func65, Try.ntmps65
     go_wp2_with (first
      | (go_at_call 74; (with_reducible refine (h1 _).mono ?_); rintro e w1 ⟨rfl, hk1⟩; have b1 := b0.same hk1; have c1 : w1.cell? ⟨w.heap.size, 1, none⟩ = some (.int .i64 ep) := b1.cell 1)
      | (go_at_call 74; (with_reducible refine (h2 _).mono ?_); rintro e w2 ⟨rfl, hk2⟩; have b2 := b1.same hk2; have c2 : w2.cell? ⟨w.heap.size, 2, none⟩ = some (.int .i64 st) := b2.cell 2; have c3 : w2.cell? ⟨w.heap.size, 3, none⟩ = some (.int .i64 fl) := b2.cell 3; have c4 : w2.cell? ⟨w.heap.size, 4, none⟩ = some (.slice ta tb.length tc) := b2.cell 4))
     go_ret
     exact ⟨rfl, (((Kept.refl _ _).alloc _).trans hk1).trans hk2⟩
  ·rw [inB_false he] at h2
   rw [if_pos he]
   clear hs he
   go_enter Try.func65, Try.ntmps65
   go_wp2_with (first
    | (go_at_call 74; (with_reducible refine (h1 _).mono ?_); rintro e w1 ⟨rfl, hk1⟩; have b1 := b0.same hk1; have c1 : w1.cell? ⟨w.heap.size, 1, none⟩ = some (.int .i64 ep) := b1.cell 1)
    | (go_at_call 74; (with_reducible refine (h2 _).mono ?_); rintro e w2 ⟨rfl, hk2⟩))
   go_ret
   exact ⟨rfl, (((Kept.refl _ _).alloc _).trans hk1).trans hk2⟩
 ·rw [inB_false hs] at h1
  rw [if_pos hs]
  go_enter Try.func65, Try.ntmps65
  go_wp2_with (go_at_call 74; (with_reducible refine (h1 _).mono ?_); rintro e w1 ⟨rfl, hk1⟩)
  go_ret
  exact ⟨rfl, ((Kept.refl _ _).alloc _).trans hk1⟩
end Go.Proofs.Ytcldagphkpkdpaa
