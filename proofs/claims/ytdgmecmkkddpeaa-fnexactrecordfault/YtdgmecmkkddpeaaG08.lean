import Derived.Test.YtdgmecmkkddpeaaG07
import Derived.Test.YtdgmecmkkddpeaaG06
import Derived.Laws.StructEq
import Derived.Deep.DeepCutAuto
import Derived.Deep.AppendLies
namespace Go.Proofs.Ytdgmecmkkddpeaa
set_option maxRecDepth 100000
set_option maxHeartbeats 16000000
set_option linter.unusedVariables false
set_option linter.unusedSimpArgs false
open Go.RowKit
def astrayAt (bot x y : Int) : Bool := (x != 0 && (decide (1000 < y) || decide (x < bot) || decide (4096 < x + y))) || (x == 0 && y != 0)
def astray (bot : Int) (sl : List Int) : Bool := (List.range 32).any fun i => astrayAt bot (sl.getD (2 * i) 0) (sl.getD (2 * i + 1) 0)
theorem astray_yes (bot : Int) (sl : List Int) (k : Nat) (hk : k < 32) (h : astrayAt bot (sl.getD (2 * k) 0) (sl.getD (2 * k + 1) 0) = true) : astray bot sl = true := by
 unfold astray
 rw [List.any_eq_true]
 exact ⟨k, List.mem_range.2 hk, h⟩
theorem astray_no (bot : Int) (sl : List Int) (h : ∀ k < 32, astrayAt bot (sl.getD (2 * k) 0) (sl.getD (2 * k + 1) 0) = false) : astray bot sl = false := by
 unfold astray
 rw [List.any_eq_false]
 intro k hk
 rw [h k (List.mem_range.1 hk)]
 simp
def Small (sl : List Int) : Prop := ∀ x ∈ sl, 0 ≤ x ∧ x ≤ 65535
theorem Small.at {sl : List Int} (h : Small sl) (k : Nat) : 0 ≤ sl.getD k 0 ∧ sl.getD k 0 ≤ 65535 := by
 by_cases hk : k < sl.length
 ·have : sl.getD k 0 = sl[k] := by simp [hk]
  rw [this]
  exact h _ (List.getElem_mem hk)
 ·simp [List.getD, List.getElem?_eq_none (show sl.length ≤ k by omega)]
theorem slotsAstray_any (P : Nat) (sum : List Int) (lsn num bot : Int) (sl raw : List Int) (w : World) (hp : SP w P sum lsn num bot sl raw) (hs : Small sl) :
  Calls Try.prog 126 #[.pointer (some ⟨P, 0, none⟩)] w fun e w' => e = .returned (.bool (astray bot sl)) ∧ Same w w' := by
 have hPw := hp.blk.lt
 have HP := (show Hid (SP w P sum lsn num bot sl raw) from hp)
 have HSm := (show Hid (Small sl) from hs)
 have HIs := (show Hid ((Try.prog.info? 138).map (·.size) = some (vals .i64 sl).length) from (by rw [vals_length, hp.l2]; exact (by kernel_rfl : (Try.prog.info? 138).map (·.size) = some 64) : (Try.prog.info? 138).map (·.size) = some (vals .i64 sl).length))
 have HRs := (show Hid (w.rangeAt P 7 (vals .i64 sl)) from hp.slRange)
 obtain ⟨ss, hss⟩ : ∃ ss : List Value, vals .i64 sl = ss := ⟨_, rfl⟩
 have HSS := (show Hid (vals .i64 sl = ss) from hss)
 rw [hss] at HIs HRs
 clear hss hp hs
 obtain ⟨R, hR⟩ : ∃ R, astray bot sl = R := ⟨_, rfl⟩
 have HR := (show Hid (astray bot sl = R) from hR)
 rw [hR]
 clear hR
 go_enter Try.func126, Try.ntmps126
 go_wp2_with (refine wpList_load_mid rfl 138 _ rfl P 7 rfl ss _ HRs.out Try.underlying138 rfl HIs.out ?_)
 go_loopw [4, 9] (fun _ i wr => ∃ k : Nat, k ≤ 32 ∧ i = .int .i64 k ∧ Hid (∀ j < k, astrayAt bot (sl.getD (2 * j) 0) (sl.getD (2 * j + 1) 0) = false) ∧ Hid (Same w wr)) (fun _ i _ => 32 - (intOf i).toNat)
 case atStart => exact ⟨0, by omega, rfl, fun j hj => by omega, Kept.refl _ _⟩
 case round =>
  obtain ⟨k, hk, rfl, HAl, HKr⟩ := hrel
  by_cases hlt : k < 32
  ·have hk2 : (k : Int) < 32 := by omega
   have hix := fun w => slot_at sl HP.out.l2 k hlt w
   rw [HSS.out] at hix
   have hxb := HSm.out.at (2 * k)
   have hyb := HSm.out.at (2 * k + 1)
   have HYes := (show Hid (astrayAt bot (sl.getD (2 * k) 0) (sl.getD (2 * k + 1) 0) = true → R = true) from fun h => by rw [← HR.out]; exact astray_yes bot sl k hlt h)
   have HNo := (show Hid (astrayAt bot (sl.getD (2 * k) 0) (sl.getD (2 * k + 1) 0) = false → ∀ j < k + 1, astrayAt bot (sl.getD (2 * j) 0) (sl.getD (2 * j + 1) 0) = false) from fun h j hj => by
    by_cases e : j = k
    ·rw [e]; exact h
    ·exact HAl.out j (by omega))
   generalize sl.getD (2 * k) 0 = x at *
   generalize sl.getD (2 * k + 1) 0 = y at *
   go_wp2_with fail
   have hb7 := Blk.new wr #[.int .i64 x, .int .i64 y] 137
   have hk7 : Same wr (wr.alloc (.cells #[.int .i64 x, .int .i64 y] 137)) := (Kept.refl _ _).alloc _
   obtain ⟨w7, hw7⟩ : ∃ w7, wr.alloc (.cells #[.int .i64 x, .int .i64 y] 137) = w7 := ⟨_, rfl⟩
   rw [hw7] at hk7 hb7 ⊢
   have hbot := (HP.out.same (HKr.out.trans hk7)).num3.2.2
   let Y1 : World → Prop := fun wx : World => wx.cell? ⟨wr.heap.size, 0, none⟩ = some (.int .i64 x) ∧ wx.cell? ⟨wr.heap.size, 1, none⟩ = some (.int .i64 y) ∧ wx.cell? ⟨P, 6, none⟩ = some (.int .i64 bot)
   have hSx : ∀ wx, Same w7 wx → Y1 wx := fun wx h => ⟨by rw [(hb7.same h).cell]; rfl, by rw [(hb7.same h).cell]; rfl, h.cellOf hbot id⟩
   have HKw := hid (HKr.out.trans hk7)
   clear hw7 hk7
   by_cases hx0 : x = 0
   ·have hx0b : (x != 0) = false := by rw [hx0]; rfl
    have HX0 := (show Hid (x = 0) from hx0)
    clear hx0
    have hS : Y1 w7.drew := by exact hSx _ (Kept.refl _ _).drew
    refine wp_region_V Y1 99 21 rfl (by kernel_rfl) ?_
    refine tk 0 12 hS ?_
    refine wpAnyV_one (i := 1) (by kernel_rfl) rfl (fun K hK => ?_)
    go_simp
    have hc := used_any x y w7.drew
    with_reducible refine hc.mono ?_
    clear hc
    rintro e w8 ⟨rfl, hkk⟩
    have hkw8 : Same w7 w8 := Kept.trans ((Kept.refl _ _).drew) hkk
    clear hkk
    rw [hx0b]
    have hS : Y1 w8 := hSx _ hkw8
    refine hK.out _ _ (fun _ => hS) ?_
    clear hK K
    try simp only [Act.put, sA, s0, sS]
    refine tk 2 14 hS ?_
    refine tkS 3 15 hS ?_
    refine tkS 4 16 hS ?_
    refine tkS 5 17 hS ?_
    refine tkS 6 18 hS ?_
    refine tkS 7 19 hS ?_
    refine tkS 8 20 hS ?_
    refine tkS 9 21 hS ?_
    refine tkS 10 22 hS ?_
    refine tkS 11 23 hS ?_
    refine tkS 12 24 hS ?_
    refine tkS 13 25 hS ?_
    refine tkS 14 26 hS ?_
    refine tkS 15 27 hS ?_
    refine tkS 16 28 hS ?_
    refine tkS 17 29 hS ?_
    refine tkS 18 30 hS ?_
    refine tkS 19 31 hS ?_
    refine tk 20 32 hS ?_
    refine wpAnyV_done (by kernel_rfl) ?_
    try simp only [Act.put, sA, s0, sS]
    have hcu := used_any x y w8
    rw [hx0b] at hcu
    have q0 : w8.cell? ⟨wr.heap.size, 0, none⟩ = some (.int .i64 x) := (hSx _ hkw8).1
    have q1 : w8.cell? ⟨wr.heap.size, 1, none⟩ = some (.int .i64 y) := (hSx _ hkw8).2.1
    have q2 : ∀ wx, Same w8 wx → wx.cell? ⟨wr.heap.size, 1, none⟩ = some (.int .i64 y) := fun wx h => (hSx _ (hkw8.trans h)).2.1
    by_cases hy0 : y = 0
    ·have hAt : astrayAt bot x y = false := by simp [astrayAt, HX0.out, hy0]
     have hyb0 : (y != 0) = false := by rw [hy0]; rfl
     clear hy0
     go_wp2_with (go_at_call 128; refine hcu.mono ?_; rintro e w10 ⟨rfl, hk10⟩; have q3 := q2 w10 hk10)
     go_roundw
     case rel => exact ⟨k + 1, by omega, by go_num, HNo.out hAt, HKw.out.trans (hkw8.trans hk10)⟩
     case measure => simp [intOf]; omega
    ·have hAt : astrayAt bot x y = true := by simp [astrayAt, HX0.out, hy0]
     have hyb0 : (y != 0) = true := by simp [hy0]
     have hRt := HYes.out hAt
     go_wp2_with (go_at_call 128; refine hcu.mono ?_; rintro e w10 ⟨rfl, hk10⟩; have q3 := q2 w10 hk10)
     go_ret
     try rw [hRt]
     exact ⟨rfl, HKw.out.trans (hkw8.trans hk10)⟩
   ·have hx0b : (x != 0) = true := by simp [hx0]
    by_cases hL : 1000 < y
    ·have hAt : astrayAt bot x y = true := by simp [astrayAt, hx0, hL]
     have hRt := HYes.out hAt
     have hLd : decide (1000 < y) = true := by simp [hL]
     have hS : Y1 w7.drew := by exact hSx _ (Kept.refl _ _).drew
     refine wp_region_V Y1 99 21 rfl (by kernel_rfl) ?_
     refine tk 0 12 hS ?_
     refine wpAnyV_one (i := 1) (by kernel_rfl) rfl (fun K hK => ?_)
     go_simp
     have hc := used_any x y w7.drew
     with_reducible refine hc.mono ?_
     clear hc
     rintro e w8 ⟨rfl, hkk⟩
     have hkw8 : Same w7 w8 := Kept.trans ((Kept.refl _ _).drew) hkk
     clear hkk
     rw [hx0b]
     have hS : Y1 w8 := hSx _ hkw8
     refine hK.out _ _ (fun _ => hS) ?_
     clear hK K
     try simp only [Act.put, sA, s0, sS]
     refine tk 2 14 hS ?_
     refine tk 3 15 hS ?_
     refine tk 4 16 hS ?_
     refine tk 5 17 hS ?_
     refine tk 6 18 hS ?_
     refine tkS 7 19 hS ?_
     refine tkS 8 20 hS ?_
     refine tkS 9 21 hS ?_
     refine tkS 10 22 hS ?_
     refine tkS 11 23 hS ?_
     refine tkS 12 24 hS ?_
     refine tkS 13 25 hS ?_
     refine tk 14 26 hS ?_
     refine tk 15 27 hS ?_
     refine tkS 16 28 hS ?_
     refine tkS 17 29 hS ?_
     refine tkS 18 30 hS ?_
     refine tk 19 31 hS ?_
     refine tk 20 32 hS ?_
     refine wpAnyV_done (by kernel_rfl) ?_
     try simp only [Act.put, sA, s0, sS]
     go_wp2
     go_ret
     try rw [hRt]
     exact ⟨rfl, HKw.out.trans hkw8⟩
    ·have hLd : decide (1000 < y) = false := by simp; omega
     by_cases hO : x < bot
     ·have hAt : astrayAt bot x y = true := by simp [astrayAt, hx0, hO]
      have hRt := HYes.out hAt
      have hOd : decide (x < bot) = true := by simp [hO]
      have hS : Y1 w7.drew := by exact hSx _ (Kept.refl _ _).drew
      refine wp_region_V Y1 99 21 rfl (by kernel_rfl) ?_
      refine tk 0 12 hS ?_
      refine wpAnyV_one (i := 1) (by kernel_rfl) rfl (fun K hK => ?_)
      go_simp
      have hc := used_any x y w7.drew
      with_reducible refine hc.mono ?_
      clear hc
      rintro e w8 ⟨rfl, hkk⟩
      have hkw8 : Same w7 w8 := Kept.trans ((Kept.refl _ _).drew) hkk
      clear hkk
      rw [hx0b]
      have hS : Y1 w8 := hSx _ hkw8
      refine hK.out _ _ (fun _ => hS) ?_
      clear hK K
      try simp only [Act.put, sA, s0, sS]
      refine tk 2 14 hS ?_
      refine tk 3 15 hS ?_
      refine tk 4 16 hS ?_
      refine tk 5 17 hS ?_
      refine tk 6 18 hS ?_
      refine tk 7 19 hS ?_
      refine tk 8 20 hS ?_
      refine tk 9 21 hS ?_
      refine tk 10 22 hS ?_
      refine tk 11 23 hS ?_
      refine tk 12 24 hS ?_
      refine tk 13 25 hS ?_
      refine tk 14 26 hS ?_
      refine tk 15 27 hS ?_
      refine tkS 16 28 hS ?_
      refine tkS 17 29 hS ?_
      refine tkS 18 30 hS ?_
      refine tk 19 31 hS ?_
      refine tk 20 32 hS ?_
      refine wpAnyV_done (by kernel_rfl) ?_
      try simp only [Act.put, sA, s0, sS]
      go_wp2
      go_ret
      try rw [hRt]
      exact ⟨rfl, HKw.out.trans hkw8⟩
     ·have hOd : decide (x < bot) = false := by simp; omega
      have hS : Y1 w7.drew := by exact hSx _ (Kept.refl _ _).drew
      refine wp_region_V Y1 99 21 rfl (by kernel_rfl) ?_
      refine tk 0 12 hS ?_
      refine wpAnyV_one (i := 1) (by kernel_rfl) rfl (fun K hK => ?_)
      go_simp
      have hc := used_any x y w7.drew
      with_reducible refine hc.mono ?_
      clear hc
      rintro e w8 ⟨rfl, hkk⟩
      have hkw8 : Same w7 w8 := Kept.trans ((Kept.refl _ _).drew) hkk
      clear hkk
      rw [hx0b]
      have hS : Y1 w8 := hSx _ hkw8
      refine hK.out _ _ (fun _ => hS) ?_
      clear hK K
      try simp only [Act.put, sA, s0, sS]
      refine tk 2 14 hS ?_
      refine tk 3 15 hS ?_
      refine tk 4 16 hS ?_
      refine tk 5 17 hS ?_
      refine tk 6 18 hS ?_
      refine tk 7 19 hS ?_
      refine tk 8 20 hS ?_
      refine tk 9 21 hS ?_
      refine tk 10 22 hS ?_
      refine tk 11 23 hS ?_
      refine tk 12 24 hS ?_
      refine tk 13 25 hS ?_
      refine tk 14 26 hS ?_
      refine tk 15 27 hS ?_
      refine tk 16 28 hS ?_
      refine wpAnyV_one (i := 17) (by kernel_rfl) rfl (fun K hK => ?_)
      go_simp
      have hc := end_any x y w8 hxb hyb
      with_reducible refine hc.mono ?_
      clear hc
      rintro e w9 ⟨rfl, hkk⟩
      have hkw9 : Same w7 w9 := Kept.trans (hkw8) hkk
      clear hkk
      have hS : Y1 w9 := hSx _ hkw9
      refine hK.out _ _ (fun _ => hS) ?_
      clear hK K
      try simp only [Act.put, sA, s0, sS]
      refine tk 18 30 hS ?_
      refine tk 19 31 hS ?_
      refine tk 20 32 hS ?_
      refine wpAnyV_done (by kernel_rfl) ?_
      try simp only [Act.put, sA, s0, sS]
      by_cases hE : 4096 < x + y
      ·have hAt : astrayAt bot x y = true := by simp [astrayAt, hx0, hE]
       have hRt := HYes.out hAt
       go_wp2
       go_ret
       try rw [hRt]
       exact ⟨rfl, HKw.out.trans hkw9⟩
      ·have hAt : astrayAt bot x y = false := by simp [astrayAt, hx0]; omega
       have hcu := used_any x y w9
       rw [hx0b] at hcu
       have q0 : w9.cell? ⟨wr.heap.size, 0, none⟩ = some (.int .i64 x) := (hSx _ hkw9).1
       have q1 : w9.cell? ⟨wr.heap.size, 1, none⟩ = some (.int .i64 y) := (hSx _ hkw9).2.1
       go_wp2_with (go_at_call 128; refine hcu.mono ?_; rintro e w10 ⟨rfl, hk10⟩)
       go_roundw
       case rel => exact ⟨k + 1, by omega, by go_num, HNo.out hAt, HKw.out.trans (hkw9.trans hk10)⟩
       case measure => simp [intOf]; omega
  ·obtain rfl : k = 32 := by omega
   have hRf : R = false := by rw [← HR.out]; exact astray_no bot sl HAl.out
   go_wp2
   go_ret
   try rw [hRf]
   exact ⟨rfl, HKr.out⟩
def shareAt (sl : List Int) (i j : Nat) : Bool := sharesB (sl.getD (2 * i) 0) (sl.getD (2 * i + 1) 0) (sl.getD (2 * j) 0) (sl.getD (2 * j + 1) 0)
def share (sl : List Int) : Bool := (List.range 32).any fun i => (List.range i).any fun j => shareAt sl i j
theorem share_yes (sl : List Int) (i j : Nat) (hi : i < 32) (hj : j < i) (h : shareAt sl i j = true) : share sl = true := by
 unfold share
 rw [List.any_eq_true]
 exact ⟨i, List.mem_range.2 hi, by rw [List.any_eq_true]; exact ⟨j, List.mem_range.2 hj, h⟩⟩
theorem share_no (sl : List Int) (h : ∀ i < 32, ∀ j < i, shareAt sl i j = false) : share sl = false := by
 unfold share
 rw [List.any_eq_false]
 intro i hi
 rw [Bool.not_eq_true, List.any_eq_false]
 intro j hj
 rw [h i (List.mem_range.1 hi) j (List.mem_range.1 hj)]
 simp
theorem recordsShare_any (P : Nat) (sum : List Int) (lsn num bot : Int) (sl raw : List Int) (w : World) (hp : SP w P sum lsn num bot sl raw) (hs : Small sl) :
  Calls Try.prog 127 #[.pointer (some ⟨P, 0, none⟩)] w fun e w' => e = .returned (.bool (share sl)) ∧ Same w w' := by
 have hPw := hp.blk.lt
 have HP := (show Hid (SP w P sum lsn num bot sl raw) from hp)
 have HSm := (show Hid (Small sl) from hs)
 have HIs := (show Hid ((Try.prog.info? 138).map (·.size) = some (vals .i64 sl).length) from (by rw [vals_length, hp.l2]; exact (by kernel_rfl : (Try.prog.info? 138).map (·.size) = some 64) : (Try.prog.info? 138).map (·.size) = some (vals .i64 sl).length))
 have HRs := (show Hid (w.rangeAt P 7 (vals .i64 sl)) from hp.slRange)
 obtain ⟨ss, hss⟩ : ∃ ss : List Value, vals .i64 sl = ss := ⟨_, rfl⟩
 have HSS := (show Hid (vals .i64 sl = ss) from hss)
 rw [hss] at HIs HRs
 clear hss hp hs
 obtain ⟨R, hR⟩ : ∃ R, share sl = R := ⟨_, rfl⟩
 have HR := (show Hid (share sl = R) from hR)
 rw [hR]
 clear hR
 go_enter Try.func127, Try.ntmps127
 go_wp2_with (refine wpList_load_mid rfl 138 _ rfl P 7 rfl ss _ HRs.out Try.underlying138 rfl HIs.out ?_)
 go_loopw [3, 4, 6, 11] (fun _ _ _ i wr => ∃ k : Nat, k ≤ 32 ∧ i = .int .i64 k ∧ Hid (∀ i < k, ∀ j < i, shareAt sl i j = false) ∧ Hid (Same w wr)) (fun _ _ _ i _ => 32 - (intOf i).toNat)
 case atStart => exact ⟨0, by omega, rfl, fun j hj => by omega, Kept.refl _ _⟩
 case round =>
  obtain ⟨k, hk, rfl, HAl, HKr⟩ := hrel
  by_cases hlt : k < 32
  ·have hk2 : (k : Int) < 32 := by omega
   have hk3 : (k : Int) ≤ 32 := by omega
   have hix := fun w => slot_at sl HP.out.l2 k hlt w
   rw [HSS.out] at hix
   have hxb := HSm.out.at (2 * k)
   have hyb := HSm.out.at (2 * k + 1)
   have HAt := (show Hid (∀ j, shareAt sl k j = sharesB (sl.getD (2 * k) 0) (sl.getD (2 * k + 1) 0) (sl.getD (2 * j) 0) (sl.getD (2 * j + 1) 0)) from fun _ => rfl)
   obtain ⟨x, hx⟩ : ∃ x, sl.getD (2 * k) 0 = x := ⟨_, rfl⟩
   obtain ⟨y, hy⟩ : ∃ y, sl.getD (2 * k + 1) 0 = y := ⟨_, rfl⟩
   rw [hx, hy] at hix HAt
   rw [hx] at hxb
   rw [hy] at hyb
   clear hx hy
   go_wp2
   have hb7 := Blk.new wr #[.int .i64 x, .int .i64 y] 137
   have hk7 : Same wr (wr.alloc (.cells #[.int .i64 x, .int .i64 y] 137)) := (Kept.refl _ _).alloc _
   obtain ⟨w7, hw7⟩ : ∃ w7, wr.alloc (.cells #[.int .i64 x, .int .i64 y] 137) = w7 := ⟨_, rfl⟩
   rw [hw7] at hk7 hb7 ⊢
   have HB7 := (show Hid (Blk w7 wr.heap.size 137 [.int .i64 x, .int .i64 y]) from hb7)
   have HK7 := hid (HKr.out.trans hk7)
   obtain ⟨BI, hBI⟩ : ∃ BI, wr.heap.size = BI := ⟨_, rfl⟩
   have hBI7 := hb7.lt
   rw [hBI] at HB7 hBI7 ⊢
   clear hw7 hk7 hb7 hBI
   go_loopw [6, 21] (fun _ i wi => ∃ j : Nat, j ≤ k ∧ i = .int .i64 j ∧ Hid (∀ m < j, shareAt sl k m = false) ∧ Hid (Same w7 wi)) (fun _ i _ => k - (intOf i).toNat)
   case atStart => exact ⟨0, by omega, rfl, fun j hj => by omega, Kept.refl _ _⟩
   case round =>
    obtain ⟨j, hj, rfl, HAj, HKj⟩ := hrel
    by_cases hjl : j < k
    ·have hsp := HP.out.same (HK7.out.trans HKj.out)
     have c0 := hsp.slAt (2 * j) (by omega)
     have c1 := hsp.slAt (2 * j + 1) (by omega)
     rw [show 7 + 2 * j = 7 + j * 2 from by omega] at c0
     rw [show 7 + (2 * j + 1) = 7 + j * 2 + 1 from by omega] at c1
     have hub := HSm.out.at (2 * j)
     have hvb := HSm.out.at (2 * j + 1)
     have HAtj := (show Hid (_) from HAt.out j)
     obtain ⟨u, hu⟩ : ∃ u, sl.getD (2 * j) 0 = u := ⟨_, rfl⟩
     obtain ⟨v, hv⟩ : ∃ v, sl.getD (2 * j + 1) 0 = v := ⟨_, rfl⟩
     rw [hu] at c0 hub
     rw [hv] at c1 hvb
     rw [hu, hv] at HAtj
     clear hu hv hsp
     have hjk : (j : Int) < (k : Int) := by omega
     have hk8 : Same w7 (wr.alloc (.cells #[.int .i64 u, .int .i64 v] 137)) := HKj.out.trans ((Kept.refl _ _).alloc _)
     have d0 : (wr.alloc (.cells #[.int .i64 u, .int .i64 v] 137)).cell? ⟨BI, 0, none⟩ = some (.int .i64 x) := by rw [(HB7.out.same hk8).cell]; rfl
     have d1 : (wr.alloc (.cells #[.int .i64 u, .int .i64 v] 137)).cell? ⟨BI, 1, none⟩ = some (.int .i64 y) := by rw [(HB7.out.same hk8).cell]; rfl
     have HK8 := (show Hid (Same w7 (wr.alloc (.cells #[.int .i64 u, .int .i64 v] 137))) from hk8)
     have hc := shares_any x y u v (wr.alloc (.cells #[.int .i64 u, .int .i64 v] 137)) hxb hyb hub hvb
     have HYes := (show Hid (sharesB x y u v = true → R = true) from fun h => by rw [← HR.out]; exact share_yes sl k j hlt hjl (by rw [HAtj.out]; exact h))
     have HNo := (show Hid (sharesB x y u v = false → ∀ m < j + 1, shareAt sl k m = false) from fun h m hm => by
      by_cases e : m = j
      ·rw [e, HAtj.out]; exact h
      ·exact HAj.out m (by omega))
     generalize sharesB x y u v = sb at *
     clear hk8
     cases sb with
     | true =>
      have hRt := HYes.out (by first | trivial | rfl)
      go_wp2_with (go_at_call 130; refine hc.mono ?_; rintro e w9 ⟨rfl, hk9⟩)
      go_ret
      try rw [hRt]
      exact ⟨rfl, HK7.out.trans (HK8.out.trans hk9)⟩
     | false =>
      go_wp2_with (go_at_call 130; refine hc.mono ?_; rintro e w9 ⟨rfl, hk9⟩)
      go_roundw
      case rel => exact ⟨j + 1, by omega, by go_num, HNo.out (by first | trivial | rfl), HK8.out.trans hk9⟩
      case measure => simp [intOf]; omega
    ·obtain rfl : j = k := by omega
     go_wp2
     go_roundw
     case rel =>
      refine ⟨j + 1, by omega, by go_num, fun i hi m hm => ?_, HK7.out.trans HKj.out⟩
      by_cases e : i = j
      ·rw [e] at hm ⊢
       exact HAj.out m hm
      ·exact HAl.out i (by omega) m hm
     case measure => simp [intOf]; omega
  ·obtain rfl : k = 32 := by omega
   have hRf : R = false := by rw [← HR.out]; exact share_no sl HAl.out
   go_wp2
   go_ret
   try rw [hRf]
   exact ⟨rfl, HKr.out⟩
theorem all_range_ints : ∀ (xs ys : List Int), xs.length = ys.length → ((List.range xs.length).all fun i => xs.getD i 0 == ys.getD i 0) = (xs == ys)
 | [], [], _ => rfl
 | x :: xs, y :: ys, h => by
  have ih := all_range_ints xs ys (by simpa using h)
  rw [List.length_cons, List.range_succ_eq_map, List.all_cons, List.all_map]
  simp only [List.getD_cons_zero, Function.comp_def, List.getD_cons_succ, ih]
  simp [List.cons_beq_cons]
 | [], _ :: _, h => by simp at h
 | _ :: _, [], h => by simp at h
theorem run_equalIn_ints {P : Program} (w : World) (d : Nat) (t e : TypeId) (n : Nat) (ht : P.underlying t = some (.array n e)) (he : P.underlying e = some (.int .u8)) (hsz : ∀ w, (sizeOf e).run P w = .ok 1 w)
  (xs ys : List Int) (hx : xs.length = n) (hy : ys.length = n) :
  (Op.equalIn (d + 2) t (.agg (vals .u8 xs).toArray) (.agg (vals .u8 ys).toArray)).run P w = .ok (xs == ys) w := by
 rw [← all_range_ints xs ys (hx.trans hy.symm), hx, List.range_eq_range', Op.equalIn]
 simp only [Sem.run_bind, run_underlying ht, Result.andThen_ok, hsz, Std.Legacy.Range.forIn_eq_forIn_range', Std.Legacy.Range.size, Nat.sub_zero, Nat.add_sub_cancel, Nat.div_one]
 have hl : ∀ i ∈ List.range' 0 n 1, i < n := fun i hi => by simpa using (List.mem_range'_1.1 hi).2
 generalize List.range' 0 n 1 = l at hl ⊢
 induction l with
 | nil => simp
 | cons i l ih =>
  have hi : i < n := hl i (by simp)
  have px : (Go.part e (vals .u8 xs).toArray (i * 1)).run P w = .ok (.int .u8 (xs.getD i 0)) w := by
   simp [vals, Go.part, isAgg, run_underlying he, List.getD, List.getElem?_eq_getElem (show i < xs.length by omega)]
  have py : (Go.part e (vals .u8 ys).toArray (i * 1)).run P w = .ok (.int .u8 (ys.getD i 0)) w := by
   simp [vals, Go.part, isAgg, run_underlying he, List.getD, List.getElem?_eq_getElem (show i < ys.length by omega)]
  have pe : (Op.equalIn (d + 1) e (.int .u8 (xs.getD i 0)) (.int .u8 (ys.getD i 0))).run P w = .ok (xs.getD i 0 == ys.getD i 0) w := run_equalIn_int w d e .u8 .u8 _ _ he
  simp only [List.forIn_cons, Sem.run_bind, px, py, pe, Result.andThen_ok, List.all_cons]
  cases hb : (xs.getD i 0 == ys.getD i 0)
  ·simp
  ·simp only [Bool.not_true, Bool.false_eq_true, if_false, Sem.run_pure, Result.andThen_ok, Bool.true_and]
   exact ih fun j hj => hl j (by simp [hj])
theorem size_byte (w : World) : (sizeOf 5).run Try.prog w = .ok 1 w := by
 obtain ⟨i0, hi, hz0, hz1, hz2⟩ := info_parts Try.infoByte'
 simp [sizeOf, typeInfo, hi, hz1]
theorem run_neq_pages (w : World) (xs ys : List Int) (hx : xs.length = 4096) (hy : ys.length = 4096) : (binOp .neq 133 (.agg (vals .u8 xs).toArray) (.agg (vals .u8 ys).toArray)).run Try.prog w = .ok (.bool (xs != ys)) w := by
 rw [run_neq_struct, run_equalIn_ints w 9998 133 5 4096 Try.underlying133 Try.underlying5 size_byte xs ys hx hy]
 rfl
/-! ### A number and its bytes -/
theorem lows_add (k : Nat) : ∀ (v m : Nat), lows ((v + m * 256 ^ k : Nat) : Int) k = lows (v : Int) k := by
 induction k with
 | zero => intro v m; rfl
 | succ k ih =>
  intro v m
  have e1 : (v + m * 256 ^ (k + 1) : Nat) = v + (m * 256) * 256 ^ k := by rw [Nat.pow_succ, Nat.mul_comm (256 ^ k) 256, Nat.mul_assoc]
  simp only [lows]
  rw [e1, ih v (m * 256)]
  congr 1
  have h2 : (((v + m * 256 * 256 ^ k : Nat) : Int) / 256 ^ k) = (((v + m * 256 * 256 ^ k) / 256 ^ k : Nat) : Int) := by simp
  have h3 : ((v : Int) / 256 ^ k) = ((v / 256 ^ k : Nat) : Int) := by simp
  rw [h2, h3, Nat.add_mul_div_right _ _ (Nat.pow_pos (by decide))]
  omega
theorem lows_num (bs : List Int) (hb : IsB bs) : lows (num bs) bs.length = bs := by
 induction bs with
 | nil => rfl
 | cons b bs ih =>
  have hb' : IsB bs := fun y hy => hb y (by simp [hy])
  have h0 := hb b (by simp)
  have h1 := num_bound bs hb' bs.length (Nat.le_refl _)
  rw [List.take_length] at h1
  obtain ⟨n, hn⟩ : ∃ n : Nat, num bs = n := ⟨(num bs).toNat, by omega⟩
  obtain ⟨c, rfl⟩ : ∃ c : Nat, b = c := ⟨b.toNat, by omega⟩
  have ih' := ih hb'
  rw [num_cons, hn]
  rw [hn] at ih' h1
  have e3 : (256 : Int) ^ bs.length = ((256 ^ bs.length : Nat) : Int) := by simp
  rw [e3] at h1 ⊢
  have e : ((c : Int) * ((256 ^ bs.length : Nat) : Int) + (n : Int)) = ((n + c * 256 ^ bs.length : Nat) : Int) := by simp [Int.add_comm]
  rw [e, List.length_cons]
  simp only [lows]
  rw [lows_add, ih']
  congr 1
  have h2 : (((n + c * 256 ^ bs.length : Nat) : Int) / 256 ^ bs.length) = (((n + c * 256 ^ bs.length) / 256 ^ bs.length : Nat) : Int) := by simp
  rw [h2, Nat.add_mul_div_right _ _ (Nat.pow_pos (by decide)), Nat.div_eq_of_lt (by omega)]
  omega
def headBad (sum : List Int) (lsn num bot : Int) (sl raw : List Int) : Bool := !isLSN lsn || encB sum lsn num bot sl raw != raw
def faultP (sum : List Int) (lsn num bot : Int) (sl raw : List Int) (number : Int) : Int :=
 if num ≠ number then 2 else if headBad sum lsn num bot sl raw then 3 else if bot < 148 ∨ 4096 < bot then 4 else if astray bot sl then 5 else if share sl then 6 else 0
theorem isLSN_spec {x : Int} (h : isLSN x = true) : 0 ≤ x ∧ x ≤ 9223372036854775807 := by
 simp [isLSN] at h
 omega
theorem fault_any (P : Nat) (sum : List Int) (lsn num bot : Int) (sl raw : List Int) (number : Int) (w : World) (hp : SP w P sum lsn num bot sl raw) (hs : Small sl) (hnum : 0 ≤ num ∧ num ≤ 9223372036854775807) (hbot : 0 ≤ bot ∧ bot ≤ 9223372036854775807) :
  Calls Try.prog 123 #[.pointer (some ⟨P, 0, none⟩), .int .i64 number] w fun e w' => e = .returned (.int .i64 (faultP sum lsn num bot sl raw number)) ∧ Same w w' := by
 have HP := (show Hid (SP w P sum lsn num bot sl raw) from hp)
 have HSm := (show Hid (Small sl) from hs)
 obtain ⟨c4, c5, c6⟩ := hp.num3
 by_cases h2 : num = number
 ·have h2b : (num != number) = false := by simp [h2]
  have HF1 := (show Hid (faultP sum lsn num bot sl raw number = if headBad sum lsn num bot sl raw then 3 else if bot < 148 ∨ 4096 < bot then 4 else if astray bot sl then 5 else if share sl then 6 else 0) from (by unfold faultP; rw [if_neg (by simp [h2])] : faultP sum lsn num bot sl raw number = _))
  obtain ⟨F, hF⟩ : ∃ F, faultP sum lsn num bot sl raw number = F := ⟨_, rfl⟩
  rw [hF] at HF1
  rw [hF]
  obtain ⟨hb, hhb⟩ : ∃ hb, headBad sum lsn num bot sl raw = hb := ⟨_, rfl⟩
  have HHB := (show Hid (headBad sum lsn num bot sl raw = hb) from hhb)
  rw [hhb] at HF1
  clear h2 hp hs hF hhb
  go_enter Try.func123, Try.ntmps123
  go_upto_region 3 with fail
  go_cut [12] (fun c wc => c = .bool hb ∧ Hid (Same w wc))
  case first =>
   have hrl := HP.out.rawRange
   have hI80 : (Try.prog.info? 133).map (·.size) = some (vals .u8 raw).length := by rw [vals_length, HP.out.l3]; exact page_info
   obtain ⟨rl, hrle⟩ : ∃ rl : List Value, vals .u8 raw = rl := ⟨_, rfl⟩
   rw [hrle] at hrl hI80
   have hSx : ∀ wx, Same w wx → (fun wx : World => wx.cell? ⟨P, 4, none⟩ = some (.int .i64 lsn) ∧ wx.rangeAt P 71 rl) wx := fun wx h => ⟨h.cellOf c4 id, Kept.ranges h hrl⟩
   have hcl := isLSN_any lsn w.drew
   by_cases hL : isLSN lsn = true
   ·rw [hL] at hcl
    have hHB : headBad sum lsn num bot sl raw = (encB sum lsn num bot sl raw != raw) := by simp [headBad, hL]
    have hn3 : Num3 lsn num bot sl := ⟨isLSN_spec hL, hnum, hbot, fun x hx => by have := HSm.out x hx; omega⟩
    have hen := fun wx (h : Same w wx) => encode_any P sum lsn num bot sl raw wx (HP.out.same h) hn3
    have hne := fun wx => run_neq_pages wx (encB sum lsn num bot sl raw) raw (encB_length HP.out.l1 HP.out.l2 HP.out.l3) HP.out.l3
    rw [hrle] at hne
    have hHB2 : (encB sum lsn num bot sl raw != raw) = hb := hHB.symm.trans HHB.out
    obtain ⟨el, hel⟩ : ∃ el : Array Value, (vals .u8 (encB sum lsn num bot sl raw)).toArray = el := ⟨_, rfl⟩
    rw [hel] at hen hne
    rw [hHB2] at hne
    clear hHB hHB2 hel hL hn3 hrle
    have hS : (fun wx : World => wx.cell? ⟨P, 4, none⟩ = some (.int .i64 lsn) ∧ wx.rangeAt P 71 rl) w.drew := by exact hSx _ (Kept.refl _ _).drew
    refine wp_region_V (fun wx : World => wx.cell? ⟨P, 4, none⟩ = some (.int .i64 lsn) ∧ wx.rangeAt P 71 rl) 99 16 rfl (by kernel_rfl) ?_
    refine tk 0 13 hS ?_
    refine tk 1 14 hS ?_
    refine tk 2 15 hS ?_
    refine tk 3 16 hS ?_
    refine wpAnyV_one (i := 4) (by kernel_rfl) rfl (fun K hK => ?_)
    go_simp
    with_reducible refine (hcl).mono ?_
    rintro e w2 ⟨rfl, hkk⟩
    have hkw2 : Same w w2 := Kept.trans ((Kept.refl _ _).drew) hkk
    clear hkk
    have hS : (fun wx : World => wx.cell? ⟨P, 4, none⟩ = some (.int .i64 lsn) ∧ wx.rangeAt P 71 rl) w2 := hSx _ hkw2
    refine hK.out _ _ (fun _ => hS) ?_
    clear hK K
    try simp only [Act.put, sA, s0, sS]
    refine tk 5 18 hS ?_
    refine tk 6 19 hS ?_
    refine tk 7 20 hS ?_
    refine tk 9 22 hS ?_
    refine tk 10 23 hS ?_
    refine tk 11 24 hS ?_
    refine wpAnyV_take (i := 12) (v := .agg rl.toArray) (some 25) rfl rfl (by kernel_rfl) (by kernel_rfl) (by kernel_rfl) (by kernel_rfl) (fun _ _ _ h => h) (yieldsIf_load_mid (by rfl) 133 _ rfl P 71 rfl rl _ (fun _ h => h.2) Try.underlying133 rfl hI80) hS ?_
    try simp only [Act.put, sA, s0, sS]
    refine wpAnyV_one (i := 8) (by kernel_rfl) rfl (fun K hK => ?_)
    go_simp
    with_reducible refine (hen _ hkw2).mono ?_
    rintro e w3 ⟨rfl, hkk⟩
    have hkw3 : Same w w3 := Kept.trans (hkw2) hkk
    clear hkk
    have hS : (fun wx : World => wx.cell? ⟨P, 4, none⟩ = some (.int .i64 lsn) ∧ wx.rangeAt P 71 rl) w3 := hSx _ hkw3
    refine hK.out _ _ (fun _ => hS) ?_
    clear hK K
    try simp only [Act.put, sA, s0, sS]
    refine tk 13 26 hS ?_
    refine tk 14 27 hS ?_
    refine tk 15 12 hS ?_
    refine wpAnyV_done (by kernel_rfl) ?_
    go_wp2
    go_meet
    exact ⟨rfl, hkw3⟩
   ·have hLf : isLSN lsn = false := by simpa using hL
    rw [hLf] at hcl
    have hHB : headBad sum lsn num bot sl raw = true := by simp [headBad, hLf]
    obtain rfl : hb = true := HHB.out.symm.trans hHB
    clear hHB hrle hL
    have hS : (fun wx : World => wx.cell? ⟨P, 4, none⟩ = some (.int .i64 lsn) ∧ wx.rangeAt P 71 rl) w.drew := by exact hSx _ (Kept.refl _ _).drew
    refine wp_region_V (fun wx : World => wx.cell? ⟨P, 4, none⟩ = some (.int .i64 lsn) ∧ wx.rangeAt P 71 rl) 99 16 rfl (by kernel_rfl) ?_
    refine tk 0 13 hS ?_
    refine tk 1 14 hS ?_
    refine tk 2 15 hS ?_
    refine tk 3 16 hS ?_
    refine wpAnyV_one (i := 4) (by kernel_rfl) rfl (fun K hK => ?_)
    go_simp
    with_reducible refine (hcl).mono ?_
    rintro e w2 ⟨rfl, hkk⟩
    have hkw2 : Same w w2 := Kept.trans ((Kept.refl _ _).drew) hkk
    clear hkk
    have hS : (fun wx : World => wx.cell? ⟨P, 4, none⟩ = some (.int .i64 lsn) ∧ wx.rangeAt P 71 rl) w2 := hSx _ hkw2
    refine hK.out _ _ (fun _ => hS) ?_
    clear hK K
    try simp only [Act.put, sA, s0, sS]
    refine tk 5 18 hS ?_
    refine tk 6 19 hS ?_
    refine tkS 7 20 hS ?_
    refine tkS 8 21 hS ?_
    refine tkS 9 22 hS ?_
    refine tkS 10 23 hS ?_
    refine tkS 11 24 hS ?_
    refine tkS 12 25 hS ?_
    refine tkS 13 26 hS ?_
    refine tk 14 27 hS ?_
    refine tk 15 12 hS ?_
    refine wpAnyV_done (by kernel_rfl) ?_
    go_wp2
    go_meet
    exact ⟨rfl, hkw2⟩
  case rest =>
   obtain ⟨rfl, HKc⟩ := hcut
   have k6 := HKc.out.cellOf c6 id
   clear c4 c5 c6
   cases hb with
   | true =>
    obtain rfl : F = 3 := by have h := HF1.out; rw [if_pos rfl] at h; exact h
    go_wp2
    go_ret
    exact ⟨rfl, HKc.out⟩
   | false =>
    have h5 := HF1.out
    rw [if_neg (by decide)] at h5
    clear HF1
    by_cases h4 : bot < 148
    ·obtain rfl : F = 4 := by rw [if_pos (.inl h4)] at h5; exact h5
     clear h5
     go_wp2
     go_ret
     exact ⟨rfl, HKc.out⟩
    ·by_cases h4' : 4096 < bot
     ·obtain rfl : F = 4 := by rw [if_pos (.inr h4')] at h5; exact h5
      clear h5
      go_wp2
      go_ret
      exact ⟨rfl, HKc.out⟩
     ·rw [if_neg (by omega)] at h5
      have ha := slotsAstray_any P sum lsn num bot sl raw wc (HP.out.same HKc.out) HSm.out
      have hsh := fun wx (h : Same w wx) => recordsShare_any P sum lsn num bot sl raw wx (HP.out.same h) HSm.out
      generalize astray bot sl = A at *
      generalize share sl = H at *
      cases A with
      | true =>
       obtain rfl : F = 5 := by rw [if_pos rfl] at h5; exact h5
       clear h5
       go_wp2_with (go_at_call 126; refine ha.mono ?_; rintro e w4 ⟨rfl, hk4⟩)
       go_ret
       exact ⟨rfl, HKc.out.trans hk4⟩
      | false =>
       rw [if_neg (by decide)] at h5
       cases H with
       | true =>
        obtain rfl : F = 6 := by rw [if_pos rfl] at h5; exact h5
        clear h5
        go_wp2_with (first | (go_at_call 126; refine ha.mono ?_; rintro e w4 ⟨rfl, hk4⟩; have hk4' := HKc.out.trans hk4) | (go_at_call 127; refine (hsh _ hk4').mono ?_; rintro e w5 ⟨rfl, hk5⟩))
        go_ret
        exact ⟨rfl, hk4'.trans hk5⟩
       | false =>
        obtain rfl : F = 0 := by rw [if_neg (by decide)] at h5; exact h5
        clear h5
        go_wp2_with (first | (go_at_call 126; refine ha.mono ?_; rintro e w4 ⟨rfl, hk4⟩; have hk4' := HKc.out.trans hk4) | (go_at_call 127; refine (hsh _ hk4').mono ?_; rintro e w5 ⟨rfl, hk5⟩))
        go_ret
        exact ⟨rfl, hk4'.trans hk5⟩
 ·have h2b : (num != number) = true := by simp [h2]
  have e : faultP sum lsn num bot sl raw number = 2 := by unfold faultP; rw [if_pos h2]
  rw [e]
  clear h2 hp hs e
  go_enter Try.func123, Try.ntmps123
  go_wp2
  go_ret
  exact ⟨rfl, Kept.refl _ _⟩
theorem numAt_small (raw : List Int) (hB : IsB raw) (o n : Nat) (hn : n ≤ 7) : numAt raw o n = -1 ∨ (0 ≤ numAt raw o n ∧ numAt raw o n < 256 ^ n) := by
 unfold numAt getN
 have hb : IsB ((raw.drop o).take n) := isB_take (isB_drop hB o) n
 have h := num_bound _ hb ((raw.drop o).take n).length (Nat.le_refl _)
 rw [List.take_length] at h
 split
 ·exact .inl rfl
 ·refine .inr ⟨h.1, Int.lt_of_lt_of_le h.2 ?_⟩
  have hl : ((raw.drop o).take n).length ≤ n := by simp; omega
  have h2 : (256 : Nat) ^ ((raw.drop o).take n).length ≤ 256 ^ n := Nat.pow_le_pow_right (by decide) hl
  have e1 : ((256 ^ ((raw.drop o).take n).length : Nat) : Int) = (256 : Int) ^ ((raw.drop o).take n).length := by simp
  have e2 : ((256 ^ n : Nat) : Int) = (256 : Int) ^ n := by simp
  rw [← e1, ← e2]
  exact_mod_cast h2
theorem numAt_in (raw : List Int) (hB : IsB raw) (o n : Nat) (hn1 : 1 ≤ n) (hn : n ≤ 7) (hl : o + n ≤ raw.length) : 0 ≤ numAt raw o n ∧ numAt raw o n < 256 ^ n := by
 rcases numAt_small raw hB o n hn with h | h
 ·exfalso
  unfold numAt getN at h
  have hb : IsB ((raw.drop o).take n) := isB_take (isB_drop hB o) n
  have hln : ((raw.drop o).take n).length = n := by simp; omega
  have h0 := num_bound _ hb ((raw.drop o).take n).length (Nat.le_refl _)
  rw [List.take_length] at h0
  have hf := getN_few _ hb (by omega)
  rw [if_neg (by omega)] at h
  omega
 ·exact h
theorem slotsOf_small (raw : List Int) (hB : IsB raw) (hl : raw.length = 4096) : Small (slotsOf raw) := by
 intro x hx
 simp only [slotsOf, List.mem_map, List.mem_range] at hx
 obtain ⟨j, hj, rfl⟩ := hx
 have := numAt_in raw hB (20 + 2 * j) 2 (by decide) (by decide) (by omega)
 omega
def pageFault (raw : List Int) (number : Int) : Int := if raw.length ≠ 4096 then 1 else faultP (raw.take 4) (numAt raw 4 8) (numAt raw 12 4) (numAt raw 16 2) (slotsOf raw) raw number
theorem owns_form {w : World} {base size n : Nat} {e : TypeId} {v : Value} {xs : List Value} (h : w.ownsRow base e size v n xs) (hn : 0 < n) : ∃ g cap, v = .slice (some ⟨g, 0, none⟩) n cap := by
 rcases h.2 with ⟨_, h0⟩ | ⟨g, cap, cur, h, _⟩
 ·omega
 ·exact ⟨g, cap, h⟩
theorem owns_le {w : World} {base base' size n : Nat} {e : TypeId} {v : Value} {xs : List Value} (h : w.ownsRow base e size v n xs) (hb : base' ≤ base) : w.ownsRow base' e size v n xs := by
 refine ⟨h.1, ?_⟩
 rcases h.2 with h0 | ⟨g, cap, cur, h, hg, rest⟩
 ·exact .inl h0
 ·exact .inr ⟨g, cap, cur, h, Nat.le_trans hb hg, rest⟩
theorem infoSlot : (Try.prog.info? 85).map (fun i => (i.zero, i.size, i.bytes)) = some (some (.agg #[.int .i64 0, .int .i64 0]), 2, 16) := by kernel_rfl
theorem take2 (sl : List Int) (k : Nat) (h : 2 * k + 1 < sl.length) : vals .i64 (sl.take (2 * (k + 1))) = vals .i64 (sl.take (2 * k)) ++ [.int .i64 (sl.getD (2 * k) 0), .int .i64 (sl.getD (2 * k + 1) 0)] := by
 have e1 : sl.getD (2 * k) 0 = sl[2 * k] := by simp [List.getD, List.getElem?_eq_getElem (show 2 * k < sl.length by omega)]
 have e2 : sl.getD (2 * k + 1) 0 = sl[2 * k + 1] := by simp [List.getD, List.getElem?_eq_getElem h]
 rw [show 2 * (k + 1) = 2 * k + 1 + 1 from by omega, List.take_succ_eq_append_getElem h, List.take_succ_eq_append_getElem (by omega), e1, e2]
 unfold vals
 rw [List.map_append, List.map_append, List.append_assoc]
 rfl
theorem l3Slots_any (b off c : Nat) (raw : List Int) (w : World) (hB : IsB raw) (hl : raw.length = 4096) (hv : Rd .u8 w (.slice (some ⟨b, off, none⟩) 4096 c) raw) :
  Calls Try.prog 56 #[.slice (some ⟨b, off, none⟩) 4096 c] w fun e w' => ∃ g cap, e = .returned (.slice (some ⟨g, 0, none⟩) 32 cap) ∧ w.heap.size ≤ g ∧ w'.ownsRow 0 85 2 (.slice (some ⟨g, 0, none⟩) 32 cap) 32 (vals .i64 (slotsOf raw)) ∧ Same w w' := by
 obtain ⟨i0, hi, hz0, hz1, hz2⟩ := info_parts infoSlot
 have HNu := (show Hid (∀ wx, Same w wx → ∀ o : Nat, o + 2 ≤ 4096 → Calls Try.prog 54 #[.slice (some ⟨b, off, none⟩) 4096 c, .int .i64 o, .int .i64 2] wx fun e w' => e = .returned (.int .i64 (numAt raw o 2)) ∧ Same wx w') from fun wx h o ho =>
  l3Number_any b off 4096 c raw o 2 wx hB hl (by decide) (by decide) ho (hv.same h))
 clear hv hB
 go_enter Try.func56, Try.ntmps56
 go_wp2
 go_loopw [3, 4, 5] (fun s i _ wr => ∃ (k g cap : Nat), k ≤ 32 ∧ s = .slice (some ⟨g, 0, none⟩) k cap ∧ i = .int .i64 k ∧ Hid (wr.ownsRow w.heap.size 85 2 (.slice (some ⟨g, 0, none⟩) k cap) k (vals .i64 ((slotsOf raw).take (2 * k)))) ∧ Hid (Same w wr)) (fun _ i _ _ => 32 - (intOf i).toNat)
 case atStart =>
  refine ⟨0, w.heap.size, 0, by omega, rfl, rfl, ?_, (Kept.refl _ _).alloc _⟩
  exact World.ownsRow_made w #[] 0 (Nat.le_refl _) (by simp) (by simp)
 case round =>
  obtain ⟨k, g, cap, hk, rfl, rfl, HO, HK⟩ := hrel
  by_cases hlt : k < 32
  ·have hk2 : (k : Int) < 32 := by omega
   have HX := (show Hid ((slotsOf raw).getD (2 * k) 0 = numAt raw (20 + 4 * k) 2) from (by rw [slotsOf_at _ _ (by omega), show 20 + 2 * (2 * k) = 20 + 4 * k from by omega] : (slotsOf raw).getD (2 * k) 0 = numAt raw (20 + 4 * k) 2))
   have HY := (show Hid ((slotsOf raw).getD (2 * k + 1) 0 = numAt raw (20 + 4 * k + 2) 2) from (by rw [slotsOf_at _ _ (by omega), show 20 + 2 * (2 * k + 1) = 20 + 4 * k + 2 from by omega] : (slotsOf raw).getD (2 * k + 1) 0 = numAt raw (20 + 4 * k + 2) 2))
   have HT := (show Hid (_ = _) from take2 (slotsOf raw) k (by rw [slotsOf_length]; omega))
   rw [HX.out, HY.out] at HT
   have h1 := HNu.out wr HK.out (20 + 4 * k) (by omega)
   have h2 := fun wx (h : Same wr wx) => HNu.out wx (HK.out.trans h) (20 + 4 * k + 2) (by omega)
   generalize numAt raw (20 + 4 * k) 2 = X at *
   generalize numAt raw (20 + 4 * k + 2) 2 = Y at *
   have e1 : ((20 + 4 * k : Nat) : Int) = 20 + 4 * (k : Int) := by omega
   have e2 : ((20 + 4 * k + 2 : Nat) : Int) = 20 + 4 * (k : Int) + 2 := by omega
   rw [e1] at h1
   rw [e2] at h2
   have HOB := (show Hid (∀ wx, Same wr wx → ∀ o, (wx.alloc o).ownsRow w.heap.size 85 2 (.slice (some ⟨g, 0, none⟩) k cap) k (vals .i64 ((slotsOf raw).take (2 * k)))) from fun wx h o => (h.trans ((Kept.refl _ _).alloc o)).owns HO.out (fun _ _ => id))
   clear e1 e2 HX HY
   go_wp2_with (first
    | (go_at_call 54; refine h1.mono ?_; rintro e w1 ⟨rfl, hk1⟩; have h3 := h2 w1 hk1; clear h1)
    | (go_at_call 54; refine h3.mono ?_; rintro e w2 ⟨rfl, hk2'⟩; have HK2 := (show Hid (Same wr w2) from hk1.trans hk2'); have hz2' := HK2.out.size; have hzr := HK.out.size)
    | (at_builtin; (refine wpList_append_own _ rfl _ _ 82 rfl w.heap.size 85 i0 (.agg #[.int .i64 0, .int .i64 0]) 2 16 Try.underlying82 hi hz0 hz1 hz2 rfl (by decide) (.slice (some ⟨g, 0, none⟩) k cap) k (vals .i64 ((slotsOf raw).take (2 * k))) rfl (HOB.out w2 HK2.out _) ⟨w2.heap.size, 0, none⟩ 1 1 [.int .i64 X, .int .i64 Y] rfl rfl (World.news_of_block (cs := #[.int .i64 X, .int .i64 Y]) (t := 85) (fr := (0, 0)) (by unfold World.alloc; exact Array.getElem?_push_size)) (by intro u hu; simp at hu; rcases hu with rfl | rfl <;> rfl) (by unfold maxLen; omega) (by omega) (by simp; omega) ?_); intro v' w3 hown3 hgrow3 _; have HO3 := (show Hid (w3.ownsRow w.heap.size 85 2 v' (k + 1) (vals .i64 ((slotsOf raw).take (2 * (k + 1))))) from (by rw [HT.out]; exact hown3)); have HG3 := (show Hid ((w2.alloc (.cells #[.int .i64 X, .int .i64 Y] 85)).grownBy w3 (Value.slice (some ⟨g, 0, none⟩) k cap).ownBlock) from hgrow3); obtain ⟨g3, cap3, rfl⟩ := owns_form HO3.out (by omega); clear hown3 hgrow3))
   have hk3 : Kept (fun b => (Value.slice (some ⟨g, 0, none⟩) k cap).ownBlock = some b) w2 w3 := ((Kept.refl _ _).alloc _).trans (Kept.of_grown HG3.out (fun k e => e))
   have hg := (World.ownsRow.lt HO.out g rfl).1
   go_roundw
   case rel => exact ⟨k + 1, g3, cap3, by omega, rfl, by go_num, HO3, (HK.out.trans HK2.out).next hk3 (fun i hi e => by simp [Value.ownBlock] at e; omega)⟩
   case measure => simp [intOf]; omega
  ·obtain rfl : k = 32 := by omega
   go_wp2
   go_ret
   have h := HO.out
   rw [List.take_of_length_le (by rw [slotsOf_length]; decide)] at h
   exact ⟨g, cap, rfl, (World.ownsRow.lt h g rfl).1, owns_le h (Nat.zero_le _), HK.out⟩
theorem lows_numAt (raw : List Int) (hB : IsB raw) (o n : Nat) (hn : 1 ≤ n) (hn8 : n ≤ 8) (hl : o + n ≤ raw.length) (h : 0 ≤ numAt raw o n) : lows (numAt raw o n) n = (raw.drop o).take n := by
 have hln : ((raw.drop o).take n).length = n := by simp; omega
 have e : numAt raw o n = num ((raw.drop o).take n) := by
  unfold numAt getN at h ⊢
  split at h
  ·omega
  ·rename_i hc
   rw [if_neg hc]
 rw [e]
 have h2 := lows_num ((raw.drop o).take n) (isB_take (isB_drop hB o) n)
 rw [hln] at h2
 exact h2
theorem pairs_take (l : List Int) (n : Nat) (h : 2 * n ≤ l.length) : (List.range n).flatMap (fun j => (l.drop (2 * j)).take 2) = l.take (2 * n) := by
 induction n with
 | zero => simp
 | succ n ih =>
  rw [List.range_succ, List.flatMap_append, ih (by omega), show 2 * (n + 1) = 2 * n + 2 from by omega, List.take_add]
  simp
theorem slotB_raw (raw : List Int) (hB : IsB raw) (hl : raw.length = 4096) : slotB (slotsOf raw) = (raw.drop 20).take 128 := by
 have h := pairs_take (raw.drop 20) 64 (by rw [List.length_drop, hl]; decide)
 rw [show 2 * 64 = 128 from rfl] at h
 rw [← h]
 unfold slotB slotsOf
 rw [List.flatMap_map]
 refine congrArg List.flatten (List.map_congr_left fun j hj => ?_)
 have hj := List.mem_range.1 hj
 rw [lows_numAt raw hB (20 + 2 * j) 2 (by decide) (by decide) (by omega) (numAt_in raw hB (20 + 2 * j) 2 (by decide) (by decide) (by omega)).1, List.drop_drop]
theorem enc_raw (raw : List Int) (hB : IsB raw) (hl : raw.length = 4096) (h0 : 0 ≤ numAt raw 4 8) :
  encB (raw.take 4) (numAt raw 4 8) (numAt raw 12 4) (numAt raw 16 2) (slotsOf raw) raw = raw.take 18 ++ ([0, 0] ++ raw.drop 20) := by
 unfold encB cont headB
 rw [slotB_raw raw hB hl, lows_numAt raw hB 4 8 (by decide) (by decide) (by omega) h0, lows_numAt raw hB 12 4 (by decide) (by decide) (by omega) (numAt_in raw hB 12 4 (by decide) (by decide) (by omega)).1,
  lows_numAt raw hB 16 2 (by decide) (by decide) (by omega) (numAt_in raw hB 16 2 (by decide) (by decide) (by omega)).1]
 have e1 : raw.take 4 ++ (raw.drop 4).take 8 = raw.take 12 := (List.take_add (l := raw) (i := 4) (j := 8)).symm
 have e2 : raw.take 12 ++ (raw.drop 12).take 4 = raw.take 16 := (List.take_add (l := raw) (i := 12) (j := 4)).symm
 have e3 : raw.take 16 ++ (raw.drop 16).take 2 = raw.take 18 := (List.take_add (l := raw) (i := 16) (j := 2)).symm
 rw [e1, e2, e3, show lows 0 2 = [0, 0] from by decide]
 have hlen : (raw.take 18 ++ [0, 0] ++ (raw.drop 20).take 128).length = 148 := by simp; omega
 rw [hlen, List.append_assoc, List.append_assoc]
 congr 2
 rw [show raw.drop 148 = (raw.drop 20).drop 128 from by rw [List.drop_drop], List.take_append_drop]
theorem raw_split (raw : List Int) (hl : raw.length = 4096) : raw = raw.take 18 ++ ([raw.getD 18 0, raw.getD 19 0] ++ raw.drop 20) := by
 have e1 : raw.getD 18 0 = raw[18] := by simp [List.getD, List.getElem?_eq_getElem (show 18 < raw.length by omega)]
 have e2 : raw.getD 19 0 = raw[19] := by simp [List.getD, List.getElem?_eq_getElem (show 19 < raw.length by omega)]
 rw [e1, e2]
 conv => lhs; rw [← List.take_append_drop 18 raw, List.drop_eq_getElem_cons (by omega : 18 < raw.length), List.drop_eq_getElem_cons (by omega : 18 + 1 < raw.length)]
 rfl
theorem headBad_raw (raw : List Int) (hB : IsB raw) (hl : raw.length = 4096) :
  headBad (raw.take 4) (numAt raw 4 8) (numAt raw 12 4) (numAt raw 16 2) (slotsOf raw) raw = (decide (numAt raw 4 8 < 0) || decide (1099511627776 < numAt raw 4 8) || raw.getD 18 0 != 0 || raw.getD 19 0 != 0) := by
 unfold headBad
 by_cases h : isLSN (numAt raw 4 8) = true
 ·have h' := h
  simp [isLSN] at h'
  have hd1 : decide (numAt raw 4 8 < 0) = false := by simp; omega
  have hd2 : decide (1099511627776 < numAt raw 4 8) = false := by simp; omega
  rw [h, hd1, hd2, enc_raw raw hB hl h'.1]
  conv => lhs; rhs; rhs; rw [raw_split raw hl]
  rw [Bool.eq_iff_iff]
  simp
  constructor
  ·intro h1
   by_cases h2 : raw[18]?.getD 0 = 0
   ·right
    intro h3
    exact h1 h2.symm h3.symm
   ·exact .inl h2
  ·rintro (h1 | h1) h2 h3
   ·exact h1 h2.symm
   ·exact h1 h3.symm
 ·have hf : isLSN (numAt raw 4 8) = false := by simpa using h
  rw [hf]
  simp [isLSN] at hf
  simp
  by_cases h0 : 0 ≤ numAt raw 4 8
  ·have := hf h0
   omega
  ·omega
end Go.Proofs.Ytdgmecmkkddpeaa
