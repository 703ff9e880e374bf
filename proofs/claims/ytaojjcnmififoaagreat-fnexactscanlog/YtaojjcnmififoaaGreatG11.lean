import Derived.Test.YtaojjcnmififoaaGreatG10
import Derived.Test.YtaojjcnmififoaaGreatG09
import Derived.Laws.StructEq
import Derived.Deep.DeepCutAuto
import Derived.Deep.AppendLies
namespace Go.Proofs.YtaojjcnmififoaaGreat
set_option maxRecDepth 100000
set_option maxHeartbeats 16000000
set_option linter.unusedVariables false
set_option linter.unusedSimpArgs false
open Go.RowKit
def Rl (bot x y : Int) : Bool := (x != 0 && (decide (1000 < y) || decide (x < bot) || decide (4096 < x + y))) || (x == 0 && y != 0)
def Uh (bot : Int) (sl : List Int) : Bool := (List.range 32).any fun i => Rl bot (sl.getD (2 * i) 0) (sl.getD (2 * i + 1) 0)
theorem Ye (bot : Int) (sl : List Int) (k : Nat) (hk : k < 32) (h : Rl bot (sl.getD (2 * k) 0) (sl.getD (2 * k + 1) 0) = true) : Uh bot sl = true := by
 unfold Uh
 rw [List.any_eq_true]
 exact ⟨k, List.mem_range.2 hk, h⟩
theorem Zz (bot : Int) (sl : List Int) (h : ∀ k < 32, Rl bot (sl.getD (2 * k) 0) (sl.getD (2 * k + 1) 0) = false) : Uh bot sl = false := by
 unfold Uh
 rw [List.any_eq_false]
 intro k hk
 rw [h k (List.mem_range.1 hk)]
 simp
def Small (sl : List Int) : Prop := ∀ x ∈ sl, 0 ≤ x ∧ x ≤ 65535
theorem Small.at {sl : List Int} (h : Small sl) (k : Nat) : 0 ≤ sl.getD k 0 ∧ sl.getD k 0 ≤ 65535 := by
 by_cases hk : k < sl.length
 ·have : sl.getD k 0 = sl[k] := by simp [hk]
  rw [this]
  exact h _ (List.getElem_mem hk)
 ·simp [List.getD, List.getElem?_eq_none (show sl.length ≤ k by omega)]
theorem XR (P : Nat) (sum : List Int) (lsn num bot : Int) (sl raw : List Int) (w : World) (hp : SP w P sum lsn num bot sl raw) (hs : Small sl) :
  Calls Tryz.prog 181 #[.pointer (some ⟨P, 0, none⟩)] w fun e w' => e = .returned (.bool (Uh bot sl)) ∧ Same w w' := by
 have I6 := hp.blk.lt
 have HP := (show Hid (SP w P sum lsn num bot sl raw) from hp)
 have lw := (show Hid (Small sl) from hs)
 have sM := (show Hid ((Tryz.prog.info? 219).map (·.size) = some (vals .i64 sl).length) from (by rw [Rb, hp.l2]; exact (by kernel_rfl : (Tryz.prog.info? 219).map (·.size) = some 64) : (Tryz.prog.info? 219).map (·.size) = some (vals .i64 sl).length))
 have vO := (show Hid (w.rangeAt P 7 (vals .i64 sl)) from hp.slRange)
 obtain ⟨ss, oV⟩ : ∃ ss : List Value, vals .i64 sl = ss := ⟨_, rfl⟩
 have wJ := (show Hid (vals .i64 sl = ss) from oV)
 rw [oV] at sM vO
 clear oV hp hs
 obtain ⟨R, hR⟩ : ∃ R, Uh bot sl = R := ⟨_, rfl⟩
 have HR := (show Hid (Uh bot sl = R) from hR)
 rw [hR]
 clear hR
 go_enter Tryz.func181, Tryz.ntmps181
 go_wp2_with (refine wpList_load_mid rfl 219 _ rfl P 7 rfl ss _ vO.out Tryz.underlying219 rfl sM.out ?_)
 go_loopw [4, 9] (fun _ i wr => ∃ k : Nat, k ≤ 32 ∧ i = .int .i64 k ∧ Hid (∀ j < k, Rl bot (sl.getD (2 * j) 0) (sl.getD (2 * j + 1) 0) = false) ∧ Hid (Same w wr)) (fun _ i _ => 32 - (intOf i).toNat)
 case atStart => exact ⟨0, by omega, rfl, fun j hj => by omega, kZ0⟩
 case round =>
  obtain ⟨k, hk, rfl, pJ, dO⟩ := hrel
  by_cases bH : k < 32
  ·have aN : (k : Int) < 32 := by omega
   have wv := fun w => jac sl HP.out.l2 k bH w
   rw [wJ.out] at wv
   have nR := lw.out.at (2 * k)
   have xy := lw.out.at (2 * k + 1)
   have jq := (show Hid (Rl bot (sl.getD (2 * k) 0) (sl.getD (2 * k + 1) 0) = true → R = true) from fun h => by rw [← HR.out]; exact Ye bot sl k bH h)
   have uW := (show Hid (Rl bot (sl.getD (2 * k) 0) (sl.getD (2 * k + 1) 0) = false → ∀ j < k + 1, Rl bot (sl.getD (2 * j) 0) (sl.getD (2 * j + 1) 0) = false) from fun h j hj => by
    by_cases e : j = k
    ·rw [e]; exact h
    ·exact pJ.out j (by omega))
   generalize sl.getD (2 * k) 0 = x at *
   generalize sl.getD (2 * k + 1) 0 = y at *
   go_wp2_with fail
   have lq := Blk.new wr #[.int .i64 x, .int .i64 y] 218
   have gq : Same wr (wr.alloc (.cells #[.int .i64 x, .int .i64 y] 218)) := kZ0.alloc _
   obtain ⟨w7, o9⟩ : ∃ w7, wr.alloc (.cells #[.int .i64 x, .int .i64 y] 218) = w7 := ⟨_, rfl⟩
   rw [o9] at gq lq ⊢
   have tV := (HP.out.same (dO.out.trans gq)).num3.2.2
   let Y1 : World → Prop := fun wx : World => wx.cell? ⟨wr.heap.size, 0, none⟩ = some (.int .i64 x) ∧ wx.cell? ⟨wr.heap.size, 1, none⟩ = some (.int .i64 y) ∧ wx.cell? ⟨P, 6, none⟩ = some (.int .i64 bot)
   have bv : ∀ wx, Same w7 wx → Y1 wx := fun wx h => ⟨by rw [(lq.same h).cell]; rfl, by rw [(lq.same h).cell]; rfl, h.cellOf tV id⟩
   have sD := hid (dO.out.trans gq)
   clear o9 gq
   by_cases gi : x = 0
   ·have kf : (x != 0) = false := by rw [gi]; rfl
    have Bm := (show Hid (x = 0) from gi)
    clear gi
    have hS : Y1 w7.drew := by exact bv _ kZ0.drew
    refine Q9 Y1 99 21 rfl (by kernel_rfl) ?_
    refine tk 0 12 hS ?_
    refine o1Q 1 (fun K hK => ?_)
    go_simp
    have hc := Vb x y w7.drew
    with_reducible refine hc.mono ?_
    clear hc
    rintro e w8 ⟨rfl, aG⟩
    have gG : Same w7 w8 := Kept.trans (kZ0.drew) aG
    clear aG
    rw [kf]
    have hS : Y1 w8 := bv _ gG
    refine hK.out _ _ (fun _ => hS) ?_
    clear hK K
    try simp only [Act.put, sA, s0, sS]
    refine tk 2 14 hS ?_
    refine tkS 3 15 hS ?_
    refine tkS 4 16 hS ?_
    refine tkS 5 17 hS ?_
    refine tkS 6 18 hS ?_
    refine tkS 7 19 hS ?_
    refine tkS 8 20 hS ?_
    refine tkS 9 21 hS ?_
    refine tkS 10 22 hS ?_
    refine tkS 11 23 hS ?_
    refine tkS 12 24 hS ?_
    refine tkS 13 25 hS ?_
    refine tkS 14 26 hS ?_
    refine tkS 15 27 hS ?_
    refine tkS 16 28 hS ?_
    refine tkS 17 29 hS ?_
    refine tkS 18 30 hS ?_
    refine tkS 19 31 hS ?_
    refine tk 20 32 hS ?_
    refine Q8 (by kernel_rfl) ?_
    try simp only [Act.put, sA, s0, sS]
    have nd := Vb x y w8
    rw [kf] at nd
    have q0 : w8.cell? ⟨wr.heap.size, 0, none⟩ = some (.int .i64 x) := (bv _ gG).1
    have q1 : w8.cell? ⟨wr.heap.size, 1, none⟩ = some (.int .i64 y) := (bv _ gG).2.1
    have q2 : ∀ wx, Same w8 wx → wx.cell? ⟨wr.heap.size, 1, none⟩ = some (.int .i64 y) := fun wx h => (bv _ (gG.trans h)).2.1
    by_cases iu : y = 0
    ·have jo : Rl bot x y = false := by simp [Rl, Bm.out, iu]
     have ux : (y != 0) = false := by rw [iu]; rfl
     clear iu
     go_wp2_with (go_at_call 183; refine nd.mono ?_; rintro e lU ⟨rfl, lI⟩; have q3 := q2 lU lI)
     go_roundw
     case rel => exact ⟨k + 1, by omega, by go_num, uW.out jo, sD.out.trans (gG.trans lI)⟩
     case measure => simp [intOf]; omega
    ·have jo : Rl bot x y = true := by simp [Rl, Bm.out, iu]
     have ux : (y != 0) = true := by simp [iu]
     have rx := jq.out jo
     go_wp2_with (go_at_call 183; refine nd.mono ?_; rintro e lU ⟨rfl, lI⟩; have q3 := q2 lU lI)
     go_ret
     try rw [rx]
     exact ⟨rfl, sD.out.trans (gG.trans lI)⟩
   ·have kf : (x != 0) = true := by simp [gi]
    by_cases hL : 1000 < y
    ·have jo : Rl bot x y = true := by simp [Rl, gi, hL]
     have rx := jq.out jo
     have LY : decide (1000 < y) = true := by simp [hL]
     have hS : Y1 w7.drew := by exact bv _ kZ0.drew
     refine Q9 Y1 99 21 rfl (by kernel_rfl) ?_
     refine tk 0 12 hS ?_
     refine o1Q 1 (fun K hK => ?_)
     go_simp
     have hc := Vb x y w7.drew
     with_reducible refine hc.mono ?_
     clear hc
     rintro e w8 ⟨rfl, aG⟩
     have gG : Same w7 w8 := Kept.trans (kZ0.drew) aG
     clear aG
     rw [kf]
     have hS : Y1 w8 := bv _ gG
     refine hK.out _ _ (fun _ => hS) ?_
     clear hK K
     try simp only [Act.put, sA, s0, sS]
     refine tk 2 14 hS ?_
     refine tk 3 15 hS ?_
     refine tk 4 16 hS ?_
     refine tk 5 17 hS ?_
     refine tk 6 18 hS ?_
     refine tkS 7 19 hS ?_
     refine tkS 8 20 hS ?_
     refine tkS 9 21 hS ?_
     refine tkS 10 22 hS ?_
     refine tkS 11 23 hS ?_
     refine tkS 12 24 hS ?_
     refine tkS 13 25 hS ?_
     refine tk 14 26 hS ?_
     refine tk 15 27 hS ?_
     refine tkS 16 28 hS ?_
     refine tkS 17 29 hS ?_
     refine tkS 18 30 hS ?_
     refine tk 19 31 hS ?_
     refine tk 20 32 hS ?_
     refine Q8 (by kernel_rfl) ?_
     try simp only [Act.put, sA, s0, sS]
     go_wp2
     go_ret
     try rw [rx]
     exact ⟨rfl, sD.out.trans gG⟩
    ·have LY : decide (1000 < y) = false := by simp; omega
     by_cases hO : x < bot
     ·have jo : Rl bot x y = true := by simp [Rl, gi, hO]
      have rx := jq.out jo
      have Pb : decide (x < bot) = true := by simp [hO]
      have hS : Y1 w7.drew := by exact bv _ kZ0.drew
      refine Q9 Y1 99 21 rfl (by kernel_rfl) ?_
      refine tk 0 12 hS ?_
      refine o1Q 1 (fun K hK => ?_)
      go_simp
      have hc := Vb x y w7.drew
      with_reducible refine hc.mono ?_
      clear hc
      rintro e w8 ⟨rfl, aG⟩
      have gG : Same w7 w8 := Kept.trans (kZ0.drew) aG
      clear aG
      rw [kf]
      have hS : Y1 w8 := bv _ gG
      refine hK.out _ _ (fun _ => hS) ?_
      clear hK K
      try simp only [Act.put, sA, s0, sS]
      refine tk 2 14 hS ?_
      refine tk 3 15 hS ?_
      refine tk 4 16 hS ?_
      refine tk 5 17 hS ?_
      refine tk 6 18 hS ?_
      refine tk 7 19 hS ?_
      refine tk 8 20 hS ?_
      refine tk 9 21 hS ?_
      refine tk 10 22 hS ?_
      refine tk 11 23 hS ?_
      refine tk 12 24 hS ?_
      refine tk 13 25 hS ?_
      refine tk 14 26 hS ?_
      refine tk 15 27 hS ?_
      refine tkS 16 28 hS ?_
      refine tkS 17 29 hS ?_
      refine tkS 18 30 hS ?_
      refine tk 19 31 hS ?_
      refine tk 20 32 hS ?_
      refine Q8 (by kernel_rfl) ?_
      try simp only [Act.put, sA, s0, sS]
      go_wp2
      go_ret
      try rw [rx]
      exact ⟨rfl, sD.out.trans gG⟩
     ·have Pb : decide (x < bot) = false := by simp; omega
      have hS : Y1 w7.drew := by exact bv _ kZ0.drew
      refine Q9 Y1 99 21 rfl (by kernel_rfl) ?_
      refine tk 0 12 hS ?_
      refine o1Q 1 (fun K hK => ?_)
      go_simp
      have hc := Vb x y w7.drew
      with_reducible refine hc.mono ?_
      clear hc
      rintro e w8 ⟨rfl, aG⟩
      have gG : Same w7 w8 := Kept.trans (kZ0.drew) aG
      clear aG
      rw [kf]
      have hS : Y1 w8 := bv _ gG
      refine hK.out _ _ (fun _ => hS) ?_
      clear hK K
      try simp only [Act.put, sA, s0, sS]
      refine tk 2 14 hS ?_
      refine tk 3 15 hS ?_
      refine tk 4 16 hS ?_
      refine tk 5 17 hS ?_
      refine tk 6 18 hS ?_
      refine tk 7 19 hS ?_
      refine tk 8 20 hS ?_
      refine tk 9 21 hS ?_
      refine tk 10 22 hS ?_
      refine tk 11 23 hS ?_
      refine tk 12 24 hS ?_
      refine tk 13 25 hS ?_
      refine tk 14 26 hS ?_
      refine tk 15 27 hS ?_
      refine tk 16 28 hS ?_
      refine o1Q 17 (fun K hK => ?_)
      go_simp
      have hc := jad x y w8 nR xy
      with_reducible refine hc.mono ?_
      clear hc
      rintro e w9 ⟨rfl, aG⟩
      have po : Same w7 w9 := Kept.trans (gG) aG
      clear aG
      have hS : Y1 w9 := bv _ po
      refine hK.out _ _ (fun _ => hS) ?_
      clear hK K
      try simp only [Act.put, sA, s0, sS]
      refine tk 18 30 hS ?_
      refine tk 19 31 hS ?_
      refine tk 20 32 hS ?_
      refine Q8 (by kernel_rfl) ?_
      try simp only [Act.put, sA, s0, sS]
      by_cases hE : 4096 < x + y
      ·have jo : Rl bot x y = true := by simp [Rl, gi, hE]
       have rx := jq.out jo
       go_wp2
       go_ret
       try rw [rx]
       exact ⟨rfl, sD.out.trans po⟩
      ·have jo : Rl bot x y = false := by simp [Rl, gi]; omega
       have nd := Vb x y w9
       rw [kf] at nd
       have q0 : w9.cell? ⟨wr.heap.size, 0, none⟩ = some (.int .i64 x) := (bv _ po).1
       have q1 : w9.cell? ⟨wr.heap.size, 1, none⟩ = some (.int .i64 y) := (bv _ po).2.1
       go_wp2_with (go_at_call 183; refine nd.mono ?_; rintro e lU ⟨rfl, lI⟩)
       go_roundw
       case rel => exact ⟨k + 1, by omega, by go_num, uW.out jo, sD.out.trans (po.trans lI)⟩
       case measure => simp [intOf]; omega
  ·obtain rfl : k = 32 := by omega
   have ES : R = false := by rw [← HR.out]; exact Zz bot sl pJ.out
   go_wp2
   go_ret
   try rw [ES]
   exact ⟨rfl, dO.out⟩
def TS (sl : List Int) (i j : Nat) : Bool := Um (sl.getD (2 * i) 0) (sl.getD (2 * i + 1) 0) (sl.getD (2 * j) 0) (sl.getD (2 * j + 1) 0)
def share (sl : List Int) : Bool := (List.range 32).any fun i => (List.range i).any fun j => TS sl i j
theorem ZA (sl : List Int) (i j : Nat) (hi : i < 32) (hj : j < i) (h : TS sl i j = true) : share sl = true := by
 unfold share
 rw [List.any_eq_true]
 exact ⟨i, List.mem_range.2 hi, by rw [List.any_eq_true]; exact ⟨j, List.mem_range.2 hj, h⟩⟩
theorem jaP (sl : List Int) (h : ∀ i < 32, ∀ j < i, TS sl i j = false) : share sl = false := by
 unfold share
 rw [List.any_eq_false]
 intro i hi
 rw [Bool.not_eq_true, List.any_eq_false]
 intro j hj
 rw [h i (List.mem_range.1 hi) j (List.mem_range.1 hj)]
 simp
theorem Xg (P : Nat) (sum : List Int) (lsn num bot : Int) (sl raw : List Int) (w : World) (hp : SP w P sum lsn num bot sl raw) (hs : Small sl) :
  Calls Tryz.prog 182 #[.pointer (some ⟨P, 0, none⟩)] w fun e w' => e = .returned (.bool (share sl)) ∧ Same w w' := by
 have I6 := hp.blk.lt
 have HP := (show Hid (SP w P sum lsn num bot sl raw) from hp)
 have lw := (show Hid (Small sl) from hs)
 have sM := (show Hid ((Tryz.prog.info? 219).map (·.size) = some (vals .i64 sl).length) from (by rw [Rb, hp.l2]; exact (by kernel_rfl : (Tryz.prog.info? 219).map (·.size) = some 64) : (Tryz.prog.info? 219).map (·.size) = some (vals .i64 sl).length))
 have vO := (show Hid (w.rangeAt P 7 (vals .i64 sl)) from hp.slRange)
 obtain ⟨ss, oV⟩ : ∃ ss : List Value, vals .i64 sl = ss := ⟨_, rfl⟩
 have wJ := (show Hid (vals .i64 sl = ss) from oV)
 rw [oV] at sM vO
 clear oV hp hs
 obtain ⟨R, hR⟩ : ∃ R, share sl = R := ⟨_, rfl⟩
 have HR := (show Hid (share sl = R) from hR)
 rw [hR]
 clear hR
 go_enter Tryz.func182, Tryz.ntmps182
 go_wp2_with (refine wpList_load_mid rfl 219 _ rfl P 7 rfl ss _ vO.out Tryz.underlying219 rfl sM.out ?_)
 go_loopw [3, 4, 6, 11] (fun _ _ _ i wr => ∃ k : Nat, k ≤ 32 ∧ i = .int .i64 k ∧ Hid (∀ i < k, ∀ j < i, TS sl i j = false) ∧ Hid (Same w wr)) (fun _ _ _ i _ => 32 - (intOf i).toNat)
 case atStart => exact ⟨0, by omega, rfl, fun j hj => by omega, kZ0⟩
 case round =>
  obtain ⟨k, hk, rfl, pJ, dO⟩ := hrel
  by_cases bH : k < 32
  ·have aN : (k : Int) < 32 := by omega
   have fq : (k : Int) ≤ 32 := by omega
   have wv := fun w => jac sl HP.out.l2 k bH w
   rw [wJ.out] at wv
   have nR := lw.out.at (2 * k)
   have xy := lw.out.at (2 * k + 1)
   have K4 := (show Hid (∀ j, TS sl k j = Um (sl.getD (2 * k) 0) (sl.getD (2 * k + 1) 0) (sl.getD (2 * j) 0) (sl.getD (2 * j + 1) 0)) from fun _ => rfl)
   obtain ⟨x, hx⟩ : ∃ x, sl.getD (2 * k) 0 = x := ⟨_, rfl⟩
   obtain ⟨y, hy⟩ : ∃ y, sl.getD (2 * k + 1) 0 = y := ⟨_, rfl⟩
   rw [hx, hy] at wv K4
   rw [hx] at nR
   rw [hy] at xy
   clear hx hy
   go_wp2
   have lq := Blk.new wr #[.int .i64 x, .int .i64 y] 218
   have gq : Same wr (wr.alloc (.cells #[.int .i64 x, .int .i64 y] 218)) := kZ0.alloc _
   obtain ⟨w7, o9⟩ : ∃ w7, wr.alloc (.cells #[.int .i64 x, .int .i64 y] 218) = w7 := ⟨_, rfl⟩
   rw [o9] at gq lq ⊢
   have jU := (show Hid (Blk w7 wr.heap.size 218 [.int .i64 x, .int .i64 y]) from lq)
   have dd := hid (dO.out.trans gq)
   obtain ⟨BI, IE⟩ : ∃ BI, wr.heap.size = BI := ⟨_, rfl⟩
   have Fc := lq.lt
   rw [IE] at jU Fc ⊢
   clear o9 gq lq IE
   go_loopw [6, 21] (fun _ i wi => ∃ j : Nat, j ≤ k ∧ i = .int .i64 j ∧ Hid (∀ m < j, TS sl k m = false) ∧ Hid (Same w7 wi)) (fun _ i _ => k - (intOf i).toNat)
   case atStart => exact ⟨0, by omega, rfl, fun j hj => by omega, kZ0⟩
   case round =>
    obtain ⟨j, hj, rfl, Hm, Ez⟩ := hrel
    by_cases hjl : j < k
    ·have qf := HP.out.same (dd.out.trans Ez.out)
     have c0 := qf.slAt (2 * j) (by omega)
     have c1 := qf.slAt (2 * j + 1) (by omega)
     rw [show 7 + 2 * j = 7 + j * 2 from by omega] at c0
     rw [show 7 + (2 * j + 1) = 7 + j * 2 + 1 from by omega] at c1
     have JD := lw.out.at (2 * j)
     have iS := lw.out.at (2 * j + 1)
     have t9 := (show Hid (_) from K4.out j)
     obtain ⟨u, hu⟩ : ∃ u, sl.getD (2 * j) 0 = u := ⟨_, rfl⟩
     obtain ⟨v, hv⟩ : ∃ v, sl.getD (2 * j + 1) 0 = v := ⟨_, rfl⟩
     rw [hu] at c0 JD
     rw [hv] at c1 iS
     rw [hu, hv] at t9
     clear hu hv qf
     have J6 : (j : Int) < (k : Int) := by omega
     have gp : Same w7 (wr.alloc (.cells #[.int .i64 u, .int .i64 v] 218)) := Ez.out.trans (kZ0.alloc _)
     have d0 : (wr.alloc (.cells #[.int .i64 u, .int .i64 v] 218)).cell? ⟨BI, 0, none⟩ = some (.int .i64 x) := by rw [(jU.out.same gp).cell]; rfl
     have d1 : (wr.alloc (.cells #[.int .i64 u, .int .i64 v] 218)).cell? ⟨BI, 1, none⟩ = some (.int .i64 y) := by rw [(jU.out.same gp).cell]; rfl
     have gx := (show Hid (Same w7 (wr.alloc (.cells #[.int .i64 u, .int .i64 v] 218))) from gp)
     have hc := jbU x y u v (wr.alloc (.cells #[.int .i64 u, .int .i64 v] 218)) nR xy JD iS
     have jq := (show Hid (Um x y u v = true → R = true) from fun h => by rw [← HR.out]; exact ZA sl k j bH hjl (by rw [t9.out]; exact h))
     have uW := (show Hid (Um x y u v = false → ∀ m < j + 1, TS sl k m = false) from fun h m hm => by
      by_cases e : m = j
      ·rw [e, t9.out]; exact h
      ·exact Hm.out m (by omega))
     generalize Um x y u v = sb at *
     clear gp
     cases sb with
     | true =>
      have rx := jq.out (by first | trivial | rfl)
      go_wp2_with (go_at_call 185; refine hc.mono ?_; rintro e w9 ⟨rfl, fm⟩)
      go_ret
      try rw [rx]
      exact ⟨rfl, dd.out.trans (gx.out.trans fm)⟩
     | false =>
      go_wp2_with (go_at_call 185; refine hc.mono ?_; rintro e w9 ⟨rfl, fm⟩)
      go_roundw
      case rel => exact ⟨j + 1, by omega, by go_num, uW.out (by first | trivial | rfl), gx.out.trans fm⟩
      case measure => simp [intOf]; omega
    ·obtain rfl : j = k := by omega
     go_wp2
     go_roundw
     case rel =>
      refine ⟨j + 1, by omega, by go_num, fun i hi m hm => ?_, dd.out.trans Ez.out⟩
      by_cases e : i = j
      ·rw [e] at hm ⊢
       exact Hm.out m hm
      ·exact pJ.out i (by omega) m hm
     case measure => simp [intOf]; omega
  ·obtain rfl : k = 32 := by omega
   have ES : R = false := by rw [← HR.out]; exact jaP sl pJ.out
   go_wp2
   go_ret
   try rw [ES]
   exact ⟨rfl, dO.out⟩
theorem VD : ∀ (xs ys : List Int), xs.length = ys.length → ((List.range xs.length).all fun i => xs.getD i 0 == ys.getD i 0) = (xs == ys)
 | [], [], _ => rfl
 | x :: xs, y :: ys, h => by
  have ih := VD xs ys (by simpa using h)
  rw [List.length_cons, List.range_succ_eq_map, List.all_cons, List.all_map]
  simp only [List.getD_cons_zero, Function.comp_def, List.getD_cons_succ, ih]
  simp [List.cons_beq_cons]
 | [], _ :: _, h => by simp at h
 | _ :: _, [], h => by simp at h
theorem Xh {P : Program} (w : World) (d : Nat) (t e : TypeId) (n : Nat) (ht : P.underlying t = some (.array n e)) (he : P.underlying e = some (.int .u8)) (gE : ∀ w, (sizeOf e).run P w = .ok 1 w)
  (xs ys : List Int) (hx : xs.length = n) (hy : ys.length = n) :
  (Op.equalIn (d + 2) t (.agg (vals .u8 xs).toArray) (.agg (vals .u8 ys).toArray)).run P w = .ok (xs == ys) w := by
 rw [← VD xs ys (hx.trans hy.symm), hx, List.range_eq_range', Op.equalIn]
 simp only [Sem.run_bind, run_underlying ht, Result.andThen_ok, gE, Std.Legacy.Range.forIn_eq_forIn_range', Std.Legacy.Range.size, Nat.sub_zero, Nat.add_sub_cancel, Nat.div_one]
 have hl : ∀ i ∈ List.range' 0 n 1, i < n := fun i hi => by simpa using (List.mem_range'_1.1 hi).2
 generalize List.range' 0 n 1 = l at hl ⊢
 induction l with
 | nil => simp
 | cons i l ih =>
  have hi : i < n := hl i (by simp)
  have px : (Go.part e (vals .u8 xs).toArray (i * 1)).run P w = .ok (.int .u8 (xs.getD i 0)) w := by
   simp [vals, Go.part, isAgg, run_underlying he, List.getD, List.getElem?_eq_getElem (show i < xs.length by omega)]
  have py : (Go.part e (vals .u8 ys).toArray (i * 1)).run P w = .ok (.int .u8 (ys.getD i 0)) w := by
   simp [vals, Go.part, isAgg, run_underlying he, List.getD, List.getElem?_eq_getElem (show i < ys.length by omega)]
  have pe : (Op.equalIn (d + 1) e (.int .u8 (xs.getD i 0)) (.int .u8 (ys.getD i 0))).run P w = .ok (xs.getD i 0 == ys.getD i 0) w := run_equalIn_int w d e .u8 .u8 _ _ he
  simp only [List.forIn_cons, Sem.run_bind, px, py, pe, Result.andThen_ok, List.all_cons]
  cases hb : (xs.getD i 0 == ys.getD i 0)
  ·simp
  ·simp only [Bool.not_true, Bool.false_eq_true, if_false, Sem.run_pure, Result.andThen_ok, Bool.true_and]
   exact ih fun j hj => hl j (by simp [hj])
theorem jcM (w : World) : (sizeOf 5).run Tryz.prog w = .ok 1 w := by
 obtain ⟨i0, hi, eL, eT, fM⟩ := info_parts Tryz.infoByte'
 simp [sizeOf, typeInfo, hi, eT]
theorem YU (w : World) (xs ys : List Int) (hx : xs.length = 4096) (hy : ys.length = 4096) : (binOp .neq 215 (.agg (vals .u8 xs).toArray) (.agg (vals .u8 ys).toArray)).run Tryz.prog w = .ok (.bool (xs != ys)) w := by
 rw [run_neq_struct, Xh w 9998 215 5 4096 Tryz.underlying215 Tryz.underlying5 jcM xs ys hx hy]
 rfl
/-! ### A number and its bytes -/
theorem jdC (k : Nat) : ∀ (v m : Nat), R8 ((v + m * 256 ^ k : Nat) : Int) k = R8 (v : Int) k := by
 induction k with
 | zero => intro v m; rfl
 | succ k ih =>
  intro v m
  have e1 : (v + m * 256 ^ (k + 1) : Nat) = v + (m * 256) * 256 ^ k := by rw [Nat.pow_succ, Nat.mul_comm (256 ^ k) 256, Nat.mul_assoc]
  simp only [R8]
  rw [e1, ih v (m * 256)]
  congr 1
  have h2 : (((v + m * 256 * 256 ^ k : Nat) : Int) / 256 ^ k) = (((v + m * 256 * 256 ^ k) / 256 ^ k : Nat) : Int) := by simp
  have h3 : ((v : Int) / 256 ^ k) = ((v / 256 ^ k : Nat) : Int) := by simp
  rw [h2, h3, Nat.add_mul_div_right _ _ (Nat.pow_pos (by decide))]
  omega
theorem jaQ (bs : List Int) (hb : IsB bs) : R8 (num bs) bs.length = bs := by
 induction bs with
 | nil => rfl
 | cons b bs ih =>
  have iq : IsB bs := fun y hy => hb y (by simp [hy])
  have h0 := hb b (by simp)
  have h1 := Td bs iq bs.length (Nat.le_refl _)
  rw [List.take_length] at h1
  obtain ⟨n, hn⟩ : ∃ n : Nat, num bs = n := ⟨(num bs).toNat, by omega⟩
  obtain ⟨c, rfl⟩ : ∃ c : Nat, b = c := ⟨b.toNat, by omega⟩
  have IY := ih iq
  rw [X8, hn]
  rw [hn] at IY h1
  have e3 : (256 : Int) ^ bs.length = ((256 ^ bs.length : Nat) : Int) := by simp
  rw [e3] at h1 ⊢
  have e : ((c : Int) * ((256 ^ bs.length : Nat) : Int) + (n : Int)) = ((n + c * 256 ^ bs.length : Nat) : Int) := by simp [Int.add_comm]
  rw [e, List.length_cons]
  simp only [R8]
  rw [jdC, IY]
  congr 1
  have h2 : (((n + c * 256 ^ bs.length : Nat) : Int) / 256 ^ bs.length) = (((n + c * 256 ^ bs.length) / 256 ^ bs.length : Nat) : Int) := by simp
  rw [h2, Nat.add_mul_div_right _ _ (Nat.pow_pos (by decide)), Nat.div_eq_of_lt (by omega)]
  omega
def Uo (sum : List Int) (lsn num bot : Int) (sl raw : List Int) : Bool := !Sk lsn || WE sum lsn num bot sl raw != raw
def UG (sum : List Int) (lsn num bot : Int) (sl raw : List Int) (number : Int) : Int :=
 if num ≠ number then 2 else if Uo sum lsn num bot sl raw then 3 else if bot < 148 ∨ 4096 < bot then 4 else if Uh bot sl then 5 else if share sl then 6 else 0
theorem jbV {x : Int} (h : Sk x = true) : 0 ≤ x ∧ x ≤ 9223372036854775807 := by
 simp [Sk] at h
 omega
theorem jcN (P : Nat) (sum : List Int) (lsn num bot : Int) (sl raw : List Int) (number : Int) (w : World) (hp : SP w P sum lsn num bot sl raw) (hs : Small sl) (gT : 0 ≤ num ∧ num ≤ 9223372036854775807) (tV : 0 ≤ bot ∧ bot ≤ 9223372036854775807) :
  Calls Tryz.prog 179 #[.pointer (some ⟨P, 0, none⟩), .int .i64 number] w fun e w' => e = .returned (.int .i64 (UG sum lsn num bot sl raw number)) ∧ Same w w' := by
 have HP := (show Hid (SP w P sum lsn num bot sl raw) from hp)
 have lw := (show Hid (Small sl) from hs)
 obtain ⟨c4, c5, c6⟩ := hp.num3
 by_cases h2 : num = number
 ·have Dm : (num != number) = false := by simp [h2]
  have gy := (show Hid (UG sum lsn num bot sl raw number = if Uo sum lsn num bot sl raw then 3 else if bot < 148 ∨ 4096 < bot then 4 else if Uh bot sl then 5 else if share sl then 6 else 0) from (by unfold UG; rw [if_neg (by simp [h2])] : UG sum lsn num bot sl raw number = _))
  obtain ⟨F, hF⟩ : ∃ F, UG sum lsn num bot sl raw number = F := ⟨_, rfl⟩
  rw [hF] at gy
  rw [hF]
  obtain ⟨hb, FW⟩ : ∃ hb, Uo sum lsn num bot sl raw = hb := ⟨_, rfl⟩
  have Hg := (show Hid (Uo sum lsn num bot sl raw = hb) from FW)
  rw [FW] at gy
  clear h2 hp hs hF FW
  go_enter Tryz.func179, Tryz.ntmps179
  go_upto_region 3 with fail
  go_cut [12] (fun c wc => c = .bool hb ∧ Hid (Same w wc))
  case first =>
   have mS := HP.out.rawRange
   have nD : (Tryz.prog.info? 215).map (·.size) = some (vals .u8 raw).length := by rw [Rb, HP.out.l3]; exact Va
   obtain ⟨rl, qY⟩ : ∃ rl : List Value, vals .u8 raw = rl := ⟨_, rfl⟩
   rw [qY] at mS nD
   have bv : ∀ wx, Same w wx → (fun wx : World => wx.cell? ⟨P, 4, none⟩ = some (.int .i64 lsn) ∧ wx.rangeAt P 71 rl) wx := fun wx h => ⟨h.cellOf c4 id, Kept.ranges h mS⟩
   have lM := Xf lsn w.drew
   by_cases hL : Sk lsn = true
   ·rw [hL] at lM
    have yx : Uo sum lsn num bot sl raw = (WE sum lsn num bot sl raw != raw) := by simp [Uo, hL]
    have Jm : Num3 lsn num bot sl := ⟨jbV hL, gT, tV, fun x hx => by have := lw.out x hx; omega⟩
    have Ik := fun wx (h : Same w wx) => jbS P sum lsn num bot sl raw wx (HP.out.same h) Jm
    have fW := fun wx => YU wx (WE sum lsn num bot sl raw) raw (XB HP.out.l1 HP.out.l2 HP.out.l3) HP.out.l3
    rw [qY] at fW
    have Ai : (WE sum lsn num bot sl raw != raw) = hb := yx.symm.trans Hg.out
    obtain ⟨el, AE⟩ : ∃ el : Array Value, (vals .u8 (WE sum lsn num bot sl raw)).toArray = el := ⟨_, rfl⟩
    rw [AE] at Ik fW
    rw [Ai] at fW
    clear yx Ai AE hL Jm qY
    have hS : (fun wx : World => wx.cell? ⟨P, 4, none⟩ = some (.int .i64 lsn) ∧ wx.rangeAt P 71 rl) w.drew := by exact bv _ kZ0.drew
    refine Q9 (fun wx : World => wx.cell? ⟨P, 4, none⟩ = some (.int .i64 lsn) ∧ wx.rangeAt P 71 rl) 99 16 rfl (by kernel_rfl) ?_
    refine tk 0 13 hS ?_
    refine tk 1 14 hS ?_
    refine tk 2 15 hS ?_
    refine tk 3 16 hS ?_
    refine o1Q 4 (fun K hK => ?_)
    go_simp
    with_reducible refine (lM).mono ?_
    rintro e w2 ⟨rfl, aG⟩
    have bo : Same w w2 := Kept.trans (kZ0.drew) aG
    clear aG
    have hS : (fun wx : World => wx.cell? ⟨P, 4, none⟩ = some (.int .i64 lsn) ∧ wx.rangeAt P 71 rl) w2 := bv _ bo
    refine hK.out _ _ (fun _ => hS) ?_
    clear hK K
    try simp only [Act.put, sA, s0, sS]
    refine tk 5 18 hS ?_
    refine tk 6 19 hS ?_
    refine tk 7 20 hS ?_
    refine tk 9 22 hS ?_
    refine tk 10 23 hS ?_
    refine tk 11 24 hS ?_
    refine RB (i := 12) (v := .agg rl.toArray) (some 25) rfl rfl (by kernel_rfl) (by kernel_rfl) (by kernel_rfl) (by kernel_rfl) (fun _ _ _ h => h) (yieldsIf_load_mid (by rfl) 215 _ rfl P 71 rfl rl _ (fun _ h => h.2) Tryz.underlying215 rfl nD) hS ?_
    try simp only [Act.put, sA, s0, sS]
    refine o1Q 8 (fun K hK => ?_)
    go_simp
    with_reducible refine (Ik _ bo).mono ?_
    rintro e w3 ⟨rfl, aG⟩
    have eS : Same w w3 := Kept.trans (bo) aG
    clear aG
    have hS : (fun wx : World => wx.cell? ⟨P, 4, none⟩ = some (.int .i64 lsn) ∧ wx.rangeAt P 71 rl) w3 := bv _ eS
    refine hK.out _ _ (fun _ => hS) ?_
    clear hK K
    try simp only [Act.put, sA, s0, sS]
    refine tk 13 26 hS ?_
    refine tk 14 27 hS ?_
    refine tk 15 12 hS ?_
    refine Q8 (by kernel_rfl) ?_
    go_wp2
    go_meet
    exact ⟨rfl, eS⟩
   ·have Ig : Sk lsn = false := by simpa using hL
    rw [Ig] at lM
    have yx : Uo sum lsn num bot sl raw = true := by simp [Uo, Ig]
    obtain rfl : hb = true := Hg.out.symm.trans yx
    clear yx qY hL
    have hS : (fun wx : World => wx.cell? ⟨P, 4, none⟩ = some (.int .i64 lsn) ∧ wx.rangeAt P 71 rl) w.drew := by exact bv _ kZ0.drew
    refine Q9 (fun wx : World => wx.cell? ⟨P, 4, none⟩ = some (.int .i64 lsn) ∧ wx.rangeAt P 71 rl) 99 16 rfl (by kernel_rfl) ?_
    refine tk 0 13 hS ?_
    refine tk 1 14 hS ?_
    refine tk 2 15 hS ?_
    refine tk 3 16 hS ?_
    refine o1Q 4 (fun K hK => ?_)
    go_simp
    with_reducible refine (lM).mono ?_
    rintro e w2 ⟨rfl, aG⟩
    have bo : Same w w2 := Kept.trans (kZ0.drew) aG
    clear aG
    have hS : (fun wx : World => wx.cell? ⟨P, 4, none⟩ = some (.int .i64 lsn) ∧ wx.rangeAt P 71 rl) w2 := bv _ bo
    refine hK.out _ _ (fun _ => hS) ?_
    clear hK K
    try simp only [Act.put, sA, s0, sS]
    refine tk 5 18 hS ?_
    refine tk 6 19 hS ?_
    refine tkS 7 20 hS ?_
    refine tkS 8 21 hS ?_
    refine tkS 9 22 hS ?_
    refine tkS 10 23 hS ?_
    refine tkS 11 24 hS ?_
    refine tkS 12 25 hS ?_
    refine tkS 13 26 hS ?_
    refine tk 14 27 hS ?_
    refine tk 15 12 hS ?_
    refine Q8 (by kernel_rfl) ?_
    go_wp2
    go_meet
    exact ⟨rfl, bo⟩
  case rest =>
   obtain ⟨rfl, lJ⟩ := hcut
   have k6 := lJ.out.cellOf c6 id
   clear c4 c5 c6
   cases hb with
   | true =>
    obtain rfl : F = 3 := by have h := gy.out; rw [if_pos rfl] at h; exact h
    go_wp2
    go_ret
    exact ⟨rfl, lJ.out⟩
   | false =>
    have h5 := gy.out
    rw [if_neg (by decide)] at h5
    clear gy
    by_cases h4 : bot < 148
    ·obtain rfl : F = 4 := by rw [if_pos (.inl h4)] at h5; exact h5
     clear h5
     go_wp2
     go_ret
     exact ⟨rfl, lJ.out⟩
    ·by_cases h4' : 4096 < bot
     ·obtain rfl : F = 4 := by rw [if_pos (.inr h4')] at h5; exact h5
      clear h5
      go_wp2
      go_ret
      exact ⟨rfl, lJ.out⟩
     ·rw [if_neg (by omega)] at h5
      have ha := XR P sum lsn num bot sl raw wc (HP.out.same lJ.out) lw.out
      have Kd := fun wx (h : Same w wx) => Xg P sum lsn num bot sl raw wx (HP.out.same h) lw.out
      generalize Uh bot sl = A at *
      generalize share sl = H at *
      cases A with
      | true =>
       obtain rfl : F = 5 := by rw [if_pos rfl] at h5; exact h5
       clear h5
       go_wp2_with (go_at_call 181; refine ha.mono ?_; rintro e w4 ⟨rfl, iF⟩)
       go_ret
       exact ⟨rfl, lJ.out.trans iF⟩
      | false =>
       rw [if_neg (by decide)] at h5
       cases H with
       | true =>
        obtain rfl : F = 6 := by rw [if_pos rfl] at h5; exact h5
        clear h5
        go_wp2_with (first | (go_at_call 181; refine ha.mono ?_; rintro e w4 ⟨rfl, iF⟩; have og := lJ.out.trans iF) | (go_at_call 182; refine (Kd _ og).mono ?_; rintro e w5 ⟨rfl, eA⟩))
        go_ret
        exact ⟨rfl, og.trans eA⟩
       | false =>
        obtain rfl : F = 0 := by rw [if_neg (by decide)] at h5; exact h5
        clear h5
        go_wp2_with (first | (go_at_call 181; refine ha.mono ?_; rintro e w4 ⟨rfl, iF⟩; have og := lJ.out.trans iF) | (go_at_call 182; refine (Kd _ og).mono ?_; rintro e w5 ⟨rfl, eA⟩))
        go_ret
        exact ⟨rfl, og.trans eA⟩
 ·have Dm : (num != number) = true := by simp [h2]
  have e : UG sum lsn num bot sl raw number = 2 := by unfold UG; rw [if_pos h2]
  rw [e]
  clear h2 hp hs e
  go_enter Tryz.func179, Tryz.ntmps179
  go_wp2
  go_ret
  exact ⟨rfl, kZ0⟩
theorem jaR (raw : List Int) (hB : IsB raw) (o n : Nat) (hn : n ≤ 7) : Ri raw o n = -1 ∨ (0 ≤ Ri raw o n ∧ Ri raw o n < 256 ^ n) := by
 unfold Ri RQ
 have hb : IsB ((raw.drop o).take n) := Vx (Vy hB o) n
 have h := Td _ hb ((raw.drop o).take n).length (Nat.le_refl _)
 rw [List.take_length] at h
 split
 ·exact .inl rfl
 ·refine .inr ⟨h.1, Int.lt_of_lt_of_le h.2 ?_⟩
  have hl : ((raw.drop o).take n).length ≤ n := by simp; omega
  have h2 : (256 : Nat) ^ ((raw.drop o).take n).length ≤ 256 ^ n := Nat.pow_le_pow_right (by decide) hl
  have e1 : ((256 ^ ((raw.drop o).take n).length : Nat) : Int) = (256 : Int) ^ ((raw.drop o).take n).length := by simp
  have e2 : ((256 ^ n : Nat) : Int) = (256 : Int) ^ n := by simp
  rw [← e1, ← e2]
  exact_mod_cast h2
theorem Vd (raw : List Int) (hB : IsB raw) (o n : Nat) (tr : 1 ≤ n) (hn : n ≤ 7) (hl : o + n ≤ raw.length) : 0 ≤ Ri raw o n ∧ Ri raw o n < 256 ^ n := by
 rcases jaR raw hB o n hn with h | h
 ·exfalso
  unfold Ri RQ at h
  have hb : IsB ((raw.drop o).take n) := Vx (Vy hB o) n
  have A7 : ((raw.drop o).take n).length = n := by simp; omega
  have h0 := Td _ hb ((raw.drop o).take n).length (Nat.le_refl _)
  rw [List.take_length] at h0
  have hf := X9 _ hb (by omega)
  rw [if_neg (by omega)] at h
  omega
 ·exact h
theorem V4 (raw : List Int) (hB : IsB raw) (hl : raw.length = 4096) : Small (slotsOf raw) := by
 intro x hx
 simp only [slotsOf, List.mem_map, List.mem_range] at hx
 obtain ⟨j, hj, rfl⟩ := hx
 have := Vd raw hB (20 + 2 * j) 2 (by decide) (by decide) (by omega)
 omega
def Rn (raw : List Int) (number : Int) : Int := if raw.length ≠ 4096 then 1 else UG (raw.take 4) (Ri raw 4 8) (Ri raw 12 4) (Ri raw 16 2) (slotsOf raw) raw number
theorem jcO {w : World} {base size n : Nat} {e : TypeId} {v : Value} {xs : List Value} (h : w.ownsRow base e size v n xs) (hn : 0 < n) : ∃ g cap, v = .slice (some ⟨g, 0, none⟩) n cap := by
 rcases h.2 with ⟨_, h0⟩ | ⟨g, cap, cur, h, _⟩
 ·omega
 ·exact ⟨g, cap, h⟩
theorem jeq {w : World} {base kG size n : Nat} {e : TypeId} {v : Value} {xs : List Value} (h : w.ownsRow base e size v n xs) (hb : kG ≤ base) : w.ownsRow kG e size v n xs := by
 refine ⟨h.1, ?_⟩
 rcases h.2 with h0 | ⟨g, cap, cur, h, hg, rest⟩
 ·exact .inl h0
 ·exact .inr ⟨g, cap, cur, h, Nat.le_trans hb hg, rest⟩
theorem jdD : (Tryz.prog.info? 168).map (fun i => (i.zero, i.size, i.bytes)) = some (some (.agg #[.int .i64 0, .int .i64 0]), 2, 16) := by kernel_rfl
theorem take2 (sl : List Int) (k : Nat) (h : 2 * k + 1 < sl.length) : vals .i64 (sl.take (2 * (k + 1))) = vals .i64 (sl.take (2 * k)) ++ [.int .i64 (sl.getD (2 * k) 0), .int .i64 (sl.getD (2 * k + 1) 0)] := by
 have e1 : sl.getD (2 * k) 0 = sl[2 * k] := by simp [List.getD, List.getElem?_eq_getElem (show 2 * k < sl.length by omega)]
 have e2 : sl.getD (2 * k + 1) 0 = sl[2 * k + 1] := by simp [List.getD, List.getElem?_eq_getElem h]
 rw [show 2 * (k + 1) = 2 * k + 1 + 1 from by omega, List.take_succ_eq_append_getElem h, List.take_succ_eq_append_getElem (by omega), e1, e2]
 unfold vals
 rw [List.map_append, List.map_append, List.append_assoc]
 rfl
theorem jaS (b off c : Nat) (raw : List Int) (w : World) (hB : IsB raw) (hl : raw.length = 4096) (hv : Rd .u8 w (.slice (some ⟨b, off, none⟩) 4096 c) raw) :
  Calls Tryz.prog 108 #[.slice (some ⟨b, off, none⟩) 4096 c] w fun e w' => ∃ g cap, e = .returned (.slice (some ⟨g, 0, none⟩) 32 cap) ∧ w.heap.size ≤ g ∧ w'.ownsRow 0 168 2 (.slice (some ⟨g, 0, none⟩) 32 cap) 32 (vals .i64 (slotsOf raw)) ∧ Same w w' := by
 obtain ⟨i0, hi, eL, eT, fM⟩ := info_parts jdD
 have wN := (show Hid (∀ wx, Same w wx → ∀ o : Nat, o + 2 ≤ 4096 → Calls Tryz.prog 106 #[.slice (some ⟨b, off, none⟩) 4096 c, .int .i64 o, .int .i64 2] wx fun e w' => e = .returned (.int .i64 (Ri raw o 2)) ∧ Same wx w') from fun wx h o ho =>
  Vj b off 4096 c raw o 2 wx hB hl (by decide) (by decide) ho (hv.same h))
 clear hv hB
 go_enter Tryz.func108, Tryz.ntmps108
 go_wp2
 go_loopw [3, 4, 5] (fun s i _ wr => ∃ (k g cap : Nat), k ≤ 32 ∧ s = .slice (some ⟨g, 0, none⟩) k cap ∧ i = .int .i64 k ∧ Hid (wr.ownsRow w.heap.size 168 2 (.slice (some ⟨g, 0, none⟩) k cap) k (vals .i64 ((slotsOf raw).take (2 * k)))) ∧ Hid (Same w wr)) (fun _ i _ _ => 32 - (intOf i).toNat)
 case atStart =>
  refine ⟨0, w.heap.size, 0, by omega, rfl, rfl, ?_, kZ0.alloc _⟩
  exact World.ownsRow_made w #[] 0 (Nat.le_refl _) (by simp) (by simp)
 case round =>
  obtain ⟨k, g, cap, hk, rfl, rfl, HO, HK⟩ := hrel
  by_cases bH : k < 32
  ·have aN : (k : Int) < 32 := by omega
   have HX := (show Hid ((slotsOf raw).getD (2 * k) 0 = Ri raw (20 + 4 * k) 2) from (by rw [Vk _ _ (by omega), show 20 + 2 * (2 * k) = 20 + 4 * k from by omega] : (slotsOf raw).getD (2 * k) 0 = Ri raw (20 + 4 * k) 2))
   have HY := (show Hid ((slotsOf raw).getD (2 * k + 1) 0 = Ri raw (20 + 4 * k + 2) 2) from (by rw [Vk _ _ (by omega), show 20 + 2 * (2 * k + 1) = 20 + 4 * k + 2 from by omega] : (slotsOf raw).getD (2 * k + 1) 0 = Ri raw (20 + 4 * k + 2) 2))
   have HT := (show Hid (_ = _) from take2 (slotsOf raw) k (by rw [SG]; omega))
   rw [HX.out, HY.out] at HT
   have h1 := wN.out wr HK.out (20 + 4 * k) (by omega)
   have h2 := fun wx (h : Same wr wx) => wN.out wx (HK.out.trans h) (20 + 4 * k + 2) (by omega)
   generalize Ri raw (20 + 4 * k) 2 = X at *
   generalize Ri raw (20 + 4 * k + 2) 2 = Y at *
   have e1 : ((20 + 4 * k : Nat) : Int) = 20 + 4 * (k : Int) := by omega
   have e2 : ((20 + 4 * k + 2 : Nat) : Int) = 20 + 4 * (k : Int) + 2 := by omega
   rw [e1] at h1
   rw [e2] at h2
   have M0 := (show Hid (∀ wx, Same wr wx → ∀ o, (wx.alloc o).ownsRow w.heap.size 168 2 (.slice (some ⟨g, 0, none⟩) k cap) k (vals .i64 ((slotsOf raw).take (2 * k)))) from fun wx h o => (h.trans (kZ0.alloc o)).owns HO.out (fun _ _ => id))
   clear e1 e2 HX HY
   go_wp2_with (first
    | (go_at_call 106; refine h1.mono ?_; rintro e w1 ⟨rfl, aH⟩; have h3 := h2 w1 aH; clear h1)
    | (go_at_call 106; refine h3.mono ?_; rintro e w2 ⟨rfl, F1⟩; have aY := (show Hid (Same wr w2) from aH.trans F1); have Ac := aY.out.size; have FF := HK.out.size)
    | (at_builtin; (refine wpList_append_own _ rfl _ _ 165 rfl w.heap.size 168 i0 (.agg #[.int .i64 0, .int .i64 0]) 2 16 Tryz.underlying165 hi eL eT fM rfl (by decide) (.slice (some ⟨g, 0, none⟩) k cap) k (vals .i64 ((slotsOf raw).take (2 * k))) rfl (M0.out w2 aY.out _) ⟨w2.heap.size, 0, none⟩ 1 1 [.int .i64 X, .int .i64 Y] rfl rfl (World.news_of_block (cs := #[.int .i64 X, .int .i64 Y]) (t := 168) (fr := (0, 0)) (by unfold World.alloc; exact Array.getElem?_push_size)) (by intro u hu; simp at hu; rcases hu with rfl | rfl <;> rfl) (by unfold maxLen; omega) (by omega) (by simp; omega) ?_); intro v' w3 iP oF _; have fy := (show Hid (w3.ownsRow w.heap.size 168 2 v' (k + 1) (vals .i64 ((slotsOf raw).take (2 * (k + 1))))) from (by rw [HT.out]; exact iP)); have nw := (show Hid ((w2.alloc (.cells #[.int .i64 X, .int .i64 Y] 168)).grownBy w3 (Value.slice (some ⟨g, 0, none⟩) k cap).ownBlock) from oF); obtain ⟨g3, Fe, rfl⟩ := jcO fy.out (by omega); clear iP oF))
   have fq : Kept (fun b => (Value.slice (some ⟨g, 0, none⟩) k cap).ownBlock = some b) w2 w3 := (kZ0.alloc _).trans (Kept.of_grown nw.out (fun k e => e))
   have hg := (World.ownsRow.lt HO.out g rfl).1
   go_roundw
   case rel => exact ⟨k + 1, g3, Fe, by omega, rfl, by go_num, fy, (HK.out.trans aY.out).next fq (fun i hi e => by simp [Value.ownBlock] at e; omega)⟩
   case measure => simp [intOf]; omega
  ·obtain rfl : k = 32 := by omega
   go_wp2
   go_ret
   have h := HO.out
   rw [List.take_of_length_le (by rw [SG]; decide)] at h
   exact ⟨g, cap, rfl, (World.ownsRow.lt h g rfl).1, jeq h (Nat.zero_le _), HK.out⟩
theorem Vl (raw : List Int) (hB : IsB raw) (o n : Nat) (hn : 1 ≤ n) (ql : n ≤ 8) (hl : o + n ≤ raw.length) (h : 0 ≤ Ri raw o n) : R8 (Ri raw o n) n = (raw.drop o).take n := by
 have A7 : ((raw.drop o).take n).length = n := by simp; omega
 have e : Ri raw o n = num ((raw.drop o).take n) := by
  unfold Ri RQ at h ⊢
  split at h
  ·omega
  ·rename_i hc
   rw [if_neg hc]
 rw [e]
 have h2 := jaQ ((raw.drop o).take n) (Vx (Vy hB o) n)
 rw [A7] at h2
 exact h2
theorem jbW (l : List Int) (n : Nat) (h : 2 * n ≤ l.length) : (List.range n).flatMap (fun j => (l.drop (2 * j)).take 2) = l.take (2 * n) := by
 induction n with
 | zero => simp
 | succ n ih =>
  rw [List.range_succ, List.flatMap_append, ih (by omega), show 2 * (n + 1) = 2 * n + 2 from by omega, List.take_add]
  simp
theorem jcP (raw : List Int) (hB : IsB raw) (hl : raw.length = 4096) : slotB (slotsOf raw) = (raw.drop 20).take 128 := by
 have h := jbW (raw.drop 20) 64 (by rw [List.length_drop, hl]; decide)
 rw [show 2 * 64 = 128 from rfl] at h
 rw [← h]
 unfold slotB slotsOf
 rw [List.flatMap_map]
 refine congrArg List.flatten (List.map_congr_left fun j hj => ?_)
 have hj := List.mem_range.1 hj
 rw [Vl raw hB (20 + 2 * j) 2 (by decide) (by decide) (by omega) (Vd raw hB (20 + 2 * j) 2 (by decide) (by decide) (by omega)).1, List.drop_drop]
theorem jer (raw : List Int) (hB : IsB raw) (hl : raw.length = 4096) (h0 : 0 ≤ Ri raw 4 8) :
  WE (raw.take 4) (Ri raw 4 8) (Ri raw 12 4) (Ri raw 16 2) (slotsOf raw) raw = raw.take 18 ++ ([0, 0] ++ raw.drop 20) := by
 unfold WE cont VA
 rw [jcP raw hB hl, Vl raw hB 4 8 (by decide) (by decide) (by omega) h0, Vl raw hB 12 4 (by decide) (by decide) (by omega) (Vd raw hB 12 4 (by decide) (by decide) (by omega)).1,
  Vl raw hB 16 2 (by decide) (by decide) (by omega) (Vd raw hB 16 2 (by decide) (by decide) (by omega)).1]
 have e1 : raw.take 4 ++ (raw.drop 4).take 8 = raw.take 12 := (List.take_add (l := raw) (i := 4) (j := 8)).symm
 have e2 : raw.take 12 ++ (raw.drop 12).take 4 = raw.take 16 := (List.take_add (l := raw) (i := 12) (j := 4)).symm
 have e3 : raw.take 16 ++ (raw.drop 16).take 2 = raw.take 18 := (List.take_add (l := raw) (i := 16) (j := 2)).symm
 rw [e1, e2, e3, show R8 0 2 = [0, 0] from by decide]
 have dR : (raw.take 18 ++ [0, 0] ++ (raw.drop 20).take 128).length = 148 := by simp; omega
 rw [dR, List.append_assoc, List.append_assoc]
 congr 2
 rw [show raw.drop 148 = (raw.drop 20).drop 128 from by rw [List.drop_drop], List.take_append_drop]
theorem jcQ (raw : List Int) (hl : raw.length = 4096) : raw = raw.take 18 ++ ([raw.getD 18 0, raw.getD 19 0] ++ raw.drop 20) := by
 have e1 : raw.getD 18 0 = raw[18] := by simp [List.getD, List.getElem?_eq_getElem (show 18 < raw.length by omega)]
 have e2 : raw.getD 19 0 = raw[19] := by simp [List.getD, List.getElem?_eq_getElem (show 19 < raw.length by omega)]
 rw [e1, e2]
 conv => lhs; rw [← List.take_append_drop 18 raw, List.drop_eq_getElem_cons (by omega : 18 < raw.length), List.drop_eq_getElem_cons (by omega : 18 + 1 < raw.length)]
 rfl
theorem jaT (raw : List Int) (hB : IsB raw) (hl : raw.length = 4096) :
  Uo (raw.take 4) (Ri raw 4 8) (Ri raw 12 4) (Ri raw 16 2) (slotsOf raw) raw = (decide (Ri raw 4 8 < 0) || decide (1099511627776 < Ri raw 4 8) || raw.getD 18 0 != 0 || raw.getD 19 0 != 0) := by
 unfold Uo
 by_cases h : Sk (Ri raw 4 8) = true
 ·have h' := h
  simp [Sk] at h'
  have qe : decide (Ri raw 4 8 < 0) = false := by simp; omega
  have OC : decide (1099511627776 < Ri raw 4 8) = false := by simp; omega
  rw [h, qe, OC, jer raw hB hl h'.1]
  conv => lhs; rhs; rhs; rw [jcQ raw hl]
  rw [Bool.eq_iff_iff]
  simp
  constructor
  ·intro h1
   by_cases h2 : raw[18]?.getD 0 = 0
   ·right
    intro h3
    exact h1 h2.symm h3.symm
   ·exact .inl h2
  ·rintro (h1 | h1) h2 h3
   ·exact h1 h2.symm
   ·exact h1 h3.symm
 ·have hf : Sk (Ri raw 4 8) = false := by simpa using h
  rw [hf]
  simp [Sk] at hf
  simp
  by_cases h0 : 0 ≤ Ri raw 4 8
  ·have := hf h0
   omega
  ·omega
end Go.Proofs.YtaojjcnmififoaaGreat
