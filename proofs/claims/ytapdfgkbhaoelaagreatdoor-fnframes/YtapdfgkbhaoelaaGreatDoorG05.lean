import Derived.Test.YtapdfgkbhaoelaaGreatDoorG04
namespace Go.Proofs.YtapdfgkbhaoelaaGreatDoor
set_option maxRecDepth 100000
set_option maxHeartbeats 16000000
set_option linter.unusedVariables false
set_option linter.unusedSimpArgs false
open Go.RowKit
def Pg (bot x y : Int) : Bool := (x != 0 && (decide (1000 < y) || decide (x < bot) || decide (4096 < x + y))) || (x == 0 && y != 0)
def QI (bot : Int) (sl : List Int) : Bool := (List.range 32).any fun i => Pg bot (sl.getD (2 * i) 0) (sl.getD (2 * i + 1) 0)
theorem UE (bot : Int) (sl : List Int) (k : Nat) (hk : k < 32) (h : Pg bot (sl.getD (2 * k) 0) (sl.getD (2 * k + 1) 0) = true) : QI bot sl = true := by
 unfold QI;rw [List.any_eq_true];exact ⟨k, List.mem_range.2 hk, h⟩
theorem XY (bot : Int) (sl : List Int) (h : ∀ k < 32, Pg bot (sl.getD (2 * k) 0) (sl.getD (2 * k + 1) 0) = false) : QI bot sl = false := by
 unfold QI;rw [List.any_eq_false];intro k hk;rw [h k (List.mem_range.1 hk)];simp
def Small (sl : List Int) : Prop := ∀ x ∈ sl, 0 ≤ x ∧ x ≤ 65535
theorem Small.at {sl : List Int} (h : Small sl) (k : Nat) : 0 ≤ sl.getD k 0 ∧ sl.getD k 0 ≤ 65535 := by
 by_cases hk : k < sl.length
 ·have : sl.getD k 0 = sl[k] := by simp [hk]
  rw [this];exact h _ (List.getElem_mem hk)
 ·simp [List.getD, List.getElem?_eq_none (show sl.length ≤ k by omega)]
theorem VQ (P : Nat) (sum : List Int) (lsn num bot : Int) (sl raw : List Int) (w : World) (hp : SP w P sum lsn num bot sl raw) (hs : Small sl) :
  Calls Tryz.prog 180 #[Q2 P 0] w fun e w' => e = .returned (.bool (QI bot sl)) ∧ Same w w' := by
 have F5 := hp.blk.lt;have HP : Hid (SP w P sum lsn num bot sl raw) := hp;have iR : Hid (Small sl) := hs;have qi : Hid ((Tryz.prog.info? 215).map (·.size) = some (vals .i64 sl).length) := (by rw [O1, hp.l2]; exact (by kernel_rfl : (Tryz.prog.info? 215).map (·.size) = some 64) : (Tryz.prog.info? 215).map (·.size) = some (vals .i64 sl).length);have r6 : Hid (w.rangeAt P 7 (vals .i64 sl)) := hp.slRange;obtain ⟨ss, nd⟩ : ∃ ss : List Value, vals .i64 sl = ss := ⟨_, rfl⟩;have oL : Hid (vals .i64 sl = ss) := nd;rw [nd] at qi r6;clear nd hp hs;obtain ⟨R, hR⟩ : ∃ R, QI bot sl = R := ⟨_, rfl⟩;have HR : Hid (QI bot sl = R) := hR;rw [hR];clear hR
 go_enter Tryz.func180, Tryz.ntmps180
 go_wp2_with (refine wpList_load_mid rfl 215 _ rfl P 7 rfl ss _ r6.out Tryz.underlying215 rfl qi.out ?_)
 go_loopw [4, 9] (fun _ i wr => ∃ k : Nat, k ≤ 32 ∧ i = Q1 k ∧ Hid (∀ j < k, Pg bot (sl.getD (2 * j) 0) (sl.getD (2 * j + 1) 0) = false) ∧ Hid (Same w wr)) (fun _ i _ => 32 - (intOf i).toNat)
 case atStart => exact ⟨0, by omega, rfl, fun j hj => by omega, kZ0⟩
 case round =>
  obtain ⟨k, hk, rfl, oy, cJ⟩ := hrel
  by_cases bg : k < 32
  ·have aj : (k : Int) < 32 := by omega
   have ui := fun w => YC sl HP.out.l2 k bg w;rw [oL.out] at ui;have l5 := iR.out.at (2 * k);have oK := iR.out.at (2 * k + 1);have gF : Hid (Pg bot (sl.getD (2 * k) 0) (sl.getD (2 * k + 1) 0) = true → R = true) := fun h => by rw [← HR.out]; exact UE bot sl k bg h
   have rG := (show Hid (Pg bot (sl.getD (2 * k) 0) (sl.getD (2 * k + 1) 0) = false → ∀ j < k + 1, Pg bot (sl.getD (2 * j) 0) (sl.getD (2 * j + 1) 0) = false) from fun h j hj => by
    by_cases e : j = k
    ·rw [e]; exact h
    ·exact oy.out j (by omega))
   generalize sl.getD (2 * k) 0 = x at *;generalize sl.getD (2 * k + 1) 0 = y at *
   go_wp2_with fail
   have jM := Blk.new wr #[Q1 x, Q1 y] 214;have cL : Same wr (wr.alloc (.cells #[Q1 x, Q1 y] 214)) := kZ0.alloc _;obtain ⟨w7, gZ⟩ : ∃ w7, wr.alloc (.cells #[Q1 x, Q1 y] 214) = w7 := ⟨_, rfl⟩;rw [gZ] at cL jM ⊢;have lB := (HP.out.same (cJ.out.trans cL)).num3.2.2
   let Y1 : World → Prop := fun wx => D0 wx wr.heap.size 0 (Q1 x) ∧ D0 wx wr.heap.size 1 (Q1 y) ∧ D0 wx P 6 (Q1 bot)
   have aR : ∀ wx, Same w7 wx → Y1 wx := fun wx h => ⟨(jM.same h).cell _, (jM.same h).cell _, h.cellOf lB id⟩
   have ni := hid (cJ.out.trans cL);clear gZ cL
   by_cases dR : x = 0
   ·have iY : (x != 0) = false := by rw [dR]; rfl
    have Gb : Hid (x = 0) := dR;clear dR
    have hS : Y1 w7.drew := by exact aR _ kZ0.drew
    refine O0 Y1 99 21 ?_;refine tk 0 12 hS ?_;refine o1Q 1 (fun K hK => ?_);go_simp;have hc := Tf x y w7.drew
    with_reducible refine hc.mono ?_
    clear hc;rintro e w8 ⟨rfl, ai⟩;have fh : Same w7 w8 := Kept.trans (kZ0.drew) ai;clear ai;rw [iY];have hS : Y1 w8 := aR _ fh;refine hK.out _ _ (fun _ => hS) ?_;clear hK K
    try simp only [Sp]
    refine tk 2 14 hS ?_;refine tkS 3 15 hS ?_;refine tkS 4 16 hS ?_;refine tkS 5 17 hS ?_;refine tkS 6 18 hS ?_;refine tkS 7 19 hS ?_;refine tkS 8 20 hS ?_;refine tkS 9 21 hS ?_;refine tkS 10 22 hS ?_;refine tkS 11 23 hS ?_;refine tkS 12 24 hS ?_;refine tkS 13 25 hS ?_;refine tkS 14 26 hS ?_;refine tkS 15 27 hS ?_;refine tkS 16 28 hS ?_;refine tkS 17 29 hS ?_;refine tkS 18 30 hS ?_;refine tkS 19 31 hS ?_;refine tk 20 32 hS ?_;refine OZ ?_
    try simp only [Sp]
    have uJ := Tf x y w8;rw [iY] at uJ;have q0 : w8.cell? ⟨wr.heap.size, 0, none⟩ = some (Q1 x) := (aR _ fh).1;have q1 : w8.cell? ⟨wr.heap.size, 1, none⟩ = some (Q1 y) := (aR _ fh).2.1;have q2 : ∀ wx, Same w8 wx → D0 wx wr.heap.size 1 (Q1 y) := fun wx h => (aR _ (fh.trans h)).2.1
    by_cases fI : y = 0
    ·have gN : Pg bot x y = false := by simp [Pg, Gb.out, fI]
     have sF : (y != 0) = false := by rw [fI]; rfl
     clear fI
     go_wp2_with (go_at_call 182; refine uJ.mono ?_; rintro e mQ ⟨rfl, jO⟩; have q3 := q2 mQ jO)
     go_roundw
     case rel => exact ⟨k + 1, by omega, by go_num, rG.out gN, ni.out.trans (fh.trans jO)⟩
     case measure => simp [intOf]; omega
    ·have gN : Pg bot x y = true := by simp [Pg, Gb.out, fI]
     have sF : (y != 0) = true := by simp [fI]
     have pp := gF.out gN
     go_wp2_with (go_at_call 182; refine uJ.mono ?_; rintro e mQ ⟨rfl, jO⟩; have q3 := q2 mQ jO)
     go_ret
     try rw [pp]
     exact ⟨rfl, ni.out.trans (fh.trans jO)⟩
   ·have iY : (x != 0) = true := by simp [dR]
    by_cases hL : 1000 < y
    ·have gN : Pg bot x y = true := by simp [Pg, dR, hL]
     have pp := gF.out gN
     have LN : decide (1000 < y) = true := by simp [hL]
     have hS : Y1 w7.drew := by exact aR _ kZ0.drew
     refine O0 Y1 99 21 ?_;refine tk 0 12 hS ?_;refine o1Q 1 (fun K hK => ?_);go_simp;have hc := Tf x y w7.drew
     with_reducible refine hc.mono ?_
     clear hc;rintro e w8 ⟨rfl, ai⟩;have fh : Same w7 w8 := Kept.trans (kZ0.drew) ai;clear ai;rw [iY];have hS : Y1 w8 := aR _ fh;refine hK.out _ _ (fun _ => hS) ?_;clear hK K
     try simp only [Sp]
     refine tk 2 14 hS ?_;refine tk 3 15 hS ?_;refine tk 4 16 hS ?_;refine tk 5 17 hS ?_;refine tk 6 18 hS ?_;refine tkS 7 19 hS ?_;refine tkS 8 20 hS ?_;refine tkS 9 21 hS ?_;refine tkS 10 22 hS ?_;refine tkS 11 23 hS ?_;refine tkS 12 24 hS ?_;refine tkS 13 25 hS ?_;refine tk 14 26 hS ?_;refine tk 15 27 hS ?_;refine tkS 16 28 hS ?_;refine tkS 17 29 hS ?_;refine tkS 18 30 hS ?_;refine tk 19 31 hS ?_;refine tk 20 32 hS ?_;refine OZ ?_
     try simp only [Sp]
     go_wp2;go_ret
     try rw [pp]
     exact ⟨rfl, ni.out.trans fh⟩
    ·have LN : decide (1000 < y) = false := by simp; omega
     by_cases hO : x < bot
     ·have gN : Pg bot x y = true := by simp [Pg, dR, hO]
      have pp := gF.out gN
      have M2 : decide (x < bot) = true := by simp [hO]
      have hS : Y1 w7.drew := by exact aR _ kZ0.drew
      refine O0 Y1 99 21 ?_;refine tk 0 12 hS ?_;refine o1Q 1 (fun K hK => ?_);go_simp;have hc := Tf x y w7.drew
      with_reducible refine hc.mono ?_
      clear hc;rintro e w8 ⟨rfl, ai⟩;have fh : Same w7 w8 := Kept.trans (kZ0.drew) ai;clear ai;rw [iY];have hS : Y1 w8 := aR _ fh;refine hK.out _ _ (fun _ => hS) ?_;clear hK K
      try simp only [Sp]
      refine tk 2 14 hS ?_;refine tk 3 15 hS ?_;refine tk 4 16 hS ?_;refine tk 5 17 hS ?_;refine tk 6 18 hS ?_;refine tk 7 19 hS ?_;refine tk 8 20 hS ?_;refine tk 9 21 hS ?_;refine tk 10 22 hS ?_;refine tk 11 23 hS ?_;refine tk 12 24 hS ?_;refine tk 13 25 hS ?_;refine tk 14 26 hS ?_;refine tk 15 27 hS ?_;refine tkS 16 28 hS ?_;refine tkS 17 29 hS ?_;refine tkS 18 30 hS ?_;refine tk 19 31 hS ?_;refine tk 20 32 hS ?_;refine OZ ?_
      try simp only [Sp]
      go_wp2;go_ret
      try rw [pp]
      exact ⟨rfl, ni.out.trans fh⟩
     ·have M2 : decide (x < bot) = false := by simp; omega
      have hS : Y1 w7.drew := by exact aR _ kZ0.drew
      refine O0 Y1 99 21 ?_;refine tk 0 12 hS ?_;refine o1Q 1 (fun K hK => ?_);go_simp;have hc := Tf x y w7.drew
      with_reducible refine hc.mono ?_
      clear hc;rintro e w8 ⟨rfl, ai⟩;have fh : Same w7 w8 := Kept.trans (kZ0.drew) ai;clear ai;rw [iY];have hS : Y1 w8 := aR _ fh;refine hK.out _ _ (fun _ => hS) ?_;clear hK K
      try simp only [Sp]
      refine tk 2 14 hS ?_;refine tk 3 15 hS ?_;refine tk 4 16 hS ?_;refine tk 5 17 hS ?_;refine tk 6 18 hS ?_;refine tk 7 19 hS ?_;refine tk 8 20 hS ?_;refine tk 9 21 hS ?_;refine tk 10 22 hS ?_;refine tk 11 23 hS ?_;refine tk 12 24 hS ?_;refine tk 13 25 hS ?_;refine tk 14 26 hS ?_;refine tk 15 27 hS ?_;refine tk 16 28 hS ?_;refine o1Q 17 (fun K hK => ?_);go_simp;have hc := YD x y w8 l5 oK
      with_reducible refine hc.mono ?_
      clear hc;rintro e w9 ⟨rfl, ai⟩;have mN : Same w7 w9 := Kept.trans (fh) ai;clear ai;have hS : Y1 w9 := aR _ mN;refine hK.out _ _ (fun _ => hS) ?_;clear hK K
      try simp only [Sp]
      refine tk 18 30 hS ?_;refine tk 19 31 hS ?_;refine tk 20 32 hS ?_;refine OZ ?_
      try simp only [Sp]
      by_cases hE : 4096 < x + y
      ·have gN : Pg bot x y = true := by simp [Pg, dR, hE]
       have pp := gF.out gN;go_wp2;go_ret
       try rw [pp]
       exact ⟨rfl, ni.out.trans mN⟩
      ·have gN : Pg bot x y = false := by simp [Pg, dR]; omega
       have uJ := Tf x y w9;rw [iY] at uJ;have q0 : w9.cell? ⟨wr.heap.size, 0, none⟩ = some (Q1 x) := (aR _ mN).1;have q1 : w9.cell? ⟨wr.heap.size, 1, none⟩ = some (Q1 y) := (aR _ mN).2.1
       go_wp2_with (go_at_call 182; refine uJ.mono ?_; rintro e mQ ⟨rfl, jO⟩)
       go_roundw
       case rel => exact ⟨k + 1, by omega, by go_num, rG.out gN, ni.out.trans (mN.trans jO)⟩
       case measure => simp [intOf]; omega
  ·obtain rfl : k = 32 := by omega
   have DY : R = false := by rw [← HR.out]; exact XY bot sl oy.out
   go_wp2;go_ret
   try rw [DY]
   exact ⟨rfl, cJ.out⟩
def Rc (sl : List Int) (i j : Nat) : Bool := Rt (sl.getD (2 * i) 0) (sl.getD (2 * i + 1) 0) (sl.getD (2 * j) 0) (sl.getD (2 * j + 1) 0)
def share (sl : List Int) : Bool := (List.range 32).any fun i => (List.range i).any fun j => Rc sl i j
theorem XZ (sl : List Int) (i j : Nat) (hi : i < 32) (hj : j < i) (h : Rc sl i j = true) : share sl = true := by
 unfold share;rw [List.any_eq_true];exact ⟨i, List.mem_range.2 hi, by rw [List.any_eq_true]; exact ⟨j, List.mem_range.2 hj, h⟩⟩
theorem WO (sl : List Int) (h : ∀ i < 32, ∀ j < i, Rc sl i j = false) : share sl = false := by
 unfold share;rw [List.any_eq_false];intro i hi;rw [Bool.not_eq_true, List.any_eq_false];intro j hj;rw [h i (List.mem_range.1 hi) j (List.mem_range.1 hj)];simp
theorem Vi (P : Nat) (sum : List Int) (lsn num bot : Int) (sl raw : List Int) (w : World) (hp : SP w P sum lsn num bot sl raw) (hs : Small sl) :
  Calls Tryz.prog 181 #[Q2 P 0] w fun e w' => e = .returned (.bool (share sl)) ∧ Same w w' := by
 have F5 := hp.blk.lt;have HP : Hid (SP w P sum lsn num bot sl raw) := hp;have iR : Hid (Small sl) := hs;have qi : Hid ((Tryz.prog.info? 215).map (·.size) = some (vals .i64 sl).length) := (by rw [O1, hp.l2]; exact (by kernel_rfl : (Tryz.prog.info? 215).map (·.size) = some 64) : (Tryz.prog.info? 215).map (·.size) = some (vals .i64 sl).length);have r6 : Hid (w.rangeAt P 7 (vals .i64 sl)) := hp.slRange;obtain ⟨ss, nd⟩ : ∃ ss : List Value, vals .i64 sl = ss := ⟨_, rfl⟩;have oL : Hid (vals .i64 sl = ss) := nd;rw [nd] at qi r6;clear nd hp hs;obtain ⟨R, hR⟩ : ∃ R, share sl = R := ⟨_, rfl⟩;have HR : Hid (share sl = R) := hR;rw [hR];clear hR
 go_enter Tryz.func181, Tryz.ntmps181
 go_wp2_with (refine wpList_load_mid rfl 215 _ rfl P 7 rfl ss _ r6.out Tryz.underlying215 rfl qi.out ?_)
 go_loopw [3, 4, 6, 11] (fun _ _ _ i wr => ∃ k : Nat, k ≤ 32 ∧ i = Q1 k ∧ Hid (∀ i < k, ∀ j < i, Rc sl i j = false) ∧ Hid (Same w wr)) (fun _ _ _ i _ => 32 - (intOf i).toNat)
 case atStart => exact ⟨0, by omega, rfl, fun j hj => by omega, kZ0⟩
 case round =>
  obtain ⟨k, hk, rfl, oy, cJ⟩ := hrel
  by_cases bg : k < 32
  ·have aj : (k : Int) < 32 := by omega
   have aZ : (k : Int) ≤ 32 := by omega
   have ui := fun w => YC sl HP.out.l2 k bg w;rw [oL.out] at ui;have l5 := iR.out.at (2 * k);have oK := iR.out.at (2 * k + 1);have Gp := (show Hid (∀ j, Rc sl k j = Rt (sl.getD (2 * k) 0) (sl.getD (2 * k + 1) 0) (sl.getD (2 * j) 0) (sl.getD (2 * j + 1) 0)) from fun _ => rfl);obtain ⟨x, hx⟩ : ∃ x, sl.getD (2 * k) 0 = x := ⟨_, rfl⟩;obtain ⟨y, hy⟩ : ∃ y, sl.getD (2 * k + 1) 0 = y := ⟨_, rfl⟩;rw [hx, hy] at ui Gp;rw [hx] at l5;rw [hy] at oK;clear hx hy;go_wp2;have jM := Blk.new wr #[Q1 x, Q1 y] 214;have cL : Same wr (wr.alloc (.cells #[Q1 x, Q1 y] 214)) := kZ0.alloc _;obtain ⟨w7, gZ⟩ : ∃ w7, wr.alloc (.cells #[Q1 x, Q1 y] 214) = w7 := ⟨_, rfl⟩;rw [gZ] at cL jM ⊢;have me : Hid (Blk w7 wr.heap.size 214 [Q1 x, Q1 y]) := jM;have dD := hid (cJ.out.trans cL);obtain ⟨BI, FC⟩ : ∃ BI, wr.heap.size = BI := ⟨_, rfl⟩;have C8 := jM.lt;rw [FC] at me C8 ⊢;clear gZ cL jM FC
   go_loopw [6, 21] (fun _ i wi => ∃ j : Nat, j ≤ k ∧ i = Q1 j ∧ Hid (∀ m < j, Rc sl k m = false) ∧ Hid (Same w7 wi)) (fun _ i _ => k - (intOf i).toNat)
   case atStart => exact ⟨0, by omega, rfl, fun j hj => by omega, kZ0⟩
   case round =>
    obtain ⟨j, hj, rfl, IV, uL⟩ := hrel
    by_cases hjl : j < k
    ·have ou := HP.out.same (dD.out.trans uL.out)
     have c0 := ou.slAt (2 * j) (by omega);have c1 := ou.slAt (2 * j + 1) (by omega);rw [show 7 + 2 * j = 7 + j * 2 from by omega] at c0;rw [show 7 + (2 * j + 1) = 7 + j * 2 + 1 from by omega] at c1;have Bj := iR.out.at (2 * j);have cT := iR.out.at (2 * j + 1);have sd := (show Hid (_) from Gp.out j);obtain ⟨u, hu⟩ : ∃ u, sl.getD (2 * j) 0 = u := ⟨_, rfl⟩;obtain ⟨v, hv⟩ : ∃ v, sl.getD (2 * j + 1) 0 = v := ⟨_, rfl⟩;rw [hu] at c0 Bj;rw [hv] at c1 cT;rw [hu, hv] at sd;clear hu hv ou
     have NS : (j : Int) < (k : Int) := by omega
     have fo : Same w7 (wr.alloc (.cells #[Q1 u, Q1 v] 214)) := uL.out.trans (kZ0.alloc _)
     have d0 : (wr.alloc (.cells #[Q1 u, Q1 v] 214)).cell? ⟨BI, 0, none⟩ = some (Q1 x) := (me.out.same fo).cell _
     have d1 : (wr.alloc (.cells #[Q1 u, Q1 v] 214)).cell? ⟨BI, 1, none⟩ = some (Q1 y) := (me.out.same fo).cell _
     have dG : Hid (Same w7 (wr.alloc (.cells #[Q1 u, Q1 v] 214))) := fo;have hc := jay x y u v (wr.alloc (.cells #[Q1 u, Q1 v] 214)) l5 oK Bj cT;have gF : Hid (Rt x y u v = true → R = true) := fun h => by rw [← HR.out]; exact XZ sl k j bg hjl (by rw [sd.out]; exact h)
     have rG := (show Hid (Rt x y u v = false → ∀ m < j + 1, Rc sl k m = false) from fun h m hm => by
      by_cases e : m = j
      ·rw [e, sd.out]; exact h
      ·exact IV.out m (by omega))
     generalize Rt x y u v = sb at *;clear fo
     cases sb with
     | true =>
      have pp := gF.out (by first | trivial | rfl)
      go_wp2_with (go_at_call 184; refine hc.mono ?_; rintro e w9 ⟨rfl, cA⟩)
      go_ret
      try rw [pp]
      exact ⟨rfl, dD.out.trans (dG.out.trans cA)⟩
     | false =>
      go_wp2_with (go_at_call 184; refine hc.mono ?_; rintro e w9 ⟨rfl, cA⟩)
      go_roundw
      case rel => exact ⟨j + 1, by omega, by go_num, rG.out (by first | trivial | rfl), dG.out.trans cA⟩
      case measure => simp [intOf]; omega
    ·obtain rfl : j = k := by omega
     go_wp2;go_roundw
     case rel =>
      refine ⟨j + 1, by omega, by go_num, fun i hi m hm => ?_, dD.out.trans uL.out⟩
      by_cases e : i = j
      ·rw [e] at hm ⊢
       exact IV.out m hm
      ·exact oy.out i (by omega) m hm
     case measure => simp [intOf]; omega
  ·obtain rfl : k = 32 := by omega
   have DY : R = false := by rw [← HR.out]; exact WO sl oy.out
   go_wp2;go_ret
   try rw [DY]
   exact ⟨rfl, cJ.out⟩
theorem TY : ∀ (xs ys : List Int), xs.length = ys.length → ((List.range xs.length).all fun i => xs.getD i 0 == ys.getD i 0) = (xs == ys)
 | [], [], _ => rfl
 | x :: xs, y :: ys, h => by
  have ih := TY xs ys (by simpa using h);rw [List.length_cons, List.range_succ_eq_map, List.all_cons, List.all_map];simp only [List.getD_cons_zero, Function.comp_def, List.getD_cons_succ, ih];simp [List.cons_beq_cons]
 | [], _ :: _, h => by simp at h
 | _ :: _, [], h => by simp at h
theorem Tg {P : Program} (w : World) (d : Nat) (t e : TypeId) (n : Nat) (ht : P.underlying t = some (.array n e)) (he : P.underlying e = some (.int .u8)) (fQ : ∀ w, (sizeOf e).run P w = .ok 1 w)
  (xs ys : List Int) (hx : xs.length = n) (hy : ys.length = n) :
  (Op.equalIn (d + 2) t (.agg (vals .u8 xs).toArray) (.agg (vals .u8 ys).toArray)).run P w = .ok (xs == ys) w := by
 rw [← TY xs ys (hx.trans hy.symm), hx, List.range_eq_range', Op.equalIn];simp only [Sem.run_bind, run_underlying ht, Result.andThen_ok, fQ, Std.Legacy.Range.forIn_eq_forIn_range', Std.Legacy.Range.size, Nat.sub_zero, Nat.add_sub_cancel, Nat.div_one]
 have hl : ∀ i ∈ List.range' 0 n 1, i < n := fun i hi => by simpa using (List.mem_range'_1.1 hi).2
 generalize List.range' 0 n 1 = l at hl ⊢
 induction l with
 | nil => simp
 | cons i l ih =>
  have hi : i < n := hl i (by simp)
  have px : (Go.part e (vals .u8 xs).toArray (i * 1)).run P w = .ok (.int .u8 (xs.getD i 0)) w := by
   simp [vals, Go.part, isAgg, run_underlying he, List.getD, List.getElem?_eq_getElem (show i < xs.length by omega)]
  have py : (Go.part e (vals .u8 ys).toArray (i * 1)).run P w = .ok (.int .u8 (ys.getD i 0)) w := by
   simp [vals, Go.part, isAgg, run_underlying he, List.getD, List.getElem?_eq_getElem (show i < ys.length by omega)]
  have pe : (Op.equalIn (d + 1) e (.int .u8 (xs.getD i 0)) (.int .u8 (ys.getD i 0))).run P w = .ok (xs.getD i 0 == ys.getD i 0) w := run_equalIn_int w d e .u8 .u8 _ _ he;simp only [List.forIn_cons, Sem.run_bind, px, py, pe, Result.andThen_ok, List.all_cons]
  cases hb : (xs.getD i 0 == ys.getD i 0)
  ·simp
  ·simp only [Bool.not_true, Bool.false_eq_true, if_false, Sem.run_pure, Result.andThen_ok, Bool.true_and]
   exact ih fun j hj => hl j (by simp [hj])
theorem X0 (w : World) : (sizeOf 5).run Tryz.prog w = .ok 1 w := by
 obtain ⟨i0, hi, b8, cE, cP⟩ := info_parts Tryz.infoByte';simp [sizeOf, typeInfo, hi, cE]
theorem Xy (w : World) (xs ys : List Int) (hx : xs.length = 4096) (hy : ys.length = 4096) : (binOp .neq 211 (.agg (vals .u8 xs).toArray) (.agg (vals .u8 ys).toArray)).run Tryz.prog w = .ok (.bool (xs != ys)) w := by
 rw [run_neq_struct, Tg w 9998 211 5 4096 Tryz.underlying211 Tryz.underlying5 X0 xs ys hx hy];rfl
def X3 (bs : List Int) : Bool := bs.length == 4096 && Rb bs == bs
/-! ### A number and its bytes -/
theorem jcC (k : Nat) : ∀ (v m : Nat), O5 ((v + m * 256 ^ k : Nat) : Int) k = O5 (v : Int) k := by
 induction k with
 | zero => intro v m; rfl
 | succ k ih =>
  intro v m
  have e1 : (v + m * 256 ^ (k + 1) : Nat) = v + (m * 256) * 256 ^ k := by rw [Nat.pow_succ, Nat.mul_comm (256 ^ k) 256, Nat.mul_assoc]
  simp only [O5];rw [e1, ih v (m * 256)]
  congr 1
  have h2 : (((v + m * 256 * 256 ^ k : Nat) : Int) / 256 ^ k) = (((v + m * 256 * 256 ^ k) / 256 ^ k : Nat) : Int) := by simp
  have h3 : ((v : Int) / 256 ^ k) = ((v / 256 ^ k : Nat) : Int) := by simp
  rw [h2, h3, Nat.add_mul_div_right _ _ (Nat.pow_pos (by decide))];omega
theorem Zp (bs : List Int) (hb : IsB bs) : O5 (num bs) bs.length = bs := by
 induction bs with
 | nil => rfl
 | cons b bs ih =>
  have iu : IsB bs := fun y hy => hb y (by simp [hy])
  have h0 := hb b (by simp);have h1 := QO bs iu bs.length (Nat.le_refl _);rw [List.take_length] at h1;obtain ⟨n, hn⟩ : ∃ n : Nat, num bs = n := ⟨(num bs).toNat, by omega⟩;obtain ⟨c, rfl⟩ : ∃ c : Nat, b = c := ⟨b.toNat, by omega⟩;have FB := ih iu;rw [WG, hn];rw [hn] at FB h1
  have e3 : (256 : Int) ^ bs.length = ((256 ^ bs.length : Nat) : Int) := by simp
  rw [e3] at h1 ⊢
  have e : ((c : Int) * ((256 ^ bs.length : Nat) : Int) + (n : Int)) = ((n + c * 256 ^ bs.length : Nat) : Int) := by simp [Int.add_comm]
  rw [e, List.length_cons];simp only [O5];rw [jcC, FB]
  congr 1
  have h2 : (((n + c * 256 ^ bs.length : Nat) : Int) / 256 ^ bs.length) = (((n + c * 256 ^ bs.length) / 256 ^ bs.length : Nat) : Int) := by simp
  rw [h2, Nat.add_mul_div_right _ _ (Nat.pow_pos (by decide)), Nat.div_eq_of_lt (by omega)];omega
def QY (sum : List Int) (lsn num bot : Int) (sl raw : List Int) : Bool := !QM lsn || Py sum lsn num bot sl raw != raw
def RD (sum : List Int) (lsn num bot : Int) (sl raw : List Int) (number : Int) : Int :=
 if num ≠ number then 2 else if QY sum lsn num bot sl raw then 3 else if bot < 148 ∨ 4096 < bot then 4 else if QI bot sl then 5 else if share sl then 6 else 0
theorem RO {x : Int} (h : QM x = true) : 0 ≤ x ∧ x ≤ 9223372036854775807 := by
 simp [QM] at h;omega
theorem jbw (P : Nat) (sum : List Int) (lsn num bot : Int) (sl raw : List Int) (number : Int) (w : World) (hp : SP w P sum lsn num bot sl raw) (hs : Small sl) (dY : 0 ≤ num ∧ num ≤ 9223372036854775807) (lB : 0 ≤ bot ∧ bot ≤ 9223372036854775807) :
  Calls Tryz.prog 178 #[Q2 P 0, Q1 number] w fun e w' => e = .returned (Q1 (RD sum lsn num bot sl raw number)) ∧ Same w w' := by
 have HP : Hid (SP w P sum lsn num bot sl raw) := hp;have iR : Hid (Small sl) := hs;obtain ⟨c4, c5, c6⟩ := hp.num3
 by_cases h2 : num = number
 ·have BP : (num != number) = false := by simp [h2]
  have bJ : Hid (RD sum lsn num bot sl raw number = if QY sum lsn num bot sl raw then 3 else if bot < 148 ∨ 4096 < bot then 4 else if QI bot sl then 5 else if share sl then 6 else 0) := (by unfold RD; rw [if_neg (by simp [h2])] : RD sum lsn num bot sl raw number = _);obtain ⟨F, hF⟩ : ∃ F, RD sum lsn num bot sl raw number = F := ⟨_, rfl⟩;rw [hF] at bJ;rw [hF];obtain ⟨hb, EI⟩ : ∃ hb, QY sum lsn num bot sl raw = hb := ⟨_, rfl⟩;have Hn : Hid (QY sum lsn num bot sl raw = hb) := EI;rw [EI] at bJ;clear h2 hp hs hF EI
  go_enter Tryz.func178, Tryz.ntmps178
  go_upto_region 3 with fail
  go_cut [12] (fun c wc => c = .bool hb ∧ Hid (Same w wc))
  case first =>
   have lc := HP.out.rawRange
   have lu : (Tryz.prog.info? 211).map (·.size) = some (vals .u8 raw).length := by rw [O1, HP.out.l3]; exact Te
   obtain ⟨rl, oT⟩ : ∃ rl : List Value, vals .u8 raw = rl := ⟨_, rfl⟩;rw [oT] at lc lu;have aR : ∀ wx, Same w wx → (fun wx : World => D0 wx P 4 (Q1 lsn) ∧ wx.rangeAt P 71 rl) wx := fun wx h => ⟨h.cellOf c4 id, Kept.ranges h lc⟩;have gA := Vh lsn w.drew
   by_cases hL : QM lsn = true
   ·rw [hL] at gA
    have vv : QY sum lsn num bot sl raw = (Py sum lsn num bot sl raw != raw) := by simp [QY, hL]
    have Fz : Num3 lsn num bot sl := ⟨RO hL, dY, lB, fun x hx => by have := iR.out x hx; omega⟩;have F1 := fun wx (h : Same w wx) => jaw P sum lsn num bot sl raw wx (HP.out.same h) Fz;have er := fun wx => Xy wx (Py sum lsn num bot sl raw) raw (Qu HP.out.l1 HP.out.l2 HP.out.l3) HP.out.l3;rw [oT] at er;have yD : (Py sum lsn num bot sl raw != raw) = hb := vv.symm.trans Hn.out;obtain ⟨el, gw⟩ : ∃ el : Array Value, (vals .u8 (Py sum lsn num bot sl raw)).toArray = el := ⟨_, rfl⟩;rw [gw] at F1 er;rw [yD] at er;clear vv yD gw hL Fz oT
    have hS : (fun wx : World => D0 wx P 4 (Q1 lsn) ∧ wx.rangeAt P 71 rl) w.drew := by exact aR _ kZ0.drew
    refine O0 (fun wx : World => D0 wx P 4 (Q1 lsn) ∧ wx.rangeAt P 71 rl) 99 16 ?_;refine tk 0 13 hS ?_;refine tk 1 14 hS ?_;refine tk 2 15 hS ?_;refine tk 3 16 hS ?_;refine o1Q 4 (fun K hK => ?_);go_simp
    with_reducible refine (gA).mono ?_
    rintro e w2 ⟨rfl, ai⟩;have bM : Same w w2 := Kept.trans (kZ0.drew) ai;clear ai;have hS : (fun wx : World => D0 wx P 4 (Q1 lsn) ∧ wx.rangeAt P 71 rl) w2 := aR _ bM;refine hK.out _ _ (fun _ => hS) ?_;clear hK K
    try simp only [Sp]
    refine tk 5 18 hS ?_;refine tk 6 19 hS ?_;refine tk 7 20 hS ?_;refine tk 9 22 hS ?_;refine tk 10 23 hS ?_;refine tk 11 24 hS ?_;refine Pz (i := 12) (v := .agg rl.toArray) (some 25) rfl rfl (by kernel_rfl) (by kernel_rfl) (by kernel_rfl) (by kernel_rfl) (fun _ _ _ h => h) (yieldsIf_load_mid (by rfl) 211 _ rfl P 71 rfl rl _ (fun _ h => h.2) Tryz.underlying211 rfl lu) hS ?_
    try simp only [Sp]
    refine o1Q 8 (fun K hK => ?_);go_simp
    with_reducible refine (F1 _ bM).mono ?_
    rintro e w3 ⟨rfl, ai⟩;have dq : Same w w3 := Kept.trans (bM) ai;clear ai;have hS : (fun wx : World => D0 wx P 4 (Q1 lsn) ∧ wx.rangeAt P 71 rl) w3 := aR _ dq;refine hK.out _ _ (fun _ => hS) ?_;clear hK K
    try simp only [Sp]
    refine tk 13 26 hS ?_;refine tk 14 27 hS ?_;refine tk 15 12 hS ?_;refine OZ ?_;go_wp2
    go_meet
    exact ⟨rfl, dq⟩
   ·have Iw : QM lsn = false := by simpa using hL
    rw [Iw] at gA
    have vv : QY sum lsn num bot sl raw = true := by simp [QY, Iw]
    obtain rfl : hb = true := Hn.out.symm.trans vv;clear vv oT hL
    have hS : (fun wx : World => D0 wx P 4 (Q1 lsn) ∧ wx.rangeAt P 71 rl) w.drew := by exact aR _ kZ0.drew
    refine O0 (fun wx : World => D0 wx P 4 (Q1 lsn) ∧ wx.rangeAt P 71 rl) 99 16 ?_;refine tk 0 13 hS ?_;refine tk 1 14 hS ?_;refine tk 2 15 hS ?_;refine tk 3 16 hS ?_;refine o1Q 4 (fun K hK => ?_);go_simp
    with_reducible refine (gA).mono ?_
    rintro e w2 ⟨rfl, ai⟩;have bM : Same w w2 := Kept.trans (kZ0.drew) ai;clear ai;have hS : (fun wx : World => D0 wx P 4 (Q1 lsn) ∧ wx.rangeAt P 71 rl) w2 := aR _ bM;refine hK.out _ _ (fun _ => hS) ?_;clear hK K
    try simp only [Sp]
    refine tk 5 18 hS ?_;refine tk 6 19 hS ?_;refine tkS 7 20 hS ?_;refine tkS 8 21 hS ?_;refine tkS 9 22 hS ?_;refine tkS 10 23 hS ?_;refine tkS 11 24 hS ?_;refine tkS 12 25 hS ?_;refine tkS 13 26 hS ?_;refine tk 14 27 hS ?_;refine tk 15 12 hS ?_;refine OZ ?_;go_wp2
    go_meet
    exact ⟨rfl, bM⟩
  case rest =>
   obtain ⟨rfl, ql⟩ := hcut;have k6 := ql.out.cellOf c6 id;clear c4 c5 c6
   cases hb with
   | true =>
    obtain rfl : F = 3 := by have h := bJ.out; rw [if_pos rfl] at h; exact h
    go_wp2;go_ret;exact ⟨rfl, ql.out⟩
   | false =>
    have h5 := bJ.out;rw [if_neg (by decide)] at h5;clear bJ
    by_cases h4 : bot < 148
    ·obtain rfl : F = 4 := by rw [if_pos (.inl h4)] at h5; exact h5
     clear h5;go_wp2;go_ret;exact ⟨rfl, ql.out⟩
    ·by_cases h4' : 4096 < bot
     ·obtain rfl : F = 4 := by rw [if_pos (.inr h4')] at h5; exact h5
      clear h5;go_wp2;go_ret;exact ⟨rfl, ql.out⟩
     ·rw [if_neg (by omega)] at h5
      have ha := VQ P sum lsn num bot sl raw wc (HP.out.same ql.out) iR.out;have zN := fun wx (h : Same w wx) => Vi P sum lsn num bot sl raw wx (HP.out.same h) iR.out;generalize QI bot sl = A at *;generalize share sl = H at *
      cases A with
      | true =>
       obtain rfl : F = 5 := by rw [if_pos rfl] at h5; exact h5
       clear h5
       go_wp2_with (go_at_call 180; refine ha.mono ?_; rintro e w4 ⟨rfl, cS⟩)
       go_ret;exact ⟨rfl, ql.out.trans cS⟩
      | false =>
       rw [if_neg (by decide)] at h5
       cases H with
       | true =>
        obtain rfl : F = 6 := by rw [if_pos rfl] at h5; exact h5
        clear h5
        go_wp2_with (first | (go_at_call 180; refine ha.mono ?_; rintro e w4 ⟨rfl, cS⟩; have iU := ql.out.trans cS) | (go_at_call 181; refine (zN _ iU).mono ?_; rintro e w5 ⟨rfl, bF⟩))
        go_ret;exact ⟨rfl, iU.trans bF⟩
       | false =>
        obtain rfl : F = 0 := by rw [if_neg (by decide)] at h5; exact h5
        clear h5
        go_wp2_with (first | (go_at_call 180; refine ha.mono ?_; rintro e w4 ⟨rfl, cS⟩; have iU := ql.out.trans cS) | (go_at_call 181; refine (zN _ iU).mono ?_; rintro e w5 ⟨rfl, bF⟩))
        go_ret;exact ⟨rfl, iU.trans bF⟩
 ·have BP : (num != number) = true := by simp [h2]
  have e : RD sum lsn num bot sl raw number = 2 := by unfold RD; rw [if_pos h2]
  rw [e];clear h2 hp hs e
  go_enter Tryz.func178, Tryz.ntmps178
  go_wp2;go_ret;exact ⟨rfl, kZ0⟩
theorem Zr (raw : List Int) (hB : IsB raw) (o n : Nat) (hn : n ≤ 7) : O4 raw o n = -1 ∨ (0 ≤ O4 raw o n ∧ O4 raw o n < 256 ^ n) := by
 unfold O4 Ps;have hb : IsB ((raw.drop o).take n) := Qz (Rp hB o) n;have h := QO _ hb ((raw.drop o).take n).length (Nat.le_refl _);rw [List.take_length] at h
 split
 ·exact .inl rfl
 ·refine .inr ⟨h.1, Int.lt_of_lt_of_le h.2 ?_⟩
  have hl : ((raw.drop o).take n).length ≤ n := by simp; omega
  have h2 : (256 : Nat) ^ ((raw.drop o).take n).length ≤ 256 ^ n := Nat.pow_le_pow_right (by decide) hl
  have e1 : ((256 ^ ((raw.drop o).take n).length : Nat) : Int) = (256 : Int) ^ ((raw.drop o).take n).length := by simp
  have e2 : ((256 ^ n : Nat) : Int) = (256 : Int) ^ n := by simp
  rw [← e1, ← e2]
  exact_mod_cast h2
theorem Rq (raw : List Int) (hB : IsB raw) (o n : Nat) (mK : 1 ≤ n) (hn : n ≤ 7) (hl : o + n ≤ raw.length) : 0 ≤ O4 raw o n ∧ O4 raw o n < 256 ^ n := by
 rcases Zr raw hB o n hn with h | h
 ·exfalso
  unfold O4 Ps at h;have hb : IsB ((raw.drop o).take n) := Qz (Rp hB o) n
  have AH : ((raw.drop o).take n).length = n := by simp; omega
  have h0 := QO _ hb ((raw.drop o).take n).length (Nat.le_refl _);rw [List.take_length] at h0;have hf := WH _ hb (by omega);rw [if_neg (by omega)] at h;omega
 ·exact h
theorem Qv (raw : List Int) (hB : IsB raw) (hl : raw.length = 4096) : Small (slotsOf raw) := by
 intro x hx;simp only [slotsOf, List.mem_map, List.mem_range] at hx;obtain ⟨j, hj, rfl⟩ := hx;have := Rq raw hB (20 + 2 * j) 2 (by decide) (by decide) (by omega);omega
def Pm (raw : List Int) (number : Int) : Int := if raw.length ≠ 4096 then 1 else RD (raw.take 4) (O4 raw 4 8) (O4 raw 12 4) (O4 raw 16 2) (slotsOf raw) raw number
def PK (raw : List Int) : Bool := raw.length == 4096 && Pm raw (O4 raw 12 4) == 0
theorem jbx {w : World} {base size n : Nat} {e : TypeId} {v : Value} {xs : List Value} (h : w.ownsRow base e size v n xs) (hn : 0 < n) : ∃ g cap, v = Q3 g n cap := by
 rcases h.2 with ⟨_, h0⟩ | ⟨g, cap, cur, h, _⟩
 ·omega
 ·exact ⟨g, cap, h⟩
theorem jdx {w : World} {base jv size n : Nat} {e : TypeId} {v : Value} {xs : List Value} (h : w.ownsRow base e size v n xs) (hb : jv ≤ base) : w.ownsRow jv e size v n xs := by
 refine ⟨h.1, ?_⟩
 rcases h.2 with h0 | ⟨g, cap, cur, h, hg, rest⟩
 ·exact .inl h0
 ·exact .inr ⟨g, cap, cur, h, Nat.le_trans hb hg, rest⟩
theorem jcD : (Tryz.prog.info? 131).map (fun i => (i.zero, i.size, i.bytes)) = some (some (.agg #[Q1 0, Q1 0]), 2, 16) := by kernel_rfl
theorem take2 (sl : List Int) (k : Nat) (h : 2 * k + 1 < sl.length) : vals .i64 (sl.take (2 * (k + 1))) = vals .i64 (sl.take (2 * k)) ++ [Q1 (sl.getD (2 * k) 0), Q1 (sl.getD (2 * k + 1) 0)] := by
 have e1 : sl.getD (2 * k) 0 = sl[2 * k] := by simp [List.getD, List.getElem?_eq_getElem (show 2 * k < sl.length by omega)]
 have e2 : sl.getD (2 * k + 1) 0 = sl[2 * k + 1] := by simp [List.getD, List.getElem?_eq_getElem h]
 rw [show 2 * (k + 1) = 2 * k + 1 + 1 from by omega, List.take_succ_eq_append_getElem h, List.take_succ_eq_append_getElem (by omega), e1, e2];unfold vals;rw [List.map_append, List.map_append, List.append_assoc];rfl
theorem SK (b off c : Nat) (raw : List Int) (w : World) (hB : IsB raw) (hl : raw.length = 4096) (hv : Rd .u8 w (.slice (some ⟨b, off, none⟩) 4096 c) raw) :
  Calls Tryz.prog 83 #[.slice (some ⟨b, off, none⟩) 4096 c] w fun e w' => ∃ g cap, e = .returned (Q3 g 32 cap) ∧ w.heap.size ≤ g ∧ w'.ownsRow 0 131 2 (Q3 g 32 cap) 32 (vals .i64 (slotsOf raw)) ∧ Same w w' := by
 obtain ⟨i0, hi, b8, cE, cP⟩ := info_parts jcD
 have t5 := (show Hid (∀ wx, Same w wx → ∀ o : Nat, o + 2 ≤ 4096 → Calls Tryz.prog 81 #[.slice (some ⟨b, off, none⟩) 4096 c, Q1 o, Q1 2] wx fun e w' => e = .returned (Q1 (O4 raw o 2)) ∧ Same wx w') from fun wx h o ho =>
  Sc b off 4096 c raw o 2 wx hB hl (by decide) (by decide) ho (hv.same h))
 clear hv hB
 go_enter Tryz.func83, Tryz.ntmps83
 go_wp2
 go_loopw [3, 4, 5] (fun s i _ wr => ∃ (k g cap : Nat), k ≤ 32 ∧ s = Q3 g k cap ∧ i = Q1 k ∧ Hid (wr.ownsRow w.heap.size 131 2 (Q3 g k cap) k (vals .i64 ((slotsOf raw).take (2 * k)))) ∧ Hid (Same w wr)) (fun _ i _ _ => 32 - (intOf i).toNat)
 case atStart =>
  refine ⟨0, w.heap.size, 0, by omega, rfl, rfl, ?_, kZ0.alloc _⟩;exact World.ownsRow_made w #[] 0 (Nat.le_refl _) (by simp) (by simp)
 case round =>
  obtain ⟨k, g, cap, hk, rfl, rfl, HO, HK⟩ := hrel
  by_cases bg : k < 32
  ·have aj : (k : Int) < 32 := by omega
   have HX : Hid ((slotsOf raw).getD (2 * k) 0 = O4 raw (20 + 4 * k) 2) := (by rw [Sn _ _ (by omega), show 20 + 2 * (2 * k) = 20 + 4 * k from by omega] : (slotsOf raw).getD (2 * k) 0 = O4 raw (20 + 4 * k) 2);have HY : Hid ((slotsOf raw).getD (2 * k + 1) 0 = O4 raw (20 + 4 * k + 2) 2) := (by rw [Sn _ _ (by omega), show 20 + 2 * (2 * k + 1) = 20 + 4 * k + 2 from by omega] : (slotsOf raw).getD (2 * k + 1) 0 = O4 raw (20 + 4 * k + 2) 2);have HT := (show Hid (_ = _) from take2 (slotsOf raw) k (by rw [Pb]; omega));rw [HX.out, HY.out] at HT;have h1 := t5.out wr HK.out (20 + 4 * k) (by omega)
   have h2 := fun wx (h : Same wr wx) => t5.out wx (HK.out.trans h) (20 + 4 * k + 2) (by omega)
   generalize O4 raw (20 + 4 * k) 2 = X at *;generalize O4 raw (20 + 4 * k + 2) 2 = Y at *
   have e1 : ((20 + 4 * k : Nat) : Int) = 20 + 4 * (k : Int) := by omega
   have e2 : ((20 + 4 * k + 2 : Nat) : Int) = 20 + 4 * (k : Int) + 2 := by omega
   rw [e1] at h1;rw [e2] at h2;have KD := (show Hid (∀ wx, Same wr wx → ∀ o, (wx.alloc o).ownsRow w.heap.size 131 2 (Q3 g k cap) k (vals .i64 ((slotsOf raw).take (2 * k)))) from fun wx h o => (h.trans (kZ0.alloc o)).owns HO.out (fun _ _ => id));clear e1 e2 HX HY
   go_wp2_with (first
    | (go_at_call 81; refine h1.mono ?_; rintro e w1 ⟨rfl, ah⟩; have h3 := h2 w1 ah; clear h1)
    | (go_at_call 81; refine h3.mono ?_; rintro e w2 ⟨rfl, my⟩; have aO : Hid (Same wr w2) := ah.trans my; have sn := aO.out.size; have Oi := HK.out.size)
    | (at_builtin; (refine wpList_append_own _ rfl _ _ 128 rfl w.heap.size 131 i0 (.agg #[Q1 0, Q1 0]) 2 16 Tryz.underlying128 hi b8 cE cP rfl (by decide) (Q3 g k cap) k (vals .i64 ((slotsOf raw).take (2 * k))) rfl (KD.out w2 aO.out _) ⟨w2.heap.size, 0, none⟩ 1 1 [Q1 X, Q1 Y] rfl rfl (World.news_of_block (cs := #[Q1 X, Q1 Y]) (t := 131) (fr := (0, 0)) (by unfold World.alloc; exact Array.getElem?_push_size)) (by intro u hu; simp at hu; rcases hu with rfl | rfl <;> rfl) (by unfold maxLen; omega) (by omega) (by simp; omega) ?_); intro v' w3 eh mR _; have cI : Hid (w3.ownsRow w.heap.size 131 2 v' (k + 1) (vals .i64 ((slotsOf raw).take (2 * (k + 1))))) := (by rw [HT.out]; exact eh); have tq : Hid ((w2.alloc (.cells #[Q1 X, Q1 Y] 131)).grownBy w3 (Value.slice (some ⟨g, 0, none⟩) k cap).ownBlock) := mR; obtain ⟨g3, CS, rfl⟩ := jbx cI.out (by omega); clear eh mR))
   have aZ : Kept (fun b => (Value.slice (some ⟨g, 0, none⟩) k cap).ownBlock = some b) w2 w3 := (kZ0.alloc _).trans (Kept.of_grown tq.out (fun k e => e));have hg := (World.ownsRow.lt HO.out g rfl).1;go_roundw
   case rel => exact ⟨k + 1, g3, CS, by omega, rfl, by go_num, cI, (HK.out.trans aO.out).next aZ (fun i hi e => by simp [Value.ownBlock] at e; omega)⟩
   case measure => simp [intOf]; omega
  ·obtain rfl : k = 32 := by omega
   go_wp2;go_ret;have h := HO.out;rw [List.take_of_length_le (by rw [Pb]; decide)] at h;exact ⟨g, cap, rfl, (World.ownsRow.lt h g rfl).1, jdx h (Nat.zero_le _), HK.out⟩
theorem TF (raw : List Int) (hB : IsB raw) (o n : Nat) (hn : 1 ≤ n) (kz : n ≤ 8) (hl : o + n ≤ raw.length) (h : 0 ≤ O4 raw o n) : O5 (O4 raw o n) n = (raw.drop o).take n := by
 have AH : ((raw.drop o).take n).length = n := by simp; omega
 have e : O4 raw o n = num ((raw.drop o).take n) := by
  unfold O4 Ps at h ⊢
  split at h
  ·omega
  ·rename_i hc
   rw [if_neg hc]
 rw [e];have h2 := Zp ((raw.drop o).take n) (Qz (Rp hB o) n);rw [AH] at h2;exact h2
theorem jaz (l : List Int) (n : Nat) (h : 2 * n ≤ l.length) : (List.range n).flatMap (fun j => (l.drop (2 * j)).take 2) = l.take (2 * n) := by
 induction n with
 | zero => simp
 | succ n ih =>
  rw [List.range_succ, List.flatMap_append, ih (by omega), show 2 * (n + 1) = 2 * n + 2 from by omega, List.take_add];simp
theorem jby (raw : List Int) (hB : IsB raw) (hl : raw.length = 4096) : slotB (slotsOf raw) = (raw.drop 20).take 128 := by
 have h := jaz (raw.drop 20) 64 (by rw [List.length_drop, hl]; decide);rw [show 2 * 64 = 128 from rfl] at h;rw [← h];unfold slotB slotsOf;rw [List.flatMap_map];refine congrArg List.flatten (List.map_congr_left fun j hj => ?_);have hj := List.mem_range.1 hj;rw [TF raw hB (20 + 2 * j) 2 (by decide) (by decide) (by omega) (Rq raw hB (20 + 2 * j) 2 (by decide) (by decide) (by omega)).1, List.drop_drop]
theorem jdy (raw : List Int) (hB : IsB raw) (hl : raw.length = 4096) (h0 : 0 ≤ O4 raw 4 8) :
  Py (raw.take 4) (O4 raw 4 8) (O4 raw 12 4) (O4 raw 16 2) (slotsOf raw) raw = raw.take 18 ++ ([0, 0] ++ raw.drop 20) := by
 unfold Py cont Rn
 rw [jby raw hB hl, TF raw hB 4 8 (by decide) (by decide) (by omega) h0, TF raw hB 12 4 (by decide) (by decide) (by omega) (Rq raw hB 12 4 (by decide) (by decide) (by omega)).1,
  TF raw hB 16 2 (by decide) (by decide) (by omega) (Rq raw hB 16 2 (by decide) (by decide) (by omega)).1]
 have e1 : raw.take 4 ++ (raw.drop 4).take 8 = raw.take 12 := (List.take_add (l := raw) (i := 4) (j := 8)).symm;have e2 : raw.take 12 ++ (raw.drop 12).take 4 = raw.take 16 := (List.take_add (l := raw) (i := 12) (j := 4)).symm;have e3 : raw.take 16 ++ (raw.drop 16).take 2 = raw.take 18 := (List.take_add (l := raw) (i := 16) (j := 2)).symm;rw [e1, e2, e3, show O5 0 2 = [0, 0] from by decide]
 have cg : (raw.take 18 ++ [0, 0] ++ (raw.drop 20).take 128).length = 148 := by simp; omega
 rw [cg, List.append_assoc, List.append_assoc]
 congr 2
 rw [show raw.drop 148 = (raw.drop 20).drop 128 from by rw [List.drop_drop], List.take_append_drop]
theorem jbz (raw : List Int) (hl : raw.length = 4096) : raw = raw.take 18 ++ ([raw.getD 18 0, raw.getD 19 0] ++ raw.drop 20) := by
 have e1 : raw.getD 18 0 = raw[18] := by simp [List.getD, List.getElem?_eq_getElem (show 18 < raw.length by omega)]
 have e2 : raw.getD 19 0 = raw[19] := by simp [List.getD, List.getElem?_eq_getElem (show 19 < raw.length by omega)]
 rw [e1, e2]
 conv => lhs; rw [← List.take_append_drop 18 raw, List.drop_eq_getElem_cons (by omega : 18 < raw.length), List.drop_eq_getElem_cons (by omega : 18 + 1 < raw.length)]
 rfl
theorem Zt (raw : List Int) (hB : IsB raw) (hl : raw.length = 4096) :
  QY (raw.take 4) (O4 raw 4 8) (O4 raw 12 4) (O4 raw 16 2) (slotsOf raw) raw = (decide (O4 raw 4 8 < 0) || decide (1099511627776 < O4 raw 4 8) || raw.getD 18 0 != 0 || raw.getD 19 0 != 0) := by
 unfold QY
 by_cases h : QM (O4 raw 4 8) = true
 ·have h' := h
  simp [QM] at h'
  have nR : decide (O4 raw 4 8 < 0) = false := by simp; omega
  have zO : decide (1099511627776 < O4 raw 4 8) = false := by simp; omega
  rw [h, nR, zO, jdy raw hB hl h'.1]
  conv => lhs; rhs; rhs; rw [jbz raw hl]
  rw [Bool.eq_iff_iff];simp;constructor
  ·intro h1
   by_cases h2 : raw[18]?.getD 0 = 0
   ·right
    intro h3;exact h1 h2.symm h3.symm
   ·exact .inl h2
  ·rintro (h1 | h1) h2 h3
   ·exact h1 h2.symm
   ·exact h1 h3.symm
 ·have hf : QM (O4 raw 4 8) = false := by simpa using h
  rw [hf];simp [QM] at hf;simp
  by_cases h0 : 0 ≤ O4 raw 4 8
  ·have := hf h0
   omega
  ·omega
end Go.Proofs.YtapdfgkbhaoelaaGreatDoor
