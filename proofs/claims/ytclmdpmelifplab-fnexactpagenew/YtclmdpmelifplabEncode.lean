/-
  (*slottedPage).encode.
-/
import Derived.Test.YtclmdpmelifplabSlotAt
namespace Go.Proofs.Ytclmdpmelifplab
open Go.RowKit
set_option linter.unusedVariables false
set_option linter.unusedSimpArgs false

/-- Number n of bytes from o on, in the array that is being written. -/
theorem write_more {w : World} {B : Nat} {e : TypeId} {A raw : List Int} (o n c : Nat) (x : Int) (hb : Blk w B e (vals .u8 (cont A raw))) (ho : o = A.length) (hl : o + n ≤ raw.length) (hm : raw.length = 4096) (h0 : 0 ≤ x) (h1 : x ≤ 9223372036854775807) :
    Calls Try.prog 71 #[.slice (some ⟨B, o, none⟩) n c, .int .i64 x] w fun e' w' => e' = .returned (.tuple #[]) ∧ Blk w' B e (vals .u8 (cont (A ++ lows x n) raw)) ∧ Kept (fun b => b = B) w w' := by
  refine (writeNumber_any B o n c e _ x w hb (by rw [vals_length, cont_length _ _ (by omega)]; exact hl) h0 h1 (by omega)).mono ?_
  rintro e' w' ⟨rfl, hb', hk⟩
  exact ⟨rfl, Blk.more o (lows x n) hb' ho (by rw [lows_length]; omega), hk⟩

structure Num3 (lsn num bot : Int) (sl : List Int) : Prop where
  a : 0 ≤ lsn ∧ lsn ≤ 9223372036854775807
  b : 0 ≤ num ∧ num ≤ 9223372036854775807
  c : 0 ≤ bot ∧ bot ≤ 9223372036854775807
  d : ∀ x ∈ sl, 0 ≤ x ∧ x ≤ 9223372036854775807
theorem Num3.at {lsn num bot : Int} {sl : List Int} (h : Num3 lsn num bot sl) (k : Nat) : 0 ≤ sl.getD k 0 ∧ sl.getD k 0 ≤ 9223372036854775807 := by
  by_cases hk : k < sl.length
  · have : sl.getD k 0 = sl[k] := by simp [hk]
    rw [this]
    exact h.d _ (List.getElem_mem hk)
  · simp [List.getD, List.getElem?_eq_none (show sl.length ≤ k by omega)]

/-- How far the encoding has come: w is the world in which it began. -/
structure EncS (w wx : World) (B : Nat) (sum : List Int) (lsn num bot : Int) (sl raw A : List Int) : Prop where
  sp : SP wx B sum lsn num bot sl raw
  arr : Blk wx (w.heap.size + 1) 69 (vals .u8 (cont A raw))
  res : Blk wx w.heap.size 69 Try.zeroCells69.toList
  same : Same w wx
  sz : w.heap.size + 2 ≤ wx.heap.size
  lt : B < w.heap.size
theorem EncS.next {w wx wy : World} {B : Nat} {sum : List Int} {lsn num bot : Int} {sl raw A A' : List Int} (h : EncS w wx B sum lsn num bot sl raw A) (hk : Kept (fun b => b = w.heap.size + 1) wx wy) (hb : Blk wy (w.heap.size + 1) 69 (vals .u8 (cont A' raw))) : EncS w wy B sum lsn num bot sl raw A' :=
  have hlt := h.lt
  ⟨h.sp.kept hk (by omega), hb, h.res.kept hk (by omega), h.same.next hk (fun i hi e => by omega), Nat.le_trans h.sz hk.size, h.lt⟩
theorem EncS.on {w wx wy : World} {B : Nat} {sum : List Int} {lsn num bot : Int} {sl raw A : List Int} (h : EncS w wx B sum lsn num bot sl raw A) (hk : Same wx wy) : EncS w wy B sum lsn num bot sl raw A :=
  ⟨h.sp.same hk, h.arr.same hk, h.res.same hk, h.same.trans hk, Nat.le_trans h.sz hk.size, h.lt⟩

set_option maxRecDepth 100000 in
set_option maxHeartbeats 16000000 in
theorem encode_any (B : Nat) (sum : List Int) (lsn num bot : Int) (sl raw : List Int) (w : World) (hp : SP w B sum lsn num bot sl raw) (hn : Num3 lsn num bot sl) :
    Calls Try.prog 43 #[.pointer (some ⟨B, 0, none⟩)] w fun e w' => e = .returned (.agg (vals .u8 (encB sum lsn num bot sl raw)).toArray) ∧ Same w w' := by
  have hBw := hp.blk.lt
  have hl3 := hp.l3
  have HP := (show Hid (SP w B sum lsn num bot sl raw) from hp)
  have HN := (show Hid (Num3 lsn num bot sl) from hn)
  have hz80 : Try.zeroCells69.toList.length = 4096 := by rw [Array.length_toList]; exact Try.zeroCells69_size
  have hrl : (vals .u8 raw).length = 4096 := by rw [vals_length, hl3]
  have HRG := (show Hid ((w.alloc (.cells Try.zeroCells69 69)).rangeAt B 71 (vals .u8 raw)) from (hp.same ((Kept.refl _ _).alloc _)).rawRange)
  have HI := (show Hid ((Try.prog.info? 69).map (·.size) = some (vals .u8 raw).length) from (by rw [hrl]; exact page_info : (Try.prog.info? 69).map (·.size) = some (vals .u8 raw).length))
  have HI2 := (show Hid ((Try.prog.info? 69).map (·.size) = some (vals .u8 raw).toArray.size) from (by rw [List.size_toArray]; exact HI.out : (Try.prog.info? 69).map (·.size) = some (vals .u8 raw).toArray.size))
  have HONE := (show Hid ((vals .u8 raw).toArray.all (·.oneCell') = true) from all_oneCell_toArray vals_one)
  obtain ⟨cs, hcs⟩ : ∃ cs : List Value, vals .u8 raw = cs := ⟨_, rfl⟩
  have HCS := (show Hid (vals .u8 raw = cs) from hcs)
  have HT := (show Hid (((w.alloc (.cells Try.zeroCells69 69)).alloc (.cells Try.zeroCells69 69)).there (w.heap.size + 1) 0 (vals .u8 raw).toArray.size) from by
    have h := Blk.new (w.alloc (.cells Try.zeroCells69 69)) Try.zeroCells69 69
    rw [World.size_alloc] at h
    exact h.there 0 _ (by rw [List.size_toArray, hrl, hz80]; decide))
  rw [hcs] at HRG HI HI2 HONE HT
  clear hcs hp hn hrl
  go_enter Try.func43, Try.ntmps43
  go_wp2_with (first | (refine wpList_load_mid rfl 69 _ rfl B 71 rfl cs _ HRG.out Try.underlying69 rfl HI.out ?_) | (refine wpList_store_mid rfl 69 _ _ rfl (w.heap.size + 1) 0 cs.toArray rfl rfl HT.out HI2.out HONE.out ?_))
  obtain ⟨w1, hw1⟩ : ∃ w1, ((w.alloc (.cells Try.zeroCells69 69)).alloc (.cells Try.zeroCells69 69)).setCells (w.heap.size + 1) 0 cs = w1 := ⟨_, rfl⟩
  have HE1 := (show Hid (EncS w w1 B sum lsn num bot sl raw ([])) from by
    rw [← hw1, ← HCS.out]
    have ha := Blk.new (w.alloc (.cells Try.zeroCells69 69)) Try.zeroCells69 69
    rw [World.size_alloc] at ha
    have hb := ha.setCells (vals .u8 raw) 0 (by rw [hz80, vals_length, hl3]; decide)
    rw [lay_all _ _ (by rw [hz80, vals_length, hl3])] at hb
    have hk0 : Same w ((w.alloc (.cells Try.zeroCells69 69)).alloc (.cells Try.zeroCells69 69)) := ((Kept.refl _ _).alloc _).alloc _
    have hk1 := Kept.setCells (R := fun b => b = w.heap.size + 1) (a := (w.alloc (.cells Try.zeroCells69 69)).alloc (.cells Try.zeroCells69 69)) (B := w.heap.size + 1) (.inr rfl) (vals .u8 raw) 0 (Kept.refl _ _)
    refine ⟨(HP.out.same hk0).kept hk1 (by omega), by rw [cont_nil]; exact hb, (((Blk.new w _ _).alloc _).kept hk1 (by omega)), hk0.next hk1 (fun i hi e => by omega), ?_, hBw⟩
    have := hk1.size
    simp at this
    omega)
  rw [hw1]
  clear hw1 HRG HT HONE HI HI2 HCS hz80
  have hS : (fun _ : World => True) w1.drew := by trivial
  refine wp_region_V (fun _ : World => True) 99 6 rfl (by kernel_rfl) ?_
  refine wpAnyV_take (i := 0) (v := ?vq1) (some 11) rfl rfl (by kernel_rfl) (by kernel_rfl) (by kernel_rfl) (by kernel_rfl) (fun _ _ _ h => h) (Or.inl ⟨by rfl, ?hyq1⟩) hS ?_
  case hyq1 => (intro w hSw; (try dsimp only at hSw); go_simp; (try with_reducible rfl))
  try simp only [Act.put, List.setIfInBounds_toArray, List.set_cons_zero, List.set_cons_succ]
  refine wpAnyV_take (i := 1) (v := ?vq2) (some 12) rfl rfl (by kernel_rfl) (by kernel_rfl) (by kernel_rfl) (by kernel_rfl) (fun _ _ _ h => h) (Or.inl ⟨by rfl, ?hyq2⟩) hS ?_
  case hyq2 => (intro w hSw; (try dsimp only at hSw); go_simp; (try with_reducible rfl))
  try simp only [Act.put, List.setIfInBounds_toArray, List.set_cons_zero, List.set_cons_succ]
  refine wpAnyV_take (i := 2) (v := ?vq3) (some 13) rfl rfl (by kernel_rfl) (by kernel_rfl) (by kernel_rfl) (by kernel_rfl) (fun _ _ _ h => h) (Or.inl ⟨by rfl, ?hyq3⟩) hS ?_
  case hyq3 => (intro w hSw; (try dsimp only at hSw); go_simp; (try with_reducible rfl))
  try simp only [Act.put, List.setIfInBounds_toArray, List.set_cons_zero, List.set_cons_succ]
  refine wpAnyV_take (i := 3) (v := ?vq4) (some 14) rfl rfl (by kernel_rfl) (by kernel_rfl) (by kernel_rfl) (by kernel_rfl) (fun _ _ _ h => h) (Or.inl ⟨by rfl, ?hyq4⟩) hS ?_
  case hyq4 => (intro w hSw; (try dsimp only at hSw); go_simp; (try with_reducible rfl))
  try simp only [Act.put, List.setIfInBounds_toArray, List.set_cons_zero, List.set_cons_succ]
  refine wpAnyV_take (i := 4) (v := ?vq5) (some 15) rfl rfl (by kernel_rfl) (by kernel_rfl) (by kernel_rfl) (by kernel_rfl) (fun _ _ _ h => h) (Or.inl ⟨by rfl, ?hyq5⟩) hS ?_
  case hyq5 => (intro w hSw; (try dsimp only at hSw); go_simp; (try with_reducible rfl))
  try simp only [Act.put, List.setIfInBounds_toArray, List.set_cons_zero, List.set_cons_succ]
  refine wpAnyV_one (i := 5) (by kernel_rfl) rfl (fun K hK => ?_)
  have hE := HE1.out.on (Kept.refl _ _).drew
  have hsl4 : (vals .u8 sum).length = 4 := by rw [vals_length, hE.sp.l1]
  refine step_copy_blk (by rfl) _ _ 22 (by rfl) Try.underlying22 byte_size (vals .u8 sum) hE.arr (by rfl) (by rfl) (by rw [hsl4]; decide) (fun j u hu => ?_) (by rw [hsl4, vals_length, cont_length _ _ (by simp), hl3]; decide) vals_one ?_
  · have hj : j < 4 := by have := (List.getElem?_eq_some_iff.1 hu).1; rwa [hsl4] at this
    rw [addr_add, Nat.zero_add, hE.sp.sumAt j hj, ← hu, vals_at _ _ _ (by rw [hE.sp.l1]; exact hj)]
  have hb2 := hE.arr.setCells (vals .u8 sum) 0 (by rw [hsl4, vals_length, cont_length _ _ (by simp), hl3]; decide)
  have hb3 := Blk.more 0 sum hb2 rfl (by rw [hE.sp.l1, hl3]; decide)
  have hk2 := Kept.setCells (R := fun b => b = w.heap.size + 1) (a := w1.drew) (B := w.heap.size + 1) (.inr rfl) (vals .u8 sum) 0 (Kept.refl _ _)
  obtain ⟨w2, hw2⟩ : ∃ w2, w1.drew.setCells (w.heap.size + 1) 0 (vals .u8 sum) = w2 := ⟨_, rfl⟩
  rw [hw2] at hb3 hk2 ⊢
  have HE2 := (show Hid (EncS w w2 B sum lsn num bot sl raw ([] ++ sum)) from hE.next hk2 hb3)
  clear hw2
  clear hb2 hb3 hk2 hE hS HE1
  rw [hsl4]
  show K (Act.put _ (some 16) (.int .i64 4)) _
  refine hK.out _ _ (fun _ => trivial) ?_
  clear hK K
  refine wpAnyV_done (by kernel_rfl) ?_
  try simp only [Act.put, List.setIfInBounds_toArray, List.set_cons_zero, List.set_cons_succ]
  go_wp2_with fail
  have hE := HE2.out.on (Kept.refl _ _).drew
  have hS : (fun wx : World => wx.cell? ⟨B, 4, none⟩ = some (.int .i64 lsn)) w2.drew := by exact hE.sp.num3.1
  refine wp_region_V (fun wx : World => wx.cell? ⟨B, 4, none⟩ = some (.int .i64 lsn)) 99 6 rfl (by kernel_rfl) ?_
  refine wpAnyV_take (i := 0) (v := ?vq6) (some 17) rfl rfl (by kernel_rfl) (by kernel_rfl) (by kernel_rfl) (by kernel_rfl) (fun _ _ _ h => h) (Or.inl ⟨by rfl, ?hyq6⟩) hS ?_
  case hyq6 => (intro w hSw; (try dsimp only at hSw); go_simp; (try with_reducible rfl))
  try simp only [Act.put, List.setIfInBounds_toArray, List.set_cons_zero, List.set_cons_succ]
  refine wpAnyV_take (i := 1) (v := ?vq7) (some 18) rfl rfl (by kernel_rfl) (by kernel_rfl) (by kernel_rfl) (by kernel_rfl) (fun _ _ _ h => h) (Or.inl ⟨by rfl, ?hyq7⟩) hS ?_
  case hyq7 => (intro w hSw; (try dsimp only at hSw); go_simp; (try with_reducible rfl))
  try simp only [Act.put, List.setIfInBounds_toArray, List.set_cons_zero, List.set_cons_succ]
  refine wpAnyV_take (i := 2) (v := ?vq8) (some 19) rfl rfl (by kernel_rfl) (by kernel_rfl) (by kernel_rfl) (by kernel_rfl) (fun _ _ _ h => h) (Or.inl ⟨by rfl, ?hyq8⟩) hS ?_
  case hyq8 => (intro w hSw; (try dsimp only at hSw); go_simp; (try with_reducible rfl))
  try simp only [Act.put, List.setIfInBounds_toArray, List.set_cons_zero, List.set_cons_succ]
  refine wpAnyV_take (i := 3) (v := ?vq9) (some 20) rfl rfl (by kernel_rfl) (by kernel_rfl) (by kernel_rfl) (by kernel_rfl) (fun _ _ _ h => h) (Or.inl ⟨by rfl, ?hyq9⟩) hS ?_
  case hyq9 => (intro w hSw; (try dsimp only at hSw); go_simp; (try with_reducible rfl))
  try simp only [Act.put, List.setIfInBounds_toArray, List.set_cons_zero, List.set_cons_succ]
  refine wpAnyV_take (i := 4) (v := ?vq10) (some 21) rfl rfl (by kernel_rfl) (by kernel_rfl) (by kernel_rfl) (by kernel_rfl) (fun _ _ _ h => h) (Or.inl ⟨by rfl, ?hyq10⟩) hS ?_
  case hyq10 => (intro w hSw; (try dsimp only at hSw); go_simp; (try with_reducible rfl))
  try simp only [Act.put, List.setIfInBounds_toArray, List.set_cons_zero, List.set_cons_succ]
  refine wpAnyV_one (i := 5) (by kernel_rfl) rfl (fun K hK => ?_)
  go_simp
  have hc := write_more 4 8 4092 lsn hE.arr (by simp [hE.sp.l1, lows_length]) (by rw [hl3]; decide) hl3 HN.out.a.1 HN.out.a.2
  with_reducible refine hc.mono ?_
  rintro e w3 ⟨rfl, hb, hk⟩
  have HE3 := (show Hid (EncS w w3 B sum lsn num bot sl raw ([] ++ sum ++ lows lsn 8)) from hE.next hk hb)
  have hS2 : (fun wx : World => wx.cell? ⟨B, 4, none⟩ = some (.int .i64 lsn)) w3 := HE3.out.sp.num3.1
  clear hb hk hE hc hS
  refine hK.out _ _ (fun _ => hS2) ?_
  clear hK K hS2 HE2
  refine wpAnyV_done (by kernel_rfl) ?_
  try simp only [Act.put, List.setIfInBounds_toArray, List.set_cons_zero, List.set_cons_succ]
  go_wp2_with fail
  have hE := HE3.out.on (Kept.refl _ _).drew
  have hS : (fun wx : World => wx.cell? ⟨B, 5, none⟩ = some (.int .i64 num)) w3.drew := by exact hE.sp.num3.2.1
  refine wp_region_V (fun wx : World => wx.cell? ⟨B, 5, none⟩ = some (.int .i64 num)) 99 6 rfl (by kernel_rfl) ?_
  refine wpAnyV_take (i := 0) (v := ?vq11) (some 23) rfl rfl (by kernel_rfl) (by kernel_rfl) (by kernel_rfl) (by kernel_rfl) (fun _ _ _ h => h) (Or.inl ⟨by rfl, ?hyq11⟩) hS ?_
  case hyq11 => (intro w hSw; (try dsimp only at hSw); go_simp; (try with_reducible rfl))
  try simp only [Act.put, List.setIfInBounds_toArray, List.set_cons_zero, List.set_cons_succ]
  refine wpAnyV_take (i := 1) (v := ?vq12) (some 24) rfl rfl (by kernel_rfl) (by kernel_rfl) (by kernel_rfl) (by kernel_rfl) (fun _ _ _ h => h) (Or.inl ⟨by rfl, ?hyq12⟩) hS ?_
  case hyq12 => (intro w hSw; (try dsimp only at hSw); go_simp; (try with_reducible rfl))
  try simp only [Act.put, List.setIfInBounds_toArray, List.set_cons_zero, List.set_cons_succ]
  refine wpAnyV_take (i := 2) (v := ?vq13) (some 25) rfl rfl (by kernel_rfl) (by kernel_rfl) (by kernel_rfl) (by kernel_rfl) (fun _ _ _ h => h) (Or.inl ⟨by rfl, ?hyq13⟩) hS ?_
  case hyq13 => (intro w hSw; (try dsimp only at hSw); go_simp; (try with_reducible rfl))
  try simp only [Act.put, List.setIfInBounds_toArray, List.set_cons_zero, List.set_cons_succ]
  refine wpAnyV_take (i := 3) (v := ?vq14) (some 26) rfl rfl (by kernel_rfl) (by kernel_rfl) (by kernel_rfl) (by kernel_rfl) (fun _ _ _ h => h) (Or.inl ⟨by rfl, ?hyq14⟩) hS ?_
  case hyq14 => (intro w hSw; (try dsimp only at hSw); go_simp; (try with_reducible rfl))
  try simp only [Act.put, List.setIfInBounds_toArray, List.set_cons_zero, List.set_cons_succ]
  refine wpAnyV_take (i := 4) (v := ?vq15) (some 27) rfl rfl (by kernel_rfl) (by kernel_rfl) (by kernel_rfl) (by kernel_rfl) (fun _ _ _ h => h) (Or.inl ⟨by rfl, ?hyq15⟩) hS ?_
  case hyq15 => (intro w hSw; (try dsimp only at hSw); go_simp; (try with_reducible rfl))
  try simp only [Act.put, List.setIfInBounds_toArray, List.set_cons_zero, List.set_cons_succ]
  refine wpAnyV_one (i := 5) (by kernel_rfl) rfl (fun K hK => ?_)
  go_simp
  have hc := write_more 12 4 4084 num hE.arr (by simp [hE.sp.l1, lows_length]) (by rw [hl3]; decide) hl3 HN.out.b.1 HN.out.b.2
  with_reducible refine hc.mono ?_
  rintro e w4 ⟨rfl, hb, hk⟩
  have HE4 := (show Hid (EncS w w4 B sum lsn num bot sl raw ([] ++ sum ++ lows lsn 8 ++ lows num 4)) from hE.next hk hb)
  have hS2 : (fun wx : World => wx.cell? ⟨B, 5, none⟩ = some (.int .i64 num)) w4 := HE4.out.sp.num3.2.1
  clear hb hk hE hc hS
  refine hK.out _ _ (fun _ => hS2) ?_
  clear hK K hS2 HE3
  refine wpAnyV_done (by kernel_rfl) ?_
  try simp only [Act.put, List.setIfInBounds_toArray, List.set_cons_zero, List.set_cons_succ]
  go_wp2_with fail
  have hE := HE4.out.on (Kept.refl _ _).drew
  have hS : (fun wx : World => wx.cell? ⟨B, 6, none⟩ = some (.int .i64 bot)) w4.drew := by exact hE.sp.num3.2.2
  refine wp_region_V (fun wx : World => wx.cell? ⟨B, 6, none⟩ = some (.int .i64 bot)) 99 6 rfl (by kernel_rfl) ?_
  refine wpAnyV_take (i := 0) (v := ?vq16) (some 29) rfl rfl (by kernel_rfl) (by kernel_rfl) (by kernel_rfl) (by kernel_rfl) (fun _ _ _ h => h) (Or.inl ⟨by rfl, ?hyq16⟩) hS ?_
  case hyq16 => (intro w hSw; (try dsimp only at hSw); go_simp; (try with_reducible rfl))
  try simp only [Act.put, List.setIfInBounds_toArray, List.set_cons_zero, List.set_cons_succ]
  refine wpAnyV_take (i := 1) (v := ?vq17) (some 30) rfl rfl (by kernel_rfl) (by kernel_rfl) (by kernel_rfl) (by kernel_rfl) (fun _ _ _ h => h) (Or.inl ⟨by rfl, ?hyq17⟩) hS ?_
  case hyq17 => (intro w hSw; (try dsimp only at hSw); go_simp; (try with_reducible rfl))
  try simp only [Act.put, List.setIfInBounds_toArray, List.set_cons_zero, List.set_cons_succ]
  refine wpAnyV_take (i := 2) (v := ?vq18) (some 31) rfl rfl (by kernel_rfl) (by kernel_rfl) (by kernel_rfl) (by kernel_rfl) (fun _ _ _ h => h) (Or.inl ⟨by rfl, ?hyq18⟩) hS ?_
  case hyq18 => (intro w hSw; (try dsimp only at hSw); go_simp; (try with_reducible rfl))
  try simp only [Act.put, List.setIfInBounds_toArray, List.set_cons_zero, List.set_cons_succ]
  refine wpAnyV_take (i := 3) (v := ?vq19) (some 32) rfl rfl (by kernel_rfl) (by kernel_rfl) (by kernel_rfl) (by kernel_rfl) (fun _ _ _ h => h) (Or.inl ⟨by rfl, ?hyq19⟩) hS ?_
  case hyq19 => (intro w hSw; (try dsimp only at hSw); go_simp; (try with_reducible rfl))
  try simp only [Act.put, List.setIfInBounds_toArray, List.set_cons_zero, List.set_cons_succ]
  refine wpAnyV_take (i := 4) (v := ?vq20) (some 33) rfl rfl (by kernel_rfl) (by kernel_rfl) (by kernel_rfl) (by kernel_rfl) (fun _ _ _ h => h) (Or.inl ⟨by rfl, ?hyq20⟩) hS ?_
  case hyq20 => (intro w hSw; (try dsimp only at hSw); go_simp; (try with_reducible rfl))
  try simp only [Act.put, List.setIfInBounds_toArray, List.set_cons_zero, List.set_cons_succ]
  refine wpAnyV_one (i := 5) (by kernel_rfl) rfl (fun K hK => ?_)
  go_simp
  have hc := write_more 16 2 4080 bot hE.arr (by simp [hE.sp.l1, lows_length]) (by rw [hl3]; decide) hl3 HN.out.c.1 HN.out.c.2
  with_reducible refine hc.mono ?_
  rintro e w5 ⟨rfl, hb, hk⟩
  have HE5 := (show Hid (EncS w w5 B sum lsn num bot sl raw ([] ++ sum ++ lows lsn 8 ++ lows num 4 ++ lows bot 2)) from hE.next hk hb)
  have hS2 : (fun wx : World => wx.cell? ⟨B, 6, none⟩ = some (.int .i64 bot)) w5 := HE5.out.sp.num3.2.2
  clear hb hk hE hc hS
  refine hK.out _ _ (fun _ => hS2) ?_
  clear hK K hS2 HE4
  refine wpAnyV_done (by kernel_rfl) ?_
  try simp only [Act.put, List.setIfInBounds_toArray, List.set_cons_zero, List.set_cons_succ]
  have hc := write_more 18 2 4078 0 HE5.out.arr (by simp [HE5.out.sp.l1, lows_length]) (by rw [hl3]; decide) hl3 (by decide) (by decide)
  have HIs := (show Hid ((Try.prog.info? 67).map (·.size) = some (vals .i64 sl).length) from (by rw [vals_length, HP.out.l2]; exact (by kernel_rfl : (Try.prog.info? 67).map (·.size) = some 64) : (Try.prog.info? 67).map (·.size) = some (vals .i64 sl).length))
  obtain ⟨ss, hss⟩ : ∃ ss : List Value, vals .i64 sl = ss := ⟨_, rfl⟩
  have HSS := (show Hid (vals .i64 sl = ss) from hss)
  rw [hss] at HIs
  clear hss
  go_wp2_with (first
    | (go_at_call 71; refine hc.mono ?_; rintro e w6 ⟨rfl, hb6, hk6⟩; have HE6 := (show Hid (EncS w w6 B sum lsn num bot sl raw ([] ++ sum ++ lows lsn 8 ++ lows num 4 ++ lows bot 2 ++ lows 0 2)) from HE5.out.next hk6 hb6); have HRs := (show Hid (w6.rangeAt B 7 ss) from (by rw [← HSS.out]; exact HE6.out.sp.slRange : w6.rangeAt B 7 ss)); clear hb6 hk6 hc)
    | (refine wpList_load_mid rfl 67 _ rfl B 7 rfl ss _ HRs.out Try.underlying67 rfl HIs.out ?_))
  go_loopw [4, 5, 6, 41] (fun _ _ _ i wr => ∃ k : Nat, k ≤ 32 ∧ i = .int .i64 k ∧ Hid (EncS w wr B sum lsn num bot sl raw (headB sum lsn num bot ++ slotB (sl.take (2 * k))))) (fun _ _ _ i _ => 32 - (intOf i).toNat)
  case atStart => exact ⟨0, by omega, rfl, by simpa [slotB, headB] using HE6⟩
  case round =>
    obtain ⟨k, hk, rfl, HEr⟩ := hrel
    by_cases hlt : k < 32
    · have hk2 : (k : Int) < 32 := by omega
      have hix := fun w => slot_at sl HP.out.l2 k hlt w
      rw [HSS.out] at hix
      have HXB := (show Hid (_) from HN.out.at (2 * k))
      have HYB := (show Hid (_) from HN.out.at (2 * k + 1))
      have HTk := (show Hid (slotB (sl.take (2 * (k + 1))) = slotB (sl.take (2 * k)) ++ lows (sl.getD (2 * k) 0) 2 ++ lows (sl.getD (2 * k + 1) 0) 2) from (by rw [show 2 * (k + 1) = 2 * k + 1 + 1 from by omega, slotB_take _ _ (by rw [HP.out.l2]; omega), slotB_take _ _ (by rw [HP.out.l2]; omega)] : slotB (sl.take (2 * (k + 1))) = _))
      have HTl := (show Hid ((slotB (sl.take (2 * k))).length = 4 * k) from (by rw [slotB_length, List.length_take, HP.out.l2]; omega : (slotB (sl.take (2 * k))).length = 4 * k))
      generalize sl.getD (2 * k) 0 = x at *
      generalize sl.getD (2 * k + 1) 0 = y at *
      have hlh := headB_length sum lsn num bot HP.out.l1
      go_wp2_with fail
      obtain ⟨oo, hoo⟩ : ∃ oo : Nat, 20 + 4 * k = oo := ⟨_, rfl⟩
      have e1 : (20 + (k : Int) * 4) = (oo : Int) := by omega
      rw [e1]
      have HE7 := (show Hid (EncS w (wr.alloc (.cells #[.int .i64 x, .int .i64 y] 66)) B sum lsn num bot sl raw (headB sum lsn num bot ++ slotB (sl.take (2 * k)))) from HEr.out.on ((Kept.refl _ _).alloc _))
      have hb7 := Blk.new wr #[.int .i64 x, .int .i64 y] 66
      have hwr := HEr.out.sz
      obtain ⟨w7, hw7⟩ : ∃ w7, wr.alloc (.cells #[.int .i64 x, .int .i64 y] 66) = w7 := ⟨_, rfl⟩
      rw [hw7] at HE7 hb7 ⊢
      have HB7 := (show Hid (Blk w7 wr.heap.size 66 [.int .i64 x, .int .i64 y]) from hb7)
      clear hw7 hb7
      have o1 : (oo : Int) + 2 ≤ 4096 := by omega
      have o2 : (0 : Int) ≤ (oo : Int) := by omega
      have o3 : IntKind.i64.wrap ((oo : Int) + 2) = (oo : Int) + 2 := by rw [IntKind.wrap_i64]; omega
      have o4 : (oo : Int) ≤ (oo : Int) + 2 := by omega
      have o5 : ((oo : Int) + 2).toNat = oo + 2 := by omega
      have o6 : oo + 2 - oo = 2 := by omega
      have o7 : oo < 4096 := by omega
      have o8 : ¬ 4096 = oo := by omega
      have p3 : IntKind.i64.wrap ((oo : Int) + 4) = (oo : Int) + 4 := by rw [IntKind.wrap_i64]; omega
      have p1 : (oo : Int) + 4 ≤ 4096 := by omega
      have p4 : (oo : Int) + 2 ≤ (oo : Int) + 4 := by omega
      have p2 : (0 : Int) ≤ (oo : Int) + 2 := by omega
      have p5 : ((oo : Int) + 4).toNat = oo + 4 := by omega
      have p6 : oo + 4 - (oo + 2) = 2 := by omega
      have p7 : oo + 2 < 4096 := by omega
      have p8 : ¬ 4096 = oo + 2 := by omega
      have hS : (fun wx : World => wx.cell? ⟨wr.heap.size, 0, none⟩ = some (.int .i64 x)) w7.drew := by (have h := HB7.out.drew.cell 0; simpa using h)
      refine wp_region_V (fun wx : World => wx.cell? ⟨wr.heap.size, 0, none⟩ = some (.int .i64 x)) 99 7 rfl (by kernel_rfl) ?_
      refine wpAnyV_take (i := 0) (v := ?vq21) (some 48) rfl rfl (by kernel_rfl) (by kernel_rfl) (by kernel_rfl) (by kernel_rfl) (fun _ _ _ h => h) (Or.inl ⟨by rfl, ?hyq21⟩) hS ?_
      case hyq21 => (intro w hSw; (try dsimp only at hSw); go_simp; (try with_reducible rfl))
      try simp only [Act.put, List.setIfInBounds_toArray, List.set_cons_zero, List.set_cons_succ]
      refine wpAnyV_take (i := 1) (v := ?vq22) (some 49) rfl rfl (by kernel_rfl) (by kernel_rfl) (by kernel_rfl) (by kernel_rfl) (fun _ _ _ h => h) (Or.inl ⟨by rfl, ?hyq22⟩) hS ?_
      case hyq22 => (intro w hSw; (try dsimp only at hSw); go_simp; (try with_reducible rfl))
      try simp only [Act.put, List.setIfInBounds_toArray, List.set_cons_zero, List.set_cons_succ]
      refine wpAnyV_take (i := 2) (v := ?vq23) (some 50) rfl rfl (by kernel_rfl) (by kernel_rfl) (by kernel_rfl) (by kernel_rfl) (fun _ _ _ h => h) (Or.inl ⟨by rfl, ?hyq23⟩) hS ?_
      case hyq23 => (intro w hSw; (try dsimp only at hSw); go_simp; (try with_reducible rfl))
      try simp only [Act.put, List.setIfInBounds_toArray, List.set_cons_zero, List.set_cons_succ]
      refine wpAnyV_take (i := 3) (v := ?vq24) (some 51) rfl rfl (by kernel_rfl) (by kernel_rfl) (by kernel_rfl) (by kernel_rfl) (fun _ _ _ h => h) (Or.inl ⟨by rfl, ?hyq24⟩) hS ?_
      case hyq24 => (intro w hSw; (try dsimp only at hSw); go_simp; (try with_reducible rfl))
      try simp only [Act.put, List.setIfInBounds_toArray, List.set_cons_zero, List.set_cons_succ]
      refine wpAnyV_take (i := 4) (v := ?vq25) (some 52) rfl rfl (by kernel_rfl) (by kernel_rfl) (by kernel_rfl) (by kernel_rfl) (fun _ _ _ h => h) (Or.inl ⟨by rfl, ?hyq25⟩) hS ?_
      case hyq25 => (intro w hSw; (try dsimp only at hSw); go_simp; (try with_reducible rfl))
      try simp only [Act.put, List.setIfInBounds_toArray, List.set_cons_zero, List.set_cons_succ]
      refine wpAnyV_take (i := 5) (v := ?vq26) (some 53) rfl rfl (by kernel_rfl) (by kernel_rfl) (by kernel_rfl) (by kernel_rfl) (fun _ _ _ h => h) (Or.inl ⟨by rfl, ?hyq26⟩) hS ?_
      case hyq26 => (intro w hSw; (try dsimp only at hSw); go_simp; (try with_reducible rfl))
      try simp only [Act.put, List.setIfInBounds_toArray, List.set_cons_zero, List.set_cons_succ]
      refine wpAnyV_one (i := 6) (by kernel_rfl) rfl (fun K hK => ?_)
      go_simp
      have hE := HE7.out.on (Kept.refl _ _).drew
      have hc := write_more oo 2 (4096 - oo) x hE.arr (by rw [List.length_append, hlh, HTl.out]; omega) (by rw [hl3]; omega) hl3 HXB.out.1 HXB.out.2
      with_reducible refine hc.mono ?_
      rintro e w8 ⟨rfl, hb, hk8⟩
      have HE8 := (show Hid (EncS w w8 B sum lsn num bot sl raw (headB sum lsn num bot ++ slotB (sl.take (2 * k)) ++ lows x 2)) from hE.next hk8 hb)
      have HB8 := (show Hid (Blk w8 wr.heap.size 66 [.int .i64 x, .int .i64 y]) from (HB7.out.drew.kept hk8 (by omega)))
      have hS2 : (fun wx : World => wx.cell? ⟨wr.heap.size, 0, none⟩ = some (.int .i64 x)) w8 := by have h := HB8.out.cell 0; simpa using h
      clear hb hk8 hE hc hS
      refine hK.out _ _ (fun _ => hS2) ?_
      clear hK K hS2 HE7 HB7
      refine wpAnyV_done (by kernel_rfl) ?_
      try simp only [Act.put, List.setIfInBounds_toArray, List.set_cons_zero, List.set_cons_succ]
      go_wp2_with fail
      have hS : (fun wx : World => wx.cell? ⟨wr.heap.size, 1, none⟩ = some (.int .i64 y)) w8.drew := by (have h := HB8.out.drew.cell 1; simpa using h)
      refine wp_region_V (fun wx : World => wx.cell? ⟨wr.heap.size, 1, none⟩ = some (.int .i64 y)) 99 8 rfl (by kernel_rfl) ?_
      refine wpAnyV_take (i := 0) (v := ?vq27) (some 55) rfl rfl (by kernel_rfl) (by kernel_rfl) (by kernel_rfl) (by kernel_rfl) (fun _ _ _ h => h) (Or.inl ⟨by rfl, ?hyq27⟩) hS ?_
      case hyq27 => (intro w hSw; (try dsimp only at hSw); go_simp; (try with_reducible rfl))
      try simp only [Act.put, List.setIfInBounds_toArray, List.set_cons_zero, List.set_cons_succ]
      refine wpAnyV_take (i := 1) (v := ?vq28) (some 56) rfl rfl (by kernel_rfl) (by kernel_rfl) (by kernel_rfl) (by kernel_rfl) (fun _ _ _ h => h) (Or.inl ⟨by rfl, ?hyq28⟩) hS ?_
      case hyq28 => (intro w hSw; (try dsimp only at hSw); go_simp; (try with_reducible rfl))
      try simp only [Act.put, List.setIfInBounds_toArray, List.set_cons_zero, List.set_cons_succ]
      refine wpAnyV_take (i := 2) (v := ?vq29) (some 57) rfl rfl (by kernel_rfl) (by kernel_rfl) (by kernel_rfl) (by kernel_rfl) (fun _ _ _ h => h) (Or.inl ⟨by rfl, ?hyq29⟩) hS ?_
      case hyq29 => (intro w hSw; (try dsimp only at hSw); go_simp; (try with_reducible rfl))
      try simp only [Act.put, List.setIfInBounds_toArray, List.set_cons_zero, List.set_cons_succ]
      refine wpAnyV_take (i := 3) (v := ?vq30) (some 58) rfl rfl (by kernel_rfl) (by kernel_rfl) (by kernel_rfl) (by kernel_rfl) (fun _ _ _ h => h) (Or.inl ⟨by rfl, ?hyq30⟩) hS ?_
      case hyq30 => (intro w hSw; (try dsimp only at hSw); go_simp; (try with_reducible rfl))
      try simp only [Act.put, List.setIfInBounds_toArray, List.set_cons_zero, List.set_cons_succ]
      refine wpAnyV_take (i := 4) (v := ?vq31) (some 59) rfl rfl (by kernel_rfl) (by kernel_rfl) (by kernel_rfl) (by kernel_rfl) (fun _ _ _ h => h) (Or.inl ⟨by rfl, ?hyq31⟩) hS ?_
      case hyq31 => (intro w hSw; (try dsimp only at hSw); go_simp; (try with_reducible rfl))
      try simp only [Act.put, List.setIfInBounds_toArray, List.set_cons_zero, List.set_cons_succ]
      refine wpAnyV_take (i := 5) (v := ?vq32) (some 60) rfl rfl (by kernel_rfl) (by kernel_rfl) (by kernel_rfl) (by kernel_rfl) (fun _ _ _ h => h) (Or.inl ⟨by rfl, ?hyq32⟩) hS ?_
      case hyq32 => (intro w hSw; (try dsimp only at hSw); go_simp; (try with_reducible rfl))
      try simp only [Act.put, List.setIfInBounds_toArray, List.set_cons_zero, List.set_cons_succ]
      refine wpAnyV_take (i := 6) (v := ?vq33) (some 61) rfl rfl (by kernel_rfl) (by kernel_rfl) (by kernel_rfl) (by kernel_rfl) (fun _ _ _ h => h) (Or.inl ⟨by rfl, ?hyq33⟩) hS ?_
      case hyq33 => (intro w hSw; (try dsimp only at hSw); go_simp; (try with_reducible rfl))
      try simp only [Act.put, List.setIfInBounds_toArray, List.set_cons_zero, List.set_cons_succ]
      refine wpAnyV_one (i := 7) (by kernel_rfl) rfl (fun K hK => ?_)
      go_simp
      have hE := HE8.out.on (Kept.refl _ _).drew
      have hc := write_more (oo + 2) 2 (4094 - oo) y hE.arr (by rw [List.length_append, List.length_append, hlh, HTl.out, lows_length]; omega) (by rw [hl3]; omega) hl3 HYB.out.1 HYB.out.2
      with_reducible refine hc.mono ?_
      rintro e w9 ⟨rfl, hb, hk9⟩
      have HE9 := (show Hid (EncS w w9 B sum lsn num bot sl raw (headB sum lsn num bot ++ slotB (sl.take (2 * (k + 1))))) from (by rw [HTk.out, ← List.append_assoc, ← List.append_assoc]; exact hE.next hk9 hb))
      have hS2 : (fun wx : World => wx.cell? ⟨wr.heap.size, 1, none⟩ = some (.int .i64 y)) w9 := by have h := (HB8.out.drew.kept hk9 (by omega)).cell 1; simpa using h
      clear hb hk9 hE hc hS
      refine hK.out _ _ (fun _ => hS2) ?_
      clear hK K hS2 HE8 HB8
      refine wpAnyV_done (by kernel_rfl) ?_
      try simp only [Act.put, List.setIfInBounds_toArray, List.set_cons_zero, List.set_cons_succ]
      go_wp2
      go_roundw
      case rel => exact ⟨k + 1, by omega, by go_num, HE9⟩
      case measure => simp [intOf]; omega
    · obtain rfl : k = 32 := by omega
      have hA : headB sum lsn num bot ++ slotB (sl.take (2 * 32)) = headB sum lsn num bot ++ slotB sl := by rw [List.take_of_length_le (by rw [HP.out.l2]; decide)]
      have hE := HEr.out
      rw [hA] at hE
      have hel : (encB sum lsn num bot sl raw).length = 4096 := encB_length HP.out.l1 HP.out.l2 hl3
      have harr : Blk wr (w.heap.size + 1) 69 (vals .u8 (encB sum lsn num bot sl raw)) := hE.arr
      obtain ⟨ds, hds⟩ : ∃ ds : List Value, vals .u8 (encB sum lsn num bot sl raw) = ds := ⟨_, rfl⟩
      have hdl : ds.length = 4096 := by rw [← hds, vals_length, hel]
      have HDS := (show Hid (vals .u8 (encB sum lsn num bot sl raw) = ds) from hds)
      have HONE := (show Hid (ds.toArray.all (·.oneCell') = true) from (by rw [← hds]; exact all_oneCell_toArray vals_one : ds.toArray.all (·.oneCell') = true))
      rw [hds] at harr
      have hz80 : Try.zeroCells69.toList.length = 4096 := by rw [Array.length_toList]; exact Try.zeroCells69_size
      have HRG := (show Hid (wr.rangeAt (w.heap.size + 1) 0 ds) from harr.rangeAll)
      have HTH := (show Hid (wr.there w.heap.size 0 ds.toArray.size) from hE.res.there 0 _ (by rw [List.size_toArray, hdl, hz80]; decide))
      have hb5 := hE.res.setCells ds 0 (by rw [hdl, hz80]; decide)
      rw [lay_all _ _ (by rw [hdl, hz80])] at hb5
      have HRG2 := (show Hid ((wr.setCells w.heap.size 0 ds).rangeAt w.heap.size 0 ds) from hb5.rangeAll)
      have HI := (show Hid ((Try.prog.info? 69).map (·.size) = some ds.length) from (by rw [hdl]; exact page_info : (Try.prog.info? 69).map (·.size) = some ds.length))
      have HI2 := (show Hid ((Try.prog.info? 69).map (·.size) = some ds.toArray.size) from (by rw [List.size_toArray]; exact HI.out : (Try.prog.info? 69).map (·.size) = some ds.toArray.size))
      have HKe := (show Hid (Same w (wr.setCells w.heap.size 0 ds)) from Kept.setCells (.inl (Nat.le_refl _)) ds 0 hE.same)
      clear hds hdl hel harr hb5 hE hz80 HEr hA
      go_wp2_with (first | (refine wpList_load_mid rfl 69 _ rfl (w.heap.size + 1) 0 rfl ds _ HRG.out Try.underlying69 rfl HI.out ?_) | (refine wpList_store_mid rfl 69 _ _ rfl w.heap.size 0 ds.toArray rfl rfl HTH.out HI2.out HONE.out ?_))
      have hlv := run_loadVar_mid (P := Try.prog) _ w.heap.size 0 69 ds _ HRG2.out Try.underlying69 rfl HI.out
      refine bodyPost_ret (v := .agg ds.toArray) ?_ rfl ?_
      · try simp only [Act.put, List.setIfInBounds_toArray, List.set_cons_zero, List.set_cons_succ]
        simp [results, Try.results43, asAddr, hlv]
      · rw [HDS.out]
        exact ⟨rfl, HKe.out⟩
end Go.Proofs.Ytclmdpmelifplab
