import Derived.Test.YtdgmecmkkddpeaaG06
import Derived.Great.BuildSlice
namespace Go.Proofs.Ytdgmecmkkddpeaa
set_option maxRecDepth 100000
set_option maxHeartbeats 16000000
set_option linter.unusedVariables false
set_option linter.unusedSimpArgs false
open Go.RowKit
theorem write_more {w : World} {B : Nat} {e : TypeId} {A raw : List Int} (o n c : Nat) (x : Int) (hb : Blk w B e (vals .u8 (cont A raw))) (ho : o = A.length) (hl : o + n ≤ raw.length) (hm : raw.length = 4096) (h0 : 0 ≤ x) (h1 : x ≤ 9223372036854775807) :
  Calls Try.prog 83 #[.slice (some ⟨B, o, none⟩) n c, .int .i64 x] w fun e' w' => e' = .returned (.tuple #[]) ∧ Blk w' B e (vals .u8 (cont (A ++ lows x n) raw)) ∧ Kept (fun b => b = B) w w' := by
 refine (writeNumber_any B o n c e _ x w hb (by rw [vals_length, cont_length _ _ (by omega)]; exact hl) h0 h1 (by omega)).mono ?_
 rintro e' w' ⟨rfl, hb', hk⟩
 exact ⟨rfl, Blk.more o (lows x n) hb' ho (by rw [lows_length]; omega), hk⟩
structure Num3 (lsn num bot : Int) (sl : List Int) : Prop where
 a : 0 ≤ lsn ∧ lsn ≤ 9223372036854775807
 b : 0 ≤ num ∧ num ≤ 9223372036854775807
 c : 0 ≤ bot ∧ bot ≤ 9223372036854775807
 d : ∀ x ∈ sl, 0 ≤ x ∧ x ≤ 9223372036854775807
theorem Num3.at {lsn num bot : Int} {sl : List Int} (h : Num3 lsn num bot sl) (k : Nat) : 0 ≤ sl.getD k 0 ∧ sl.getD k 0 ≤ 9223372036854775807 := by
 by_cases hk : k < sl.length
 ·have : sl.getD k 0 = sl[k] := by simp [hk]
  rw [this]
  exact h.d _ (List.getElem_mem hk)
 ·simp [List.getD, List.getElem?_eq_none (show sl.length ≤ k by omega)]
structure EncS (w wx : World) (B : Nat) (sum : List Int) (lsn num bot : Int) (sl raw A : List Int) : Prop where
 sp : SP wx B sum lsn num bot sl raw
 arr : Blk wx (w.heap.size + 1) 133 (vals .u8 (cont A raw))
 res : Blk wx w.heap.size 133 Try.zeroCells133.toList
 same : Same w wx
 sz : w.heap.size + 2 ≤ wx.heap.size
 lt : B < w.heap.size
theorem EncS.next {w wx wy : World} {B : Nat} {sum : List Int} {lsn num bot : Int} {sl raw A A' : List Int} (h : EncS w wx B sum lsn num bot sl raw A) (hk : Kept (fun b => b = w.heap.size + 1) wx wy) (hb : Blk wy (w.heap.size + 1) 133 (vals .u8 (cont A' raw))) : EncS w wy B sum lsn num bot sl raw A' :=
 have hlt := h.lt
 ⟨h.sp.kept hk (by omega), hb, h.res.kept hk (by omega), h.same.next hk (fun i hi e => by omega), Nat.le_trans h.sz hk.size, h.lt⟩
theorem EncS.on {w wx wy : World} {B : Nat} {sum : List Int} {lsn num bot : Int} {sl raw A : List Int} (h : EncS w wx B sum lsn num bot sl raw A) (hk : Same wx wy) : EncS w wy B sum lsn num bot sl raw A :=
 ⟨h.sp.same hk, h.arr.same hk, h.res.same hk, h.same.trans hk, Nat.le_trans h.sz hk.size, h.lt⟩
theorem encode_any (B : Nat) (sum : List Int) (lsn num bot : Int) (sl raw : List Int) (w : World) (hp : SP w B sum lsn num bot sl raw) (hn : Num3 lsn num bot sl) :
  Calls Try.prog 125 #[.pointer (some ⟨B, 0, none⟩)] w fun e w' => e = .returned (.agg (vals .u8 (encB sum lsn num bot sl raw)).toArray) ∧ Same w w' := by
 have hBw := hp.blk.lt
 have hl3 := hp.l3
 have HP := (show Hid (SP w B sum lsn num bot sl raw) from hp)
 have HN := (show Hid (Num3 lsn num bot sl) from hn)
 have hz80 : Try.zeroCells133.toList.length = 4096 := by rw [Array.length_toList]; exact Try.zeroCells133_size
 have hrl : (vals .u8 raw).length = 4096 := by rw [vals_length, hl3]
 have HRG := (show Hid ((w.alloc (.cells Try.zeroCells133 133)).rangeAt B 71 (vals .u8 raw)) from (hp.same ((Kept.refl _ _).alloc _)).rawRange)
 have HI := (show Hid ((Try.prog.info? 133).map (·.size) = some (vals .u8 raw).length) from (by rw [hrl]; exact page_info : (Try.prog.info? 133).map (·.size) = some (vals .u8 raw).length))
 have HI2 := (show Hid ((Try.prog.info? 133).map (·.size) = some (vals .u8 raw).toArray.size) from (by rw [List.size_toArray]; exact HI.out : (Try.prog.info? 133).map (·.size) = some (vals .u8 raw).toArray.size))
 have HONE := (show Hid ((vals .u8 raw).toArray.all (·.oneCell') = true) from all_oneCell_toArray vals_one)
 obtain ⟨cs, hcs⟩ : ∃ cs : List Value, vals .u8 raw = cs := ⟨_, rfl⟩
 have HCS := (show Hid (vals .u8 raw = cs) from hcs)
 have HT := (show Hid (((w.alloc (.cells Try.zeroCells133 133)).alloc (.cells Try.zeroCells133 133)).there (w.heap.size + 1) 0 (vals .u8 raw).toArray.size) from by
  have h := Blk.new (w.alloc (.cells Try.zeroCells133 133)) Try.zeroCells133 133
  rw [World.size_alloc] at h
  exact h.there 0 _ (by rw [List.size_toArray, hrl, hz80]; decide))
 rw [hcs] at HRG HI HI2 HONE HT
 clear hcs hp hn hrl
 go_enter Try.func125, Try.ntmps125
 go_wp2_with (first | (refine wpList_load_mid rfl 133 _ rfl B 71 rfl cs _ HRG.out Try.underlying133 rfl HI.out ?_) | (refine wpList_store_mid rfl 133 _ _ rfl (w.heap.size + 1) 0 cs.toArray rfl rfl HT.out HI2.out HONE.out ?_))
 obtain ⟨w1, hw1⟩ : ∃ w1, ((w.alloc (.cells Try.zeroCells133 133)).alloc (.cells Try.zeroCells133 133)).setCells (w.heap.size + 1) 0 cs = w1 := ⟨_, rfl⟩
 have HE1 := (show Hid (EncS w w1 B sum lsn num bot sl raw ([])) from by
  rw [← hw1, ← HCS.out]
  have ha := Blk.new (w.alloc (.cells Try.zeroCells133 133)) Try.zeroCells133 133
  rw [World.size_alloc] at ha
  have hb := ha.setCells (vals .u8 raw) 0 (by rw [hz80, vals_length, hl3]; decide)
  rw [lay_all _ _ (by rw [hz80, vals_length, hl3])] at hb
  have hk0 : Same w ((w.alloc (.cells Try.zeroCells133 133)).alloc (.cells Try.zeroCells133 133)) := ((Kept.refl _ _).alloc _).alloc _
  have hk1 := Kept.setCells (R := fun b => b = w.heap.size + 1) (a := (w.alloc (.cells Try.zeroCells133 133)).alloc (.cells Try.zeroCells133 133)) (B := w.heap.size + 1) (.inr rfl) (vals .u8 raw) 0 (Kept.refl _ _)
  refine ⟨(HP.out.same hk0).kept hk1 (by omega), by rw [cont_nil]; exact hb, (((Blk.new w _ _).alloc _).kept hk1 (by omega)), hk0.next hk1 (fun i hi e => by omega), ?_, hBw⟩
  have := hk1.size
  simp at this
  omega)
 rw [hw1]
 clear hw1 HRG HT HONE HI HI2 HCS hz80
 have hS : (fun _ : World => True) w1.drew := by trivial
 refine wp_region_V (fun _ : World => True) 99 6 rfl (by kernel_rfl) ?_
 refine tk 0 11 hS ?_
 refine tk 1 12 hS ?_
 refine tk 2 13 hS ?_
 refine tk 3 14 hS ?_
 refine tk 4 15 hS ?_
 refine wpAnyV_one (i := 5) (by kernel_rfl) rfl (fun K hK => ?_)
 have hE := HE1.out.on (Kept.refl _ _).drew
 have hsl4 : (vals .u8 sum).length = 4 := by rw [vals_length, hE.sp.l1]
 refine step_copy_blk (by rfl) _ _ 22 (by rfl) Try.underlying22 byte_size (vals .u8 sum) hE.arr (by rfl) (by rfl) (by rw [hsl4]; decide) (fun j u hu => ?_) (by rw [hsl4, vals_length, cont_length _ _ (by simp), hl3]; decide) vals_one ?_
 ·have hj : j < 4 := by have := (List.getElem?_eq_some_iff.1 hu).1; rwa [hsl4] at this
  rw [addr_add, Nat.zero_add, hE.sp.sumAt j hj, ← hu, vals_at _ _ _ (by rw [hE.sp.l1]; exact hj)]
 have hb2 := hE.arr.setCells (vals .u8 sum) 0 (by rw [hsl4, vals_length, cont_length _ _ (by simp), hl3]; decide)
 have hb3 := Blk.more 0 sum hb2 rfl (by rw [hE.sp.l1, hl3]; decide)
 have hk2 := Kept.setCells (R := fun b => b = w.heap.size + 1) (a := w1.drew) (B := w.heap.size + 1) (.inr rfl) (vals .u8 sum) 0 (Kept.refl _ _)
 obtain ⟨w2, hw2⟩ : ∃ w2, w1.drew.setCells (w.heap.size + 1) 0 (vals .u8 sum) = w2 := ⟨_, rfl⟩
 rw [hw2] at hb3 hk2 ⊢
 have HE2 := (show Hid (EncS w w2 B sum lsn num bot sl raw ([] ++ sum)) from hE.next hk2 hb3)
 clear hw2
 clear hb2 hb3 hk2 hE hS HE1
 rw [hsl4]
 show K (Act.put _ (some 16) (.int .i64 4)) _
 refine hK.out _ _ (fun _ => trivial) ?_
 clear hK K
 refine wpAnyV_done (by kernel_rfl) ?_
 try simp only [Act.put, sA, s0, sS]
 go_wp2_with fail
 have hE := HE2.out.on (Kept.refl _ _).drew
 have hS : (fun wx : World => wx.cell? ⟨B, 4, none⟩ = some (.int .i64 lsn)) w2.drew := by exact hE.sp.num3.1
 refine wp_region_V (fun wx : World => wx.cell? ⟨B, 4, none⟩ = some (.int .i64 lsn)) 99 6 rfl (by kernel_rfl) ?_
 refine tk 0 17 hS ?_
 refine tk 1 18 hS ?_
 refine tk 2 19 hS ?_
 refine tk 3 20 hS ?_
 refine tk 4 21 hS ?_
 refine wpAnyV_one (i := 5) (by kernel_rfl) rfl (fun K hK => ?_)
 go_simp
 have hc := write_more 4 8 4092 lsn hE.arr (by simp [hE.sp.l1, lows_length]) (by rw [hl3]; decide) hl3 HN.out.a.1 HN.out.a.2
 with_reducible refine hc.mono ?_
 rintro e w3 ⟨rfl, hb, hk⟩
 have HE3 := (show Hid (EncS w w3 B sum lsn num bot sl raw ([] ++ sum ++ lows lsn 8)) from hE.next hk hb)
 have hS2 : (fun wx : World => wx.cell? ⟨B, 4, none⟩ = some (.int .i64 lsn)) w3 := HE3.out.sp.num3.1
 clear hb hk hE hc hS
 refine hK.out _ _ (fun _ => hS2) ?_
 clear hK K hS2 HE2
 refine wpAnyV_done (by kernel_rfl) ?_
 try simp only [Act.put, sA, s0, sS]
 go_wp2_with fail
 have hE := HE3.out.on (Kept.refl _ _).drew
 have hS : (fun wx : World => wx.cell? ⟨B, 5, none⟩ = some (.int .i64 num)) w3.drew := by exact hE.sp.num3.2.1
 refine wp_region_V (fun wx : World => wx.cell? ⟨B, 5, none⟩ = some (.int .i64 num)) 99 6 rfl (by kernel_rfl) ?_
 refine tk 0 23 hS ?_
 refine tk 1 24 hS ?_
 refine tk 2 25 hS ?_
 refine tk 3 26 hS ?_
 refine tk 4 27 hS ?_
 refine wpAnyV_one (i := 5) (by kernel_rfl) rfl (fun K hK => ?_)
 go_simp
 have hc := write_more 12 4 4084 num hE.arr (by simp [hE.sp.l1, lows_length]) (by rw [hl3]; decide) hl3 HN.out.b.1 HN.out.b.2
 with_reducible refine hc.mono ?_
 rintro e w4 ⟨rfl, hb, hk⟩
 have HE4 := (show Hid (EncS w w4 B sum lsn num bot sl raw ([] ++ sum ++ lows lsn 8 ++ lows num 4)) from hE.next hk hb)
 have hS2 : (fun wx : World => wx.cell? ⟨B, 5, none⟩ = some (.int .i64 num)) w4 := HE4.out.sp.num3.2.1
 clear hb hk hE hc hS
 refine hK.out _ _ (fun _ => hS2) ?_
 clear hK K hS2 HE3
 refine wpAnyV_done (by kernel_rfl) ?_
 try simp only [Act.put, sA, s0, sS]
 go_wp2_with fail
 have hE := HE4.out.on (Kept.refl _ _).drew
 have hS : (fun wx : World => wx.cell? ⟨B, 6, none⟩ = some (.int .i64 bot)) w4.drew := by exact hE.sp.num3.2.2
 refine wp_region_V (fun wx : World => wx.cell? ⟨B, 6, none⟩ = some (.int .i64 bot)) 99 6 rfl (by kernel_rfl) ?_
 refine tk 0 29 hS ?_
 refine tk 1 30 hS ?_
 refine tk 2 31 hS ?_
 refine tk 3 32 hS ?_
 refine tk 4 33 hS ?_
 refine wpAnyV_one (i := 5) (by kernel_rfl) rfl (fun K hK => ?_)
 go_simp
 have hc := write_more 16 2 4080 bot hE.arr (by simp [hE.sp.l1, lows_length]) (by rw [hl3]; decide) hl3 HN.out.c.1 HN.out.c.2
 with_reducible refine hc.mono ?_
 rintro e w5 ⟨rfl, hb, hk⟩
 have HE5 := (show Hid (EncS w w5 B sum lsn num bot sl raw ([] ++ sum ++ lows lsn 8 ++ lows num 4 ++ lows bot 2)) from hE.next hk hb)
 have hS2 : (fun wx : World => wx.cell? ⟨B, 6, none⟩ = some (.int .i64 bot)) w5 := HE5.out.sp.num3.2.2
 clear hb hk hE hc hS
 refine hK.out _ _ (fun _ => hS2) ?_
 clear hK K hS2 HE4
 refine wpAnyV_done (by kernel_rfl) ?_
 try simp only [Act.put, sA, s0, sS]
 have hc := write_more 18 2 4078 0 HE5.out.arr (by simp [HE5.out.sp.l1, lows_length]) (by rw [hl3]; decide) hl3 (by decide) (by decide)
 have HIs := (show Hid ((Try.prog.info? 138).map (·.size) = some (vals .i64 sl).length) from (by rw [vals_length, HP.out.l2]; exact (by kernel_rfl : (Try.prog.info? 138).map (·.size) = some 64) : (Try.prog.info? 138).map (·.size) = some (vals .i64 sl).length))
 obtain ⟨ss, hss⟩ : ∃ ss : List Value, vals .i64 sl = ss := ⟨_, rfl⟩
 have HSS := (show Hid (vals .i64 sl = ss) from hss)
 rw [hss] at HIs
 clear hss
 go_wp2_with (first
  | (go_at_call 83; refine hc.mono ?_; rintro e w6 ⟨rfl, hb6, hk6⟩; have HE6 := (show Hid (EncS w w6 B sum lsn num bot sl raw ([] ++ sum ++ lows lsn 8 ++ lows num 4 ++ lows bot 2 ++ lows 0 2)) from HE5.out.next hk6 hb6); have HRs := (show Hid (w6.rangeAt B 7 ss) from (by rw [← HSS.out]; exact HE6.out.sp.slRange : w6.rangeAt B 7 ss)); clear hb6 hk6 hc)
  | (refine wpList_load_mid rfl 138 _ rfl B 7 rfl ss _ HRs.out Try.underlying138 rfl HIs.out ?_))
 go_loopw [4, 5, 6, 41] (fun _ _ _ i wr => ∃ k : Nat, k ≤ 32 ∧ i = .int .i64 k ∧ Hid (EncS w wr B sum lsn num bot sl raw (headB sum lsn num bot ++ slotB (sl.take (2 * k))))) (fun _ _ _ i _ => 32 - (intOf i).toNat)
 case atStart => exact ⟨0, by omega, rfl, by simpa [slotB, headB] using HE6⟩
 case round =>
  obtain ⟨k, hk, rfl, HEr⟩ := hrel
  by_cases hlt : k < 32
  ·have hk2 : (k : Int) < 32 := by omega
   have hix := fun w => slot_at sl HP.out.l2 k hlt w
   rw [HSS.out] at hix
   have HXB := (show Hid (_) from HN.out.at (2 * k))
   have HYB := (show Hid (_) from HN.out.at (2 * k + 1))
   have HTk := (show Hid (slotB (sl.take (2 * (k + 1))) = slotB (sl.take (2 * k)) ++ lows (sl.getD (2 * k) 0) 2 ++ lows (sl.getD (2 * k + 1) 0) 2) from (by rw [show 2 * (k + 1) = 2 * k + 1 + 1 from by omega, slotB_take _ _ (by rw [HP.out.l2]; omega), slotB_take _ _ (by rw [HP.out.l2]; omega)] : slotB (sl.take (2 * (k + 1))) = _))
   have HTl := (show Hid ((slotB (sl.take (2 * k))).length = 4 * k) from (by rw [slotB_length, List.length_take, HP.out.l2]; omega : (slotB (sl.take (2 * k))).length = 4 * k))
   generalize sl.getD (2 * k) 0 = x at *
   generalize sl.getD (2 * k + 1) 0 = y at *
   have hlh := headB_length sum lsn num bot HP.out.l1
   go_wp2_with fail
   obtain ⟨oo, hoo⟩ : ∃ oo : Nat, 20 + 4 * k = oo := ⟨_, rfl⟩
   have e1 : (20 + (k : Int) * 4) = (oo : Int) := by omega
   rw [e1]
   have HE7 := (show Hid (EncS w (wr.alloc (.cells #[.int .i64 x, .int .i64 y] 137)) B sum lsn num bot sl raw (headB sum lsn num bot ++ slotB (sl.take (2 * k)))) from HEr.out.on ((Kept.refl _ _).alloc _))
   have hb7 := Blk.new wr #[.int .i64 x, .int .i64 y] 137
   have hwr := HEr.out.sz
   obtain ⟨w7, hw7⟩ : ∃ w7, wr.alloc (.cells #[.int .i64 x, .int .i64 y] 137) = w7 := ⟨_, rfl⟩
   rw [hw7] at HE7 hb7 ⊢
   have HB7 := (show Hid (Blk w7 wr.heap.size 137 [.int .i64 x, .int .i64 y]) from hb7)
   clear hw7 hb7
   have o1 : (oo : Int) + 2 ≤ 4096 := by omega
   have o2 : (0 : Int) ≤ (oo : Int) := by omega
   have o3 : IntKind.i64.wrap ((oo : Int) + 2) = (oo : Int) + 2 := by rw [IntKind.wrap_i64]; omega
   have o4 : (oo : Int) ≤ (oo : Int) + 2 := by omega
   have o5 : ((oo : Int) + 2).toNat = oo + 2 := by omega
   have o6 : oo + 2 - oo = 2 := by omega
   have o7 : oo < 4096 := by omega
   have o8 : ¬ 4096 = oo := by omega
   have p3 : IntKind.i64.wrap ((oo : Int) + 4) = (oo : Int) + 4 := by rw [IntKind.wrap_i64]; omega
   have p1 : (oo : Int) + 4 ≤ 4096 := by omega
   have p4 : (oo : Int) + 2 ≤ (oo : Int) + 4 := by omega
   have p2 : (0 : Int) ≤ (oo : Int) + 2 := by omega
   have p5 : ((oo : Int) + 4).toNat = oo + 4 := by omega
   have p6 : oo + 4 - (oo + 2) = 2 := by omega
   have p7 : oo + 2 < 4096 := by omega
   have p8 : ¬ 4096 = oo + 2 := by omega
   have hS : (fun wx : World => wx.cell? ⟨wr.heap.size, 0, none⟩ = some (.int .i64 x)) w7.drew := by (have h := HB7.out.drew.cell 0; simpa using h)
   refine wp_region_V (fun wx : World => wx.cell? ⟨wr.heap.size, 0, none⟩ = some (.int .i64 x)) 99 7 rfl (by kernel_rfl) ?_
   refine tk 0 48 hS ?_
   refine tk 1 49 hS ?_
   refine tk 2 50 hS ?_
   refine tk 3 51 hS ?_
   refine tk 4 52 hS ?_
   refine tk 5 53 hS ?_
   refine wpAnyV_one (i := 6) (by kernel_rfl) rfl (fun K hK => ?_)
   go_simp
   have hE := HE7.out.on (Kept.refl _ _).drew
   have hc := write_more oo 2 (4096 - oo) x hE.arr (by rw [List.length_append, hlh, HTl.out]; omega) (by rw [hl3]; omega) hl3 HXB.out.1 HXB.out.2
   with_reducible refine hc.mono ?_
   rintro e w8 ⟨rfl, hb, hk8⟩
   have HE8 := (show Hid (EncS w w8 B sum lsn num bot sl raw (headB sum lsn num bot ++ slotB (sl.take (2 * k)) ++ lows x 2)) from hE.next hk8 hb)
   have HB8 := (show Hid (Blk w8 wr.heap.size 137 [.int .i64 x, .int .i64 y]) from (HB7.out.drew.kept hk8 (by omega)))
   have hS2 : (fun wx : World => wx.cell? ⟨wr.heap.size, 0, none⟩ = some (.int .i64 x)) w8 := by have h := HB8.out.cell 0; simpa using h
   clear hb hk8 hE hc hS
   refine hK.out _ _ (fun _ => hS2) ?_
   clear hK K hS2 HE7 HB7
   refine wpAnyV_done (by kernel_rfl) ?_
   try simp only [Act.put, sA, s0, sS]
   go_wp2_with fail
   have hS : (fun wx : World => wx.cell? ⟨wr.heap.size, 1, none⟩ = some (.int .i64 y)) w8.drew := by (have h := HB8.out.drew.cell 1; simpa using h)
   refine wp_region_V (fun wx : World => wx.cell? ⟨wr.heap.size, 1, none⟩ = some (.int .i64 y)) 99 8 rfl (by kernel_rfl) ?_
   refine tk 0 55 hS ?_
   refine tk 1 56 hS ?_
   refine tk 2 57 hS ?_
   refine tk 3 58 hS ?_
   refine tk 4 59 hS ?_
   refine tk 5 60 hS ?_
   refine tk 6 61 hS ?_
   refine wpAnyV_one (i := 7) (by kernel_rfl) rfl (fun K hK => ?_)
   go_simp
   have hE := HE8.out.on (Kept.refl _ _).drew
   have hc := write_more (oo + 2) 2 (4094 - oo) y hE.arr (by rw [List.length_append, List.length_append, hlh, HTl.out, lows_length]; omega) (by rw [hl3]; omega) hl3 HYB.out.1 HYB.out.2
   with_reducible refine hc.mono ?_
   rintro e w9 ⟨rfl, hb, hk9⟩
   have HE9 := (show Hid (EncS w w9 B sum lsn num bot sl raw (headB sum lsn num bot ++ slotB (sl.take (2 * (k + 1))))) from (by rw [HTk.out, ← List.append_assoc, ← List.append_assoc]; exact hE.next hk9 hb))
   have hS2 : (fun wx : World => wx.cell? ⟨wr.heap.size, 1, none⟩ = some (.int .i64 y)) w9 := by have h := (HB8.out.drew.kept hk9 (by omega)).cell 1; simpa using h
   clear hb hk9 hE hc hS
   refine hK.out _ _ (fun _ => hS2) ?_
   clear hK K hS2 HE8 HB8
   refine wpAnyV_done (by kernel_rfl) ?_
   try simp only [Act.put, sA, s0, sS]
   go_wp2
   go_roundw
   case rel => exact ⟨k + 1, by omega, by go_num, HE9⟩
   case measure => simp [intOf]; omega
  ·obtain rfl : k = 32 := by omega
   have hA : headB sum lsn num bot ++ slotB (sl.take (2 * 32)) = headB sum lsn num bot ++ slotB sl := by rw [List.take_of_length_le (by rw [HP.out.l2]; decide)]
   have hE := HEr.out
   rw [hA] at hE
   have hel : (encB sum lsn num bot sl raw).length = 4096 := encB_length HP.out.l1 HP.out.l2 hl3
   have harr : Blk wr (w.heap.size + 1) 133 (vals .u8 (encB sum lsn num bot sl raw)) := hE.arr
   obtain ⟨ds, hds⟩ : ∃ ds : List Value, vals .u8 (encB sum lsn num bot sl raw) = ds := ⟨_, rfl⟩
   have hdl : ds.length = 4096 := by rw [← hds, vals_length, hel]
   have HDS := (show Hid (vals .u8 (encB sum lsn num bot sl raw) = ds) from hds)
   have HONE := (show Hid (ds.toArray.all (·.oneCell') = true) from (by rw [← hds]; exact all_oneCell_toArray vals_one : ds.toArray.all (·.oneCell') = true))
   rw [hds] at harr
   have hz80 : Try.zeroCells133.toList.length = 4096 := by rw [Array.length_toList]; exact Try.zeroCells133_size
   have HRG := (show Hid (wr.rangeAt (w.heap.size + 1) 0 ds) from harr.rangeAll)
   have HTH := (show Hid (wr.there w.heap.size 0 ds.toArray.size) from hE.res.there 0 _ (by rw [List.size_toArray, hdl, hz80]; decide))
   have hb5 := hE.res.setCells ds 0 (by rw [hdl, hz80]; decide)
   rw [lay_all _ _ (by rw [hdl, hz80])] at hb5
   have HRG2 := (show Hid ((wr.setCells w.heap.size 0 ds).rangeAt w.heap.size 0 ds) from hb5.rangeAll)
   have HI := (show Hid ((Try.prog.info? 133).map (·.size) = some ds.length) from (by rw [hdl]; exact page_info : (Try.prog.info? 133).map (·.size) = some ds.length))
   have HI2 := (show Hid ((Try.prog.info? 133).map (·.size) = some ds.toArray.size) from (by rw [List.size_toArray]; exact HI.out : (Try.prog.info? 133).map (·.size) = some ds.toArray.size))
   have HKe := (show Hid (Same w (wr.setCells w.heap.size 0 ds)) from Kept.setCells (.inl (Nat.le_refl _)) ds 0 hE.same)
   clear hds hdl hel harr hb5 hE hz80 HEr hA
   go_wp2_with (first | (refine wpList_load_mid rfl 133 _ rfl (w.heap.size + 1) 0 rfl ds _ HRG.out Try.underlying133 rfl HI.out ?_) | (refine wpList_store_mid rfl 133 _ _ rfl w.heap.size 0 ds.toArray rfl rfl HTH.out HI2.out HONE.out ?_))
   have hlv := run_loadVar_mid (P := Try.prog) _ w.heap.size 0 133 ds _ HRG2.out Try.underlying133 rfl HI.out
   refine bodyPost_ret (v := .agg ds.toArray) ?_ rfl ?_
   ·try simp only [Act.put, List.setIfInBounds_toArray, List.set_cons_zero, List.set_cons_succ]
    simp [results, Try.results125, asAddr, hlv]
   ·rw [HDS.out]
    exact ⟨rfl, HKe.out⟩
theorem lay_mid (A B C B' : List Value) (h : B'.length = B.length) : lay (A ++ (B ++ C)) A.length B' = A ++ (B' ++ C) := by
 unfold lay
 rw [List.take_left, h, List.drop_append, List.drop_of_length_le (by omega), Nat.add_sub_cancel_left, List.drop_left, List.nil_append]
def lay82 : Array (Nat × Nat) := #[(0, 4), (4, 1), (5, 1), (6, 1), (7, 64), (71, 4096)]
set_option maxRecDepth 100000 in
theorem built82 (parts : List (Nat × Value)) : Try.prog.built 140 parts = Instr.fill (fun i => lay82[i]?) Try.zeroCells140 parts := by kernel_rfl
theorem fill_one (L : Nat → Option (Nat × Nat)) (Z : List Value) (i off n : Nat) (v : Value) (ps : List (Nat × Value)) (hL : L i = some (off, n)) (hv : v.cells.size = n) (hz : off + n ≤ Z.length) :
  Instr.fill L Z.toArray ((i, v) :: ps) = Instr.fill L (lay Z off v.cells.toList).toArray ps := by
 obtain ⟨s1, g1⟩ := Great.foldl_set off v.cells.toList 0 Z.toArray
 have hvl : v.cells.toList.length = n := by rw [Array.length_toList, hv]
 have e : v.cells.zipIdx.foldl (fun cs (c, j) => cs.setIfInBounds (off + j) c) Z.toArray = (lay Z off v.cells.toList).toArray := by
  have e0 : v.cells.zipIdx.foldl (fun cs (c, j) => cs.setIfInBounds (off + j) c) Z.toArray = (v.cells.toList.zipIdx 0).foldl (fun cs (x : Value × Nat) => cs.setIfInBounds (off + x.2) x.1) Z.toArray := by
   rw [← Array.foldl_toList, Array.toList_zipIdx]
  rw [e0]
  refine Array.ext_getElem? fun k => ?_
  rw [g1 k]
  simp only [Nat.add_zero, List.getElem?_toArray, List.size_toArray, hvl]
  unfold lay
  by_cases h1 : k < off
  ·rw [if_neg (by omega), List.getElem?_append_left (by simp; omega), List.getElem?_take_of_lt h1]
  ·rw [List.getElem?_append_right (by simp; omega), List.length_take, Nat.min_eq_left (by omega)]
   by_cases h2 : k < off + n
   ·rw [if_pos (by omega), List.getElem?_append_left (by omega)]
   ·rw [if_neg (by omega), List.getElem?_append_right (by omega), hvl, List.getElem?_drop]
    congr 1
    omega
 rw [Instr.fill, hL]
 simp only [hv, List.size_toArray, ne_eq, not_true_eq_false, decide_false, Bool.false_or, gt_iff_lt, decide_eq_true_eq]
 rw [if_neg (by omega), e]
set_option maxRecDepth 100000 in
theorem build82 (sum : List Int) (lsn num bot : Int) (raw : List Int) (h1 : sum.length = 4) (h3 : raw.length = 4096) :
  Try.prog.built 140 [(0, .agg (vals .u8 sum).toArray), (1, .int .i64 lsn), (2, .int .i64 num), (3, .int .i64 bot), (5, .agg (vals .u8 raw).toArray)] = some (spCells sum lsn num bot (List.replicate 64 0) raw).toArray := by
 have hzc : Try.zeroCells140.toList = spCells (List.replicate 4 0) 0 0 0 (List.replicate 64 0) (List.replicate 4096 0) := by kernel_rfl
 have hz : Try.zeroCells140 = (spCells (List.replicate 4 0) 0 0 0 (List.replicate 64 0) (List.replicate 4096 0)).toArray := by rw [← hzc]
 have L0 : ∀ (sum : List Int) (a b c : Int) (sl raw : List Int), sum.length = 4 → sl.length = 64 → raw.length = 4096 → (spCells sum a b c sl raw).length = 4167 := fun _ _ _ _ _ _ h1 h2 h3 => spCells_length h1 h2 h3
 rw [built82, hz]
 rw [fill_one _ _ 0 0 4 _ _ rfl (by simp [Value.cells, vals, h1]) (by rw [L0 _ _ _ _ _ _ List.length_replicate List.length_replicate List.length_replicate]; decide)]
 have e0 : lay (spCells (List.replicate 4 0) 0 0 0 (List.replicate 64 0) (List.replicate 4096 0)) 0 (Value.agg (vals .u8 sum).toArray).cells.toList = spCells sum 0 0 0 (List.replicate 64 0) (List.replicate 4096 0) := lay_mid [] (vals .u8 (List.replicate 4 0)) _ (vals .u8 sum) (by rw [vals_length, vals_length, h1, List.length_replicate])
 rw [e0, fill_one _ _ 1 4 1 _ _ rfl rfl (by rw [L0 _ _ _ _ _ _ h1 List.length_replicate List.length_replicate]; decide)]
 have hs4 : (vals .u8 sum).length = 4 := by rw [vals_length, h1]
 have e1 : lay (spCells sum 0 0 0 (List.replicate 64 0) (List.replicate 4096 0)) 4 (Value.int .i64 lsn).cells.toList = spCells sum lsn 0 0 (List.replicate 64 0) (List.replicate 4096 0) := by
  have h := lay_mid (vals .u8 sum) [.int .i64 0] (.int .i64 0 :: .int .i64 0 :: (vals .i64 (List.replicate 64 0) ++ vals .u8 (List.replicate 4096 0))) [.int .i64 lsn] rfl
  rw [hs4] at h
  exact h
 rw [e1, fill_one _ _ 2 5 1 _ _ rfl rfl (by rw [L0 _ _ _ _ _ _ h1 List.length_replicate List.length_replicate]; decide)]
 have e2 : lay (spCells sum lsn 0 0 (List.replicate 64 0) (List.replicate 4096 0)) 5 (Value.int .i64 num).cells.toList = spCells sum lsn num 0 (List.replicate 64 0) (List.replicate 4096 0) := by
  have h := lay_mid (vals .u8 sum ++ [.int .i64 lsn]) [.int .i64 0] (.int .i64 0 :: (vals .i64 (List.replicate 64 0) ++ vals .u8 (List.replicate 4096 0))) [.int .i64 num] rfl
  rw [List.length_append, hs4, List.append_assoc, List.append_assoc] at h
  exact h
 rw [e2, fill_one _ _ 3 6 1 _ _ rfl rfl (by rw [L0 _ _ _ _ _ _ h1 List.length_replicate List.length_replicate]; decide)]
 have e3 : lay (spCells sum lsn num 0 (List.replicate 64 0) (List.replicate 4096 0)) 6 (Value.int .i64 bot).cells.toList = spCells sum lsn num bot (List.replicate 64 0) (List.replicate 4096 0) := by
  have h := lay_mid (vals .u8 sum ++ [.int .i64 lsn, .int .i64 num]) [.int .i64 0] (vals .i64 (List.replicate 64 0) ++ vals .u8 (List.replicate 4096 0)) [.int .i64 bot] rfl
  rw [List.length_append, hs4, List.append_assoc, List.append_assoc] at h
  exact h
 rw [e3, fill_one _ _ 5 71 4096 _ _ rfl (by simp [Value.cells, vals, h3]) (by rw [L0 _ _ _ _ _ _ h1 List.length_replicate List.length_replicate]; decide)]
 have e4 : lay (spCells sum lsn num bot (List.replicate 64 0) (List.replicate 4096 0)) 71 (Value.agg (vals .u8 raw).toArray).cells.toList = spCells sum lsn num bot (List.replicate 64 0) raw := by
  have h := lay_mid (vals .u8 sum ++ (.int .i64 lsn :: .int .i64 num :: .int .i64 bot :: vals .i64 (List.replicate 64 0))) (vals .u8 (List.replicate 4096 0)) [] (vals .u8 raw) (by rw [vals_length, vals_length, h3, List.length_replicate])
  have e : (vals .u8 sum ++ (.int .i64 lsn :: .int .i64 num :: .int .i64 bot :: vals .i64 (List.replicate 64 0))).length = 71 := by rw [List.length_append, hs4]; rw [List.length_cons, List.length_cons, List.length_cons, vals_length, List.length_replicate]
  rw [e, List.append_nil, List.append_nil, List.append_assoc] at h
  have e5 : spCells sum lsn num bot (List.replicate 64 0) (List.replicate 4096 0) = vals .u8 sum ++ ((.int .i64 lsn :: .int .i64 num :: .int .i64 bot :: vals .i64 (List.replicate 64 0)) ++ vals .u8 (List.replicate 4096 0)) := rfl
  rw [e5]
  refine Eq.trans h ?_
  rw [List.append_assoc]
  rfl
 rw [e4]
 rfl
def numAt (raw : List Int) (o n : Nat) : Int := getN ((raw.drop o).take n)
def slotsOf (raw : List Int) : List Int := (List.range 64).map fun j => numAt raw (20 + 2 * j) 2
theorem slotsOf_length (raw : List Int) : (slotsOf raw).length = 64 := by simp [slotsOf]
theorem slotsOf_at (raw : List Int) (j : Nat) (h : j < 64) : (slotsOf raw).getD j 0 = numAt raw (20 + 2 * j) 2 := by simp [slotsOf, List.getD, h]
def someOf (sl : List Int) (n : Nat) : List Int := sl.take n ++ List.replicate (64 - n) 0
theorem someOf_length (sl : List Int) (n : Nat) (h : sl.length = 64) (hn : n ≤ 64) : (someOf sl n).length = 64 := by simp [someOf, h]; omega
theorem someOf_set (sl : List Int) (n : Nat) (h : sl.length = 64) (hn : n < 64) : (someOf sl n).set n (sl.getD n 0) = someOf sl (n + 1) := by
 unfold someOf
 rw [List.set_append_right (h := by simp; omega)]
 have e : (sl.take n).length = n := by simp; omega
 rw [e, Nat.sub_self, show 64 - n = (64 - (n + 1)) + 1 from by omega, List.replicate_succ, List.set_cons_zero, List.take_succ_eq_append_getElem (by omega)]
 have e2 : sl.getD n 0 = sl[n] := by simp [List.getD, List.getElem?_eq_getElem (show n < sl.length by omega)]
 rw [e2, List.append_assoc]
 rfl
theorem spCells_set (sum : List Int) (lsn num bot : Int) (sl raw : List Int) (j : Nat) (x : Int) (h1 : sum.length = 4) (h2 : sl.length = 64) (hj : j < 64) : (spCells sum lsn num bot sl raw).set (7 + j) (.int .i64 x) = spCells sum lsn num bot (sl.set j x) raw := by
 have e : (vals .u8 sum).length = 4 := by rw [vals_length, h1]
 unfold spCells
 rw [List.set_append_right (h := by omega), e, show 7 + j - 4 = j + 1 + 1 + 1 from by omega, List.set_cons_succ, List.set_cons_succ, List.set_cons_succ, List.set_append_left (h := by rw [vals_length, h2]; exact hj)]
 simp [vals]
theorem SP.slot {w : World} {B : Nat} {sum : List Int} {lsn num bot : Int} {sl raw : List Int} (h : SP w B sum lsn num bot sl raw) (j : Nat) (hj : j < 64) (x : Int) : SP (w.setCell ⟨B, 7 + j, none⟩ (.int .i64 x)) B sum lsn num bot (sl.set j x) raw := by
 refine ⟨?_, h.l1, by rw [List.length_set]; exact h.l2, h.l3⟩
 rw [← spCells_set sum lsn num bot sl raw j x h.l1 h.l2 hj]
 exact h.blk.stored _ _
theorem num_at (B o n c : Nat) (raw : List Int) (w : World) (hb : Blk w B 133 (vals .u8 raw)) (hB : IsB raw) (hl : raw.length = 4096) (hn : o + n ≤ 4096) (hc : n ≤ c) :
  Calls Try.prog 124 #[.slice (some ⟨B, o, none⟩) n c] w fun e w' => e = .returned (.int .i64 (numAt raw o n)) ∧ Same w w' :=
 implGet_any _ _ w (isB_take (isB_drop hB o) n) (by simp; omega) (hb.rd o n c (by omega) hc (by rw [hl]; decide))
section
variable {P : Program} {ops : Array Oper} {S : World → Prop} {o : Oper} {a : Act}
theorem yields_build82 (hgd : o.guard = none) (x0 x1 x2 x3 x5 : Operand) (hop : o.op = Op.build 140 #[(0, x0), (1, x1), (2, x2), (3, x3), (5, x5)]) (sum : List Int) (lsn num bot : Int) (raw : List Int) (cs ds : Array Value)
  (e0 : a.eval x0 = .agg ds) (e1 : a.eval x1 = .int .i64 lsn) (e2 : a.eval x2 = .int .i64 num) (e3 : a.eval x3 = .int .i64 bot) (e5 : a.eval x5 = .agg cs) (hds : ds = (vals .u8 sum).toArray) (hcs : cs = (vals .u8 raw).toArray) (h1 : sum.length = 4) (h3 : raw.length = 4096) :
  YieldsIf Try.prog ops S o (.agg (spCells sum lsn num bot (List.replicate 64 0) raw).toArray) a := by
 have hw : Region.wanted o (yielded ops a.tmps) = true := by simp [Region.wanted, hgd]
 have hb := build82 sum lsn num bot raw h1 h3
 refine .inl ⟨hw, fun w _ => ?_⟩
 have hrun := run_build (P := Try.prog) w _ #[(0, .agg (vals .u8 sum).toArray), (1, .int .i64 lsn), (2, .int .i64 num), (3, .int .i64 bot), (5, .agg (vals .u8 raw).toArray)] _ hb
 unfold execOp
 simp only [hop]
 have e : (#[(0, x0), (1, x1), (2, x2), (3, x3), (5, x5)] : Array (Nat × Operand)).map (fun (i, x) => (i, a.eval x)) = #[(0, .agg (vals .u8 sum).toArray), (1, .int .i64 lsn), (2, .int .i64 num), (3, .int .i64 bot), (5, .agg (vals .u8 raw).toArray)] := by simp [e0, e1, e2, e3, e5, hds, hcs]
 rw [e]
 simp only [Sem.run_bind, hrun, Result.andThen_ok]
 rfl
end
theorem run_array4 (w : World) (ad : Option Addr) (c : Nat) : (Instr.arrayAt 135 (.slice ad 4 c)).run Try.prog w = .ok (.pointer ad) w := by
 simp [Instr.arrayAt, run_underlying Try.underlying135]
theorem takeApart_any (raw : List Int) (w : World) (hB : IsB raw) (hl : raw.length = 4096) :
  Calls Try.prog 122 #[.agg (vals .u8 raw).toArray] w fun e w' => ∃ P, e = .returned (.pointer (some ⟨P, 0, none⟩)) ∧ w.heap.size ≤ P ∧
   SP w' P (raw.take 4) (numAt raw 4 8) (numAt raw 12 4) (numAt raw 16 2) (slotsOf raw) raw ∧ Same w w' := by
 obtain ⟨cs, hcs⟩ : ∃ cs : Array Value, (vals .u8 raw).toArray = cs := ⟨_, rfl⟩
 have hsz : cs.size = 4096 := by rw [← hcs]; simp [vals, hl]
 have HCS := (show Hid (cs = (vals .u8 raw).toArray) from hcs.symm)
 have HB := (show Hid (IsB raw) from hB)
 have HL := (show Hid (raw.length = 4096) from hl)
 have hb1 : Blk (w.alloc (.cells cs 133)) w.heap.size 133 (vals .u8 raw) := by
  have h := Blk.new w cs 133
  rw [← hcs] at h ⊢
  exact h
 have hk1 : Same w (w.alloc (.cells cs 133)) := (Kept.refl _ _).alloc _
 obtain ⟨w1, hw1⟩ : ∃ w1, w.alloc (.cells cs 133) = w1 := ⟨_, rfl⟩
 have hz1 : w1.heap.size = w.heap.size + 1 := by rw [← hw1]; simp
 rw [hw1] at hb1 hk1
 have HB1 := (show Hid (Blk w1 w.heap.size 133 (vals .u8 raw)) from hb1)
 have HK1 := (show Hid (Same w w1) from hk1)
 have hs4 : (raw.take 4).length = 4 := by simp; omega
 have hR80 : w1.rangeAt w.heap.size 0 (vals .u8 raw) := hb1.rangeAll
 have hR77 : w1.rangeAt w.heap.size 0 (vals .u8 (raw.take 4)) := hb1.range 0 _ (fun j v hv => by
  have hj : j < 4 := by have := (List.getElem?_eq_some_iff.1 hv).1; rwa [vals_length, hs4] at this
  rw [← hv, Nat.zero_add, vals_at _ _ _ (by omega), vals_at _ _ _ (by omega)]
  simp [List.getD, List.getElem?_take, hj])
 have hI80 : (Try.prog.info? 133).map (·.size) = some (vals .u8 raw).length := by rw [vals_length, hl]; exact page_info
 have hI77 : (Try.prog.info? 135).map (·.size) = some (vals .u8 (raw.take 4)).length := by rw [vals_length, hs4]; exact (by kernel_rfl : (Try.prog.info? 135).map (·.size) = some 4)
 obtain ⟨cl, hcl⟩ : ∃ cl : List Value, vals .u8 raw = cl := ⟨_, rfl⟩
 obtain ⟨dl, hdl⟩ : ∃ dl : List Value, vals .u8 (raw.take 4) = dl := ⟨_, rfl⟩
 rw [hcl] at hR80 hI80
 rw [hdl] at hR77 hI77
 have HCL := (show Hid (cl.toArray = (vals .u8 raw).toArray) from (by rw [hcl] : cl.toArray = (vals .u8 raw).toArray))
 have HDL := (show Hid (dl.toArray = (vals .u8 (raw.take 4)).toArray) from (by rw [hdl] : dl.toArray = (vals .u8 (raw.take 4)).toArray))
 have harr := run_array4
 rw [hcs]
 clear hcs hB hl hb1 hk1 hcl hdl
 go_enter Try.func122, Try.ntmps122
 go_wp2_with fail
 try rw [hw1]
 clear hw1
 have hS : (fun wx : World => wx.rangeAt w.heap.size 0 cl ∧ wx.rangeAt w.heap.size 0 dl) w1.drew := by exact ⟨hR80, hR77⟩
 refine wp_region_V (fun wx : World => wx.rangeAt w.heap.size 0 cl ∧ wx.rangeAt w.heap.size 0 dl) 99 13 rfl (by kernel_rfl) ?_
 refine tk 0 6 hS ?_
 refine tk 1 7 hS ?_
 refine wpAnyV_take (i := 2) (v := .agg dl.toArray) (some 8) rfl rfl (by kernel_rfl) (by kernel_rfl) (by kernel_rfl) (by kernel_rfl) (fun _ _ _ h => h) (yieldsIf_load_mid (by rfl) 135 _ rfl w.heap.size 0 rfl dl _ (fun _ h => h.2) Try.underlying135 rfl hI77) hS ?_
 try simp only [Act.put, sA, s0, sS]
 refine tk 3 9 hS ?_
 refine tk 5 11 hS ?_
 refine tk 7 13 hS ?_
 refine wpAnyV_take (i := 9) (v := .agg cl.toArray) (some 15) rfl rfl (by kernel_rfl) (by kernel_rfl) (by kernel_rfl) (by kernel_rfl) (fun _ _ _ h => h) (yieldsIf_load_mid (by rfl) 133 _ rfl w.heap.size 0 rfl cl _ (fun _ h => h.1) Try.underlying133 rfl hI80) hS ?_
 try simp only [Act.put, sA, s0, sS]
 refine wpAnyV_one (i := 4) (by kernel_rfl) rfl (fun K hK => ?_)
 go_simp
 have hc := num_at w.heap.size 4 8 4092 raw w1.drew (HB1.out.same ((Kept.refl _ _).drew)) HB.out HL.out (by decide) (by decide)
 with_reducible refine hc.mono ?_
 clear hc
 rintro e w2 ⟨rfl, hkk⟩
 have hkw2 : Same w1 w2 := Kept.trans ((Kept.refl _ _).drew) hkk
 clear hkk
 have hS : (fun wx : World => wx.rangeAt w.heap.size 0 cl ∧ wx.rangeAt w.heap.size 0 dl) w2 := ⟨Kept.ranges hkw2 hR80, Kept.ranges hkw2 hR77⟩
 refine hK.out _ _ (fun _ => hS) ?_
 clear hK K
 try simp only [Act.put, sA, s0, sS]
 refine wpAnyV_one (i := 6) (by kernel_rfl) rfl (fun K hK => ?_)
 go_simp
 have hc := num_at w.heap.size 12 4 4084 raw w2 (HB1.out.same (hkw2)) HB.out HL.out (by decide) (by decide)
 with_reducible refine hc.mono ?_
 clear hc
 rintro e w3 ⟨rfl, hkk⟩
 have hkw3 : Same w1 w3 := Kept.trans (hkw2) hkk
 clear hkk
 have hS : (fun wx : World => wx.rangeAt w.heap.size 0 cl ∧ wx.rangeAt w.heap.size 0 dl) w3 := ⟨Kept.ranges hkw3 hR80, Kept.ranges hkw3 hR77⟩
 refine hK.out _ _ (fun _ => hS) ?_
 clear hK K
 try simp only [Act.put, sA, s0, sS]
 refine wpAnyV_one (i := 8) (by kernel_rfl) rfl (fun K hK => ?_)
 go_simp
 have hc := num_at w.heap.size 16 2 4080 raw w3 (HB1.out.same (hkw3)) HB.out HL.out (by decide) (by decide)
 with_reducible refine hc.mono ?_
 clear hc
 rintro e w4 ⟨rfl, hkk⟩
 have hkw4 : Same w1 w4 := Kept.trans (hkw3) hkk
 clear hkk
 have hS : (fun wx : World => wx.rangeAt w.heap.size 0 cl ∧ wx.rangeAt w.heap.size 0 dl) w4 := ⟨Kept.ranges hkw4 hR80, Kept.ranges hkw4 hR77⟩
 refine hK.out _ _ (fun _ => hS) ?_
 clear hK K
 try simp only [Act.put, sA, s0, sS]
 refine wpAnyV_take (i := 10) (v := .agg (spCells (raw.take 4) (numAt raw 4 8) (numAt raw 12 4) (numAt raw 16 2) (List.replicate 64 0) raw).toArray) (some 16) rfl rfl (by kernel_rfl) (by kernel_rfl) (by kernel_rfl) (by kernel_rfl) (fun _ _ _ h => h) (yields_build82 rfl _ _ _ _ _ rfl (raw.take 4) (numAt raw 4 8) (numAt raw 12 4) (numAt raw 16 2) raw cl.toArray dl.toArray rfl rfl rfl rfl rfl HDL.out HCL.out hs4 HL.out) hS ?_
 try simp only [Act.put, sA, s0, sS]
 obtain ⟨pl, hpl⟩ : ∃ pl : Array Value, (spCells (raw.take 4) (numAt raw 4 8) (numAt raw 12 4) (numAt raw 16 2) (List.replicate 64 0) raw).toArray = pl := ⟨_, rfl⟩
 have hps : pl.size = 4167 := by rw [← hpl, List.size_toArray]; exact spCells_length hs4 List.length_replicate HL.out
 have HPL := (show Hid ((spCells (raw.take 4) (numAt raw 4 8) (numAt raw 12 4) (numAt raw 16 2) (List.replicate 64 0) raw).toArray = pl) from hpl)
 rw [hpl]
 clear hpl
 refine wpAnyV_one (i := 11) (by kernel_rfl) rfl (fun K hK => ?_)
 go_simp
 have hP : w.heap.size + 1 ≤ w4.heap.size := by have := hkw4.size; omega
 have hsp : SP (w4.alloc (.cells pl 140)) w4.heap.size (raw.take 4) (numAt raw 4 8) (numAt raw 12 4) (numAt raw 16 2) (someOf (slotsOf raw) (2 * 0)) raw := by
  refine ⟨?_, hs4, someOf_length _ _ (slotsOf_length raw) (by decide), HL.out⟩
  have h := Blk.new w4 pl 140
  rw [← HPL.out] at h ⊢
  exact h
 have hk5 : Same w1 (w4.alloc (.cells pl 140)) := hkw4.trans ((Kept.refl _ _).alloc _)
 obtain ⟨w5, hw5⟩ : ∃ w5, w4.alloc (.cells pl 140) = w5 := ⟨_, rfl⟩
 rw [hw5] at hsp hk5 ⊢
 obtain ⟨P, hPe⟩ : ∃ P, w4.heap.size = P := ⟨_, rfl⟩
 rw [hPe] at hsp hP ⊢
 have HSP5 := (show Hid (SP w5 P (raw.take 4) (numAt raw 4 8) (numAt raw 12 4) (numAt raw 16 2) (someOf (slotsOf raw) (2 * 0)) raw) from hsp)
 have HB5 := (show Hid (Blk w5 w.heap.size 133 (vals .u8 raw)) from HB1.out.same hk5)
 have HK5 := hid (HK1.out.trans hk5)
 have hS : (fun wx : World => wx.rangeAt w.heap.size 0 cl ∧ wx.rangeAt w.heap.size 0 dl) w5 := ⟨Kept.ranges hk5 hR80, Kept.ranges hk5 hR77⟩
 clear hw5 hsp hPe
 refine hK.out _ _ (fun _ => hS) ?_
 clear hK K
 try simp only [Act.put, sA, s0, sS]
 refine tk 12 3 hS ?_
 refine wpAnyV_done (by kernel_rfl) ?_
 try simp only [Act.put, sA, s0, sS]
 clear hS hk5 hkw2 hkw3 hkw4 hR80 hR77 hI80 hI77
 go_wp2_with fail
 go_loopw [4, 5, 18] (fun _ _ i wr => ∃ k : Nat, k ≤ 32 ∧ i = .int .i64 k ∧ Hid (SP wr P (raw.take 4) (numAt raw 4 8) (numAt raw 12 4) (numAt raw 16 2) (someOf (slotsOf raw) (2 * k)) raw) ∧ Hid (Blk wr w.heap.size 133 (vals .u8 raw)) ∧ Hid (Same w wr)) (fun _ _ i _ => 32 - (intOf i).toNat)
 case atStart => exact ⟨0, by omega, rfl, HSP5, HB5, HK5⟩
 case round =>
  obtain ⟨k, hk, rfl, HSr, HBr, HKr⟩ := hrel
  by_cases hlt : k < 32
  ·have hk2 : (k : Int) < 32 := by omega
   have hk3 : (0 : Int) ≤ (k : Int) := by omega
   have HX := (show Hid ((slotsOf raw).getD (2 * k) 0 = numAt raw (20 + 4 * k) 2) from (by rw [slotsOf_at _ _ (by omega), show 20 + 2 * (2 * k) = 20 + 4 * k from by omega] : (slotsOf raw).getD (2 * k) 0 = numAt raw (20 + 4 * k) 2))
   have HY := (show Hid ((slotsOf raw).getD (2 * k + 1) 0 = numAt raw (20 + 4 * k + 2) 2) from (by rw [slotsOf_at _ _ (by omega), show 20 + 2 * (2 * k + 1) = 20 + 4 * k + 2 from by omega] : (slotsOf raw).getD (2 * k + 1) 0 = numAt raw (20 + 4 * k + 2) 2))
   go_wp2_with fail
   obtain ⟨oo, hoo⟩ : ∃ oo : Nat, 20 + 4 * k = oo := ⟨_, rfl⟩
   have e1 : (20 + (k : Int) * 4) = (oo : Int) := by omega
   rw [e1]
   rw [hoo] at HX HY
   obtain ⟨X, hX⟩ : ∃ X, (slotsOf raw).getD (2 * k) 0 = X := ⟨_, rfl⟩
   obtain ⟨Y, hY⟩ : ∃ Y, (slotsOf raw).getD (2 * k + 1) 0 = Y := ⟨_, rfl⟩
   have HXe := (show Hid ((slotsOf raw).getD (2 * k) 0 = X) from hX)
   have HYe := (show Hid ((slotsOf raw).getD (2 * k + 1) 0 = Y) from hY)
   have HXn := (show Hid (numAt raw oo 2 = X) from HX.out.symm.trans hX)
   have HYn := (show Hid (numAt raw (oo + 2) 2 = Y) from HY.out.symm.trans hY)
   clear hX hY HX HY
   have o1 : (oo : Int) + 2 ≤ 4096 := by omega
   have o2 : (0 : Int) ≤ (oo : Int) := by omega
   have o3 : IntKind.i64.wrap ((oo : Int) + 2) = (oo : Int) + 2 := by rw [IntKind.wrap_i64]; omega
   have o4 : (oo : Int) ≤ (oo : Int) + 2 := by omega
   have o5 : ((oo : Int) + 2).toNat = oo + 2 := by omega
   have o6 : oo + 2 - oo = 2 := by omega
   have o7 : oo < 4096 := by omega
   have o8 : ¬ 4096 = oo := by omega
   have p3 : IntKind.i64.wrap ((oo : Int) + 4) = (oo : Int) + 4 := by rw [IntKind.wrap_i64]; omega
   have p1 : (oo : Int) + 4 ≤ 4096 := by omega
   have p4 : (oo : Int) + 2 ≤ (oo : Int) + 4 := by omega
   have p2 : (0 : Int) ≤ (oo : Int) + 2 := by omega
   have p5 : ((oo : Int) + 4).toNat = oo + 4 := by omega
   have p6 : oo + 4 - (oo + 2) = 2 := by omega
   have p7 : oo + 2 < 4096 := by omega
   have p8 : ¬ 4096 = oo + 2 := by omega
   have hS : (fun _ : World => True) wr.drew := by trivial
   refine wp_region_V (fun _ : World => True) 99 12 rfl (by kernel_rfl) ?_
   refine tk 0 24 hS ?_
   refine tk 1 25 hS ?_
   refine tk 2 26 hS ?_
   refine tk 3 27 hS ?_
   refine tk 4 28 hS ?_
   refine tk 5 29 hS ?_
   refine tk 7 31 hS ?_
   refine tk 8 32 hS ?_
   refine wpAnyV_one (i := 6) (by kernel_rfl) rfl (fun K hK => ?_)
   go_simp
   have hc := num_at w.heap.size (oo) 2 (4096 - oo) raw wr.drew (HBr.out.same (Kept.refl _ _).drew) HB.out HL.out (by omega) (by omega)
   with_reducible refine hc.mono ?_
   clear hc
   rintro e w6 ⟨rfl, hkk⟩
   have hkx : Same wr w6 := (Kept.refl _ _).drew.trans hkk
   rw [HXn.out]
   have HSw6 := hid (HSr.out.same hkx)
   have HBw6 := (show Hid (Blk w6 w.heap.size 133 (vals .u8 raw)) from HBr.out.same hkx)
   have HKw6 := hid (HKr.out.trans hkx)
   clear hkk hkx
   refine hK.out _ _ (fun _ => trivial) ?_
   clear hK K
   try simp only [Act.put, sA, s0, sS]
   refine tk 9 33 hS ?_
   refine tk 10 34 hS ?_
   have c6 := HSw6.out.slAt (2 * k) (by omega)
   have f6 := HSw6.out.blk.frozen (7 + 2 * k)
   rw [show 7 + 2 * k = 7 + k * 2 from by omega] at c6 f6
   refine wpAnyV_one (i := 11) (by kernel_rfl) rfl (fun K hK => ?_)
   go_simp
   have hs7 := HSw6.out.slot (2 * k) (by omega) X
   rw [← HXe.out, someOf_set _ _ (slotsOf_length raw) (by omega), HXe.out, show 7 + 2 * k = 7 + k * 2 from by omega] at hs7
   have hk7 := Kept.setCell (R := fun b => b = P) (Kept.refl _ w6) (p := ⟨P, 7 + k * 2, none⟩) (.inr rfl) (.int .i64 X)
   obtain ⟨w7, hw7⟩ : ∃ w7, w6.setCell ⟨P, 7 + k * 2, none⟩ (.int .i64 X) = w7 := ⟨_, rfl⟩
   rw [hw7] at hs7 hk7 ⊢
   have HS7 := (show Hid (SP w7 P (raw.take 4) (numAt raw 4 8) (numAt raw 12 4) (numAt raw 16 2) (someOf (slotsOf raw) (2 * k + 1)) raw) from hs7)
   have HB7 := (show Hid (Blk w7 w.heap.size 133 (vals .u8 raw)) from HBw6.out.kept hk7 (by omega))
   have HK7 := (show Hid (Same w w7) from HKw6.out.next hk7 (fun i hi e => by omega))
   clear hs7 hk7 hw7 c6 f6 HSw6 HBw6 HKw6
   refine hK.out _ _ (fun _ => trivial) ?_
   clear hK K hS
   refine wpAnyV_done (by kernel_rfl) ?_
   try simp only [Act.put, sA, s0, sS]
   go_wp2_with fail
   have hS : (fun _ : World => True) w7.drew := by trivial
   refine wp_region_V (fun _ : World => True) 99 13 rfl (by kernel_rfl) ?_
   refine tk 0 35 hS ?_
   refine tk 1 36 hS ?_
   refine tk 2 37 hS ?_
   refine tk 3 38 hS ?_
   refine tk 4 39 hS ?_
   refine tk 5 40 hS ?_
   refine tk 6 41 hS ?_
   refine tk 8 43 hS ?_
   refine tk 9 44 hS ?_
   refine wpAnyV_one (i := 7) (by kernel_rfl) rfl (fun K hK => ?_)
   go_simp
   have hc := num_at w.heap.size (oo + 2) 2 (4094 - oo) raw w7.drew (HB7.out.same (Kept.refl _ _).drew) HB.out HL.out (by omega) (by omega)
   with_reducible refine hc.mono ?_
   clear hc
   rintro e w8 ⟨rfl, hkk⟩
   have hkx : Same w7 w8 := (Kept.refl _ _).drew.trans hkk
   rw [HYn.out]
   have HSw8 := hid (HS7.out.same hkx)
   have HBw8 := (show Hid (Blk w8 w.heap.size 133 (vals .u8 raw)) from HB7.out.same hkx)
   have HKw8 := hid (HK7.out.trans hkx)
   clear hkk hkx
   refine hK.out _ _ (fun _ => trivial) ?_
   clear hK K
   try simp only [Act.put, sA, s0, sS]
   refine tk 10 45 hS ?_
   refine tk 11 46 hS ?_
   have c8 := HSw8.out.slAt (2 * k + 1) (by omega)
   have f8 := HSw8.out.blk.frozen (7 + (2 * k + 1))
   rw [show 7 + (2 * k + 1) = 7 + k * 2 + 1 from by omega] at c8 f8
   refine wpAnyV_one (i := 12) (by kernel_rfl) rfl (fun K hK => ?_)
   go_simp
   have hs9 := HSw8.out.slot (2 * k + 1) (by omega) Y
   rw [← HYe.out, someOf_set _ _ (slotsOf_length raw) (by omega), HYe.out, show 7 + (2 * k + 1) = 7 + k * 2 + 1 from by omega, show 2 * k + 1 + 1 = 2 * (k + 1) from by omega] at hs9
   have hk9 := Kept.setCell (R := fun b => b = P) (Kept.refl _ w8) (p := ⟨P, 7 + k * 2 + 1, none⟩) (.inr rfl) (.int .i64 Y)
   obtain ⟨w9, hw9⟩ : ∃ w9, w8.setCell ⟨P, 7 + k * 2 + 1, none⟩ (.int .i64 Y) = w9 := ⟨_, rfl⟩
   rw [hw9] at hs9 hk9 ⊢
   have HS9 := (show Hid (SP w9 P (raw.take 4) (numAt raw 4 8) (numAt raw 12 4) (numAt raw 16 2) (someOf (slotsOf raw) (2 * (k + 1))) raw) from hs9)
   have HB9 := (show Hid (Blk w9 w.heap.size 133 (vals .u8 raw)) from HBw8.out.kept hk9 (by omega))
   have HK9 := (show Hid (Same w w9) from HKw8.out.next hk9 (fun i hi e => by omega))
   clear hs9 hk9 hw9 c8 f8 HSw8 HBw8 HKw8
   refine hK.out _ _ (fun _ => trivial) ?_
   clear hK K hS
   refine wpAnyV_done (by kernel_rfl) ?_
   try simp only [Act.put, sA, s0, sS]
   go_wp2
   go_roundw
   case rel => exact ⟨k + 1, by omega, by go_num, HS9, HB9, HK9⟩
   case measure => simp [intOf]; omega
  ·obtain rfl : k = 32 := by omega
   go_wp2
   go_ret
   have h := HSr.out
   have e : someOf (slotsOf raw) (2 * 32) = slotsOf raw := by simp [someOf, List.take_of_length_le, slotsOf_length]
   rw [e] at h
   exact ⟨P, rfl, by omega, h, HKr.out⟩
theorem used_any (x y : Int) (w : World) : Calls Try.prog 128 #[.agg #[.int .i64 x, .int .i64 y]] w fun e w' => e = .returned (.bool (x != 0)) ∧ Same w w' := by
 go_enter Try.func128, Try.ntmps128
 go_wp2
 go_ret
 exact ⟨rfl, (Kept.refl _ _).alloc _⟩
theorem end_any (x y : Int) (w : World) (hx : 0 ≤ x ∧ x ≤ 65535) (hy : 0 ≤ y ∧ y ≤ 65535) : Calls Try.prog 129 #[.agg #[.int .i64 x, .int .i64 y]] w fun e w' => e = .returned (.int .i64 (x + y)) ∧ Same w w' := by
 go_enter Try.func129, Try.ntmps129
 go_wp2
 go_ret
 exact ⟨rfl, (Kept.refl _ _).alloc _⟩
def isLSN (x : Int) : Bool := decide (0 ≤ x) && decide (x ≤ 1099511627776)
theorem isLSN_any (x : Int) (w : World) : Calls Try.prog 102 #[.int .i64 x] w fun e w' => e = .returned (.bool (isLSN x)) ∧ Same w w' := by
 by_cases h : 0 ≤ x
 ·go_enter Try.func102, Try.ntmps102
  go_wp2
  go_ret
  refine ⟨?_, Kept.refl _ _⟩
  simp [isLSN, h]
 ·have e : isLSN x = false := by simp [isLSN, h]
  rw [e]
  go_enter Try.func102, Try.ntmps102
  go_wp2
  go_ret
  exact ⟨rfl, Kept.refl _ _⟩
def sharesB (x y x' y' : Int) : Bool := decide (max x x' < min (x + y) (x' + y'))
theorem shares_any (x y x' y' : Int) (w : World) (hx : 0 ≤ x ∧ x ≤ 65535) (hy : 0 ≤ y ∧ y ≤ 65535) (hx' : 0 ≤ x' ∧ x' ≤ 65535) (hy' : 0 ≤ y' ∧ y' ≤ 65535) :
  Calls Try.prog 130 #[.agg #[.int .i64 x, .int .i64 y], .agg #[.int .i64 x', .int .i64 y']] w fun e w' => e = .returned (.bool (sharesB x y x' y')) ∧ Same w w' := by
 go_enter Try.func130, Try.ntmps130
 go_wp2_with fail
 have hb1 := (Blk.new w #[.int .i64 x, .int .i64 y] 137).alloc (.cells #[.int .i64 x', .int .i64 y'] 137)
 have hb2 := Blk.new (w.alloc (.cells #[.int .i64 x, .int .i64 y] 137)) #[.int .i64 x', .int .i64 y'] 137
 have hk1 : Same w ((w.alloc (.cells #[.int .i64 x, .int .i64 y] 137)).alloc (.cells #[.int .i64 x', .int .i64 y'] 137)) := ((Kept.refl _ _).alloc _).alloc _
 rw [World.size_alloc] at hb2
 obtain ⟨w1, hw1⟩ : ∃ w1, (w.alloc (.cells #[.int .i64 x, .int .i64 y] 137)).alloc (.cells #[.int .i64 x', .int .i64 y'] 137) = w1 := ⟨_, rfl⟩
 rw [hw1] at hb1 hb2 hk1 ⊢
 clear hw1
 let Y1 : World → Prop := fun wx : World => wx.cell? ⟨w.heap.size, 0, none⟩ = some (.int .i64 x) ∧ wx.cell? ⟨w.heap.size, 1, none⟩ = some (.int .i64 y) ∧ wx.cell? ⟨w.heap.size + 1, 0, none⟩ = some (.int .i64 x') ∧ wx.cell? ⟨w.heap.size + 1, 1, none⟩ = some (.int .i64 y')
 have hSx : ∀ wx, Same w1 wx → Y1 wx := fun wx h => ⟨by rw [(hb1.same h).cell]; rfl, by rw [(hb1.same h).cell]; rfl, by rw [(hb2.same h).cell]; rfl, by rw [(hb2.same h).cell]; rfl⟩
 have hS : Y1 w1.drew := by exact hSx _ (Kept.refl _ _).drew
 refine wp_region_V Y1 99 12 rfl (by kernel_rfl) ?_
 refine tk 0 5 hS ?_
 refine tk 1 6 hS ?_
 refine tk 2 7 hS ?_
 refine tk 3 8 hS ?_
 refine tk 4 9 hS ?_
 refine tk 5 10 hS ?_
 refine tk 7 12 hS ?_
 refine wpAnyV_one (i := 6) (by kernel_rfl) rfl (fun K hK => ?_)
 go_simp
 have hc := end_any x y w1.drew hx hy
 with_reducible refine hc.mono ?_
 clear hc
 rintro e w2 ⟨rfl, hkk⟩
 have hkw2 : Same w1 w2 := Kept.trans ((Kept.refl _ _).drew) hkk
 clear hkk
 have hS : Y1 w2 := hSx _ hkw2
 refine hK.out _ _ (fun _ => hS) ?_
 clear hK K
 try simp only [Act.put, sA, s0, sS]
 refine wpAnyV_one (i := 8) (by kernel_rfl) rfl (fun K hK => ?_)
 go_simp
 have hc := end_any x' y' w2 hx' hy'
 with_reducible refine hc.mono ?_
 clear hc
 rintro e w3 ⟨rfl, hkk⟩
 have hkw3 : Same w1 w3 := Kept.trans (hkw2) hkk
 clear hkk
 have hS : Y1 w3 := hSx _ hkw3
 refine hK.out _ _ (fun _ => hS) ?_
 clear hK K
 try simp only [Act.put, sA, s0, sS]
 refine tk 9 14 hS ?_
 refine tk 10 15 hS ?_
 refine tk 11 4 hS ?_
 refine wpAnyV_done (by kernel_rfl) ?_
 go_wp2
 all_goals
  go_ret
  refine ⟨congrArg (fun b => Ending.returned (.bool b)) (?_ : _ = sharesB x y x' y'), hk1.trans hkw3⟩
  unfold sharesB
  first
   | (rw [decide_eq_decide]; omega)
   | (symm; rw [decide_eq_true_eq]; omega)
   | (symm; rw [decide_eq_false_iff_not]; omega)
   | (rw [decide_eq_decide]; repeat (first | omega | split))
end Go.Proofs.Ytdgmecmkkddpeaa
