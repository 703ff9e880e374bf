import Derived.Test.YtaiiffgbjabjgaaDoorG03
import Derived.Test.YtaiiffgbjabjgaaDoorG00
import Derived.Test.YtaiiffgbjabjgaaDoorRows
import Derived.Test.YtaiiffgbjabjgaaDoorG01
import Derived.Test.YtaiiffgbjabjgaaDoorCards
import Derived.Test.YtaiiffgbjabjgaaDoorTie
import Derived.Lib.SmallJoins
import Derived.ChangeSame
import Derived.ChangeVars
import Derived.JoinedOf
import Derived.RowKit
import Derived.RowKitTokens
import Derived.Stop.Joined
import Derived.SevenTiedAt
namespace Go.Proofs.YtaiiffgbjabjgaaDoor
set_option maxRecDepth 100000
set_option maxHeartbeats 8000000
open Go.RowKit
set_option linter.unusedVariables false
set_option linter.unusedSimpArgs false
theorem numB8 (x : Int) (h0 : 0 ≤ x) (h1 : x ≤ 9223372036854775807) : numB x 8 = lows x 8 := by
  unfold numB
  rw [if_neg]
  · rfl
  · rintro (h | h | h | h)
    · omega
    · omega
    · omega
    · apply h
      rw [show (8 : Int).toNat = 8 from rfl, show (256 : Int) ^ 8 = 18446744073709551616 from rfl]
      omega
theorem numB4' (x : Int) (h0 : 0 ≤ x) (h1 : x ≤ 4294967295) : numB x 4 = lows x 4 := by
  unfold numB
  rw [if_neg]
  · rfl
  · rintro (h | h | h | h)
    · omega
    · omega
    · omega
    · apply h
      rw [show (4 : Int).toNat = 4 from rfl, show (256 : Int) ^ 4 = 4294967296 from rfl]
      omega
theorem l4Put_first (g : Nat) (bs : List Int) (x n : Int) (w : World) (hx : IsI x) (hn : IsI n) (h0 : 0 < bs.length) (h1 : 0 < (numB x n).length) (hl : bs.length ≤ 1000) (hv : Rd .u8 w (.slice (some ⟨g, 0, none⟩) bs.length bs.length) bs) :
    Calls Tryd.prog 33 #[.slice (some ⟨g, 0, none⟩) bs.length bs.length, .int .i64 x, .int .i64 n] w fun e w' => ∃ aa nn cc, e = .returned (.slice aa nn cc) ∧ Own 0 5 .u8 w' (.slice aa nn cc) (bs ++ numB x n) ∧ (∀ b, (Value.slice aa nn cc).ownBlock = some b → w.heap.size ≤ b) ∧ Same w w' := by
  have hP := specPut_any x n w hx hn
  have hnl := numB_length x n
  have HV := (show Hid (Rd .u8 w (.slice (some ⟨g, 0, none⟩) bs.length bs.length) bs) from hv)
  clear hv
  go_enter Tryd.func33, Tryd.ntmps33
  go_wp2_with (first
    | (go_at_call 49; refine hP.mono ?_; rintro e w1 ⟨a1, c1, rfl, hf1, ho1, hk1⟩; obtain ⟨g1, o1, rfl, _⟩ := rd_some ho1.rd h1; have HR1 := (show Hid (Rd .u8 w1 (.slice (some ⟨g1, o1, none⟩) (numB x n).length c1) (numB x n)) from ho1.rd); have HK1 := (show Hid (Same w w1) from hk1); clear hf1 ho1 hk1)
    | (at_builtin; refine wpList_app_full rfl (.tmp 7) (.tmp 10) rfl rfl rfl (HV.out.same HK1.out) HR1.out h0 h1 (by omega) ?_; intro a2 n2 c2 w2 hown2 hf2 hk2; have HF := (show Hid (Own 0 5 .u8 w2 (.slice a2 n2 c2) (bs ++ numB x n)) from hown2); have HF2 := (show Hid (∀ b, (Value.slice a2 n2 c2).ownBlock = some b → w.heap.size ≤ b) from fun b hb => Nat.le_trans HK1.out.size (hf2 b hb)); have HK := (show Hid (Same w w2) from HK1.out.trans hk2); clear hown2 hk2 hf2))
  go_ret
  exact ⟨a2, n2, c2, rfl, HF.out, HF2.out, HK.out⟩
structure OutS (w wx : World) (s e c l : Int) (v : Value) (A : List Int) : Prop where
  box : Blk wx w.heap.size 25 [.int .i64 s, .int .i64 e, .int .i64 c, .int .i64 l]
  own : Own 0 5 .u8 wx v A
  fresh : ∀ b, v.ownBlock = some b → w.heap.size < b
  same : Same w wx
theorem OutS.on {w wx wy : World} {s e c l : Int} {v : Value} {A : List Int} (h : OutS w wx s e c l v A) (hk : Same wx wy) : OutS w wy s e c l v A := ⟨h.box.same hk, h.own.same hk, h.fresh, h.same.trans hk⟩
theorem OutS.next {w wx wy : World} {s e c l : Int} {v v' : Value} {A A' : List Int} (h : OutS w wx s e c l v A) (hg : Grew wx v wy v') (ho : Own 0 5 .u8 wy v' A') : OutS w wy s e c l v' A' :=
  ⟨h.box.kept hg.kept (fun hb => by have := h.fresh _ hb; omega), ho, fun b hb => (hg.own b hb).elim (fun h1 => h.fresh b h1) (fun h1 => Nat.lt_of_lt_of_le h.box.lt h1), hg.same h.same (fun b hb => Nat.le_of_lt (h.fresh b hb))⟩
theorem specEM_any (s e c l : Int) (w : World) :
    Calls Tryd.prog 11 #[.agg #[.int .i64 s, .int .i64 e, .int .i64 c, .int .i64 l]] w fun ex w' => ∃ a c', ex = .returned (.slice a (encM s e c l).length c') ∧ (∀ b, (Value.slice a (encM s e c l).length c').ownBlock = some b → w.heap.size ≤ b) ∧
      Own 0 5 .u8 w' (.slice a (encM s e c l).length c') (encM s e c l) ∧ Same w w' := by
  have HK0 := hid (sameA w [.int .i64 s, .int .i64 e, .int .i64 c, .int .i64 l] 25)
  have k1 := specMF_any s e c l (w.alloc (.cells #[.int .i64 s, .int .i64 e, .int .i64 c, .int .i64 l] 25))
  have b0 := Blk.new w #[.int .i64 s, .int .i64 e, .int .i64 c, .int .i64 l] 25
  by_cases hg : mF s e c l = 0
  · rw [hg] at k1
    rw [encM_yes hg, mB_length]
    obtain ⟨⟨hs1, hs2⟩, ⟨he1, he2⟩, hl1, hl2, hc2⟩ := mF_good hg
    clear hg
    go_enter Tryd.func11, Tryd.ntmps11
    go_wp2_with (go_at_call 8; (with_reducible refine k1.mono ?_); rintro ex w1 ⟨rfl, hk1⟩; have b1 := b0.same hk1; have HK1 := (show Hid (Same w w1) from HK0.out.trans hk1); clear hk1 b0 HK0)
    have hS : (fun wx : World => wx.cell? ⟨w.heap.size, 0, none⟩ = some (.int .i64 s) ∧ wx.cell? ⟨w.heap.size, 1, none⟩ = some (.int .i64 e)) w1.drew := ⟨b1.drew.cell 0, b1.drew.cell 1⟩
    refine wp_region_V ((fun wx : World => wx.cell? ⟨w.heap.size, 0, none⟩ = some (.int .i64 s) ∧ wx.cell? ⟨w.heap.size, 1, none⟩ = some (.int .i64 e))) 99 9 rfl (by kernel_rfl) ?_
    refine tk 2 10 hS ?_
    refine tk 3 11 hS ?_
    refine tk 5 13 hS ?_
    refine tk 6 14 hS ?_
    refine wpAnyV_one (i := 0) (by kernel_rfl) rfl (fun K hK => ?_)
    go_simp
    have hS : (fun wx : World => wx.cell? ⟨w.heap.size, 0, none⟩ = some (.int .i64 s) ∧ wx.cell? ⟨w.heap.size, 1, none⟩ = some (.int .i64 e)) (w1.alloc (.cells #[.int .u8 104, .int .u8 101, .int .u8 97, .int .u8 112] 5)).drew := ⟨(b1.same ((Kept.refl _ _).alloc _)).drew.cell 0, (b1.same ((Kept.refl _ _).alloc _)).drew.cell 1⟩
    refine hK.out _ _ (fun _ => hS) ?_
    clear hK K
    try simp only [Act.put, sA, s0, sS]
    have hcv : (convert 28 28 (.slice (some ⟨w1.heap.size, 0, none⟩) 4 4)).run Tryd.prog (w1.alloc (.cells #[.int .u8 104, .int .u8 101, .int .u8 97, .int .u8 112] 5)).drew = .ok (.slice (some ⟨w1.heap.size, 0, none⟩) 4 4) (w1.alloc (.cells #[.int .u8 104, .int .u8 101, .int .u8 97, .int .u8 112] 5 (4, 5))).drew := Go.Joins.run_convert_bytes_const_at w1.drew 28 5 #[.int .u8 104, .int .u8 101, .int .u8 97, .int .u8 112] 4 4 w1.heap.size rfl Tryd.underlying28 Tryd.underlying5
    refine wpAnyV_one (i := 1) (by kernel_rfl) rfl (fun K hK => ?_)
    go_simp
    clear hcv
    have hk2 : Same w1 (w1.alloc (.cells #[.int .u8 104, .int .u8 101, .int .u8 97, .int .u8 112] 5 (4, 5))).drew := ((Kept.refl _ _).alloc _).drew
    have hrd : Rd .u8 (w1.alloc (.cells #[.int .u8 104, .int .u8 101, .int .u8 97, .int .u8 112] 5 (4, 5))).drew (.slice (some ⟨w1.heap.size, 0, none⟩) hp4.length hp4.length) hp4 := by
      refine ⟨by decide, .inr ⟨w1.heap.size, 0, 4, rfl, by decide, fun i hi => ?_⟩⟩
      have hi : i < 4 := hi
      have hh := World.cell?_alloc_mark w1.drew #[.int .u8 104, .int .u8 101, .int .u8 97, .int .u8 112] 5 (4, 5) (0 + i)
      refine hh.trans ?_
      match i, hi with
      | 0, _ => rfl
      | 1, _ => rfl
      | 2, _ => rfl
      | 3, _ => rfl
    have b2 := b1.same hk2
    have HK2 := hid (HK1.out.trans hk2)
    obtain ⟨w2, hw2⟩ : ∃ w2, (w1.alloc (.cells #[.int .u8 104, .int .u8 101, .int .u8 97, .int .u8 112] 5 (4, 5))).drew = w2 := ⟨_, rfl⟩
    rw [hw2] at b2 HK2 hrd ⊢
    have hz2 := b2.lt
    clear hw2 hk2 HK1 b1
    have hS : (fun wx : World => wx.cell? ⟨w.heap.size, 0, none⟩ = some (.int .i64 s) ∧ wx.cell? ⟨w.heap.size, 1, none⟩ = some (.int .i64 e)) w2 := ⟨b2.cell 0, b2.cell 1⟩
    refine hK.out _ _ (fun _ => hS) ?_
    clear hK K
    try simp only [Act.put, sA, s0, sS]
    refine wpAnyV_one (i := 4) (by kernel_rfl) rfl (fun K hK => ?_)
    go_simp
    have hq := l4Put_first w1.heap.size hp4 s 8 w2 (by unfold IsI; omega) (by unfold IsI; omega) (by decide) (by rw [numB8 s (by omega) (by omega), lows_length]; decide) (by decide) hrd
    refine hq.mono ?_
    rintro ex w3 ⟨a3, n3, c3, rfl, hown, hfr, hk3⟩
    rw [numB8 s (by omega) (by omega)] at hown
    have HO3 := (show Hid (OutS w w3 s e c l (.slice a3 n3 c3) (hp4 ++ lows s 8)) from ⟨b2.same hk3, hown, fun b hb => by have := hfr b hb; omega, HK2.out.trans hk3⟩)
    have hS : (fun wx : World => wx.cell? ⟨w.heap.size, 0, none⟩ = some (.int .i64 s) ∧ wx.cell? ⟨w.heap.size, 1, none⟩ = some (.int .i64 e)) w3 := ⟨HO3.out.box.cell 0, HO3.out.box.cell 1⟩
    clear hq hown hfr hk3 hrd b2 HK2
    refine hK.out _ _ (fun _ => hS) ?_
    clear hK K
    try simp only [Act.put, sA, s0, sS]
    refine wpAnyV_one (i := 7) (by kernel_rfl) rfl (fun K hK => ?_)
    go_simp
    refine (l4Put_own _ (hp4 ++ lows s 8) e 4 _ (by unfold IsI; omega) (by unfold IsI; omega) (by simp [hp4, lows_length]) HO3.out.own).mono ?_
    rintro ex w4 ⟨a4, n4, c4, rfl, hown, hgr⟩
    rw [numB4' e (by omega) (by omega)] at hown
    have HO4 := (show Hid (OutS w w4 s e c l (.slice a4 n4 c4) (hp4 ++ lows s 8 ++ lows e 4)) from HO3.out.next hgr hown)
    have hS : (fun wx : World => wx.cell? ⟨w.heap.size, 0, none⟩ = some (.int .i64 s) ∧ wx.cell? ⟨w.heap.size, 1, none⟩ = some (.int .i64 e)) w4 := ⟨HO4.out.box.cell 0, HO4.out.box.cell 1⟩
    clear hown hgr HO3
    refine hK.out _ _ (fun _ => hS) ?_
    clear hK K
    try simp only [Act.put, sA, s0, sS]
    refine wpAnyV_one (i := 8) (by kernel_rfl) rfl (fun K hK => ?_)
    go_simp
    refine hK.out _ _ (fun _ => hS) ?_
    clear hK K
    refine wpAnyV_done (by kernel_rfl) ?_
    try simp only [Act.put, sA, s0, sS]
    go_wp2_with fail
    have hS : (fun wx : World => wx.cell? ⟨w.heap.size, 2, none⟩ = some (.int .i64 c) ∧ wx.cell? ⟨w.heap.size, 3, none⟩ = some (.int .i64 l)) w4.drew := ⟨(HO4.out.on (Kept.refl _ _).drew).box.cell 2, (HO4.out.on (Kept.refl _ _).drew).box.cell 3⟩
    have HO5 := (show Hid (OutS w w4.drew s e c l (.slice a4 n4 c4) (hp4 ++ lows s 8 ++ lows e 4)) from HO4.out.on (Kept.refl _ _).drew)
    clear HO4
    refine wp_region_V ((fun wx : World => wx.cell? ⟨w.heap.size, 2, none⟩ = some (.int .i64 c) ∧ wx.cell? ⟨w.heap.size, 3, none⟩ = some (.int .i64 l))) 99 8 rfl (by kernel_rfl) ?_
    refine tk 0 16 hS ?_
    refine tk 1 17 hS ?_
    refine tk 2 18 hS ?_
    refine tk 4 20 hS ?_
    refine tk 5 21 hS ?_
    refine wpAnyV_one (i := 3) (by kernel_rfl) rfl (fun K hK => ?_)
    go_simp
    refine (l4Put_own _ (hp4 ++ lows s 8 ++ lows e 4) c 8 _ (by unfold IsI; omega) (by unfold IsI; omega) (by simp [hp4, lows_length]) HO5.out.own).mono ?_
    rintro ex w6 ⟨a6, n6, c6, rfl, hown, hgr⟩
    rw [numB8 c (by omega) (by omega)] at hown
    have HO6 := (show Hid (OutS w w6 s e c l (.slice a6 n6 c6) (hp4 ++ lows s 8 ++ lows e 4 ++ lows c 8)) from HO5.out.next hgr hown)
    have hS : (fun wx : World => wx.cell? ⟨w.heap.size, 2, none⟩ = some (.int .i64 c) ∧ wx.cell? ⟨w.heap.size, 3, none⟩ = some (.int .i64 l)) w6 := ⟨HO6.out.box.cell 2, HO6.out.box.cell 3⟩
    clear hown hgr HO5
    refine hK.out _ _ (fun _ => hS) ?_
    clear hK K
    try simp only [Act.put, sA, s0, sS]
    refine wpAnyV_one (i := 6) (by kernel_rfl) rfl (fun K hK => ?_)
    go_simp
    refine (l4Put_own _ (hp4 ++ lows s 8 ++ lows e 4 ++ lows c 8) l 8 _ (by unfold IsI; omega) (by unfold IsI; omega) (by simp [hp4, lows_length]) HO6.out.own).mono ?_
    rintro ex w7 ⟨a7, n7, c7, rfl, hown, hgr⟩
    rw [numB8 l (by omega) (by omega)] at hown
    have HO7 := (show Hid (OutS w w7 s e c l (.slice a7 n7 c7) (hp4 ++ lows s 8 ++ lows e 4 ++ lows c 8 ++ lows l 8)) from HO6.out.next hgr hown)
    have hS : (fun wx : World => wx.cell? ⟨w.heap.size, 2, none⟩ = some (.int .i64 c) ∧ wx.cell? ⟨w.heap.size, 3, none⟩ = some (.int .i64 l)) w7 := ⟨HO7.out.box.cell 2, HO7.out.box.cell 3⟩
    clear hown hgr HO6
    refine hK.out _ _ (fun _ => hS) ?_
    clear hK K
    try simp only [Act.put, sA, s0, sS]
    refine wpAnyV_one (i := 7) (by kernel_rfl) rfl (fun K hK => ?_)
    go_simp
    refine hK.out _ _ (fun _ => hS) ?_
    clear hK K
    refine wpAnyV_done (by kernel_rfl) ?_
    try simp only [Act.put, sA, s0, sS]
    have HH := (show Hid (OutS w w7 s e c l (.slice a7 n7 c7) (mH s e c l)) from HO7.out)
    clear HO7 hS
    obtain rfl : n7 = 32 := by obtain ⟨_, _, he⟩ := HH.out.own.rd.form; injection he
    have kc := specCrc_any (.slice a7 32 c7) (mH s e c l) w7 (mH_isB s e c l) (by rw [mH_length]; decide) HH.out.own.rd
    have hcr := crcOn_le 0 (mH s e c l) (by decide) (by decide) (mH_isB s e c l)
    go_wp2_with fail
    refine kc.mono ?_
    rintro ex w8 ⟨rfl, hk8⟩
    have HH8 := (show Hid (OutS w w8 s e c l (.slice a7 32 c7) (mH s e c l)) from HH.out.on hk8)
    clear kc hk8 HH
    go_wp2_with fail
    refine (l4Put_own _ (mH s e c l) (crcOn 0 (mH s e c l)) 4 _ (by unfold IsI; omega) (by unfold IsI; omega) (by rw [mH_length]; decide) HH8.out.own).mono ?_
    rintro ex w9 ⟨a9, n9, c9, rfl, hown, hgr⟩
    rw [numB4' _ hcr.1 hcr.2] at hown
    have HO9 := (show Hid (OutS w w9 s e c l (.slice a9 n9 c9) (mH s e c l ++ lows (crcOn 0 (mH s e c l)) 4)) from HH8.out.next hgr hown)
    clear hown hgr HH8
    obtain rfl : n9 = 36 := by obtain ⟨_, _, he⟩ := HO9.out.own.rd.form; injection he
    go_wp2_with (at_builtin; refine wpList_app_zeros rfl (.tmp 27) (.tmp 30) rfl (.slice a9 36 c9) (mH s e c l ++ lows (crcOn 0 (mH s e c l)) 4) 476 rfl rfl (by decide) HO9.out.own (by rw [List.length_append, mH_length, lows_length]; decide) ?_; intro a10 n10 c10 w10 hown hgr; have HO10 := (show Hid (OutS w w10 s e c l (.slice a10 n10 c10) (mB s e c l)) from HO9.out.next hgr hown); clear hown hgr)
    go_ret
    obtain rfl : n10 = 512 := by obtain ⟨_, _, he⟩ := HO10.out.own.rd.form; injection he
    exact ⟨a10, c10, rfl, fun b hb => Nat.le_of_lt (HO10.out.fresh b hb), HO10.out.own, HO10.out.same⟩
  · rw [encM_no hg]
    have hg' : ¬ mF s e c l = 0 := hg
    go_enter Tryd.func11, Tryd.ntmps11
    go_wp2_with (go_at_call 8; (with_reducible refine k1.mono ?_); rintro ex w1 ⟨rfl, hk1⟩; have HK1 := (show Hid (Same w w1) from HK0.out.trans hk1); clear hk1)
    go_ret
    refine ⟨_, _, rfl, fun b hb => ?_, Own.empty _ _, HK1.out.alloc _⟩
    have : w1.heap.size = b := by simpa [Value.ownBlock] using hb
    have := HK1.out.size
    omega
end Go.Proofs.YtaiiffgbjabjgaaDoor

namespace Go.Proofs.YtaiiffgbjabjgaaDoor
set_option maxRecDepth 100000
set_option maxHeartbeats 4000000
open Go.RowKit
set_option linter.unusedVariables false
set_option linter.unusedSimpArgs false
theorem encodeMaster_law (s e c l : Int) (a0 a1 a2 : Addr) (w : World) (hE : Errs w a0 a1 a2) : Calls Tryd.prog 4 #[.agg #[.int .i64 s, .int .i64 e, .int .i64 c, .int .i64 l]] w fun ex w' => ex = .returned (.bool true) ∧ Same w w' := by
  have HE := (show Hid (Errs w a0 a1 a2) from hE)
  clear hE
  have HK0 := hid (sameA w [.int .i64 s, .int .i64 e, .int .i64 c, .int .i64 l] 23)
  have b0 := Blk.new w #[.int .i64 s, .int .i64 e, .int .i64 c, .int .i64 l] 23
  have hl := encM_length s e c l
  go_enter Tryd.func4, Tryd.ntmps4
  go_wp2_with fail
  refine (toMaster_any s e c l _).mono ?_
  rintro ex w1 ⟨rfl, hk⟩
  have HK1 := (show Hid (Same w w1) from HK0.out.trans hk)
  have b1 := b0.same hk
  clear hk HK0 b0
  go_wp2_with fail
  refine (specEM_any s e c l _).mono ?_
  rintro ex w2 ⟨aW, cW, rfl, hf, ho, hk⟩
  obtain ⟨r0, hR⟩ : ∃ r, encM s e c l = r := ⟨_, rfl⟩
  have HR : Hid (encM s e c l = r0) := hR
  rw [hR] at hf ho hl ⊢
  clear hR
  have HK2 := (show Hid (Same w w2) from HK1.out.trans hk)
  have b2 := b1.same hk
  have HW := (show Hid (Own 0 5 .u8 w2 (.slice aW r0.length cW) r0) from ho)
  have HFW := (show Hid (∀ b, (Value.slice aW r0.length cW).ownBlock = some b → b < w2.heap.size) from fun b hb => (ho.lt b hb).2)
  clear hk HK1 b1 hf ho
  obtain ⟨d0, d1, d2, d3⟩ := b2.all4
  go_wp2_with fail
  refine (toMaster_any s e c l _).mono ?_
  rintro ex w3 ⟨rfl, hk⟩
  have HK3 := (show Hid (Same w w3) from HK2.out.trans hk)
  have b3 := b2.same hk
  have HW3 := (show Hid (Own 0 5 .u8 w3 (.slice aW r0.length cW) r0) from HW.out.same hk)
  have hz3 := hk.size
  clear hk HK2 b2 HW d0 d1 d2 d3
  go_wp2_with fail
  refine (implEM_any s e c l a0 a1 a2 _ (HE.out.same HK3.out)).mono ?_
  rintro ex w4 ⟨aG, cG, rfl, hf, ho, hk⟩
  rw [HR.out] at hf ho ⊢
  have HK4 := (show Hid (Same w w4) from HK3.out.trans hk)
  have b4 := b3.same hk
  have hlt := b3.lt
  have HW4 := (show Hid (Own 0 5 .u8 w4 (.slice aW r0.length cW) r0) from HW3.out.same hk)
  have HG4 := (show Hid (Own 0 62 .u8 w4 (.slice aG r0.length cG) r0) from ho)
  have HFG := (show Hid (∀ b, (Value.slice aG r0.length cG).ownBlock = some b → w2.heap.size ≤ b ∧ w.heap.size < b) from fun b hb => by have := hf b hb; omega)
  clear hk HK3 b3 HW3 hf ho
  go_wp2_with fail
  refine (eqByteS_own 0 _ _ r0 _ (by omega) HG4.out HW4.out).mono ?_
  rintro ex w5 ⟨rfl, nn, hww⟩
  have hk : Same w4 w5 := by rw [hww]; exact (Kept.refl _ _).drewN _
  clear hww
  have HK5 := (show Hid (Same w w5) from HK4.out.trans hk)
  have b5 := b4.same hk
  have HW5 := (show Hid (Own 0 5 .u8 w5 (.slice aW r0.length cW) r0) from HW4.out.same hk)
  have HG5 := hid (HG4.out.same hk)
  clear hk HK4 b4 HW4 HG4
  go_wp2_with fail
  refine (markByteS_own 0 _ r0 1 _ (by omega) (by omega) (by omega) HG5.out).mono ?_
  rintro ex w6 ⟨rfl, ho, hk⟩
  have HK6 := (show Hid (Same w w6) from HK5.out.next hk (fun b hb e => by have := HFG.out _ e; omega))
  have b6 := b5.kept hk (fun e => by have := HFG.out _ e; omega)
  have HW6 := (show Hid (Own 0 5 .u8 w6 (.slice aW r0.length cW) r0) from HW5.out.kept hk (fun b hb e => by have h1 := HFG.out _ e; have h2 := HFW.out _ hb; omega))
  have HG6 := (show Hid (Own 0 62 .u8 w6 (.slice aG r0.length cG) (marks 1 r0.length)) from ho)
  clear hk HK5 b5 HW5 HG5 ho
  go_wp2_with fail
  refine (heldByteS_own 0 _ r0.length 1 _ (by omega) (by omega) (by omega) HG6.out).mono ?_
  rintro ex w7 ⟨rfl, rfl⟩
  obtain ⟨d0, d1, d2, d3⟩ := b6.all4
  go_wp2_with fail
  refine (toMaster_any s e c l _).mono ?_
  rintro ex w8 ⟨rfl, hk⟩
  have HK8 := (show Hid (Same w w8) from HK6.out.trans hk)
  have HW8 := (show Hid (Own 0 5 .u8 w8 (.slice aW r0.length cW) r0) from HW6.out.same hk)
  have HG8 := hid (HG6.out.same hk)
  clear hk HK6 b6 HW6 HG6 d0 d1 d2 d3
  go_wp2_with fail
  refine (implEM_any s e c l a0 a1 a2 _ (HE.out.same HK8.out)).mono ?_
  rintro ex w9 ⟨aH, cH, rfl, hf, ho, hk⟩
  rw [HR.out] at hf ho ⊢
  have HK9 := (show Hid (Same w w9) from HK8.out.trans hk)
  have HW9 := (show Hid (Own 0 5 .u8 w9 (.slice aW r0.length cW) r0) from HW8.out.same hk)
  have HG9 := hid (HG8.out.same hk)
  have HH9 := (show Hid (Own 0 62 .u8 w9 (.slice aH r0.length cH) r0) from ho)
  clear hk HK8 HW8 HG8 hf ho
  go_wp2_with fail
  refine (eqByteS_own 0 _ _ r0 _ (by omega) HH9.out HW9.out).mono ?_
  rintro ex w10 ⟨rfl, nn, hww⟩
  have hk : Same w9 w10 := by rw [hww]; exact (Kept.refl _ _).drewN _
  clear hww
  have HK10 := (show Hid (Same w w10) from HK9.out.trans hk)
  have HG10 := hid (HG9.out.same hk)
  clear hk HK9 HW9 HG9 HH9
  go_wp2_with fail
  refine (heldByteS_own 0 _ r0.length 1 _ (by omega) (by omega) (by omega) HG10.out).mono ?_
  rintro ex w11 ⟨rfl, rfl⟩
  go_wp2
  go_ret
  exact ⟨rfl, HK10.out⟩
end Go.Proofs.YtaiiffgbjabjgaaDoor

namespace Go.Proofs.YtaiiffgbjabjgaaDoor.fnExactEncodeMaster
open Go.ChangeShapes Go.WideShapes Go.ChangeAt Go.RowKit
set_option linter.unusedVariables false
theorem own : ownKnob Tryd.prog.godebug = none := by kernel_rfl
theorem laidOut : laidOutB Tryd.prog = true := by kernel_rfl
set_option maxRecDepth 100000 in
theorem lifted (os : Os) (started : os.Started) (H : Type) (enc : TypeId × Value → H) :
    ReturnsInHanded {} Tryd.checked os 4 .any (fun w args => (Rows.fnExactEncodeMasterSpec.pre enc Tryd.prog Tryd.f4 [] false w args ∧ laidMetH Tryd.prog [L0, L1, L2] w) ∧ sizedMet enc Tryd.prog Tryd.f4 (OpenSpec.ofChange Rows.fnExactEncodeMasterSpec) false w args)
      (Rows.fnExactEncodeMasterSpec.post enc Tryd.prog Tryd.f4 false true false false) := by
  refine returnsInHanded_of_change_and (C := Tryd.checked) (X := fun w _ => laidMetH Tryd.prog [L0, L1, L2] w) (fun _ _ _ hh h => h.of_heap hh) own started (by kernel_rfl) Tryd.func4
    (ChangeSpec.witness_at (enc := enc) (C := Tryd.checked) (os := os) (X := fun w _ => laidMetH Tryd.prog [L0, L1, L2] w) false (laidWorld os) #[.agg #[.int .i64 0, .int .i64 0, .int .i64 0, .int .i64 0]] 8 rfl (by kernel_rfl) (by kernel_rfl) (by kernel_rfl) (by kernel_rfl) (by kernel_rfl) (laid_met3 os _)) ?_
  intro W base args ds gs before hval0 hW _ _ hL _
  have hval : ∀ (j : Nat) t v, Tryd.f4.params[j]? = some t → args[j]? = some v → Value.okWide Tryd.prog W .any base t v := hval0
  have hW' := hW
  obtain ⟨p, q, hA0, hV0, rfl, hfz, hnd⟩ := hW
  have hA : DataW.TrodAll enc Tryd.prog W 0 (fun _ => true) true Tryd.f4.params.toList args.toList ds p := hA0
  have hL' : laidMet Tryd.prog [L0, L1, L2] W := hL
  obtain ⟨a0, a1, a2, hv0, hv1, hv2, hE⟩ := laid3 hL'
  have hV : DataW.TrodVars enc Tryd.prog W (fun _ => true) [L0.1, L1.1, L2.1] gs q := hV0
  obtain ⟨rfl, rfl⟩ := hV.unique (vars3 enc hv0 hv1 hv2 _)
  rw [Tryd.params4] at hA hval
  obtain ⟨v0, vs0, d0, ds0, p0, q0, hargs, rfl, rfl, h0, r0⟩ := trodAll_cons hA
  obtain ⟨rfl, rfl, rfl⟩ := trodAll_nil r0
  obtain rfl : args = #[v0] := by cases args; simp_all
  have k0 := h0
  have lt0 : ∀ x ∈ p0, x.block < W.heap.size := by obtain ⟨m, hm⟩ := k0; exact DataW.trod_lt m _ _ _ hm
  obtain ⟨s, e, c, l, rfl⟩ := open_master (hval 0 23 v0 rfl rfl) h0
  clear hA0 hval0
  refine (encodeMaster_law s e c l a0 a1 a2 W (hE.errs) ).mono fun ex W' ⟨he, hk⟩ => ?_
  have bel : Below W.heap.size W W' := hk.below (Nat.le_refl _) (fun _ _ => id)
  subst he
  exact ⟨_, rfl, _, _, _, [], _, _, hW', trodAll_mk1 (shut_bool Tryd.underlying4 _), (trodAll_cons_mk (Below.trod laidOut (by kernel_rfl) (of_decide_eq_true (by kernel_rfl)) k0 bel lt0) trodAll_mk0), vars3 enc (var_same hk hv0) (var_same hk hv1) (var_same hk hv2) _, bel.frame _, fun h => by cases h⟩
theorem over : Rows.fnExactEncodeMasterRow.holds Tryd.pinned (OpenSpec.ofChange Rows.fnExactEncodeMasterSpec) :=
  OpenClaim.holds_of_wide 4 Tryd.f4 rfl rfl rfl rfl rfl rfl rfl ⟨rfl, rfl, rfl, rfl, rfl⟩ rfl rfl rfl rfl rfl (by kernel_rfl) Tryd.func4 (by kernel_rfl)
    (of_decide_eq_true (by kernel_rfl)) (by unfold Func.isWrapper; first | (rw [if_pos (by decide +kernel)]; kernel_rfl) | (rw [if_neg (by decide +kernel)]; exact ⟨rfl, rfl⟩))
    (fun os started H enc _ => lifted os started H enc)
end Go.Proofs.YtaiiffgbjabjgaaDoor.fnExactEncodeMaster
namespace Go.Proofs.YtaiiffgbjabjgaaDoor
open Go
theorem encodeMaster_proved : Rows.FnExactEncodeMasterCardSaid :=
  Claim7.holds_tied_plain_at .later [] [.sentinel, .sentinel, .sentinel] true Rows.fnExactEncodeMasterCard.stood.harness true
    fnExactEncodeMaster.over (fun _ h => by cases h) (by kernel_rfl) (fun _ h => by cases h) fnExactEncodeMaster_row_tie rfl ⟨rfl, rfl⟩ (by kernel_rfl) rfl
    (fun f fn hf hfn => by
      obtain rfl : f = 4 := Option.some.inj ((show Tryd.prog.funcNamed "loop.example/s02544/laws.FnExactEncodeMaster" = some 4 by kernel_rfl).symm.trans hf) |>.symm
      obtain rfl : fn = Tryd.f4 := (Option.some.inj (Tryd.func4.symm.trans hfn)).symm
      exact ⟨by kernel_rfl, fun j t ht => by
        rw [Tryd.params4] at ht
        have h3 : t = 23 := by
          rcases j with _ | j
          · exact by simpa using ht.symm
          · simp at ht
        rcases h3 with rfl
        · exact (show Tryd.prog.wantsStandIn 23 = false by kernel_rfl)⟩)
    (by kernel_rfl)
#print axioms encodeMaster_proved
end Go.Proofs.YtaiiffgbjabjgaaDoor
