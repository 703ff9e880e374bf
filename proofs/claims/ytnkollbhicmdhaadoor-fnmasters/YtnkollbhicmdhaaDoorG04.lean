import Derived.Test.YtnkollbhicmdhaaDoorG02
import Derived.Test.YtnkollbhicmdhaaDoorG01
import Derived.Test.YtnkollbhicmdhaaDoorG00
import Derived.Test.YtnkollbhicmdhaaDoorProg
import Derived.Test.YtnkollbhicmdhaaDoorG03
import Derived.Deep.DeepCutAuto
import Derived.Laws.BytesArg
import Derived.WalkLawsBesides
import Derived.Deep.QuietTactic
import Derived.BigQuiet
import Derived.Deep.LoopGhost
import Derived.Laws.StructEq
namespace Go.Proofs.YtnkollbhicmdhaaDoor
set_option maxRecDepth 100000
set_option maxHeartbeats 8000000
set_option linter.unusedVariables false
set_option linter.unusedSimpArgs false
open Go.RowKit
def takeB (bs : List Int) (o n : Nat) : List Int := (List.range n).map (fun i => bs.getD (o + i) 0)
theorem takeB_length (bs : List Int) (o n : Nat) : (takeB bs o n).length = n := by simp [takeB]
theorem getD_over (bs : List Int) (i : Nat) (h : bs.length ≤ i) : bs.getD i 0 = 0 := by simp [List.getD, List.getElem?_eq_none h]
theorem getD_isB {bs : List Int} (h : IsB bs) (i : Nat) : 0 ≤ bs.getD i 0 ∧ bs.getD i 0 ≤ 255 := by
 by_cases hi : i < bs.length
 ·exact h.at i hi
 ·rw [getD_over _ _ (by omega)]; omega
theorem takeB_isB {bs : List Int} (h : IsB bs) (o n : Nat) : IsB (takeB bs o n) := fun y hy => by
 obtain ⟨i, _, rfl⟩ := List.mem_map.1 hy
 exact getD_isB h _
theorem takeB_in (bs : List Int) (o n : Nat) (h : o + n ≤ bs.length) : takeB bs o n = (bs.drop o).take n := by
 apply List.ext_getElem (by simp [takeB]; omega)
 intro i h1 h2
 rw [takeB_length] at h1
 simp [takeB, List.getD, List.getElem?_eq_getElem (show o + i < bs.length by omega)]
def tkUp (bs : List Int) (o n k : Nat) : List Int := takeB bs o k ++ List.replicate (n - k) 0
theorem tkUp_length (bs : List Int) (o n k : Nat) (h : k ≤ n) : (tkUp bs o n k).length = n := by simp [tkUp, takeB_length]; omega
theorem tkUp_step (bs : List Int) (o n k : Nat) (h : k < n) : (tkUp bs o n k).set k (bs.getD (o + k) 0) = tkUp bs o n (k + 1) := by
 unfold tkUp
 rw [List.set_append_right _ _ (by simp [takeB_length]), takeB_length, Nat.sub_self, show n - k = (n - (k + 1)) + 1 from by omega, List.replicate_succ, List.set_cons_zero]
 simp [takeB, List.range_succ]
theorem tkUp_skip (bs : List Int) (o n k : Nat) (h : k < n) (hb : bs.length ≤ o + k) : tkUp bs o n k = tkUp bs o n (k + 1) := by
 rw [← tkUp_step _ _ _ _ h]
 unfold tkUp
 rw [List.set_append_right _ _ (by simp [takeB_length]), takeB_length, Nat.sub_self, show n - k = (n - (k + 1)) + 1 from by omega, List.replicate_succ, List.set_cons_zero, getD_over _ _ hb]
theorem tkUp_zero (bs : List Int) (o n : Nat) : tkUp bs o n 0 = List.replicate n 0 := by simp [tkUp, takeB]
theorem tkUp_all (bs : List Int) (o n : Nat) : tkUp bs o n n = takeB bs o n := by simp [tkUp]
theorem l4Take_any (P : Nat) (v : Value) (bs : List Int) (o n : Nat) (w : World) (hn : n ≤ 1048576) (ho : o ≤ 1099511627776) (hl : bs.length ≤ 1099511627776) (hp : Blk w P 83 [v, .int .i64 o]) (hv : Rd .u8 w v bs) :
  Calls Tryd.prog 76 #[.pointer (some ⟨P, 0, none⟩), .int .i64 n] w fun e w' => ∃ g, e = .returned (.slice (some ⟨g, 0, none⟩) n n) ∧ w.heap.size ≤ g ∧ Own 0 5 .u8 w' (.slice (some ⟨g, 0, none⟩) n n) (takeB bs o n) ∧ Blk w' P 83 [v, .int .i64 ((o + n : Nat) : Int)] ∧ Kept (fun b => b = P) w w' := by
 obtain ⟨i0, hi, hz0, hz1, hz2⟩ := info_parts Tryd.infoByte'
 obtain ⟨a, c, rfl⟩ := hv.form
 have HV := (show Hid (Rd .u8 w (.slice a bs.length c) bs) from hv)
 have HP := (show Hid (Blk w P 83 [.slice a bs.length c, .int .i64 o]) from hp)
 have hPw := hp.lt
 clear hv hp
 go_enter Tryd.func76, Tryd.ntmps76
 go_wp2_with (at_make; refine wpList_make_full _ rfl (.tmp 7) (.tmp 7) 22 rfl 0 5 i0 (.int .u8 0) 1 Tryd.underlying22 hi hz0 hz1 .i64 .i64 _ _ n rfl rfl (by simp) (by simp) (by rw [hz2]; omega) (by unfold maxLen; omega) (Nat.zero_le _) ?_; intro w1 hown1 hgrow1; have HO : Hid (Own 0 5 .u8 w1 (.slice (some ⟨w.heap.size, 0, none⟩) n n) (List.replicate n 0)) := own_made (by simpa using hown1); have HK : Hid (Same w w1) := Kept.of_grown hgrow1 (fun k e => by cases e); clear hown1 hgrow1)
 go_loopw [6] (fun i wr => ∃ (k : Nat), k ≤ n ∧ i = .int .i64 k ∧ Hid (Own 0 5 .u8 wr (.slice (some ⟨w.heap.size, 0, none⟩) n n) (tkUp bs o n k)) ∧ Hid (Same w wr)) (fun i _ => n - (intOf i).toNat)
 case atStart => exact ⟨0, Nat.zero_le _, rfl, by rw [tkUp_zero]; exact HO, HK⟩
 case round =>
  obtain ⟨k, hk, rfl, HOr, HKr⟩ := hrel
  by_cases hlt : k < n
  ·let Y2 : World → Prop := fun wx : World => wx.cell? ⟨P, 0, none⟩ = some (.slice a bs.length c) ∧ wx.cell? ⟨P, 1, none⟩ = some (.int .i64 o)
   have hS : Y2 wr.drew := ⟨(HP.out.same HKr.out.drew).cell 0, (HP.out.same HKr.out.drew).cell 1⟩
   go_wp2_with fail
   refine wp_region_V Y2 99 12 rfl (by kernel_rfl) ?_
   refine tk 0 14 hS ?_
   refine tk 1 15 hS ?_
   refine tk 2 16 hS ?_
   refine tk 3 17 hS ?_
   refine tk 4 18 hS ?_
   refine tk 5 19 hS ?_
   refine tk 6 20 hS ?_
   refine tk 7 21 hS ?_
   refine tk 8 22 hS ?_
   refine tk 9 23 hS ?_
   refine tk 10 24 hS ?_
   refine tk 11 25 hS ?_
   refine wpAnyV_done (by kernel_rfl) ?_
   rw [show IntKind.i64.wrap ((o : Int) + (k : Int)) = ((o + k : Nat) : Int) from by rw [IntKind.wrap_i64]; omega]
   clear hS
   by_cases hin : o + k < bs.length
   ·rw [show decide (((o + k : Nat) : Int) < (bs.length : Int)) = true from by simp; omega]
    obtain ⟨b, off, rfl, _⟩ := rd_some HV.out (by omega)
    have hsrc : w.cell? ⟨b, off + (o + k), none⟩ = some (.int .u8 (bs.getD (o + k) 0)) := by
     rcases HV.out.2 with ⟨rfl, _⟩ | ⟨b', o', c', he, _, hc⟩
     ·simp at hin
     ·injection he with he1
      injection he1 with he1
      injection he1 with e1 e2
      subst e1 e2
      exact hc _ hin
    let Y1 : World → Prop := fun wx : World => wx.cell? ⟨P, 0, none⟩ = some (.slice (some ⟨b, off, none⟩) bs.length c) ∧ wx.cell? ⟨P, 1, none⟩ = some (.int .i64 o) ∧ wx.cell? ⟨b, off + (o + k), none⟩ = some (.int .u8 (bs.getD (o + k) 0))
    have hS : Y1 wr.drew.drew := ⟨(HP.out.same HKr.out.drew.drew).cell 0, (HP.out.same HKr.out.drew.drew).cell 1, HKr.out.drew.drew.cellOf hsrc id⟩
    have HL : Hid (n = (tkUp bs o n k).length) := (tkUp_length _ _ _ _ hk).symm
    have HO2 := (show Hid (Own 0 5 .u8 wr.drew.drew (.slice (some ⟨w.heap.size, 0, none⟩) n n) (tkUp bs o n k)) from HOr.out.same (Kept.refl _ _).drew.drew)
    have q2 := HO2.out.frozen HL.out k
    have q3 := HO2.out.cell HL.out k hlt
    have hwr : IntKind.i64.wrap ((o : Int) + (k : Int)) = (o : Int) + (k : Int) := by rw [IntKind.wrap_i64]; omega
    have hw1 : 0 ≤ (o : Int) + (k : Int) := by omega
    have hw2 : (o : Int) + (k : Int) < (bs.length : Int) := by omega
    have hw3 : ((o : Int) + (k : Int)).toNat = o + k := by omega
    go_wp2_with fail
    refine wp_region_V Y1 15 16 rfl (by kernel_rfl) ?_
    refine tk 0 26 hS ?_
    refine tk 1 27 hS ?_
    refine tk 2 28 hS ?_
    refine tk 3 29 hS ?_
    refine tk 4 30 hS ?_
    refine tk 5 31 hS ?_
    refine tk 6 32 hS ?_
    refine tk 7 33 hS ?_
    refine tk 8 34 hS ?_
    refine tk 9 35 hS ?_
    refine tk 10 36 hS ?_
    refine tk 11 37 hS ?_
    refine tkV 12 38 (.pointer (some ⟨b, off + (o + k), none⟩)) hS ?_
    refine tk 13 39 hS ?_
    refine tk 14 40 hS ?_
    refine wpAnyV_one (i := 15) (by kernel_rfl) rfl (fun K hK => ?_)
    go_simp
    refine hK.out _ _ (fun h => absurd rfl h) ?_
    clear hK K
    refine wpAnyV_done (by kernel_rfl) ?_
    try simp only [Act.put, sA, s0, sS]
    have h := HOr.out.stored HL.out k (bs.getD (o + k) 0)
    rw [tkUp_step _ _ _ _ hlt] at h
    have HO3 := (show Hid (Own 0 5 .u8 (wr.setCell ⟨w.heap.size, k, none⟩ (.int .u8 (bs.getD (o + k) 0))).drew.drew (.slice (some ⟨w.heap.size, 0, none⟩) n n) (tkUp bs o n (k + 1))) from h.same (Kept.refl _ _).drew.drew)
    have HK3 := (show Hid (Same w (wr.setCell ⟨w.heap.size, k, none⟩ (.int .u8 (bs.getD (o + k) 0))).drew.drew) from (HKr.out.setCell (.inl (Nat.le_refl _)) _).drew.drew)
    clear h hS q2 q3 hsrc HO2 HL
    go_wp2
    go_roundw
    case rel => exact ⟨k + 1, by omega, by go_num, by simpa [hin, List.getD, Hid] using HO3, by simpa [hin, List.getD, Hid] using HK3⟩
    case measure => simp [intOf]; omega
   ·rw [show decide (((o + k : Nat) : Int) < (bs.length : Int)) = false from by simp; omega]
    go_wp2
    go_roundw
    case rel => exact ⟨k + 1, by omega, by go_num, by rw [← tkUp_skip _ _ _ _ hlt (by omega)]; exact HOr.out.same (Kept.refl _ _).drew, HKr.out.drew⟩
    case measure => simp [intOf]; omega
  ·obtain rfl : k = n := by omega
   have hb := HP.out.same HKr.out
   have d0 := hb.cell 0
   have d1 := hb.cell 1
   have f1 := hb.frozen 1
   simp only [List.getElem?_cons_zero, List.getElem?_cons_succ] at d0 d1
   go_wp2
   go_ret
   have hO := HOr.out
   rw [tkUp_all] at hO
   have hz := HKr.out.size
   have hb2 := hb.stored 1 (.int .i64 ((o : Int) + (k : Int)))
   refine ⟨w.heap.size, rfl, Nat.le_refl _, hO.kept (Kept.setCell (R := fun b => b = P) (Kept.refl _ _) (.inr rfl) _) (fun b hb' e => ?_), ?_, ?_⟩
   ·have : w.heap.size = b := by simpa [Value.ownBlock] using hb'
    omega
   ·rw [Int.natCast_add]
    exact hb2
   ·exact Kept.setCell (R := fun b => b = P) (HKr.out.mono (fun _ _ e => absurd e id)) (.inr rfl) _
theorem l4Number_any (P : Nat) (v : Value) (bs : List Int) (o n : Nat) (w : World) (hB : IsB bs) (hn : n ≤ 1048576) (ho : o ≤ 1099511627776) (hl : bs.length ≤ 1099511627776) (hp : Blk w P 83 [v, .int .i64 o]) (hv : Rd .u8 w v bs) :
  Calls Tryd.prog 52 #[.pointer (some ⟨P, 0, none⟩), .int .i64 n] w fun e w' => e = .returned (.int .i64 (getN (takeB bs o n))) ∧ Blk w' P 83 [v, .int .i64 ((o + n : Nat) : Int)] ∧ Kept (fun b => b = P) w w' := by
 have h1 := l4Take_any P v bs o n w hn ho hl hp hv
 have hTB := takeB_isB hB o n
 have hTL := takeB_length bs o n
 go_enter Tryd.func52, Tryd.ntmps52
 go_wp2_with fail
 refine h1.mono ?_
 rintro e w1 ⟨g, rfl, hg, ho1, hb1, hk1⟩
 have HB1 := (show Hid (Blk w1 P 83 [v, .int .i64 ((o + n : Nat) : Int)]) from hb1)
 have HK1 := (show Hid (Kept (fun b => b = P) w w1) from hk1)
 have HO1 := (show Hid (Own 0 5 .u8 w1 (.slice (some ⟨g, 0, none⟩) n n) (takeB bs o n)) from ho1)
 clear ho1 hb1 hk1 h1
 go_wp2_with fail
 refine (specGet_any _ (takeB bs o n) w1 hTB (by rw [hTL]; omega) HO1.out.rd).mono ?_
 rintro e w2 ⟨rfl, hk2⟩
 go_wp2
 go_ret
 exact ⟨rfl, HB1.out.same hk2, HK1.out.trans (hk2.mono (fun _ _ e => absurd e id))⟩
theorem conv_any {w : World} {v : Value} {bs : List Int} (h : Rd .u8 w v bs) : (convert 22 9 v).run Tryd.prog w = .ok (.string (strOfNums bs)) w := by
 rcases h.2 with ⟨rfl, a, c, rfl, _⟩ | ⟨b, off, c, rfl, _, hc⟩
 ·rw [run_convert_bytes_string w 22 9 5 _ 0 c (by kernel_rfl) (by kernel_rfl) (by kernel_rfl)]
  cases a <;> simp [Conv.bytesToString, loadCells]
  all_goals rfl
 ·exact run_convert_bytes_arg w 22 5 (by kernel_rfl) (by kernel_rfl) b off bs.length c bs rfl hc 9 (by kernel_rfl)
theorem strOfNums_inj : ∀ {xs bs : List Int}, IsB xs → IsB bs → strOfNums xs = strOfNums bs → xs = bs := by
 intro xs bs ha hb h
 have h2 : xs.map (fun n => UInt8.ofNat n.toNat) = bs.map (fun n => UInt8.ofNat n.toNat) := by
  have h3 := congrArg (fun s => s.data.toList) h
  simpa [strOfNums] using h3
 have hl : xs.length = bs.length := by have := congrArg List.length h2; simpa using this
 apply List.ext_getElem hl
 intro i h1 h4
 have h5 := congrArg (fun l => l[i]?) h2
 simp [h1, h4] at h5
 have h6 := ha _ (List.getElem_mem h1)
 have h7 := hb _ (List.getElem_mem h4)
 have h8 := congrArg UInt8.toNat h5
 simp at h8
 omega
theorem l1Same_any (va vb : Value) (xs bs : List Int) (w : World) (ha : IsB xs) (hb : IsB bs) (hra : Rd .u8 w va xs) (hrb : Rd .u8 w vb bs) :
  Calls Tryd.prog 53 #[va, vb] w fun e w' => e = .returned (.bool (decide (xs = bs))) ∧ Same w w' := by
 have h1 := conv_any hra
 have h2 := conv_any hrb
 clear hra hrb
 have HE := (show Hid (((strOfNums xs).toList == (strOfNums bs).toList) = decide (xs = bs)) from by
  by_cases h : xs = bs
  ·subst h
   show _ = _
   simp
  ·rw [decide_eq_false h]
   refine beq_eq_false_iff_ne.2 (fun e => h (strOfNums_inj ha hb ?_))
   rw [ByteArray.toList_eq, ByteArray.toList_eq] at e
   exact ByteArray.ext (Array.ext' e))
 generalize strOfNums xs = s at *
 generalize strOfNums bs = t at *
 clear ha hb
 go_enter Tryd.func53, Tryd.ntmps53
 go_wp2
 go_ret
 exact ⟨by rw [← HE.out]; rfl, Kept.refl _ _⟩
def mS (bs : List Int) : Int := getN (takeB bs 4 8)
def mE (bs : List Int) : Int := getN (takeB bs 12 4)
def mC (bs : List Int) : Int := getN (takeB bs 16 8)
def mL (bs : List Int) : Int := getN (takeB bs 24 8)
def mGood (bs : List Int) : Bool := decide (mF (mS bs) (mE bs) (mC bs) (mL bs) = 0) && decide (encM (mS bs) (mE bs) (mC bs) (mL bs) = bs)
def resV (g : Bool) (sl s e c l : Int) : Value := .agg #[.bool g, .int .i64 sl, .int .i64 s, .int .i64 e, .int .i64 c, .int .i64 l]
def decV (bs : List Int) : Value := if mGood bs = true then resV true 0 (mS bs) (mE bs) (mC bs) (mL bs) else resV false 0 0 0 0 0
theorem decV_yes {bs : List Int} (h : mGood bs = true) : decV bs = resV true 0 (mS bs) (mE bs) (mC bs) (mL bs) := if_pos h
theorem decV_no {bs : List Int} (h : mGood bs = false) : decV bs = resV false 0 0 0 0 0 := if_neg (by rw [h]; decide)
theorem encM_isB (s e c l : Int) : IsB (encM s e c l) := by
 unfold encM
 split
 ·exact mB_isB _ _ _ _
 ·intro y hy; cases hy
theorem specDec_any (v : Value) (bs : List Int) (w : World) (hB : IsB bs) (hn : bs.length ≤ 1099511627776) (hv : Rd .u8 w v bs) :
  Calls Tryd.prog 19 #[v] w fun ex w' => ex = .returned (decV bs) ∧ Same w w' := by
 have HV := (show Hid (Rd .u8 w v bs) from hv)
 obtain ⟨a, c, rfl⟩ := hv.form
 clear hv
 have hb0 : Blk ((w.alloc (.cells #[.bool false, .int .i64 0, .int .i64 0, .int .i64 0, .int .i64 0, .int .i64 0] 30)).alloc (.cells #[.slice a bs.length c, .int .i64 4] 83)) w.heap.size 30 #[.bool false, .int .i64 0, .int .i64 0, .int .i64 0, .int .i64 0, .int .i64 0].toList := (Blk.new w #[.bool false, .int .i64 0, .int .i64 0, .int .i64 0, .int .i64 0, .int .i64 0] 30).same ((Kept.refl _ _).alloc _)
 have hp0 : Blk ((w.alloc (.cells #[.bool false, .int .i64 0, .int .i64 0, .int .i64 0, .int .i64 0, .int .i64 0] 30)).alloc (.cells #[.slice a bs.length c, .int .i64 4] 83)) (w.heap.size + 1) 83 [.slice a bs.length c, .int .i64 ((4 : Nat) : Int)] := by have h := Blk.new (w.alloc (.cells #[.bool false, .int .i64 0, .int .i64 0, .int .i64 0, .int .i64 0, .int .i64 0] 30)) #[.slice a bs.length c, .int .i64 4] 83; rwa [World.size_alloc] at h
 have hk0 : Same w ((w.alloc (.cells #[.bool false, .int .i64 0, .int .i64 0, .int .i64 0, .int .i64 0, .int .i64 0] 30)).alloc (.cells #[.slice a bs.length c, .int .i64 4] 83)) := ((Kept.refl _ _).alloc _).alloc _
 have HK0 := (show Hid (Same w _) from hk0)
 have HB0 := (show Hid (Blk ((w.alloc (.cells #[.bool false, .int .i64 0, .int .i64 0, .int .i64 0, .int .i64 0, .int .i64 0] 30)).alloc (.cells #[.slice a bs.length c, .int .i64 4] 83)) w.heap.size 30 #[.bool false, .int .i64 0, .int .i64 0, .int .i64 0, .int .i64 0, .int .i64 0].toList) from hb0)
 have HP0 := (show Hid (Blk ((w.alloc (.cells #[.bool false, .int .i64 0, .int .i64 0, .int .i64 0, .int .i64 0, .int .i64 0] 30)).alloc (.cells #[.slice a bs.length c, .int .i64 4] 83)) (w.heap.size + 1) 83 [.slice a bs.length c, .int .i64 ((4 : Nat) : Int)]) from hp0)
 clear hk0 hb0 hp0
 go_enter Tryd.func19, Tryd.ntmps19
 go_wp2_with fail
 refine (l4Number_any (w.heap.size + 1) (.slice a bs.length c) bs 4 8 _ hB (by omega) (by omega) hn HP0.out (HV.out.same HK0.out)).mono ?_
 rintro ex w1 ⟨rfl, hp, hk⟩
 have HK1 := (show Hid (Same w w1) from HK0.out.next hk (fun b hb e => by omega))
 have HB1 := (show Hid (Blk w1 w.heap.size 30 #[.bool false, .int .i64 0, .int .i64 0, .int .i64 0, .int .i64 0, .int .i64 0].toList) from HB0.out.kept hk (by omega))
 have HP1 := (show Hid (Blk w1 (w.heap.size + 1) 83 [.slice a bs.length c, .int .i64 ((12 : Nat) : Int)]) from hp)
 rw [show getN (takeB bs 4 8) = mS bs from rfl]
 clear hp hk HK0 HB0 HP0
 go_wp2_with fail
 refine (l4Number_any (w.heap.size + 1) (.slice a bs.length c) bs 12 4 _ hB (by omega) (by omega) hn HP1.out (HV.out.same HK1.out)).mono ?_
 rintro ex w2 ⟨rfl, hp, hk⟩
 have HK2 := (show Hid (Same w w2) from HK1.out.next hk (fun b hb e => by omega))
 have HB2 := (show Hid (Blk w2 w.heap.size 30 #[.bool false, .int .i64 0, .int .i64 0, .int .i64 0, .int .i64 0, .int .i64 0].toList) from HB1.out.kept hk (by omega))
 have HP2 := (show Hid (Blk w2 (w.heap.size + 1) 83 [.slice a bs.length c, .int .i64 ((16 : Nat) : Int)]) from hp)
 rw [show getN (takeB bs 12 4) = mE bs from rfl]
 clear hp hk HK1 HB1 HP1
 go_wp2_with fail
 have hz2 := HP2.out.lt
 obtain ⟨wM, hwM⟩ : ∃ wM, w2.alloc (.cells #[.int .i64 (mS bs), .int .i64 (mE bs), .int .i64 0, .int .i64 0] 28) = wM := ⟨_, rfl⟩
 have hkM : Same w2 wM := by rw [← hwM]; exact (Kept.refl _ _).alloc _
 have HMm := (show Hid (Blk wM w2.heap.size 28 [.int .i64 (mS bs), .int .i64 (mE bs), .int .i64 0, .int .i64 0]) from by rw [← hwM]; exact Blk.new w2 _ _)
 have HKm := hid (HK2.out.trans hkM)
 have HBm := hid (HB2.out.same hkM)
 have HPm := hid (HP2.out.same hkM)
 clear hkM HK2 HB2 HP2
 rw [hwM]
 clear hwM
 refine (l4Number_any (w.heap.size + 1) (.slice a bs.length c) bs 16 8 _ hB (by omega) (by omega) hn HPm.out (HV.out.same HKm.out)).mono ?_
 rintro ex w3 ⟨rfl, hp, hk⟩
 rw [show getN (takeB bs 16 8) = mC bs from rfl]
 have hM3 : Blk w3 w2.heap.size 28 [.int .i64 (mS bs), .int .i64 (mE bs), .int .i64 0, .int .i64 0] := HMm.out.kept hk (by omega)
 have d2 := hM3.c2
 have f2 := hM3.frozen 2
 have hks : Kept (fun b => b = w2.heap.size) w3 (w3.setCell ⟨w2.heap.size, 2, none⟩ (.int .i64 (mC bs))) := Kept.setCell (R := fun b => b = w2.heap.size) (Kept.refl _ _) (.inr rfl) _
 have HM4 := (show Hid (Blk (w3.setCell ⟨w2.heap.size, 2, none⟩ (.int .i64 (mC bs))) w2.heap.size 28 [.int .i64 (mS bs), .int .i64 (mE bs), .int .i64 (mC bs), .int .i64 0]) from hM3.stored 2 _)
 have HK4 := (show Hid (Same w (w3.setCell ⟨w2.heap.size, 2, none⟩ (.int .i64 (mC bs)))) from (HKm.out.next hk (fun b hb e => by omega)).next hks (fun b hb e => by omega))
 have HB4 := (show Hid (Blk (w3.setCell ⟨w2.heap.size, 2, none⟩ (.int .i64 (mC bs))) w.heap.size 30 #[.bool false, .int .i64 0, .int .i64 0, .int .i64 0, .int .i64 0, .int .i64 0].toList) from (HBm.out.kept hk (by omega)).kept hks (by omega))
 have HP4 := (show Hid (Blk (w3.setCell ⟨w2.heap.size, 2, none⟩ (.int .i64 (mC bs))) (w.heap.size + 1) 83 [.slice a bs.length c, .int .i64 ((24 : Nat) : Int)]) from Blk.kept hp hks (by omega))
 clear hp hk hks hM3 HKm HBm HPm HMm
 go_wp2_with fail
 refine (l4Number_any (w.heap.size + 1) (.slice a bs.length c) bs 24 8 _ hB (by omega) (by omega) hn HP4.out (HV.out.same HK4.out)).mono ?_
 rintro ex w5 ⟨rfl, hp, hk⟩
 rw [show getN (takeB bs 24 8) = mL bs from rfl]
 have hM5 : Blk w5 w2.heap.size 28 [.int .i64 (mS bs), .int .i64 (mE bs), .int .i64 (mC bs), .int .i64 0] := HM4.out.kept hk (by omega)
 have d3 := hM5.c3
 have f3 := hM5.frozen 3
 have hks : Kept (fun b => b = w2.heap.size) w5 (w5.setCell ⟨w2.heap.size, 3, none⟩ (.int .i64 (mL bs))) := Kept.setCell (R := fun b => b = w2.heap.size) (Kept.refl _ _) (.inr rfl) _
 have hM6 : Blk (w5.setCell ⟨w2.heap.size, 3, none⟩ (.int .i64 (mL bs))) w2.heap.size 28 [.int .i64 (mS bs), .int .i64 (mE bs), .int .i64 (mC bs), .int .i64 (mL bs)] := hM5.stored 3 _
 have HK6 := (show Hid (Same w (w5.setCell ⟨w2.heap.size, 3, none⟩ (.int .i64 (mL bs)))) from (HK4.out.next hk (fun b hb e => by omega)).next hks (fun b hb e => by omega))
 have HB6 := (show Hid (Blk (w5.setCell ⟨w2.heap.size, 3, none⟩ (.int .i64 (mL bs))) w.heap.size 30 #[.bool false, .int .i64 0, .int .i64 0, .int .i64 0, .int .i64 0, .int .i64 0].toList) from (HB4.out.kept hk (by omega)).kept hks (by omega))
 clear hp hk hks hM5 HK4 HB4 HP4 HM4 d2 f2
 obtain ⟨g0, g1, g2, g3⟩ := hM6.all4
 have HM6 := (show Hid (Blk (w5.setCell ⟨w2.heap.size, 3, none⟩ (.int .i64 (mL bs))) w2.heap.size 28 [.int .i64 (mS bs), .int .i64 (mE bs), .int .i64 (mC bs), .int .i64 (mL bs)]) from hM6)
 clear hM6
 have HG := (show Hid (mGood bs = (decide (mF (mS bs) (mE bs) (mC bs) (mL bs) = 0) && decide (encM (mS bs) (mE bs) (mC bs) (mL bs) = bs))) from rfl)
 have HEB := (show Hid (IsB (encM (mS bs) (mE bs) (mC bs) (mL bs))) from encM_isB _ _ _ _)
 have HD1 := (show Hid (mGood bs = true → decV bs = resV true 0 (mS bs) (mE bs) (mC bs) (mL bs)) from decV_yes)
 have HD0 := (show Hid (mGood bs = false → decV bs = resV false 0 0 0 0 0) from decV_no)
 by_cases hf : mF (mS bs) (mE bs) (mC bs) (mL bs) = 0
 ·by_cases he : encM (mS bs) (mE bs) (mC bs) (mL bs) = bs
  ·have HQ : Hid (encM (mS bs) (mE bs) (mC bs) (mL bs) = bs) := he
   clear he
   go_wp2_with fail
   refine (specMF_any (mS bs) (mE bs) (mC bs) (mL bs) _).mono ?_
   rintro ex w7 ⟨rfl, hk⟩
   have HK7 := hid (HK6.out.trans hk)
   have b7 := HB6.out.same hk
   have m7 := HM6.out.same hk
   clear hk HK6 HB6 HM6 g0 g1 g2 g3 d3 f3
   rw [hf]
   obtain ⟨g0, g1, g2, g3⟩ := m7.all4
   go_wp2_with fail
   refine (specEM_any (mS bs) (mE bs) (mC bs) (mL bs) _).mono ?_
   rintro ex w8 ⟨aE, cE, rfl, hfr, ho, hk⟩
   have HK8 := hid (HK7.out.trans hk)
   have b8 := b7.same hk
   have m8 := m7.same hk
   have HO8 := (show Hid (Rd .u8 w8 (.slice aE (encM (mS bs) (mE bs) (mC bs) (mL bs)).length cE) (encM (mS bs) (mE bs) (mC bs) (mL bs))) from ho.rd)
   clear hk hfr ho HK7 b7 m7 g0 g1 g2 g3
   go_wp2_with fail
   refine (l1Same_any _ _ (encM (mS bs) (mE bs) (mC bs) (mL bs)) bs _ HEB.out hB HO8.out (HV.out.same HK8.out)).mono ?_
   rintro ex w9 ⟨rfl, hk⟩
   have HK9 := hid (HK8.out.trans hk)
   have b9 := b8.same hk
   have m9 := m8.same hk
   clear hk HK8 b8 m8 HO8
   rw [show decide (encM (mS bs) (mE bs) (mC bs) (mL bs) = bs) = true from decide_eq_true HQ.out]
   obtain ⟨g0, g1, g2, g3⟩ := m9.all4
   have z0 := b9.c0
   have z1 := b9.c1
   have z2 := b9.c2
   have z3 := b9.c3
   have z4 := b9.c4
   have z5 := b9.c5
   have fz := b9.frozen
   go_wp2
   refine bodyPost_ret (v := resV true 0 (mS bs) (mE bs) (mC bs) (mL bs)) (by simp [results, Tryd.results19, go_sem, resV, z0, z1, z2, z3, z4, z5]) rfl ⟨by rw [HD1.out (by rw [HG.out]; simp [hf, HQ.out])], ?_⟩
   (iterate 6 refine Kept.setCell ?_ (.inl (Nat.le_refl _)) _)
   exact HK9.out
  ·have HQ : Hid (¬ encM (mS bs) (mE bs) (mC bs) (mL bs) = bs) := he
   clear he
   go_wp2_with fail
   refine (specMF_any (mS bs) (mE bs) (mC bs) (mL bs) _).mono ?_
   rintro ex w7 ⟨rfl, hk⟩
   have HK7 := hid (HK6.out.trans hk)
   have b7 := HB6.out.same hk
   have m7 := HM6.out.same hk
   clear hk HK6 HB6 HM6 g0 g1 g2 g3 d3 f3
   rw [hf]
   obtain ⟨g0, g1, g2, g3⟩ := m7.all4
   go_wp2_with fail
   refine (specEM_any (mS bs) (mE bs) (mC bs) (mL bs) _).mono ?_
   rintro ex w8 ⟨aE, cE, rfl, hfr, ho, hk⟩
   have HK8 := hid (HK7.out.trans hk)
   have b8 := b7.same hk
   have m8 := m7.same hk
   have HO8 := (show Hid (Rd .u8 w8 (.slice aE (encM (mS bs) (mE bs) (mC bs) (mL bs)).length cE) (encM (mS bs) (mE bs) (mC bs) (mL bs))) from ho.rd)
   clear hk hfr ho HK7 b7 m7 g0 g1 g2 g3
   go_wp2_with fail
   refine (l1Same_any _ _ (encM (mS bs) (mE bs) (mC bs) (mL bs)) bs _ HEB.out hB HO8.out (HV.out.same HK8.out)).mono ?_
   rintro ex w9 ⟨rfl, hk⟩
   have HK9 := hid (HK8.out.trans hk)
   have b9 := b8.same hk
   have m9 := m8.same hk
   clear hk HK8 b8 m8 HO8
   rw [show decide (encM (mS bs) (mE bs) (mC bs) (mL bs) = bs) = false from decide_eq_false HQ.out]
   obtain ⟨g0, g1, g2, g3⟩ := m9.all4
   have z0 := b9.c0
   have z1 := b9.c1
   have z2 := b9.c2
   have z3 := b9.c3
   have z4 := b9.c4
   have z5 := b9.c5
   have fz := b9.frozen
   go_wp2
   refine bodyPost_ret (v := resV false 0 0 0 0 0) (by simp [results, Tryd.results19, go_sem, resV, z0, z1, z2, z3, z4, z5]) rfl ⟨by rw [HD0.out (by rw [HG.out]; simp [HQ.out])], ?_⟩
   (iterate 6 refine Kept.setCell ?_ (.inl (Nat.le_refl _)) _)
   exact HK9.out
 ·go_wp2_with fail
  refine (specMF_any (mS bs) (mE bs) (mC bs) (mL bs) _).mono ?_
  rintro ex w7 ⟨rfl, hk⟩
  have HK7 := hid (HK6.out.trans hk)
  have b7 := HB6.out.same hk
  have m7 := HM6.out.same hk
  clear hk HK6 HB6 HM6 g0 g1 g2 g3 d3 f3
  have z0 := b7.c0
  have z1 := b7.c1
  have z2 := b7.c2
  have z3 := b7.c3
  have z4 := b7.c4
  have z5 := b7.c5
  have fz := b7.frozen
  go_wp2
  refine bodyPost_ret (v := resV false 0 0 0 0 0) (by simp [results, Tryd.results19, go_sem, resV, z0, z1, z2, z3, z4, z5]) rfl ⟨by rw [HD0.out (by rw [HG.out]; simp [hf])], ?_⟩
  (iterate 6 refine Kept.setCell ?_ (.inl (Nat.le_refl _)) _)
  exact HK7.out
theorem all_range_ints : ∀ (xs ys : List Int), xs.length = ys.length → ((List.range xs.length).all fun i => xs.getD i 0 == ys.getD i 0) = (xs == ys)
 | [], [], _ => rfl
 | x :: xs, y :: ys, h => by
  have ih := all_range_ints xs ys (by simpa using h)
  rw [List.length_cons, List.range_succ_eq_map, List.all_cons, List.all_map]
  simp only [List.getD_cons_zero, Function.comp_def, List.getD_cons_succ, ih]
  simp [List.cons_beq_cons]
 | [], _ :: _, h => by simp at h
 | _ :: _, [], h => by simp at h
theorem run_equalIn_ints {P : Program} (w : World) (d : Nat) (t e : TypeId) (n : Nat) (ht : P.underlying t = some (.array n e)) (he : P.underlying e = some (.int .u8)) (hsz : ∀ w, (sizeOf e).run P w = .ok 1 w)
  (xs ys : List Int) (hx : xs.length = n) (hy : ys.length = n) :
  (Op.equalIn (d + 2) t (.agg (vals .u8 xs).toArray) (.agg (vals .u8 ys).toArray)).run P w = .ok (xs == ys) w := by
 rw [← all_range_ints xs ys (hx.trans hy.symm), hx, List.range_eq_range', Op.equalIn]
 simp only [Sem.run_bind, run_underlying ht, Result.andThen_ok, hsz, Std.Legacy.Range.forIn_eq_forIn_range', Std.Legacy.Range.size, Nat.sub_zero, Nat.add_sub_cancel, Nat.div_one]
 have hl : ∀ i ∈ List.range' 0 n 1, i < n := fun i hi => by simpa using (List.mem_range'_1.1 hi).2
 generalize List.range' 0 n 1 = l at hl ⊢
 induction l with
 | nil => simp
 | cons i l ih =>
  have hi : i < n := hl i (by simp)
  have px : (Go.part e (vals .u8 xs).toArray (i * 1)).run P w = .ok (.int .u8 (xs.getD i 0)) w := by
   simp [vals, Go.part, isAgg, run_underlying he, List.getD, List.getElem?_eq_getElem (show i < xs.length by omega)]
  have py : (Go.part e (vals .u8 ys).toArray (i * 1)).run P w = .ok (.int .u8 (ys.getD i 0)) w := by
   simp [vals, Go.part, isAgg, run_underlying he, List.getD, List.getElem?_eq_getElem (show i < ys.length by omega)]
  have pe : (Op.equalIn (d + 1) e (.int .u8 (xs.getD i 0)) (.int .u8 (ys.getD i 0))).run P w = .ok (xs.getD i 0 == ys.getD i 0) w := run_equalIn_int w d e .u8 .u8 _ _ he
  simp only [List.forIn_cons, Sem.run_bind, px, py, pe, Result.andThen_ok, List.all_cons]
  cases hb : (xs.getD i 0 == ys.getD i 0)
  ·simp
  ·simp only [Bool.not_true, Bool.false_eq_true, if_false, Sem.run_pure, Result.andThen_ok, Bool.true_and]
   exact ih fun j hj => hl j (by simp [hj])
theorem size_byte (w : World) : (sizeOf 5).run Tryd.prog w = .ok 1 w := by
 obtain ⟨i0, hi, hz0, hz1, hz2⟩ := info_parts Tryd.infoByte'
 simp [sizeOf, typeInfo, hi, hz1]
theorem Rd.cut {w : World} {b off c : Nat} {raw : List Int} (h : Rd .u8 w (.slice (some ⟨b, off, none⟩) raw.length c) raw) (x y : Nat) (hxy : x + y ≤ raw.length) :
  Rd .u8 w (.slice (some (if c = x then ⟨b, off, none⟩ else ⟨b, off + x, none⟩)) y (c - x)) ((raw.drop x).take y) := by
 have hl : ((raw.drop x).take y).length = y := by simp; omega
 rcases h.2 with ⟨rfl, _⟩ | ⟨b', off', c', he, hle, hc⟩
 ·simp at hxy
  obtain ⟨rfl, rfl⟩ := hxy
  exact ⟨by simp, .inl ⟨by simp, _, _, rfl, fun h => by cases h⟩⟩
 ·injection he with h1 h2 h3
  injection h1 with h1
  injection h1 with h1 h4
  subst h1 h4 h3
  by_cases h0 : y = 0
  ·subst h0
   exact ⟨by rw [hl]; simp, .inl ⟨by simp, _, _, rfl, fun h => by cases h⟩⟩
  ·rw [if_neg (by omega)]
   refine ⟨by have := h.1; omega, .inr ⟨b, off + x, c - x, by rw [hl], by omega, fun i hi => ?_⟩⟩
   rw [hl] at hi
   rw [Nat.add_assoc, hc (x + i) (by omega)]
   simp [List.getD, List.getElem?_take, List.getElem?_drop, hi]
theorem Rd.part {k : IntKind} {w : World} {b off n c : Nat} {bs : List Int} (h : ∀ i, i < bs.length → w.cell? ⟨b, off + i, none⟩ = some (.int k (bs.getD i 0))) (lo m : Nat) (hm : lo + m ≤ bs.length) (hn : n = m) (hc : m ≤ c) (hmax : m ≤ maxLen) :
  Rd k w (.slice (some ⟨b, off + lo, none⟩) n c) ((bs.drop lo).take m) := by
 have hl : ((bs.drop lo).take m).length = m := by simp; omega
 refine ⟨by omega, .inr ⟨b, off + lo, c, by rw [hn, hl], by rw [hl]; exact hc, fun i hi => ?_⟩⟩
 rw [hl] at hi
 have h1 := h (lo + i) (by omega)
 rw [← Nat.add_assoc] at h1
 rw [h1]
 simp [List.getD, hi]
end Go.Proofs.YtnkollbhicmdhaaDoor
