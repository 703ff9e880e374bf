import Derived.Test.YtjlkphhdbopmiaaGreatG05
import Derived.Test.YtjlkphhdbopmiaaGreatG06
import Derived.Test.YtjlkphhdbopmiaaGreatG04
import Derived.Test.YtjlkphhdbopmiaaGreatG03
import Derived.Test.YtjlkphhdbopmiaaGreatG01
import Derived.Laws.StructEq
import Derived.Deep.DeepCutAuto
import Derived.Laws.IdiomCopy
import Derived.Deep.MidRow
import Derived.Great.BuildSlice
namespace Go.Proofs.YtjlkphhdbopmiaaGreat
set_option linter.unusedVariables false
set_option linter.unusedSimpArgs false
set_option maxRecDepth 100000
set_option maxHeartbeats 16000000
open Go.RowKit
theorem all_range_ints : ∀ (xs ys : List Int), xs.length = ys.length → ((List.range xs.length).all fun i => xs.getD i 0 == ys.getD i 0) = (xs == ys)
 | [], [], _ => rfl
 | x :: xs, y :: ys, h => by
  have ih := all_range_ints xs ys (by simpa using h)
  rw [List.length_cons, List.range_succ_eq_map, List.all_cons, List.all_map]
  simp only [List.getD_cons_zero, Function.comp_def, List.getD_cons_succ, ih]
  simp [List.cons_beq_cons]
 | [], _ :: _, h => by simp at h
 | _ :: _, [], h => by simp at h
theorem run_equalIn_ints {P : Program} (w : World) (d : Nat) (t e : TypeId) (n : Nat) (ht : P.underlying t = some (.array n e)) (he : P.underlying e = some (.int .u8)) (hsz : ∀ w, (sizeOf e).run P w = .ok 1 w)
  (xs ys : List Int) (hx : xs.length = n) (hy : ys.length = n) :
  (Op.equalIn (d + 2) t (.agg (vals .u8 xs).toArray) (.agg (vals .u8 ys).toArray)).run P w = .ok (xs == ys) w := by
 rw [← all_range_ints xs ys (hx.trans hy.symm), hx, List.range_eq_range', Op.equalIn]
 simp only [Sem.run_bind, run_underlying ht, Result.andThen_ok, hsz, Std.Legacy.Range.forIn_eq_forIn_range', Std.Legacy.Range.size, Nat.sub_zero, Nat.add_sub_cancel, Nat.div_one]
 have hl : ∀ i ∈ List.range' 0 n 1, i < n := fun i hi => by simpa using (List.mem_range'_1.1 hi).2
 generalize List.range' 0 n 1 = l at hl ⊢
 induction l with
 | nil => simp
 | cons i l ih =>
  have hi : i < n := hl i (by simp)
  have px : (Go.part e (vals .u8 xs).toArray (i * 1)).run P w = .ok (.int .u8 (xs.getD i 0)) w := by
   simp [vals, Go.part, isAgg, run_underlying he, List.getD, List.getElem?_eq_getElem (show i < xs.length by omega)]
  have py : (Go.part e (vals .u8 ys).toArray (i * 1)).run P w = .ok (.int .u8 (ys.getD i 0)) w := by
   simp [vals, Go.part, isAgg, run_underlying he, List.getD, List.getElem?_eq_getElem (show i < ys.length by omega)]
  have pe : (Op.equalIn (d + 1) e (.int .u8 (xs.getD i 0)) (.int .u8 (ys.getD i 0))).run P w = .ok (xs.getD i 0 == ys.getD i 0) w := run_equalIn_int w d e .u8 .u8 _ _ he
  simp only [List.forIn_cons, Sem.run_bind, px, py, pe, Result.andThen_ok, List.all_cons]
  cases hb : (xs.getD i 0 == ys.getD i 0)
  ·simp
  ·simp only [Bool.not_true, Bool.false_eq_true, if_false, Sem.run_pure, Result.andThen_ok, Bool.true_and]
   exact ih fun j hj => hl j (by simp [hj])
theorem size_byte (w : World) : (sizeOf 5).run Tryz.prog w = .ok 1 w := by
 obtain ⟨i0, hi, hz0, hz1, hz2⟩ := info_parts Tryz.infoByte'
 simp [sizeOf, typeInfo, hi, hz1]
theorem run_neq_pages (w : World) (xs ys : List Int) (hx : xs.length = 4096) (hy : ys.length = 4096) : (binOp .neq 84 (.agg (vals .u8 xs).toArray) (.agg (vals .u8 ys).toArray)).run Tryz.prog w = .ok (.bool (xs != ys)) w := by
 rw [run_neq_struct, run_equalIn_ints w 9998 84 5 4096 Tryz.underlying84 Tryz.underlying5 size_byte xs ys hx hy]
 rfl
def pageWhole (bs : List Int) : Bool := bs.length == 4096 && sealB bs == bs
/-! ### A number and its bytes -/
theorem lows_add (k : Nat) : ∀ (v m : Nat), lows ((v + m * 256 ^ k : Nat) : Int) k = lows (v : Int) k := by
 induction k with
 | zero => intro v m; rfl
 | succ k ih =>
  intro v m
  have e1 : (v + m * 256 ^ (k + 1) : Nat) = v + (m * 256) * 256 ^ k := by rw [Nat.pow_succ, Nat.mul_comm (256 ^ k) 256, Nat.mul_assoc]
  simp only [lows]
  rw [e1, ih v (m * 256)]
  congr 1
  have h2 : (((v + m * 256 * 256 ^ k : Nat) : Int) / 256 ^ k) = (((v + m * 256 * 256 ^ k) / 256 ^ k : Nat) : Int) := by simp
  have h3 : ((v : Int) / 256 ^ k) = ((v / 256 ^ k : Nat) : Int) := by simp
  rw [h2, h3, Nat.add_mul_div_right _ _ (Nat.pow_pos (by decide))]
  omega
theorem lows_num (bs : List Int) (hb : IsB bs) : lows (num bs) bs.length = bs := by
 induction bs with
 | nil => rfl
 | cons b bs ih =>
  have hb' : IsB bs := fun y hy => hb y (by simp [hy])
  have h0 := hb b (by simp)
  have h1 := num_bound bs hb' bs.length (Nat.le_refl _)
  rw [List.take_length] at h1
  obtain ⟨n, hn⟩ : ∃ n : Nat, num bs = n := ⟨(num bs).toNat, by omega⟩
  obtain ⟨c, rfl⟩ : ∃ c : Nat, b = c := ⟨b.toNat, by omega⟩
  have ih' := ih hb'
  rw [num_cons, hn]
  rw [hn] at ih' h1
  have e3 : (256 : Int) ^ bs.length = ((256 ^ bs.length : Nat) : Int) := by simp
  rw [e3] at h1 ⊢
  have e : ((c : Int) * ((256 ^ bs.length : Nat) : Int) + (n : Int)) = ((n + c * 256 ^ bs.length : Nat) : Int) := by simp [Int.add_comm]
  rw [e, List.length_cons]
  simp only [lows]
  rw [lows_add, ih']
  congr 1
  have h2 : (((n + c * 256 ^ bs.length : Nat) : Int) / 256 ^ bs.length) = (((n + c * 256 ^ bs.length) / 256 ^ bs.length : Nat) : Int) := by simp
  rw [h2, Nat.add_mul_div_right _ _ (Nat.pow_pos (by decide)), Nat.div_eq_of_lt (by omega)]
  omega
theorem whole_iff (bs : List Int) (hb : IsB bs) (hl : bs.length = 4096) : (getN (bs.take 4) == crcOn 0 (bs.drop 4)) = (sealB bs == bs) := by
 have hsum := crcOn_le 0 (bs.drop 4) (by decide) (by decide) (isB_drop hb 4)
 have h4 : (bs.take 4).length = 4 := by simp; omega
 have hg : getN (bs.take 4) = num (bs.take 4) := by
  unfold getN
  rw [if_neg]
  have := getN_few (bs.take 4) (isB_take hb 4) (by omega)
  omega
 rw [hg, Bool.eq_iff_iff]
 simp only [beq_iff_eq]
 constructor
 ·intro h
  unfold sealB
  have := lows_num (bs.take 4) (isB_take hb 4)
  rw [h, h4] at this
  rw [this, List.take_append_drop]
 ·intro h
  have h5 : (sealB bs).take 4 = lows (crcOn 0 (bs.drop 4)) 4 := by
   unfold sealB
   rw [List.take_append_of_le_length (by rw [lows_length]; exact Nat.le_refl _), List.take_of_length_le (by rw [lows_length]; exact Nat.le_refl _)]
  rw [h] at h5
  rw [h5]
  obtain ⟨x, hx⟩ : ∃ x : Nat, crcOn 0 (bs.drop 4) = x := ⟨(crcOn 0 (bs.drop 4)).toNat, by omega⟩
  rw [hx, num_lows, Nat.mod_eq_of_lt (by rw [hx] at hsum; omega)]
def headBad (sum : List Int) (lsn num bot : Int) (sl raw : List Int) : Bool := !isLSN lsn || encB sum lsn num bot sl raw != raw
def faultP (sum : List Int) (lsn num bot : Int) (sl raw : List Int) (number : Int) : Int :=
 if num ≠ number then 2 else if headBad sum lsn num bot sl raw then 3 else if bot < 148 ∨ 4096 < bot then 4 else if astray bot sl then 5 else if share sl then 6 else 0
theorem isLSN_spec {x : Int} (h : isLSN x = true) : 0 ≤ x ∧ x ≤ 9223372036854775807 := by
 simp [isLSN] at h
 omega
theorem fault_any (P : Nat) (sum : List Int) (lsn num bot : Int) (sl raw : List Int) (number : Int) (w : World) (hp : SP w P sum lsn num bot sl raw) (hs : Small sl) (hnum : 0 ≤ num ∧ num ≤ 9223372036854775807) (hbot : 0 ≤ bot ∧ bot ≤ 9223372036854775807) :
  Calls Tryz.prog 50 #[.pointer (some ⟨P, 0, none⟩), .int .i64 number] w fun e w' => e = .returned (.int .i64 (faultP sum lsn num bot sl raw number)) ∧ Same w w' := by
 have HP := (show Hid (SP w P sum lsn num bot sl raw) from hp)
 have HSm := (show Hid (Small sl) from hs)
 obtain ⟨c4, c5, c6⟩ := hp.num3
 by_cases h2 : num = number
 ·have h2b : (num != number) = false := by simp [h2]
  have HF1 := (show Hid (faultP sum lsn num bot sl raw number = if headBad sum lsn num bot sl raw then 3 else if bot < 148 ∨ 4096 < bot then 4 else if astray bot sl then 5 else if share sl then 6 else 0) from (by unfold faultP; rw [if_neg (by simp [h2])] : faultP sum lsn num bot sl raw number = _))
  obtain ⟨F, hF⟩ : ∃ F, faultP sum lsn num bot sl raw number = F := ⟨_, rfl⟩
  rw [hF] at HF1
  rw [hF]
  obtain ⟨hb, hhb⟩ : ∃ hb, headBad sum lsn num bot sl raw = hb := ⟨_, rfl⟩
  have HHB := (show Hid (headBad sum lsn num bot sl raw = hb) from hhb)
  rw [hhb] at HF1
  clear h2 hp hs hF hhb
  go_enter Tryz.func50, Tryz.ntmps50
  go_upto_region 3 with fail
  go_cut [12] (fun c wc => c = .bool hb ∧ Hid (Same w wc))
  case first =>
   have hrl := HP.out.rawRange
   have hI80 : (Tryz.prog.info? 84).map (·.size) = some (vals .u8 raw).length := by rw [vals_length, HP.out.l3]; exact page_info
   obtain ⟨rl, hrle⟩ : ∃ rl : List Value, vals .u8 raw = rl := ⟨_, rfl⟩
   rw [hrle] at hrl hI80
   have hSx : ∀ wx, Same w wx → (fun wx : World => wx.cell? ⟨P, 4, none⟩ = some (.int .i64 lsn) ∧ wx.rangeAt P 71 rl) wx := fun wx h => ⟨h.cellOf c4 id, Kept.ranges h hrl⟩
   have hcl := isLSN_any lsn w.drew
   by_cases hL : isLSN lsn = true
   ·rw [hL] at hcl
    have hHB : headBad sum lsn num bot sl raw = (encB sum lsn num bot sl raw != raw) := by simp [headBad, hL]
    have hn3 : Num3 lsn num bot sl := ⟨isLSN_spec hL, hnum, hbot, fun x hx => by have := HSm.out x hx; omega⟩
    have hen := fun wx (h : Same w wx) => encode_any P sum lsn num bot sl raw wx (HP.out.same h) hn3
    have hne := fun wx => run_neq_pages wx (encB sum lsn num bot sl raw) raw (encB_length HP.out.l1 HP.out.l2 HP.out.l3) HP.out.l3
    rw [hrle] at hne
    have hHB2 : (encB sum lsn num bot sl raw != raw) = hb := hHB.symm.trans HHB.out
    obtain ⟨el, hel⟩ : ∃ el : Array Value, (vals .u8 (encB sum lsn num bot sl raw)).toArray = el := ⟨_, rfl⟩
    rw [hel] at hen hne
    rw [hHB2] at hne
    clear hHB hHB2 hel hL hn3 hrle
    have hS : (fun wx : World => wx.cell? ⟨P, 4, none⟩ = some (.int .i64 lsn) ∧ wx.rangeAt P 71 rl) w.drew := by exact hSx _ (Kept.refl _ _).drew
    refine wp_region_V (fun wx : World => wx.cell? ⟨P, 4, none⟩ = some (.int .i64 lsn) ∧ wx.rangeAt P 71 rl) 99 16 rfl (by kernel_rfl) ?_
    refine tk 0 13 hS ?_
    refine tk 1 14 hS ?_
    refine tk 2 15 hS ?_
    refine tk 3 16 hS ?_
    refine wpAnyV_one (i := 4) (by kernel_rfl) rfl (fun K hK => ?_)
    go_simp
    with_reducible refine (hcl).mono ?_
    rintro e w2 ⟨rfl, hkk⟩
    have hkw2 : Same w w2 := Kept.trans ((Kept.refl _ _).drew) hkk
    clear hkk
    have hS : (fun wx : World => wx.cell? ⟨P, 4, none⟩ = some (.int .i64 lsn) ∧ wx.rangeAt P 71 rl) w2 := hSx _ hkw2
    refine hK.out _ _ (fun _ => hS) ?_
    clear hK K
    try simp only [Act.put, sA, s0, sS]
    refine tk 5 18 hS ?_
    refine tk 6 19 hS ?_
    refine tk 7 20 hS ?_
    refine tk 9 22 hS ?_
    refine tk 10 23 hS ?_
    refine tk 11 24 hS ?_
    refine wpAnyV_take (i := 12) (v := .agg rl.toArray) (some 25) rfl rfl (by kernel_rfl) (by kernel_rfl) (by kernel_rfl) (by kernel_rfl) (fun _ _ _ h => h) (yieldsIf_load_mid (by rfl) 84 _ rfl P 71 rfl rl _ (fun _ h => h.2) Tryz.underlying84 rfl hI80) hS ?_
    try simp only [Act.put, sA, s0, sS]
    refine wpAnyV_one (i := 8) (by kernel_rfl) rfl (fun K hK => ?_)
    go_simp
    with_reducible refine (hen _ hkw2).mono ?_
    rintro e w3 ⟨rfl, hkk⟩
    have hkw3 : Same w w3 := Kept.trans (hkw2) hkk
    clear hkk
    have hS : (fun wx : World => wx.cell? ⟨P, 4, none⟩ = some (.int .i64 lsn) ∧ wx.rangeAt P 71 rl) w3 := hSx _ hkw3
    refine hK.out _ _ (fun _ => hS) ?_
    clear hK K
    try simp only [Act.put, sA, s0, sS]
    refine tk 13 26 hS ?_
    refine tk 14 27 hS ?_
    refine tk 15 12 hS ?_
    refine wpAnyV_done (by kernel_rfl) ?_
    go_wp2
    go_meet
    exact ⟨rfl, hkw3⟩
   ·have hLf : isLSN lsn = false := by simpa using hL
    rw [hLf] at hcl
    have hHB : headBad sum lsn num bot sl raw = true := by simp [headBad, hLf]
    obtain rfl : hb = true := HHB.out.symm.trans hHB
    clear hHB hrle hL
    have hS : (fun wx : World => wx.cell? ⟨P, 4, none⟩ = some (.int .i64 lsn) ∧ wx.rangeAt P 71 rl) w.drew := by exact hSx _ (Kept.refl _ _).drew
    refine wp_region_V (fun wx : World => wx.cell? ⟨P, 4, none⟩ = some (.int .i64 lsn) ∧ wx.rangeAt P 71 rl) 99 16 rfl (by kernel_rfl) ?_
    refine tk 0 13 hS ?_
    refine tk 1 14 hS ?_
    refine tk 2 15 hS ?_
    refine tk 3 16 hS ?_
    refine wpAnyV_one (i := 4) (by kernel_rfl) rfl (fun K hK => ?_)
    go_simp
    with_reducible refine (hcl).mono ?_
    rintro e w2 ⟨rfl, hkk⟩
    have hkw2 : Same w w2 := Kept.trans ((Kept.refl _ _).drew) hkk
    clear hkk
    have hS : (fun wx : World => wx.cell? ⟨P, 4, none⟩ = some (.int .i64 lsn) ∧ wx.rangeAt P 71 rl) w2 := hSx _ hkw2
    refine hK.out _ _ (fun _ => hS) ?_
    clear hK K
    try simp only [Act.put, sA, s0, sS]
    refine tk 5 18 hS ?_
    refine tk 6 19 hS ?_
    refine tkS 7 20 hS ?_
    refine tkS 8 21 hS ?_
    refine tkS 9 22 hS ?_
    refine tkS 10 23 hS ?_
    refine tkS 11 24 hS ?_
    refine tkS 12 25 hS ?_
    refine tkS 13 26 hS ?_
    refine tk 14 27 hS ?_
    refine tk 15 12 hS ?_
    refine wpAnyV_done (by kernel_rfl) ?_
    go_wp2
    go_meet
    exact ⟨rfl, hkw2⟩
  case rest =>
   obtain ⟨rfl, HKc⟩ := hcut
   have k6 := HKc.out.cellOf c6 id
   clear c4 c5 c6
   cases hb with
   | true =>
    obtain rfl : F = 3 := by have h := HF1.out; rw [if_pos rfl] at h; exact h
    go_wp2
    go_ret
    exact ⟨rfl, HKc.out⟩
   | false =>
    have h5 := HF1.out
    rw [if_neg (by decide)] at h5
    clear HF1
    by_cases h4 : bot < 148
    ·obtain rfl : F = 4 := by rw [if_pos (.inl h4)] at h5; exact h5
     clear h5
     go_wp2
     go_ret
     exact ⟨rfl, HKc.out⟩
    ·by_cases h4' : 4096 < bot
     ·obtain rfl : F = 4 := by rw [if_pos (.inr h4')] at h5; exact h5
      clear h5
      go_wp2
      go_ret
      exact ⟨rfl, HKc.out⟩
     ·rw [if_neg (by omega)] at h5
      have ha := slotsAstray_any P sum lsn num bot sl raw wc (HP.out.same HKc.out) HSm.out
      have hsh := fun wx (h : Same w wx) => recordsShare_any P sum lsn num bot sl raw wx (HP.out.same h) HSm.out
      generalize astray bot sl = A at *
      generalize share sl = H at *
      cases A with
      | true =>
       obtain rfl : F = 5 := by rw [if_pos rfl] at h5; exact h5
       clear h5
       go_wp2_with (go_at_call 71; refine ha.mono ?_; rintro e w4 ⟨rfl, hk4⟩)
       go_ret
       exact ⟨rfl, HKc.out.trans hk4⟩
      | false =>
       rw [if_neg (by decide)] at h5
       cases H with
       | true =>
        obtain rfl : F = 6 := by rw [if_pos rfl] at h5; exact h5
        clear h5
        go_wp2_with (first | (go_at_call 71; refine ha.mono ?_; rintro e w4 ⟨rfl, hk4⟩; have hk4' := HKc.out.trans hk4) | (go_at_call 72; refine (hsh _ hk4').mono ?_; rintro e w5 ⟨rfl, hk5⟩))
        go_ret
        exact ⟨rfl, hk4'.trans hk5⟩
       | false =>
        obtain rfl : F = 0 := by rw [if_neg (by decide)] at h5; exact h5
        clear h5
        go_wp2_with (first | (go_at_call 71; refine ha.mono ?_; rintro e w4 ⟨rfl, hk4⟩; have hk4' := HKc.out.trans hk4) | (go_at_call 72; refine (hsh _ hk4').mono ?_; rintro e w5 ⟨rfl, hk5⟩))
        go_ret
        exact ⟨rfl, hk4'.trans hk5⟩
 ·have h2b : (num != number) = true := by simp [h2]
  have e : faultP sum lsn num bot sl raw number = 2 := by unfold faultP; rw [if_pos h2]
  rw [e]
  clear h2 hp hs e
  go_enter Tryz.func50, Tryz.ntmps50
  go_wp2
  go_ret
  exact ⟨rfl, Kept.refl _ _⟩
theorem numAt_small (raw : List Int) (hB : IsB raw) (o n : Nat) (hn : n ≤ 7) : numAt raw o n = -1 ∨ (0 ≤ numAt raw o n ∧ numAt raw o n < 256 ^ n) := by
 unfold numAt getN
 have hb : IsB ((raw.drop o).take n) := isB_take (isB_drop hB o) n
 have h := num_bound _ hb ((raw.drop o).take n).length (Nat.le_refl _)
 rw [List.take_length] at h
 split
 ·exact .inl rfl
 ·refine .inr ⟨h.1, Int.lt_of_lt_of_le h.2 ?_⟩
  have hl : ((raw.drop o).take n).length ≤ n := by simp; omega
  have h2 : (256 : Nat) ^ ((raw.drop o).take n).length ≤ 256 ^ n := Nat.pow_le_pow_right (by decide) hl
  have e1 : ((256 ^ ((raw.drop o).take n).length : Nat) : Int) = (256 : Int) ^ ((raw.drop o).take n).length := by simp
  have e2 : ((256 ^ n : Nat) : Int) = (256 : Int) ^ n := by simp
  rw [← e1, ← e2]
  exact_mod_cast h2
theorem numAt_in (raw : List Int) (hB : IsB raw) (o n : Nat) (hn1 : 1 ≤ n) (hn : n ≤ 7) (hl : o + n ≤ raw.length) : 0 ≤ numAt raw o n ∧ numAt raw o n < 256 ^ n := by
 rcases numAt_small raw hB o n hn with h | h
 ·exfalso
  unfold numAt getN at h
  have hb : IsB ((raw.drop o).take n) := isB_take (isB_drop hB o) n
  have hln : ((raw.drop o).take n).length = n := by simp; omega
  have h0 := num_bound _ hb ((raw.drop o).take n).length (Nat.le_refl _)
  rw [List.take_length] at h0
  have hf := getN_few _ hb (by omega)
  rw [if_neg (by omega)] at h
  omega
 ·exact h
theorem slotsOf_small (raw : List Int) (hB : IsB raw) (hl : raw.length = 4096) : Small (slotsOf raw) := by
 intro x hx
 simp only [slotsOf, List.mem_map, List.mem_range] at hx
 obtain ⟨j, hj, rfl⟩ := hx
 have := numAt_in raw hB (20 + 2 * j) 2 (by decide) (by decide) (by omega)
 omega
def pageFault (raw : List Int) (number : Int) : Int := if raw.length ≠ 4096 then 1 else faultP (raw.take 4) (numAt raw 4 8) (numAt raw 12 4) (numAt raw 16 2) (slotsOf raw) raw number
def pgI (l : Int) (dur : List Int) (ds : List (Int × List Int)) (i : Nat) : List Int := pgB (2 + l + (i : Int) * 8) dur ds
def goodPg (raw : List Int) (i : Nat) : Bool := pageWhole raw && (pageFault raw (i : Int) == 0)
def sOff (raw : List Int) (s : Nat) : Int := (slotsOf raw).getD (2 * s) 0
def sLen (raw : List Int) (s : Nat) : Int := (slotsOf raw).getD (2 * s + 1) 0
def slotRec (raw : List Int) (i s : Nat) : List (Int × List Int) :=
 if sOff raw s = 0 then [] else [(((i * 32 + s : Nat) : Int), (raw.drop (sOff raw s).toNat).take (sLen raw s).toNat)]
def pageRecs (raw : List Int) (i k : Nat) : List (Int × List Int) := ((List.range k).map (slotRec raw i)).flatten
theorem pageRecs_succ (raw : List Int) (i k : Nat) : pageRecs raw i (k + 1) = pageRecs raw i k ++ slotRec raw i k := by
 unfold pageRecs
 rw [List.range_succ, List.map_append, List.flatten_append]
 simp
def heapRecs (R : Nat → List Int) (k : Nat) : List (Int × List Int) := ((List.range k).map fun i => pageRecs (R i) i 32).flatten
theorem heapRecs_succ (R : Nat → List Int) (k : Nat) : heapRecs R (k + 1) = heapRecs R k ++ pageRecs (R k) k 32 := by
 unfold heapRecs
 rw [List.range_succ, List.map_append, List.flatten_append]
 simp
def allGood (R : Nat → List Int) (k : Nat) : Prop := ∀ i, i < k → goodPg (R i) i = true
def heapOK (p f l : Int) (dur : List Int) (ds : List (Int × List Int)) : Prop := fitD p f l dur.length ds ∧ allGood (pgI l dur ds) p.toNat
def heapOKDec (p f l : Int) (dur : List Int) (ds : List (Int × List Int)) : Decidable (heapOK p f l dur ds) := by unfold heapOK allGood fitD Valid validHead validP; infer_instance
def heapD (p f l : Int) (dur : List Int) (ds : List (Int × List Int)) : Bool × List (Int × List Int) := @ite _ (heapOK p f l dur ds) (heapOKDec p f l dur ds) (true, heapRecs (pgI l dur ds) p.toNat) (false, [])
theorem heapD_yes {p f l : Int} {dur : List Int} {ds : List (Int × List Int)} (h : heapOK p f l dur ds) : heapD p f l dur ds = (true, heapRecs (pgI l dur ds) p.toNat) := if_pos h
theorem heapD_no {p f l : Int} {dur : List Int} {ds : List (Int × List Int)} (h : ¬ heapOK p f l dur ds) : heapD p f l dur ds = (false, []) := if_neg h
theorem pgI_length {p f l : Int} {dur : List Int} {ds : List (Int × List Int)} (h : fitD p f l dur.length ds) (i : Nat) (hi : (i : Int) < p) : (pgI l dur ds i).length = 4096 := pgB_length h (by omega) hi
theorem isB_pgI {l : Int} {dur : List Int} {ds : List (Int × List Int)} (hd : IsB dur) (hp : ∀ q ∈ ds, IsB q.2) (i : Nat) : IsB (pgI l dur ds i) := by
 unfold pgI pgB
 exact isB_joinS 8 (fun j _ => isB_seeD hd hp)
theorem sOff_in {raw : List Int} (hB : IsB raw) (hl : raw.length = 4096) (s : Nat) : 0 ≤ sOff raw s ∧ sOff raw s ≤ 65535 := (slotsOf_small raw hB hl).at (2 * s)
theorem sLen_in {raw : List Int} (hB : IsB raw) (hl : raw.length = 4096) (s : Nat) : 0 ≤ sLen raw s ∧ sLen raw s ≤ 65535 := (slotsOf_small raw hB hl).at (2 * s + 1)
theorem good_slot {raw : List Int} {n : Int} (h : pageFault raw n = 0) (s : Nat) (hs : s < 32) (h0 : ¬ sOff raw s = 0) : sLen raw s ≤ 1000 ∧ sOff raw s + sLen raw s ≤ 4096 := by
 unfold pageFault at h
 by_cases hl : raw.length = 4096
 case neg => rw [if_pos hl] at h; omega
 rw [if_neg (fun h => h hl)] at h
 unfold faultP at h
 split at h
 ·omega
 split at h
 ·omega
 split at h
 ·omega
 split at h
 ·omega
 rename_i h4
 have h5 : astray (numAt raw 16 2) (slotsOf raw) = false := by simpa using h4
 unfold astray at h5
 rw [List.any_eq_false] at h5
 have h6 := h5 s (List.mem_range.2 hs)
 unfold astrayAt at h6
 unfold sOff sLen at *
 simp only [Bool.or_eq_true, Bool.and_eq_true, bne_iff_ne, decide_eq_true_eq, beq_iff_eq, not_or, not_and] at h6
 have h7 := h6.1 h0
 omega
theorem good_parts {raw : List Int} {i : Nat} (h : goodPg raw i = true) : pageWhole raw = true ∧ pageFault raw (i : Int) = 0 := by
 simpa [goodPg] using h
theorem seeD_snoc (s t : Int) (dur : List Int) (ds : List (Int × List Int)) (bs : List Int) : seeD s dur (ds ++ [(t, bs)]) = if t = s then bs else seeD s dur ds := by
 unfold seeD
 by_cases h : t = s
 ·subst h
  rw [lastP_snoc, if_pos rfl]
  rfl
 ·rw [lastP_append_none _ _ _ (fun p hp => by simp at hp; rw [hp]; exact h), if_neg h]
def SeenR (w w' : World) (dur : List Int) (ds : List (Int × List Int)) (v : Value) : Prop :=
 ∃ G us, v = .slice (some ⟨G, 0, none⟩) us.length us.length ∧ us.length = dur.length / 512 ∧ w.heap.size ≤ G ∧ Blk w' G 22 us ∧ (∀ i (h : i < us.length), Rd .u8 w us[i] (seeD (i : Int) dur ds)) ∧ Same w w'
theorem Tryz.infoBytes' : (Tryz.prog.info? 22).map (fun i => (i.zero, i.size, i.bytes)) = some (some (.slice none 0 0), 1, 24) := by kernel_rfl
theorem Blk.of_row {w : World} {base g n : Nat} {e : TypeId} {xs : List Value} (h : w.ownsRow base e 1 (.slice (some ⟨g, 0, none⟩) n n) n xs) : Blk w g e xs := by
 rcases h.2 with ⟨h, _⟩ | ⟨g', cap, cur, h, _, hg, _, _, hs, ht⟩
 ·cases h
 ·cases h
  have hl : cur.toList.length = n * 1 := by simpa using hs
  rw [List.take_of_length_le (by omega)] at ht
  unfold Blk
  rw [← ht]
  simpa using hg
theorem madeS (n : Nat) : (madeCells (Value.slice none 0 0).cells (n * 1)).toList = List.replicate n (Value.slice none 0 0) := by
 apply List.ext_getElem?
 intro j
 by_cases hj : j < n
 ·simp [madeCells, Value.cells, hj, Nat.mod_one]
 ·rw [List.getElem?_eq_none (by simp [madeCells]; omega), List.getElem?_eq_none (by simp; omega)]
def durU (b o c : Nat) (i : Nat) : Value := .slice (some ⟨b, o + i * 512, none⟩) 512 (c - i * 512)
def durUs (b o c k : Nat) : List Value := (List.range k).map (durU b o c)
theorem durUs_length (b o c k : Nat) : (durUs b o c k).length = k := by simp [durUs]
theorem durUs_step (b o c k n : Nat) (h : k < n) : (durUs b o c k ++ List.replicate (n - k) (Value.slice none 0 0)).set k (durU b o c k) = durUs b o c (k + 1) ++ List.replicate (n - (k + 1)) (Value.slice none 0 0) := by
 obtain ⟨m, hm⟩ : ∃ m, n - k = m + 1 := ⟨n - k - 1, by omega⟩
 rw [hm, List.set_append_right (h := by rw [durUs_length]; exact Nat.le_refl _), durUs_length, Nat.sub_self, List.replicate_succ, List.set_cons_zero, show n - (k + 1) = m from by omega]
 unfold durUs
 rw [List.range_succ, List.map_append, List.append_assoc]
 rfl
theorem seen_any (dv pv : Value) (dur : List Int) (ps : List PW) (w : World) (hV : Valid dur.length (dataP ps)) (hv : RdD w dv pv dur ps) :
  Calls Tryz.prog 45 #[.agg #[dv, pv]] w fun e w' => ∃ v, e = .returned v ∧ SeenR w w' dur (dataP ps) v := by
 obtain ⟨⟨h1, h2, h3, h4⟩, hall⟩ := hV
 rw [dataP_length] at h4
 have HALL : Hid (∀ k (h : k < ps.length), 0 ≤ ps[k].sec ∧ ps[k].sec < (dur.length / 512 : Nat) ∧ ps[k].bs.length = 512) := fun k h => hall (ps[k].sec, ps[k].bs) (List.mem_map.2 ⟨ps[k], List.getElem_mem h, rfl⟩)
 have hn2 := hv.pend.len
 have hm := hv.dur.1
 unfold maxLen at hn2
 obtain ⟨N, hN⟩ : ∃ N, dur.length / 512 = N := ⟨_, rfl⟩
 have hlen : dur.length = N * 512 := by omega
 obtain ⟨b0, o0, c0, rfl, hl0, hc0⟩ : ∃ b off c, dv = .slice (some ⟨b, off, none⟩) dur.length c ∧ dur.length ≤ c ∧ ∀ i, i < dur.length → w.cell? ⟨b, off + i, none⟩ = some (.int .u8 (dur.getD i 0)) := by
  rcases hv.dur.2 with ⟨rfl, _⟩ | h
  ·simp at h2
  ·exact h
 have HC0 := hid hc0
 obtain ⟨a2, c2, rfl⟩ := hv.pend.form
 have HP := hid hv.pend
 obtain ⟨i0, hi, hz0, hz1, hz2⟩ := info_parts Tryz.infoBytes'
 have HK0 := hid (sameA w [.slice (some ⟨b0, o0, none⟩) dur.length c0, .slice a2 ps.length c2] 35)
 have HB0 := hid (Blk.newL w [.slice (some ⟨b0, o0, none⟩) dur.length c0, .slice a2 ps.length c2] 35)
 have k0 := fun wx => countSectors_any (some ⟨b0, o0, none⟩) dur.length c0 a2 ps.length c2 wx hm
 rw [hN] at h2 h3 k0 HALL
 have HLN := hid hlen
 have HN := hid hN
 clear hv hc0 hall hN h1
 generalize hdl : dur.length = L at hm hlen hl0 HLN HK0 HB0 k0 ⊢
 have HDL := hid hdl
 clear hdl
 subst hlen
 go_enter Tryz.func45, Tryz.ntmps45
 go_wp2_with fail
 refine (k0 _).mono ?_
 rintro e w1 ⟨rfl, hw1⟩
 have hk1 : Same (w.alloc (.cells #[.slice (some ⟨b0, o0, none⟩) (N * 512) c0, .slice a2 ps.length c2] 35)) w1 := by rw [hw1]; exact (Kept.refl _ _).alloc _
 have HK1 := hid (HK0.out.trans hk1)
 have HB1 := hid (HB0.out.same hk1)
 clear hk1 hw1 k0 HK0 HB0
 go_wp2_with (at_make; go_loud (refine wpList_make_full _ rfl (.tmp 8) (.tmp 8) 81 rfl 0 22 i0 (.slice none 0 0) 1 Tryz.underlying81 hi hz0 hz1 .i64 .i64 _ _ N rfl rfl (by simp) (by simp) (by rw [hz2]; omega) (by unfold maxLen; omega) (Nat.zero_le _) ?_); intro w2 hown hgrow; have HG2 := (show Hid (Blk w2 w1.heap.size 22 (List.replicate N (Value.slice none 0 0))) from (by rw [madeS] at hown; exact Blk.of_row hown)); have HK2 : Hid (Same w1 w2) := Kept.of_grown hgrow (fun k e => by cases e); clear hown hgrow)
 have hzw : w.heap.size < w1.heap.size := HB1.out.lt
 have HB2 := hid (HB1.out.same HK2.out)
 go_loopw [12] (fun i wr => ∃ (k : Nat), k ≤ N ∧ i = .int .i64 (k : Int) ∧ Hid (Blk wr w1.heap.size 22 (durUs b0 o0 c0 k ++ List.replicate (N - k) (Value.slice none 0 0))) ∧ Hid (Blk wr w.heap.size 35 [.slice (some ⟨b0, o0, none⟩) (N * 512) c0, .slice a2 ps.length c2]) ∧ Hid (Same w1 wr)) (fun i _ => N - (intOf i).toNat)
 case atStart => exact ⟨0, Nat.zero_le _, rfl, by simpa [durUs, Hid] using HG2.out, HB2, HK2⟩
 case round =>
  obtain ⟨k, hk, rfl, HG, HB, HK⟩ := hrel
  clear HG2 HB2 HK2 HB1
  by_cases hlt : k < N
  case pos =>
   obtain ⟨d0, d1⟩ := HB.out.all2
   have e1 : ((k : Int) * 512).toNat = k * 512 := by omega
   have e2 : (((k : Int) + 1) * 512).toNat = k * 512 + 512 := by omega
   have g1 : ((k : Int) + 1) * 512 ≤ (c0 : Int) := by omega
   have g2 : 0 ≤ ((k : Int) + 1) * 512 := by omega
   have g3 : (k : Int) * 512 ≤ ((k : Int) + 1) * 512 := by omega
   have hcl := HG.out.cell k
   have hfz := HG.out.frozen k
   rw [List.getElem?_append_right (by rw [durUs_length]; exact Nat.le_refl _), durUs_length, Nat.sub_self, List.getElem?_replicate, if_pos (by omega)] at hcl
   have HST := hid (HG.out.stored k (durU b0 o0 c0 k))
   rw [durUs_step b0 o0 c0 k N hlt] at HST
   unfold durU at HST
   go_wp2
   go_roundw
   case rel => exact ⟨k + 1, by omega, by go_num, HST, HB.out.other (by dsimp only; omega) _, HK.out.setCell (.inl (Nat.le_refl _)) _⟩
   case measure => simp [intOf]; omega
  obtain rfl : k = N := by omega
  have hzr := HK.out.size
  have HG1 := HG.out
  rw [Nat.sub_self, List.replicate_zero, List.append_nil] at HG1
  have HUS : Hid (∀ i (h : i < (durUs b0 o0 c0 k).length), Rd .u8 w (durUs b0 o0 c0 k)[i] (seeD (i : Int) dur (dataP (ps.take 0)))) := fun i h => by
   rw [durUs_length] at h
   have e : (durUs b0 o0 c0 k)[i]'(by rw [durUs_length]; exact h) = durU b0 o0 c0 i := by simp [durUs]
   rw [e]
   have hs : seeD (i : Int) dur (dataP (ps.take 0)) = (dur.drop (i * 512)).take 512 := by simp [seeD, dataP, lastP]
   rw [hs]
   exact Rd.part (fun j hj => HC0.out j hj) (i * 512) 512 (by rw [HDL.out]; omega) rfl (by omega) (by simp [maxLen])
  have HGF := hid HG1
  clear HG1 HG
  obtain ⟨d0, d1⟩ := HB.out.all2
  go_wp2_with fail
  go_loopw [30] (fun i wx => ∃ (j : Nat) (us : List Value), j ≤ ps.length ∧ i = .int .i64 (j : Int) ∧ Hid (us.length = k) ∧ Hid (Blk wx w1.heap.size 22 us) ∧ Hid (∀ i (h : i < us.length), Rd .u8 w us[i] (seeD (i : Int) dur (dataP (ps.take j)))) ∧ Hid (Same w1 wx)) (fun i _ => ps.length - (intOf i).toNat)
  case atStart => exact ⟨0, _, Nat.zero_le _, rfl, durUs_length _ _ _ _, HGF, HUS, HK⟩
  case round =>
   clear HGF HUS d0 d1 HB HK
   obtain ⟨j, us, hj, rfl, HUL, HG, HUS, HK⟩ := hrel
   by_cases hlt : j < ps.length
   case neg =>
    obtain rfl : j = ps.length := by omega
    rw [List.take_length] at HUS
    go_wp2
    go_ret
    exact ⟨_, rfl, w1.heap.size, us, by rw [HUL.out]; rfl, by rw [HUL.out, HN.out], by omega, HG.out, HUS.out, HK1.out.trans HK.out⟩
   obtain ⟨b2, off2, rfl, hc⟩ : ∃ b off, a2 = some ⟨b, off, none⟩ ∧ ∀ i (h : i < ps.length), w.cell? ⟨b, off + i * 2, none⟩ = some (.int .i64 ps[i].sec) ∧ w.cell? ⟨b, off + i * 2 + 1, none⟩ = some ps[i].v := by
    rcases HP.out.row with ⟨h, _⟩ | ⟨b, off, c, e, hc⟩
    ·rw [h] at hlt; simp at hlt
    ·simp only [Value.slice.injEq, true_and] at e
     obtain ⟨rfl, rfl⟩ := e
     exact ⟨b, off, rfl, hc⟩
   have q1 := (HK1.out.trans HK.out).cellOf (hc j hlt).1 id
   have q2 := (HK1.out.trans HK.out).cellOf (hc j hlt).2 id
   obtain ⟨s1, s2, s3⟩ := HALL.out j hlt
   obtain ⟨sn, hsn⟩ : ∃ sn : Nat, ps[j].sec = sn := ⟨ps[j].sec.toNat, by omega⟩
   have HD := hid (HP.out.data _ (List.getElem_mem hlt))
   obtain ⟨a5, c5, e5⟩ := HD.out.form
   have hstep : ps.take (j + 1) = ps.take j ++ [ps[j]] := List.take_succ_eq_append_getElem hlt
   have hdat : dataP (ps.take (j + 1)) = dataP (ps.take j) ++ [((sn : Int), ps[j].bs)] := by
    rw [hstep]; unfold dataP; rw [List.map_append]; simp [hsn]
   have HDAT := hid hdat
   have HD5 := HD.out
   rw [e5, s3] at HD5
   have HDV := hid HD5
   rw [hsn] at q1 s1 s2
   rw [e5, s3] at q2
   have hsk : sn < k := by omega
   have hcl := HG.out.cell sn
   have hfz := HG.out.frozen sn
   rw [List.getElem?_eq_getElem (by rw [HUL.out]; exact hsk)] at hcl
   generalize us[sn]'(by rw [HUL.out]; exact hsk) = uold at hcl
   have hzk := HK.out.size
   have hz1 := HG.out.lt
   clear hc hstep hdat e5 hsn HD5 HD s1 s2 s3
   go_wp2
   go_roundw
   case rel =>
    refine ⟨j + 1, us.set sn (.slice a5 512 c5), by omega, by go_num, by rw [List.length_set]; exact HUL.out, ?_, fun i h => ?_, ?_⟩
    ·first | exact (HG.out.stored sn _).alloc _ | exact (HG.out.alloc _).stored sn _
    ·rw [HDAT.out, seeD_snoc]
     by_cases e : (sn : Int) = (i : Int)
     ·rw [if_pos e]
      obtain rfl : sn = i := by omega
      rw [List.getElem_set_self]
      exact HDV.out
     ·rw [if_neg e, List.getElem_set_ne (by omega)]
      exact HUS.out i (by rwa [List.length_set] at h)
    ·first | exact (HK.out.setCell (.inl (Nat.le_refl _)) _).alloc _ | exact (HK.out.alloc _).setCell (.inl (Nat.le_refl _)) _
   case measure => simp [intOf]; omega
theorem run_copy_m {P : Program} (w : World) (dT sT ty elem : TypeId) (m b o dLen dCap : Nat) (a : Addr) (sLen sCap c : Nat) (cs : List Value)
  (hu : P.underlying dT = some (.slice elem)) (hs : (P.info? elem).map (·.size) = some m) (hc0 : Nat.min sLen dLen = c) (hn : c * m = cs.length)
  (hsrc : ∀ j v, cs[j]? = some v → w.cell? (a.add j) = some v) (hc : ∀ j, j < cs.length → (w.cell? ⟨b, o + j, none⟩).isSome = true) (hf : ∀ j, j < cs.length → w.frozen? ⟨b, o + j, none⟩ = false) (h1 : ∀ v ∈ cs, v.oneCell' = true) :
  (Builtin.copy_ #[dT, sT] ty #[.slice (some ⟨b, o, none⟩) dLen dCap, .slice (some a) sLen sCap]).run P w = .ok (goInt c) (w.setCells b o cs) := by
 have hl := run_loadCells_list (P := P) w a cs hsrc
 have hst := run_storeCells_cells (P := P) b o cs 0 w (by simpa using hc) (by simpa using hf) h1
 cases hq : P.info? elem with
 | none => simp [hq] at hs
 | some i =>
  have hi : i.size = m := by simpa [hq] using hs
  simp [Builtin.copy_, run_underlying hu, Builtin.lenOf, Builtin.firstCells, sizeOf, typeInfo, hq, hi, hc0, hn, hl, hst]
section
variable {P : Program} {ops : Array Oper} {o : Oper} {a : Act} {w : World} {K : Act → World → Prop} {Q : Exit → Act → World → Prop} {E : Prop}
theorem step_copy_m {B off dl dc sl sc m c : Nat} {e tb : TypeId} {ad : Addr} {xs : List Value} (hgd : o.guard = none) (d s : Operand) (T : TypeId) (ho : o.op = .call { callee := .builtin .copy, args := #[d, s], argTypes := #[T, T] })
  (hu : P.underlying T = some (.slice tb)) (hsz : (P.info? tb).map (·.size) = some m) (cs : List Value) (hb : Blk w B e xs) (hd : a.eval d = .slice (some ⟨B, off, none⟩) dl dc) (hs : a.eval s = .slice (some ad) sl sc)
  (hc0 : Nat.min sl dl = c) (hn : c * m = cs.length) (hsrc : ∀ j v, cs[j]? = some v → w.cell? (ad.add j) = some v) (hfit : off + cs.length ≤ xs.length) (h1 : ∀ v ∈ cs, v.oneCell' = true)
  (h : K (a.put o.dst (goInt c)) (w.setCells B off cs)) :
  if Region.wanted o (yielded ops a.tmps) = true then Oper.wp P o a w K Q else E := by
 have hw : Region.wanted o (yielded ops a.tmps) = true := by simp [Region.wanted, hgd]
 rw [if_pos hw]
 have hrun := run_copy_m (P := P) w T T o.type tb m B off dl dc ad sl sc c cs hu hsz hc0 hn hsrc (fun j hj => by rw [hb.cell, List.getElem?_eq_getElem (by omega)]; rfl) (fun j _ => hb.frozen _) h1
 unfold Oper.wp
 simp [execOp, ho, resolve, invoke, builtin, hd, hs, hrun, Result.andThen]
 exact h
end
theorem lay_join (A C : List Int) (m : Nat) (h : C.length ≤ m) : lay (vals .u8 (A ++ List.replicate m 0)) A.length (vals .u8 C) = vals .u8 ((A ++ C) ++ List.replicate (m - C.length) 0) := by
 unfold lay
 simp only [vals, List.length_map, List.map_append, List.map_replicate]
 rw [List.take_append_of_le_length (by simp), List.take_of_length_le (by simp), List.drop_append, List.drop_eq_nil_of_le (by simp), List.drop_replicate]
 simp
theorem join_any (G n : Nat) (us : List Value) (F : Nat) (S : Nat → List Int) (w : World) (hG : Blk w G 22 us) (hF : F + 8 ≤ n) (hm : n ≤ 1024) (hS8 : ∀ i, i < 8 → (S i).length = 512) (hR : ∀ i, i < 8 → ∃ u, us[F + i]? = some u ∧ Rd .u8 w u (S i)) :
  Calls Tryz.prog 46 #[.slice (some ⟨G, 0, none⟩) n n, .int .i64 (F : Int)] w fun e w' => e = .returned (.agg (vals .u8 (joinS S 8)).toArray) ∧ Same w w' := by
 have HG := hid hG
 have HS8 := hid hS8
 have HR := hid hR
 have hGl := hG.lt
 have hj : (Tryz.prog.info? 5).map (·.size) = some 1 := by kernel_rfl
 have hz8 : Tryz.zeroCells84.toList = vals .u8 (List.replicate 4096 0) := by kernel_rfl
 clear hG hS8 hR
 go_enter Tryz.func46, Tryz.ntmps46
 go_wp2_with fail
 obtain ⟨w1, hw1⟩ : ∃ w1, ((w.alloc (.cells Tryz.zeroCells84 84)).alloc (.cells Tryz.zeroCells84 84)) = w1 := ⟨_, rfl⟩
 have HB1 := (show Hid (Blk w1 w.heap.size 84 (vals .u8 (List.replicate 4096 0))) from by
  rw [← hw1, ← hz8]
  exact (Blk.new w Tryz.zeroCells84 84).alloc _)
 have HB2 := (show Hid (Blk w1 (w.heap.size + 1) 84 (vals .u8 (List.replicate 4096 0))) from by
  rw [← hw1, ← hz8]
  have h := Blk.new (w.alloc (.cells Tryz.zeroCells84 84)) Tryz.zeroCells84 84
  rw [World.size_alloc] at h
  exact h)
 have HK1 := (show Hid (Same w w1) from by rw [← hw1]; exact ((Kept.refl _ _).alloc _).alloc _)
 rw [hw1]
 clear hw1 hz8
 go_loopw [7] (fun i wr => ∃ (k : Nat), k ≤ 8 ∧ i = .int .i64 (k : Int) ∧ Hid (Blk wr w.heap.size 84 (vals .u8 (List.replicate 4096 0))) ∧ Hid (Blk wr (w.heap.size + 1) 84 (vals .u8 (joinS S k ++ List.replicate (4096 - k * 512) 0))) ∧ Hid (Same w wr)) (fun i _ => 8 - (intOf i).toNat)
 case atStart => exact ⟨0, Nat.zero_le _, rfl, HB1, HB2, HK1⟩
 case round =>
  obtain ⟨k, hk, rfl, HA, HB, HK⟩ := hrel
  clear HB1 HB2 HK1
  by_cases hlt : k < 8
  case pos =>
   obtain ⟨u, hu, hr⟩ := HR.out k hlt
   have hl8 := HS8.out k hlt
   have hlj := joinS_length S k (fun i hi => HS8.out i (by omega))
   obtain ⟨bu, ou, cu, rfl, hcu⟩ : ∃ b off c, u = .slice (some ⟨b, off, none⟩) 512 c ∧ ∀ i, i < 512 → w.cell? ⟨b, off + i, none⟩ = some (.int .u8 ((S k).getD i 0)) := by
    rcases hr.2 with ⟨h, _⟩ | ⟨b, off, c, e, hl, hc⟩
    ·rw [h] at hl8; simp at hl8
    ·rw [hl8] at e hc
     exact ⟨b, off, c, e, hc⟩
   have hcG := (HG.out.same HK.out).cell (F + k)
   rw [hu] at hcG
   have e1 : ((k : Int) * 512).toNat = k * 512 := by omega
   have e2 : ((F : Int) + (k : Int)).toNat = F + k := by omega
   have g1 : (k : Int) * 512 ≤ 4096 := by omega
   have g2 : 0 ≤ (k : Int) * 512 := by omega
   have g3 : 0 ≤ (F : Int) + (k : Int) := by omega
   have g4 : (F : Int) + (k : Int) < (n : Int) := by omega
   have q1 : IntKind.i64.wrap ((k : Int) * 512) = (k : Int) * 512 := by rw [IntKind.wrap_i64]; omega
   have q2 : IntKind.i64.wrap ((F : Int) + (k : Int)) = (F : Int) + (k : Int) := by rw [IntKind.wrap_i64]; omega
   have hne : ¬ 4096 = k * 512 := by omega
   have HCU := hid hcu
   have HL8 := hid hl8
   have HLJ := hid hlj
   have hzk := HK.out.size
   clear hu hr hcu hl8 hlj
   go_wp2_with fail
   have hS : (fun wx : World => wx.cell? ⟨G, F + k, none⟩ = some (.slice (some ⟨bu, ou, none⟩) 512 cu)) wr.drew := hcG
   refine wp_region_V (fun wx : World => wx.cell? ⟨G, F + k, none⟩ = some (.slice (some ⟨bu, ou, none⟩) 512 cu)) 99 10 rfl (by kernel_rfl) ?_
   refine tk 0 10 hS ?_
   refine tk 1 11 hS ?_
   refine tkV 2 12 (.slice (some ⟨w.heap.size + 1, k * 512, none⟩) (4096 - k * 512) (4096 - k * 512)) hS ?_
   refine tk 3 13 hS ?_
   refine tk 4 14 hS ?_
   refine tk 5 15 hS ?_
   refine tk 6 16 hS ?_
   refine tkV 7 17 (.pointer (some ⟨G, F + k, none⟩)) hS ?_
   refine tk 8 18 hS ?_
   refine wpAnyV_one (i := 9) (by kernel_rfl) rfl (fun K hK => ?_)
   refine step_copy_m (m := 1) (c := 512) (e := 84) (xs := vals .u8 (joinS S k ++ List.replicate (4096 - k * 512) 0)) (by rfl) (.tmp 12) (.tmp 18) 22 (by rfl) Tryz.underlying22 hj (vals .u8 (S k)) HB.out.drew (by rfl) (by rfl) (Nat.min_eq_left (by omega)) (by rw [vals_length, HL8.out]) (news_of (fun i hi => by rw [HL8.out] at hi; exact HK.out.drew.cellOf (HCU.out i hi) id)) (by rw [vals_length, vals_length, List.length_append, List.length_replicate, HL8.out, HLJ.out]; omega) vals_one ?_
   have HB5 := hid (Blk.setCells (vals .u8 (S k)) (k * 512) HB.out.drew (by rw [vals_length, vals_length, List.length_append, List.length_replicate, HL8.out, HLJ.out]; omega))
   rw [← HLJ.out, lay_join _ _ _ (by rw [HL8.out, HLJ.out]; omega), ← joinS_succ, HL8.out, HLJ.out] at HB5
   have HA5 := (show Hid (Blk (wr.drew.setCells (w.heap.size + 1) (k * 512) (vals .u8 (S k))) w.heap.size 84 (vals .u8 (List.replicate 4096 0))) from HA.out.drew.kept (Kept.setCells (R := fun b => b = w.heap.size + 1) (.inr rfl) _ _ (Kept.refl _ _)) (by omega))
   have HK5 := (show Hid (Same w (wr.drew.setCells (w.heap.size + 1) (k * 512) (vals .u8 (S k)))) from Kept.setCells (.inl (by omega)) _ _ HK.out.drew)
   refine hK.out _ _ (fun _ => (Kept.setCells (R := fun b => b = w.heap.size + 1) (.inr rfl) _ _ (Kept.refl _ _)).cellOf (hS : wr.drew.cell? _ = _) (by dsimp only; omega)) ?_
   clear hK K
   try simp only [Act.put, sA, s0, sS]
   refine wpAnyV_done (by kernel_rfl) ?_
   generalize wr.drew.setCells (w.heap.size + 1) (k * 512) (vals .u8 (S k)) = w5 at HB5 HA5 HK5 ⊢
   go_wp2
   go_roundw
   case rel => exact ⟨k + 1, by omega, by go_num, HA5, by unfold Hid; rw [show 4096 - (k + 1) * 512 = 4096 - k * 512 - 512 from by omega]; exact HB5.out, HK5⟩
   case measure => simp [intOf]; omega
  obtain rfl : k = 8 := by omega
  have hlj := joinS_length S 8 (fun i hi => HS8.out i hi)
  have hzk := HK.out.size
  have HB8 := HB.out
  rw [show 4096 - 8 * 512 = 0 from rfl, List.replicate_zero, List.append_nil] at HB8
  obtain ⟨ds, hds⟩ : ∃ ds : List Value, vals .u8 (joinS S 8) = ds := ⟨_, rfl⟩
  have HDS := hid hds
  have hone : ∀ v ∈ ds, v.oneCell' = true := by rw [← hds]; exact vals_one
  have hsl : ds.length = 4096 := by rw [← hds, vals_length, hlj]
  rw [hds] at HB8
  have HRG := (show Hid (wr.rangeAt (w.heap.size + 1) 0 ds) from HB8.rangeAll)
  have HTH := (show Hid (wr.there w.heap.size 0 ds.toArray.size) from HA.out.there 0 _ (by rw [vals_length, List.length_replicate, List.size_toArray, hsl]; omega))
  have hb5 := HA.out.setCells ds 0 (by rw [vals_length, List.length_replicate, hsl]; omega)
  rw [lay_all _ _ (by rw [vals_length, List.length_replicate, hsl])] at hb5
  have HRG2 := (show Hid ((wr.setCells w.heap.size 0 ds).rangeAt w.heap.size 0 ds) from hb5.rangeAll)
  have HI := (show Hid ((Tryz.prog.info? 84).map (·.size) = some ds.length) from (by rw [hsl]; exact (by kernel_rfl : (Tryz.prog.info? 84).map (·.size) = some 4096) : (Tryz.prog.info? 84).map (·.size) = some ds.length))
  have HI2 := (show Hid ((Tryz.prog.info? 84).map (·.size) = some ds.toArray.size) from by rw [List.size_toArray]; exact HI.out)
  have HONE := (show Hid (ds.toArray.all (·.oneCell') = true) from all_oneCell_toArray hone)
  have HK4 := (show Hid (Same w (wr.setCells w.heap.size 0 ds)) from Kept.setCells (.inl (Nat.le_refl _)) ds 0 HK.out)
  clear hds hone hsl hb5 HB8
  go_wp2_with (first | (refine wpList_load_mid rfl 84 _ rfl (w.heap.size + 1) 0 rfl ds _ HRG.out Tryz.underlying84 rfl HI.out ?_) | (refine wpList_store_mid rfl 84 _ _ rfl w.heap.size 0 ds.toArray rfl rfl HTH.out HI2.out HONE.out ?_))
  have hlv := run_loadVar_mid (P := Tryz.prog) _ w.heap.size 0 84 ds _ HRG2.out Tryz.underlying84 rfl HI.out
  refine bodyPost_ret (v := .agg ds.toArray) ?_ rfl ?_
  ·simp [results, Tryz.results46, asAddr, hlv, Act.put]
  ·rw [HDS.out]
   exact ⟨rfl, HK4.out⟩
def DiskB (dur : List Int) (ps : List PW) : Prop := IsB dur ∧ ∀ p ∈ ps, IsB p.bs
theorem DiskB.dat {dur : List Int} {ps qs : List PW} (h : DiskB dur ps) (hq : dataP qs = dataP ps) : DiskB dur qs := ⟨h.1, fun p hp => by
 have h1 : (p.sec, p.bs) ∈ dataP ps := by rw [← hq]; exact List.mem_map.2 ⟨p, hp, rfl⟩
 obtain ⟨p', hp', he⟩ := List.mem_map.1 h1
 have : p'.bs = p.bs := congrArg Prod.snd he
 rw [← this]
 exact h.2 p' hp'⟩
end Go.Proofs.YtjlkphhdbopmiaaGreat
