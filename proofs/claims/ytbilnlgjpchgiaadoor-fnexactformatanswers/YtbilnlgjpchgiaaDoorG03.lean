import Derived.Test.YtbilnlgjpchgiaaDoorG02
import Derived.Test.YtbilnlgjpchgiaaDoorG01
import Derived.Test.YtbilnlgjpchgiaaDoorG00
import Derived.Deep.DeepCutAuto
import Derived.Deep.RegionWith
import Derived.Deep.DeepMust
namespace Go.Proofs.YtbilnlgjpchgiaaDoor
set_option maxRecDepth 100000
set_option maxHeartbeats 16000000
set_option linter.unusedVariables false
set_option linter.unusedSimpArgs false
open Go.RowKit Go
theorem conv_one (w : World) (x : Int) : ∀ wx, (∀ i : Nat, wx.cell? ⟨w.heap.size, i, none⟩ = (w.alloc (.cells #[.int .u8 x] 5)).cell? ⟨w.heap.size, i, none⟩) → (convert 34 9 (.slice (some ⟨w.heap.size, 0, none⟩) 1 1)).run Tryd.prog wx = .ok (.string (strOfNums [x])) wx := by
 intro wx h
 refine run_convert_bytes_arg wx 34 5 Tryd.underlying34 Tryd.underlying5 w.heap.size 0 _ _ [x] rfl ?_ 9 Tryd.underlying9
 intro i hi
 have hi : i = 0 := by simp at hi; omega
 subst hi
 rw [h]
 have hb : Blk (w.alloc (.cells #[.int .u8 x] 5)) w.heap.size 5 (vals .u8 [x]) := Blk.new w #[.int .u8 x] 5
 exact hb.cell 0
theorem dig_tx (n : Nat) : strOfNums [48 + (n : Int)] = Tx [UInt8.ofNat (48 + n)] := by
 have h : (48 + (n : Int)).toNat = 48 + n := by omega
 unfold strOfNums
 simp only [List.map_cons, List.map_nil, h]
theorem dec_small {n : Nat} (h : n < 10) : Lib.decDigits n = [UInt8.ofNat (48 + n)] := by rw [Lib.decDigits, dif_pos h]
theorem dec_big {n : Nat} (h : ¬ n < 10) : Lib.decDigits n = Lib.decDigits (n / 10) ++ [UInt8.ofNat (48 + n % 10)] := by rw [Lib.decDigits, dif_neg h]
theorem nDig_le : ∀ (k u : Nat), u < 10 ^ (k + 1) → Lib.nDigits u ≤ k + 1
 | 0, u, h => by rw [Lib.nDigits, dif_pos (by omega)]; omega
 | k + 1, u, h => by
  by_cases hs : u < 10
  ·rw [Lib.nDigits, dif_pos hs]; omega
  ·rw [Lib.nDigits, dif_neg hs]
   have := nDig_le k (u / 10) (by rw [Nat.pow_succ] at h; omega)
   omega
theorem dec_len (u : Nat) (h : u ≤ 18446744073709551615) : (Lib.decDigits u).length ≤ 20 := by
 rw [Lib.decDigits_length]
 exact nDig_le 19 u (by omega)
theorem itoa_len (n : Int) (h0 : -9223372036854775808 ≤ n) (h1 : n ≤ 9223372036854775807) : (Lib.itoa n).length ≤ 21 := by
 unfold Lib.itoa
 split
 ·have := dec_len n.natAbs (by omega)
  simp only [List.length_cons]
  omega
 ·have := dec_len n.toNat (by omega)
  omega
theorem numS_small (n : Nat) (h : n < 10) (w : World) : Calls Tryd.prog 19 #[.int .i64 n] w fun e w' => e = .returned (.string (Tx (Lib.decDigits n))) ∧ Same w w' := by
 have hw : IntKind.u8.wrap (48 + (n : Int)) = 48 + n := by rw [IntKind.wrap_u8]; omega
 have hcv := conv_one w (48 + (n : Int)) _ (fun _ => rfl)
 have h1 : ¬ (n : Int) < 0 := by omega
 have h2 : (n : Int) < 10 := by omega
 have HD := hid ((dig_tx n).trans (congrArg Tx (dec_small h).symm))
 go_enter Tryd.func19, Tryd.ntmps19
 go_wp2
 go_ret
 exact ⟨by rw [HD.out]; rfl, (Kept.refl _ _).alloc _⟩
theorem numS_pos : ∀ (m n : Nat), n < m → (n : Int) ≤ 9223372036854775807 → ∀ (w : World), Calls Tryd.prog 19 #[.int .i64 n] w fun e w' => e = .returned (.string (Tx (Lib.decDigits n))) ∧ Same w w'
 | 0, n, h, _, _ => absurd h (Nat.not_lt_zero _)
 | m + 1, n, h, hb, w => by
  by_cases hs : n < 10
  ·exact numS_small n hs w
  have h1 : ¬ (n : Int) < 0 := by omega
  have h2 : ¬ (n : Int) < 10 := by omega
  have HC := (show Hid (∀ wx, Calls Tryd.prog 19 #[.int .i64 ((n / 10 : Nat) : Int)] wx fun e w' => e = .returned (.string (Tx (Lib.decDigits (n / 10)))) ∧ Same wx w') from fun wx => numS_pos m (n / 10) (by omega) (by omega) wx)
  have HD := (show Hid (Tx (Lib.decDigits (n / 10)) ++ strOfNums [48 + ((n % 10 : Nat) : Int)] = Tx (Lib.decDigits n)) from by unfold Hid; rw [dig_tx, tx_app, ← dec_big hs])
  obtain ⟨q, hq⟩ : ∃ q, n / 10 = q := ⟨_, rfl⟩
  obtain ⟨r, hr⟩ : ∃ r, n % 10 = r := ⟨_, rfl⟩
  have hrb : r < 10 := by omega
  have t1 : (n : Int).tdiv 10 = (q : Int) := by rw [Int.tdiv_eq_ediv_of_nonneg (by omega)]; omega
  have t2 : (n : Int).tmod 10 = (r : Int) := by rw [Int.tmod_eq_emod_of_nonneg (by omega)]; omega
  have t3 : IntKind.i64.wrap (q : Int) = q := by rw [IntKind.wrap_i64]; omega
  have hw : IntKind.u8.wrap (48 + (r : Int)) = 48 + r := by rw [IntKind.wrap_u8]; omega
  have hw2 : IntKind.i64.wrap (48 + (r : Int)) = 48 + r := by rw [IntKind.wrap_i64]; omega
  have hsz : ¬ 9223372036854775807 < (Lib.decDigits q).length + (strOfNums [48 + (r : Int)]).size := by
   have := dec_len q (by omega)
   rw [strOfNums_size]
   simp only [List.length_cons, List.length_nil]
   omega
  rw [hq, hr] at HD
  rw [hq] at HC
  clear hq hr
  go_enter Tryd.func19, Tryd.ntmps19
  go_upto_region 9 with fail
  refine wp_region_V (fun _ => True) 99 11 rfl (by kernel_rfl) ?_
  have HK0 := (show Hid (Same w w.drew) from (Kept.refl _ _).drew)
  generalize w.drew = u at HK0 ⊢
  refine tk 0 32 trivial ?_
  refine tkV 1 33 (.int .i64 q) trivial ?_
  refine tk 3 35 trivial ?_
  refine tkV 4 36 (.int .i64 r) trivial ?_
  refine tk 5 37 trivial ?_
  refine tkV 6 38 (.int .u8 (48 + r)) trivial ?_
  refine wpAnyV_two (i := 2) (j := 7) (by kernel_rfl) rfl rfl (fun K hK => ?_) (fun K hK => ?_)
  ·go_simp
   refine (HC.out _).mono ?_
   rintro e w1 ⟨rfl, hk1⟩
   have HK1 := hid (HK0.out.trans hk1)
   refine hK.out _ _ (fun _ => trivial) ?_
   clear hK K hk1
   try simp only [Act.put, sA, s0, sS]
   have hcv := conv_one w1 (48 + (r : Int)) _ (fun _ => rfl)
   refine wpAnyV_one (i := 7) (by kernel_rfl) rfl (fun K hK => ?_)
   go_simp
   refine hK.out _ _ (fun _ => trivial) ?_
   clear hK K
   try simp only [Act.put, sA, s0, sS]
   have HK2 := hid (HK1.out.alloc (.cells #[.int .u8 (48 + (r : Int))] 5))
   refine wpAnyV_one (i := 8) (by kernel_rfl) rfl (fun K hK => ?_)
   go_simp
   refine hK.out _ _ (fun _ => trivial) ?_
   clear hK K hcv
   try simp only [Act.put, sA, s0, sS]
   refine tkV 9 41 (.string (Tx (Lib.decDigits q) ++ strOfNums [48 + (r : Int)])) trivial ?_
   refine tk 10 2 trivial ?_
   refine wpAnyV_done (by kernel_rfl) ?_
   go_wp2
   go_ret
   exact ⟨by rw [HD.out]; rfl, HK2.out⟩
  ·go_simp
   refine hK.out _ _ (fun _ => trivial) ?_
   clear hK K
   try simp only [Act.put, sA, s0, sS]
   have HK1 := hid (HK0.out.alloc (.cells #[.int .u8 (48 + (r : Int))] 5))
   have HB := (show Hid (∀ wx, Same (u.alloc (.cells #[.int .u8 (48 + (r : Int))] 5)) wx → (convert 34 9 (.slice (some ⟨u.heap.size, 0, none⟩) 1 1)).run Tryd.prog wx = .ok (.string (strOfNums [48 + (r : Int)])) wx) from fun wx hk => by
    have hb : Blk (u.alloc (.cells #[.int .u8 (48 + (r : Int))] 5)) u.heap.size 5 [.int .u8 (48 + (r : Int))] := Blk.new u #[.int .u8 (48 + (r : Int))] 5
    exact conv_one u (48 + (r : Int)) wx (fun i => by rw [(hb.same hk).cell, hb.cell]))
   generalize u.alloc (.cells #[.int .u8 (48 + (r : Int))] 5) = u1 at HK1 HB ⊢
   generalize u.heap.size = U at HB ⊢
   refine wpAnyV_two (i := 2) (j := 8) (by kernel_rfl) rfl rfl (fun K hK => ?_) (fun K hK => ?_)
   ·go_simp
    refine (HC.out _).mono ?_
    rintro e w1 ⟨rfl, hk1⟩
    have HK2 := hid (HK1.out.trans hk1)
    have hcv := HB.out w1 hk1
    refine hK.out _ _ (fun _ => trivial) ?_
    clear hK K hk1
    try simp only [Act.put, sA, s0, sS]
    refine wpAnyV_one (i := 8) (by kernel_rfl) rfl (fun K hK => ?_)
    go_simp
    refine hK.out _ _ (fun _ => trivial) ?_
    clear hK K hcv
    try simp only [Act.put, sA, s0, sS]
    refine tkV 9 41 (.string (Tx (Lib.decDigits q) ++ strOfNums [48 + (r : Int)])) trivial ?_
    refine tk 10 2 trivial ?_
    refine wpAnyV_done (by kernel_rfl) ?_
    go_wp2
    go_ret
    exact ⟨by rw [HD.out]; rfl, HK2.out⟩
   ·have hcv := HB.out u1 (Kept.refl _ _)
    go_simp
    refine hK.out _ _ (fun _ => trivial) ?_
    clear hK K hcv
    try simp only [Act.put, sA, s0, sS]
    refine wpAnyV_one (i := 2) (by kernel_rfl) rfl (fun K hK => ?_)
    go_simp
    refine (HC.out _).mono ?_
    rintro e w1 ⟨rfl, hk1⟩
    have HK2 := hid (HK1.out.trans hk1)
    refine hK.out _ _ (fun _ => trivial) ?_
    clear hK K hk1
    try simp only [Act.put, sA, s0, sS]
    refine tkV 9 41 (.string (Tx (Lib.decDigits q) ++ strOfNums [48 + (r : Int)])) trivial ?_
    refine tk 10 2 trivial ?_
    refine wpAnyV_done (by kernel_rfl) ?_
    go_wp2
    go_ret
    exact ⟨by rw [HD.out]; rfl, HK2.out⟩
theorem numS_neg (n : Nat) (h0 : 0 < n) (hb : (n : Int) ≤ 9223372036854775808) (w : World) : Calls Tryd.prog 19 #[.int .i64 (-(n : Int))] w fun e w' => e = .returned (.string (Tx (45 :: Lib.decDigits n))) ∧ Same w w' := by
 have h1 : -(n : Int) < 0 := by omega
 obtain ⟨q, hq⟩ : ∃ q, n / 10 = q := ⟨_, rfl⟩
 obtain ⟨r, hr⟩ : ∃ r, n % 10 = r := ⟨_, rfl⟩
 have hrb : r < 10 := by omega
 have t1 : (-(n : Int)).tdiv 10 = -(q : Int) := by rw [Int.neg_tdiv, Int.tdiv_eq_ediv_of_nonneg (by omega)]; omega
 have t2 : (-(n : Int)).tmod 10 = -(r : Int) := by rw [Int.neg_tmod, Int.tmod_eq_emod_of_nonneg (by omega)]; omega
 have hqb : (q : Int) ≤ 922337203685477580 := by omega
 have hw : IntKind.u8.wrap (48 + (r : Int)) = 48 + r := by rw [IntKind.wrap_u8]; omega
 have hcv := conv_one w (48 + (r : Int)) _ (fun _ => rfl)
 have HK0 := (show Hid (Same w (w.alloc (.cells #[.int .u8 (48 + (r : Int))] 5))) from (Kept.refl _ _).alloc _)
 by_cases hz : q = 0
 ·have hz' : ((q : Int) == 0) = true := by simp [hz]
  have HD := (show Hid ((⟨#[45]⟩ : ByteArray) ++ strOfNums [48 + (r : Int)] = Tx (45 :: Lib.decDigits n)) from by
   unfold Hid; rw [dig_tx, show (⟨#[45]⟩ : ByteArray) = Tx [45] from rfl, tx_app, dec_small (by omega : n < 10), show r = n by omega]; rfl)
  clear hq hr hz
  go_enter Tryd.func19, Tryd.ntmps19
  go_wp2
  go_ret
  exact ⟨by rw [HD.out]; rfl, HK0.out⟩
 ·have hz' : ((q : Int) == 0) = false := beq_eq_false_iff_ne.2 (by omega)
  have HC := (show Hid (∀ wx, Calls Tryd.prog 19 #[.int .i64 (q : Int)] wx fun e w' => e = .returned (.string (Tx (Lib.decDigits q))) ∧ Same wx w') from fun wx => numS_pos (q + 1) q (by omega) (by omega) wx)
  have HD := (show Hid ((⟨#[45]⟩ : ByteArray) ++ Tx (Lib.decDigits q) ++ strOfNums [48 + (r : Int)] = Tx (45 :: Lib.decDigits n)) from by
   unfold Hid; rw [dig_tx, show (⟨#[45]⟩ : ByteArray) = Tx [45] from rfl, tx_app, tx_app, dec_big (by omega : ¬ n < 10), hq, hr]; rfl)
  have hl := dec_len q (by omega)
  have l1 : ¬ 9223372036854775807 < 1 + (Lib.decDigits q).length := by omega
  have l2 : ¬ 9223372036854775807 < 1 + (Lib.decDigits q).length + (strOfNums [48 + (r : Int)]).size := by rw [strOfNums_size]; simp only [List.length_cons, List.length_nil]; omega
  clear hq hr hz hl
  go_enter Tryd.func19, Tryd.ntmps19
  go_wp2_with (go_at_call 19; refine (HC.out _).mono ?_; rintro e w1 ⟨rfl, hk1⟩; have HK1 := hid (HK0.out.trans hk1); clear hk1)
  go_ret
  exact ⟨by rw [HD.out]; rfl, HK1.out⟩
theorem numS_any (n : Int) (h0 : -9223372036854775808 ≤ n) (h1 : n ≤ 9223372036854775807) (w : World) : Calls Tryd.prog 19 #[.int .i64 n] w fun e w' => e = .returned (.string (Tx (Lib.itoa n))) ∧ Same w w' := by
 unfold Lib.itoa
 split
 ·obtain ⟨m, rfl⟩ : ∃ m : Nat, n = -(m : Int) := ⟨n.natAbs, by omega⟩
  have e : (-(m : Int)).natAbs = m := by omega
  rw [e]
  exact numS_neg m (by omega) (by omega) w
 ·obtain ⟨m, rfl⟩ : ∃ m : Nat, n = (m : Int) := ⟨n.toNat, by omega⟩
  exact numS_pos (m + 1) m (by omega) h1 w
structure EHeapRecord where
 id : Int
 v : Value
 bs : List Int
def kHeapRecord : RowK EHeapRecord := ⟨2, fun p => [.int .i64 p.id, p.v], fun _ => rfl, EHeapRecord.v, EHeapRecord.bs⟩
def EHeapRecord.dat (p : EHeapRecord) : Int × List Int := (p.id, p.bs)
def datHeapRecordS (ps : List EHeapRecord) : List (Int × List Int) := ps.map EHeapRecord.dat
theorem datHeapRecordS_length (ps : List EHeapRecord) : (datHeapRecordS ps).length = ps.length := by simp [datHeapRecordS]
theorem datHeapRecordS_at {ps qs : List EHeapRecord} (h : datHeapRecordS ps = datHeapRecordS qs) (k : Nat) (h1 : k < ps.length) (h2 : k < qs.length) : ps[k].dat = qs[k].dat := by
 have := congrArg (fun l => l[k]?) h
 simpa [datHeapRecordS, h1, h2] using this
theorem Tryd.infoRHeapRecord : (Tryd.prog.info? 88).map (fun i => (i.zero, i.size, i.bytes)) = some (some (.agg #[.int .i64 0, .slice none 0 0]), 2, 32) := by kernel_rfl
def sizeHeapRecordS : List EHeapRecord → Nat
 | [] => 0
 | p :: ps => p.bs.length + sizeHeapRecordS ps
theorem sizeHeapRecordS_append (ps qs : List EHeapRecord) : sizeHeapRecordS (ps ++ qs) = sizeHeapRecordS ps + sizeHeapRecordS qs := by
 induction ps with
 | nil => simp [sizeHeapRecordS]
 | cons p ps ih => simp only [List.cons_append, sizeHeapRecordS, ih]; omega
theorem sizeHeapRecordS_step (ps : List EHeapRecord) (j : Nat) (h : j < ps.length) : sizeHeapRecordS (ps.take (j + 1)) = sizeHeapRecordS (ps.take j) + ps[j].bs.length := by
 rw [List.take_succ_eq_append_getElem h, sizeHeapRecordS_append]
 simp [sizeHeapRecordS]
theorem sizeHeapRecordS_mem (ps : List EHeapRecord) (p : EHeapRecord) (h : p ∈ ps) : p.bs.length ≤ sizeHeapRecordS ps := by
 induction ps with
 | nil => cases h
 | cons q qs ih =>
  rcases List.mem_cons.1 h with rfl | h
  ·simp [sizeHeapRecordS]
  ·have := ih h; simp only [sizeHeapRecordS]; omega
theorem eqHeapRecord_own {ta tb : TypeId} (base : Nat) (id : Int) (va vb : Value) (bs : List Int) (w : World) (hn : bs.length ≤ 1125899906842624) (ha : Own base ta .u8 w va bs) (hb : Own base tb .u8 w vb bs) :
  Calls Tryd.prog 105 #[.agg #[.int .i64 id, va], .agg #[.int .i64 id, vb]] w fun e w' => e = .returned (.bool true) ∧ Same w w' := by
 obtain ⟨aa, na, ca, rfl⟩ := slice_of_own ha
 obtain ⟨ab, nb, cb, rfl⟩ := slice_of_own hb
 have HA : Hid (Own base ta .u8 w (.slice aa na ca) bs) := ha
 have HB : Hid (Own base tb .u8 w (.slice ab nb cb) bs) := hb
 have b0 := (Blk.newL w [.int .i64 id, .slice aa na ca] 88).same ((Kept.refl _ _).alloc (.cells #[.int .i64 id, .slice ab nb cb] 88))
 have b1 := Blk.newB w [.int .i64 id, .slice aa na ca] 88 [.int .i64 id, .slice ab nb cb] 88
 clear ha hb
 go_enter Tryd.func105, Tryd.ntmps105
 go_wp2_with fail
 refine (eqByteS_own base _ _ bs _ hn (HA.out.same (((Kept.refl _ _).alloc _).alloc _)) (HB.out.same (((Kept.refl _ _).alloc _).alloc _))).mono ?_
 rintro e w1 ⟨rfl, n1, hw⟩
 have hk : Same ((w.alloc (.cells #[.int .i64 id, .slice aa na ca] 88)).alloc (.cells #[.int .i64 id, .slice ab nb cb] 88)) w1 := by rw [hw]; exact (Kept.refl _ _).drewN _
 clear hw
 go_wp2
 go_ret
 exact ⟨rfl, (((Kept.refl _ _).alloc _).alloc _).trans hk⟩
theorem eqHeapRecordS_own {ta tb : TypeId} (base : Nat) (va vb : Value) (ps qs : List EHeapRecord) (w : World) (hn : ps.length ≤ 1125899906842624) (hs : datHeapRecordS ps = datHeapRecordS qs) (hsm : ∀ p ∈ ps, p.bs.length ≤ 1125899906842624)
  (ha : OwnR kHeapRecord base 88 ta w va ps) (hb : OwnR kHeapRecord base 88 tb w vb qs) :
  Calls Tryd.prog 93 #[va, vb] w fun e w' => e = .returned (.bool true) ∧ Same w w' := by
 have hlen : qs.length = ps.length := by rw [← datHeapRecordS_length, ← datHeapRecordS_length, hs]
 by_cases hz : ps.length = 0
 ·obtain rfl : ps = [] := List.length_eq_zero_iff.1 hz
  obtain rfl : qs = [] := List.length_eq_zero_iff.1 hlen
  obtain ⟨aa, ca, rfl⟩ : ∃ aa ca, va = .slice aa 0 ca := by rcases ha.form with ⟨rfl, _⟩ | ⟨g, cap, rfl, _⟩ <;> exact ⟨_, _, rfl⟩
  obtain ⟨ab, cb, rfl⟩ : ∃ aa ca, vb = .slice aa 0 ca := by rcases hb.form with ⟨rfl, _⟩ | ⟨g, cap, rfl, _⟩ <;> exact ⟨_, _, rfl⟩
  clear ha hb hn hz hs
  go_enter Tryd.func93, Tryd.ntmps93
  go_wp2
  refine wp_loop_rounds 1 ?_
  rw [rounds_succ]
  go_wp2
  go_ret
  exact ⟨rfl, Kept.refl _ _⟩
 ·obtain ⟨ga, ca, rfl⟩ : ∃ g cap, va = .slice (some ⟨g, 0, none⟩) ps.length cap := by
   rcases ha.form with ⟨_, h⟩ | ⟨g, cap, h, _⟩
   ·simp [h] at hz
   ·exact ⟨g, cap, h⟩
  obtain ⟨gb, cb, rfl⟩ : ∃ g cap, vb = .slice (some ⟨g, 0, none⟩) ps.length cap := by
   rcases hb.form with ⟨_, h⟩ | ⟨g, cap, h, _⟩
   ·simp [h] at hlen; omega
   ·exact ⟨g, cap, by rw [h, hlen]⟩
  have HA : Hid (OwnR kHeapRecord base 88 ta w (.slice (some ⟨ga, 0, none⟩) ps.length ca) ps) := ha
  have HB : Hid (OwnR kHeapRecord base 88 tb w (.slice (some ⟨gb, 0, none⟩) ps.length cb) qs) := hb
  have HQ : Hid (qs.length = ps.length) := hlen
  have HS : Hid (datHeapRecordS ps = datHeapRecordS qs) := hs
  have HM : Hid (∀ p ∈ ps, p.bs.length ≤ 1125899906842624) := hsm
  clear ha hb hs hlen hsm
  generalize hl : ps.length = len at hn hz HA HB ⊢
  have HL : Hid (ps.length = len) := hl
  clear hl
  go_enter Tryd.func93, Tryd.ntmps93
  go_wp2
  go_loopw [5] (fun i wr => ∃ (k : Nat), k ≤ len ∧ i = .int .i64 k ∧ Hid (Same w wr)) (fun i _ => len - (intOf i).toNat)
  case atStart => exact ⟨0, Nat.zero_le _, rfl, Kept.refl _ _⟩
  case round =>
   obtain ⟨k, hk, rfl, HK⟩ := hrel
   by_cases hlt : k < len
   ·have hlp : k < ps.length := by rw [HL.out]; exact hlt
    have hlq : k < qs.length := by rw [HQ.out]; exact hlp
    have hoa := HA.out.same HK.out
    have hob := HB.out.same HK.out
    have hdd := datHeapRecordS_at HS.out k hlp hlq
    simp only [EHeapRecord.dat, Prod.mk.injEq] at hdd
    obtain ⟨d0, d1⟩ := hdd
    have s3 := HM.out _ (List.getElem_mem hlp)
    have ha0 : wr.cell? ⟨ga, k * 2, none⟩ = some (.int .i64 ps[k].id) := hoa.cell HL.out.symm k 0 hlp (by decide)
    have ha1 : wr.cell? ⟨ga, k * 2 + 1, none⟩ = some (ps[k].v) := hoa.cell HL.out.symm k 1 hlp (by decide)
    have hb0 : wr.cell? ⟨gb, k * 2, none⟩ = some (.int .i64 ps[k].id) := by rw [d0]; exact hob.cell (by rw [HQ.out, HL.out]) k 0 hlq (by decide)
    have hb1 : wr.cell? ⟨gb, k * 2 + 1, none⟩ = some (qs[k].v) := hob.cell (by rw [HQ.out, HL.out]) k 1 hlq (by decide)
    have HDA : Hid (Own base ta .u8 wr ps[k].v ps[k].bs) := hoa.data _ (List.getElem_mem hlp)
    have HDB : Hid (Own base tb .u8 wr qs[k].v ps[k].bs) := by have := hob.data _ (List.getElem_mem hlq); rw [d1]; exact this
    clear d0 d1 hoa hob
    go_wp2_with fail
    go_region_with (go_at_call 105; refine (eqHeapRecord_own base ps[k].id ps[k].v qs[k].v ps[k].bs _ s3 (by exact HDA.out.same (Kept.refl _ _).drew) (by exact HDB.out.same (Kept.refl _ _).drew)).mono ?_; rintro e w1 ⟨rfl, hk1⟩)
    all_goals
     have HK1 : Hid (Same w w1) := HK.out.drew.trans hk1
     clear hk1 ha0 hb0 ha1 hb1 HDA HDB
     go_wp2
     go_roundw
     case rel => exact ⟨k + 1, by omega, by go_num, HK1⟩
     case measure => simp [intOf]; omega
   ·go_wp2
    go_ret
    exact ⟨rfl, HK.out⟩
theorem szHeapRecord_any (id : Int) (a : Option Addr) (n c : Nat) (left : Int) (w : World) (h0 : 0 ≤ left) (h1 : left ≤ 1048576) (hn : n ≤ maxLen) :
  Calls Tryd.prog 98 #[.agg #[.int .i64 id, .slice a n c], .int .i64 left] w fun e w' => ∃ r : Int, e = .returned (.int .i64 r) ∧ ((r = -1 ∧ left < n) ∨ (r = left - n ∧ 0 ≤ r)) ∧ Same w w' := by
 go_enter Tryd.func98, Tryd.ntmps98
 go_wp2_with fail
 refine (szByteS_any a n c left _ h0 h1 hn).mono ?_
 rintro e w1 ⟨r, rfl, hr, rfl⟩
 rcases hr with ⟨rfl, hr⟩ | ⟨hr, hr0⟩
 ·go_wp2
  go_ret
  exact ⟨_, rfl, .inl ⟨rfl, hr⟩, (Kept.refl _ _).alloc _⟩
 ·have HR : Hid (r = left - n) := hr
  clear hr
  go_wp2
  go_ret
  exact ⟨_, rfl, .inr ⟨HR.out, hr0⟩, (Kept.refl _ _).alloc _⟩
theorem szHeapRecordS_any (v : Value) (ps : List EHeapRecord) (left : Int) (w : World) (h0 : 0 ≤ left) (h1 : left ≤ 1048576) (hp : RdR kHeapRecord w v ps) :
  Calls Tryd.prog 87 #[v, .int .i64 left] w fun e w' => ∃ r : Int, e = .returned (.int .i64 r) ∧ (r = -1 ∨ (r = left - ps.length - sizeHeapRecordS ps ∧ 0 ≤ r)) ∧ Same w w' := by
 have hn := hp.max
 unfold maxLen at hn
 rcases hp.row with ⟨rfl, a, c, rfl⟩ | ⟨b, off, c, rfl, hc⟩
 ·clear hp hn
  go_enter Tryd.func87, Tryd.ntmps87
  go_wp2
  refine wp_loop_rounds 1 ?_
  rw [rounds_succ]
  go_wp2
  go_ret
  exact ⟨_, rfl, .inr ⟨by simp [sizeHeapRecordS], by omega⟩, Kept.refl _ _⟩
 ·have HP : Hid (RdR kHeapRecord w (.slice (some ⟨b, off, none⟩) ps.length c) ps) := hp
  have HC : Hid (∀ j i, (h : j < ps.length) → i < 2 → w.cell? ⟨b, off + (j * 2 + i), none⟩ = (kHeapRecord.cells ps[j])[i]?) := hc
  clear hp hc
  generalize hl : ps.length = len at hn HP ⊢
  have HL : Hid (ps.length = len) := hl
  clear hl
  by_cases h : left < len
  ·go_enter Tryd.func87, Tryd.ntmps87
   go_wp2
   go_ret
   exact ⟨_, rfl, .inl rfl, Kept.refl _ _⟩
  ·go_enter Tryd.func87, Tryd.ntmps87
   go_wp2
   go_loopw [1, 5] (fun u i wr => ∃ (k : Nat) (r : Int), k ≤ len ∧ i = .int .i64 k ∧ u = .int .i64 r ∧ 0 ≤ r ∧ r ≤ left ∧ Hid (r = left - len - sizeHeapRecordS (ps.take k)) ∧ Hid (Same w wr)) (fun _ i _ => len - (intOf i).toNat)
   case atStart => exact ⟨0, left - len, Nat.zero_le _, rfl, rfl, by omega, by omega, by simp [sizeHeapRecordS, Hid], Kept.refl _ _⟩
   case round =>
    obtain ⟨k, r, hk, rfl, rfl, hr0, hr1, HR, HK⟩ := hrel
    by_cases hlt : k < len
    ·have hlp : k < ps.length := by rw [HL.out]; exact hlt
     obtain ⟨a1, c1, e1⟩ := (show Rd .u8 w ps[k].v ps[k].bs from HP.out.data _ (List.getElem_mem hlp)).form
     have hm1 := (show Rd .u8 w ps[k].v ps[k].bs from HP.out.data _ (List.getElem_mem hlp)).1
     have q0 : wr.cell? ⟨b, off + k * 2, none⟩ = some (.int .i64 ps[k].id) := HK.out.cellOf (p := ⟨b, off + k * 2, none⟩) (by have h := HC.out k 0 hlp (by decide); exact h) id
     have q1 : wr.cell? ⟨b, off + k * 2 + 1, none⟩ = some (ps[k].v) := HK.out.cellOf (p := ⟨b, off + k * 2 + 1, none⟩) (by have h := HC.out k 1 hlp (by decide); rw [← Nat.add_assoc] at h; exact h) id
     rw [e1] at q1
     clear e1
     go_wp2_with fail
     refine (szHeapRecord_any _ _ _ _ _ _ hr0 (by omega) hm1).mono ?_
     rintro e w1 ⟨r1, rfl, hr2, hk1⟩
     have HK1 : Hid (Same w w1) := HK.out.trans hk1
     clear q0 q1 hk1
     rcases hr2 with ⟨rfl, hr2⟩ | ⟨hr2, hr3⟩
     ·go_wp2
      go_ret
      exact ⟨_, rfl, .inl rfl, HK1.out⟩
     ·have hr4 : r1 ≤ left := by omega
      have HR1 : Hid (r1 = r - ps[k].bs.length) := hr2
      clear hr2
      go_wp2
      go_roundw
      case rel => exact ⟨k + 1, r1, by omega, by go_num, rfl, hr3, hr4, by have h1 := HR1.out; have h2 := HR.out; have h3 := sizeHeapRecordS_step ps k hlp; unfold Hid; omega, HK1⟩
      case measure => simp [intOf]; omega
    ·go_wp2
     go_ret
     obtain rfl : k = len := by omega
     have h1 := HR.out
     have h2 := HL.out
     rw [← h2, List.take_length] at h1
     exact ⟨r, rfl, .inr ⟨by omega, hr0⟩, HK.out⟩
theorem datHeapRecordS_size {ps qs : List EHeapRecord} (h : datHeapRecordS ps = datHeapRecordS qs) : sizeHeapRecordS ps = sizeHeapRecordS qs := by
 induction ps generalizing qs with
 | nil => cases qs with
  | nil => rfl
  | cons q qs => simp [datHeapRecordS] at h
 | cons p ps ih => cases qs with
  | nil => simp [datHeapRecordS] at h
  | cons q qs =>
   simp only [datHeapRecordS, List.map_cons, List.cons.injEq, EHeapRecord.dat, Prod.mk.injEq] at h
   simp only [sizeHeapRecordS, ih h.2, h.1.2]
theorem toHeapRecord_any (id : Int) (v : Value) (bs : List Int) (w : World) (hn : bs.length ≤ 1099511627776) (hv : Rd .u8 w v bs) :
  Calls Tryd.prog 99 #[.agg #[.int .i64 id, v]] w fun e w' => ∃ g, e = .returned (.agg #[.int .i64 id, .slice (some ⟨g, 0, none⟩) bs.length bs.length]) ∧ w.heap.size ≤ g ∧ Own 0 5 .u8 w' (.slice (some ⟨g, 0, none⟩) bs.length bs.length) bs ∧ Same w w' := by
 obtain ⟨a, c, rfl⟩ := hv.form
 have HV := (show Hid (Rd .u8 w _ bs) from hv)
 clear hv
 have b0 : Blk (((w.alloc (.cells #[.int .i64 id, .slice a bs.length c] 163)).alloc (.cells #[.int .i64 0, .slice none 0 0] 88)).alloc (.cells #[.int .i64 id, .slice none 0 0] 88)) w.heap.size 163 [.int .i64 id, .slice a bs.length c] := ((Blk.newL w [.int .i64 id, .slice a bs.length c] 163).same ((Kept.refl _ _).alloc _)).same ((Kept.refl _ _).alloc _)
 have b1 : Blk (((w.alloc (.cells #[.int .i64 id, .slice a bs.length c] 163)).alloc (.cells #[.int .i64 0, .slice none 0 0] 88)).alloc (.cells #[.int .i64 id, .slice none 0 0] 88)) (w.heap.size + 1) 88 [.int .i64 0, .slice none 0 0] := (Blk.newB w [.int .i64 id, .slice a bs.length c] 163 [.int .i64 0, .slice none 0 0] 88).same ((Kept.refl _ _).alloc _)
 have b2 : Blk (((w.alloc (.cells #[.int .i64 id, .slice a bs.length c] 163)).alloc (.cells #[.int .i64 0, .slice none 0 0] 88)).alloc (.cells #[.int .i64 id, .slice none 0 0] 88)) (w.heap.size + 1 + 1) 88 [.int .i64 id, .slice none 0 0] := by have h := Blk.newL ((w.alloc (.cells #[.int .i64 id, .slice a bs.length c] 163)).alloc (.cells #[.int .i64 0, .slice none 0 0] 88)) [.int .i64 id, .slice none 0 0] 88; rwa [World.size_alloc, World.size_alloc] at h
 go_enter Tryd.func99, Tryd.ntmps99
 go_wp2_with fail
 refine (toByteS_any _ bs _ hn (HV.out.same ((((Kept.refl _ _).alloc _).alloc _).alloc _))).mono ?_
 rintro e w1 ⟨g, rfl, hg, ho, hk⟩
 simp only [World.size_alloc] at hg
 have HO := (show Hid (Own 0 5 .u8 w1 _ bs) from ho)
 have HK : Hid (Same w w1) := ((((Kept.refl _ _).alloc _).alloc _).alloc _).trans hk
 have z0 : w1.cell? ⟨w.heap.size + 1, 0, none⟩ = some (.int .i64 0) := (b1.same hk).cell 0
 have z1 : w1.cell? ⟨w.heap.size + 1, 1, none⟩ = some (.slice none 0 0) := (b1.same hk).cell 1
 have o0 : w1.cell? ⟨w.heap.size + 1 + 1, 0, none⟩ = some (.int .i64 id) := (b2.same hk).cell 0
 have o1 : w1.cell? ⟨w.heap.size + 1 + 1, 1, none⟩ = some (.slice none 0 0) := (b2.same hk).cell 1
 have f1 := (b1.same hk).frozen
 have f2 := (b2.same hk).frozen
 have hz1 : w.heap.size + 1 + 1 < w1.heap.size := (b2.same hk).lt
 clear ho hk b0 b1 b2
 go_wp2
 refine bodyPost_ret (v := .agg #[.int .i64 id, .slice (some ⟨g, 0, none⟩) bs.length bs.length]) (by simp [results, Tryd.results99, go_sem, z0, z1]) rfl ⟨g, rfl, by omega, ?_, ?_⟩
 ·refine HO.out.kept (R := fun b => b = w.heap.size + 1 ∨ b = w.heap.size + 1 + 1) ?_ (fun b hb e => by simp [Value.ownBlock] at hb; omega)
  (iterate 3 refine Kept.setCell (R := fun b => b = w.heap.size + 1 ∨ b = w.heap.size + 1 + 1) ?_ (by first | exact .inr (.inl rfl) | exact .inr (.inr rfl)) _)
  exact Kept.refl _ _
 ·(iterate 3 refine Kept.setCell ?_ (by first | exact .inl (Nat.le_succ _) | exact .inl (Nat.le_succ_of_le (Nat.le_succ _))) _)
  exact HK.out
def zHeapRecord : EHeapRecord := ⟨0, .slice none 0 0, []⟩
theorem toHeapRecordS_any (v : Value) (ps : List EHeapRecord) (w : World) (hn : ps.length ≤ 1073741824) (hs : ∀ p ∈ ps, p.bs.length ≤ 1099511627776) (hv : RdR kHeapRecord w v ps) :
  Calls Tryd.prog 89 #[v] w fun e w' => ∃ g qs, e = .returned (.slice (some ⟨g, 0, none⟩) ps.length ps.length) ∧ datHeapRecordS qs = datHeapRecordS ps ∧ (∀ b, footR kHeapRecord (.slice (some ⟨g, 0, none⟩) ps.length ps.length) qs b → w.heap.size ≤ b) ∧
   OwnR kHeapRecord 0 88 5 w' (.slice (some ⟨g, 0, none⟩) ps.length ps.length) qs ∧ Same w w' := by
 obtain ⟨i0, hi, hz0, hz1, hz2⟩ := info_parts Tryd.infoRHeapRecord
 rcases hv.row with ⟨rfl, a, c, rfl⟩ | ⟨b, off, c, rfl, hc⟩
 ·clear hv hn hs
  go_enter Tryd.func89, Tryd.ntmps89
  go_wp2_with (at_make; refine wpList_make_full _ rfl (.tmp 6) (.tmp 6) 83 rfl 0 88 i0 (.agg #[.int .i64 0, .slice none 0 0]) 2 Tryd.underlying83 hi hz0 hz1 .i64 .i64 _ _ 0 rfl rfl (by simp) (by simp) (by simp) (by simp) (Nat.zero_le _) ?_; intro w1 hown1 hgrow1; have HO : Hid (OwnR kHeapRecord 0 88 5 w1 (.slice (some ⟨w.heap.size, 0, none⟩) 0 0) []) := ownR_made (K := kHeapRecord) (zp := zHeapRecord) (z := .agg #[.int .i64 0, .slice none 0 0]) (by decide) rfl rfl rfl (n := 0) (by first | exact hown1 | simpa [kHeapRecord] using hown1); have HK : Hid (Same w w1) := Kept.of_grown hgrow1 (fun k e => by cases e); clear hown1 hgrow1)
  refine wp_loop_rounds 1 ?_
  rw [rounds_succ]
  go_wp2
  go_ret
  refine ⟨w.heap.size, [], rfl, rfl, fun b hb => ?_, HO.out, HK.out⟩
  rcases hb with hb | ⟨p, hp, _⟩
  ·simp [Value.ownBlock] at hb; omega
  ·simp at hp
 ·have HP : Hid (RdR kHeapRecord w (.slice (some ⟨b, off, none⟩) ps.length c) ps) := hv
  have HC : Hid (∀ j i, (h : j < ps.length) → i < 2 → w.cell? ⟨b, off + (j * 2 + i), none⟩ = (kHeapRecord.cells ps[j])[i]?) := hc
  have HS : Hid (∀ p ∈ ps, p.bs.length ≤ 1099511627776) := hs
  clear hc hv hs
  generalize hl : ps.length = len at hn HP ⊢
  have HL : Hid (ps.length = len) := hl
  clear hl
  go_enter Tryd.func89, Tryd.ntmps89
  go_wp2_with (at_make; refine wpList_make_full _ rfl (.tmp 6) (.tmp 6) 83 rfl 0 88 i0 (.agg #[.int .i64 0, .slice none 0 0]) 2 Tryd.underlying83 hi hz0 hz1 .i64 .i64 _ _ len rfl rfl (by simp) (by simp) (by rw [hz2]; omega) (by unfold maxLen; omega) (Nat.zero_le _) ?_; intro w1 hown1 hgrow1; have HO : Hid (OwnR kHeapRecord 0 88 5 w1 (.slice (some ⟨w.heap.size, 0, none⟩) len len) (List.replicate len zHeapRecord)) := ownR_made (K := kHeapRecord) (zp := zHeapRecord) (z := .agg #[.int .i64 0, .slice none 0 0]) (by decide) rfl rfl rfl (by first | exact hown1 | simpa [kHeapRecord] using hown1); have HK : Hid (Same w w1) := Kept.of_grown hgrow1 (fun k e => by cases e); clear hown1 hgrow1)
  go_loopw [4] (fun i wr => ∃ (k : Nat) (qs : List EHeapRecord), k ≤ len ∧ i = .int .i64 k ∧ qs.length = k ∧ Hid (datHeapRecordS qs = datHeapRecordS (ps.take k)) ∧ Hid (∀ b, (∃ p ∈ qs, (kHeapRecord.v p).ownBlock = some b) → w.heap.size ≤ b) ∧ Hid (OwnR kHeapRecord 0 88 5 wr (.slice (some ⟨w.heap.size, 0, none⟩) len len) (qs ++ List.replicate (len - k) zHeapRecord)) ∧ Hid (Same w wr)) (fun i _ => len - (intOf i).toNat)
  case atStart => exact ⟨0, [], Nat.zero_le _, rfl, rfl, rfl, fun b ⟨p, hp, _⟩ => by simp at hp, by simpa using HO, HK⟩
  case round =>
   obtain ⟨k, qs, hk, rfl, hql, HQ, HF, HOr, HKr⟩ := hrel
   have HQL : Hid (qs.length = k) := hql
   clear hql
   by_cases hlt : k < len
   ·have hlp : k < ps.length := by rw [HL.out]; exact hlt
    have HREP : Hid (List.replicate (len - k) zHeapRecord = zHeapRecord :: List.replicate (len - (k + 1)) zHeapRecord) := by unfold Hid; rw [show len - k = len - (k + 1) + 1 from by omega, List.replicate_succ]
    have hd0 : Rd .u8 w ps[k].v ps[k].bs := HP.out.data _ (List.getElem_mem hlp)
    obtain ⟨a1, c1, e1⟩ := hd0.form
    have hd := hd0.same HKr.out
    have hm1 := HS.out _ (List.getElem_mem hlp)
    have q0 : wr.cell? ⟨b, off + k * 2, none⟩ = some (.int .i64 ps[k].id) := HKr.out.cellOf (p := ⟨b, off + k * 2, none⟩) (by have h := HC.out k 0 hlp (by decide); exact h) id
    have q1 : wr.cell? ⟨b, off + k * 2 + 1, none⟩ = some (ps[k].v) := HKr.out.cellOf (p := ⟨b, off + k * 2 + 1, none⟩) (by have h := HC.out k 1 hlp (by decide); rw [← Nat.add_assoc] at h; exact h) id
    rw [e1] at q1 hd
    have HD := (show Hid (Rd .u8 wr _ ps[k].bs) from hd)
    have HLN : Hid (len = (qs ++ zHeapRecord :: List.replicate (len - (k + 1)) zHeapRecord).length) := by unfold Hid; simp [HQL.out]; omega
    clear e1 hd hd0
    go_wp2_with fail
    refine (toHeapRecord_any _ _ ps[k].bs _ hm1 HD.out).mono ?_
    rintro e w2 ⟨g, rfl, hg, ho, hk2⟩
    have HO2 : Hid (OwnR kHeapRecord 0 88 5 w2 (.slice (some ⟨w.heap.size, 0, none⟩) len len) (qs ++ zHeapRecord :: List.replicate (len - (k + 1)) zHeapRecord)) := by have h := HOr.out.same hk2; rw [HREP.out] at h; exact h
    have r0 : w2.cell? ⟨w.heap.size, k * 2, none⟩ = some (.int .i64 0) := HO2.out.cellMid HLN.out 0 (by decide) _ (by rw [HQL.out]; rfl)
    have r1 : w2.cell? ⟨w.heap.size, k * 2 + 1, none⟩ = some (.slice none 0 0) := HO2.out.cellMid HLN.out 1 (by decide) _ (by rw [HQL.out]; rfl)
    have rf : ∀ j, w2.frozen? ⟨w.heap.size, j, none⟩ = false := fun j => HO2.out.frozen HLN.out j
    have HK2 : Hid (Same w w2) := HKr.out.trans hk2
    have HO3 : Hid (Own 0 5 .u8 w2 (.slice (some ⟨g, 0, none⟩) ps[k].bs.length ps[k].bs.length) ps[k].bs) := ho
    have hg0 : w.heap.size ≤ g := Nat.le_trans HKr.out.size hg
    have HG : Hid (wr.heap.size ≤ g) := hg
    have HFIN : Hid (OwnR kHeapRecord 0 88 5 (w2.setCells w.heap.size (k * 2) (kHeapRecord.cells ⟨ps[k].id, .slice (some ⟨g, 0, none⟩) ps[k].bs.length ps[k].bs.length, ps[k].bs⟩)) (.slice (some ⟨w.heap.size, 0, none⟩) len len) (qs ++ (⟨ps[k].id, .slice (some ⟨g, 0, none⟩) ps[k].bs.length ps[k].bs.length, ps[k].bs⟩ : EHeapRecord) :: List.replicate (len - (k + 1)) zHeapRecord)) := HO2.out.setElem (p' := (⟨ps[k].id, .slice (some ⟨g, 0, none⟩) ps[k].bs.length ps[k].bs.length, ps[k].bs⟩ : EHeapRecord)) HLN.out (k * 2) (by rw [HQL.out]; rfl) HO3.out (fun b hb hf => by
     have h1 : b = g := (Option.some.inj hb : g = b).symm
     have h2 : footR kHeapRecord (.slice (some ⟨w.heap.size, 0, none⟩) len len) (qs ++ List.replicate (len - k) zHeapRecord) b := by rw [HREP.out]; exact hf
     have h3 := (HOr.out.lt b h2).2
     have h4 := HG.out
     omega)
    clear ho hk2 hg q0 q1
    go_wp2
    go_roundw
    case rel =>
     refine ⟨k + 1, qs ++ [⟨ps[k].id, .slice (some ⟨g, 0, none⟩) ps[k].bs.length ps[k].bs.length, ps[k].bs⟩], by omega, by go_num, by simp [HQL.out], ?_, ?_, ?_, ?_⟩
     ·have h1 := HQ.out
      unfold Hid
      rw [List.take_succ_eq_append_getElem hlp]
      simp only [datHeapRecordS, List.map_append] at h1 ⊢
      rw [h1]; rfl
     ·rintro b ⟨p, hp, hb⟩
      rcases List.mem_append.1 hp with hp | hp
      ·exact HF.out b ⟨p, hp, hb⟩
      ·obtain rfl := List.mem_singleton.1 hp
       have h : g = b := Option.some.inj hb
       omega
     ·rw [List.append_assoc]
      exact HFIN
     ·(iterate 2 refine Kept.setCell ?_ (.inl (Nat.le_refl _)) _)
      exact HK2.out
    case measure => simp [intOf]; omega
   ·go_wp2
    go_ret
    obtain rfl : k = len := by omega
    have h := HOr.out
    have h2 := HL.out
    have h3 := HQ.out
    rw [Nat.sub_self, List.replicate_zero, List.append_nil] at h
    rw [← h2, List.take_length] at h3
    refine ⟨w.heap.size, qs, rfl, h3, fun b hb => ?_, h, HKr.out⟩
    rcases hb with hb | hb
    ·simp [Value.ownBlock] at hb; omega
    ·exact HF.out b hb
structure EAn where
 cd : Int
 tx : Int
 rid : Int
 dv : Value
 db : List Int
 rv : Value
 rs : List EHeapRecord
 us : Int
abbrev AnDat := Int × Int × Int × List Int × List (Int × List Int) × Int
def EAn.dat (x : EAn) : AnDat := (x.cd, x.tx, x.rid, x.db, datHeapRecordS x.rs, x.us)
def kAn : RowK EAn := ⟨6, fun x => [.int .i64 x.cd, .int .i64 x.tx, .int .i64 x.rid, x.dv, x.rv, .int .i64 x.us], fun _ => rfl, EAn.dv, EAn.db⟩
def zAn : EAn := ⟨0, 0, 0, .slice none 0 0, [], .slice none 0 0, [], 0⟩
def datAn (xs : List EAn) : List AnDat := xs.map EAn.dat
theorem datAn_length (xs : List EAn) : (datAn xs).length = xs.length := by simp [datAn]
theorem datAn_at {ps qs : List EAn} (h : datAn ps = datAn qs) (k : Nat) (h1 : k < ps.length) (h2 : k < qs.length) : ps[k].dat = qs[k].dat := by
 have e : (datAn ps)[k]'(by rw [datAn_length]; exact h1) = (datAn qs)[k]'(by rw [datAn_length]; exact h2) := by simp only [h]
 simpa [datAn] using e
def EAn.szs (x : EAn) : Int := (x.db.length : Int) + (x.rs.length : Int) + (sizeHeapRecordS x.rs : Int)
theorem EAn.szs_le (x : EAn) : 0 ≤ x.szs := by unfold EAn.szs; omega
theorem EAn.szs_dat {x y : EAn} (h : y.dat = x.dat) : y.szs = x.szs := by
 simp only [EAn.dat, Prod.mk.injEq] at h
 obtain ⟨_, _, _, h4, h5, _⟩ := h
 unfold EAn.szs
 rw [h4, datHeapRecordS_size h5, ← datHeapRecordS_length y.rs, h5, datHeapRecordS_length]
def sizeAn : List EAn → Int
 | [] => 0
 | p :: ps => p.szs + sizeAn ps
theorem sizeAn_append (ps qs : List EAn) : sizeAn (ps ++ qs) = sizeAn ps + sizeAn qs := by
 induction ps with
 | nil => simp [sizeAn]
 | cons p ps ih => simp only [List.cons_append, sizeAn, ih]; omega
theorem sizeAn_step (ps : List EAn) (j : Nat) (h : j < ps.length) : sizeAn (ps.take (j + 1)) = sizeAn (ps.take j) + ps[j].szs := by
 rw [List.take_succ_eq_append_getElem h, sizeAn_append]
 simp [sizeAn]
theorem sizeAn_nonneg (ps : List EAn) : 0 ≤ sizeAn ps := by
 induction ps with
 | nil => exact Int.le_refl _
 | cons p ps ih => have := p.szs_le; simp only [sizeAn]; omega
theorem sizeAn_mem (ps : List EAn) (p : EAn) (h : p ∈ ps) : p.szs ≤ sizeAn ps := by
 induction ps with
 | nil => simp at h
 | cons q ps ih =>
  have h1 := sizeAn_nonneg ps
  have h2 := q.szs_le
  rcases List.mem_cons.1 h with rfl | h
  ·simp only [sizeAn]; omega
  ·have := ih h; simp only [sizeAn]; omega
theorem sizeAn_dat : ∀ {ps qs : List EAn}, datAn qs = datAn ps → sizeAn qs = sizeAn ps
 | [], [], _ => rfl
 | [], _ :: _, h => by simp [datAn] at h
 | _ :: _, [], h => by simp [datAn] at h
 | p :: ps, q :: qs, h => by
  simp only [datAn, List.map_cons, List.cons.injEq] at h
  simp only [sizeAn]
  rw [EAn.szs_dat h.1, sizeAn_dat h.2]
structure RdAn (w : World) (v : Value) (xs : List EAn) : Prop where
 row : RdR kAn w v xs
 recs : ∀ x ∈ xs, RdR kHeapRecord w x.rv x.rs
structure OwnAn (w : World) (v : Value) (xs : List EAn) : Prop where
 row : OwnR kAn 0 85 5 w v xs
 recs : ∀ x ∈ xs, OwnR kHeapRecord 0 88 5 w x.rv x.rs
theorem RdAn.same {w w' : World} {v : Value} {xs : List EAn} (h : RdAn w v xs) (hk : Same w w') : RdAn w' v xs := ⟨h.row.same hk, fun x hx => (h.recs x hx).same hk⟩
theorem OwnAn.same {w w' : World} {v : Value} {xs : List EAn} (h : OwnAn w v xs) (hk : Same w w') : OwnAn w' v xs := ⟨h.row.same hk, fun x hx => (h.recs x hx).same hk⟩
def footAn (v : Value) (xs : List EAn) (b : Nat) : Prop := v.ownBlock = some b ∨ ∃ x ∈ xs, x.dv.ownBlock = some b ∨ footR kHeapRecord x.rv x.rs b
theorem OwnAn.kept {R : Nat → Prop} {w w' : World} {v : Value} {xs : List EAn} (h : OwnAn w v xs) (hk : Kept R w w') (hr : ∀ b, footAn v xs b → ¬ R b) : OwnAn w' v xs :=
 ⟨h.row.kept hk (fun b hb => hr b (by rcases hb with hb | ⟨x, hx, hb⟩; (exact .inl hb); exact .inr ⟨x, hx, .inl hb⟩)), fun x hx => (h.recs x hx).kept hk (fun b hb => hr b (.inr ⟨x, hx, .inr hb⟩))⟩
theorem OwnAn.rd {w : World} {v : Value} {xs : List EAn} (h : OwnAn w v xs) : RdAn w v xs := ⟨h.row.rd, fun x hx => (h.recs x hx).rd⟩
theorem RdAn.form {w : World} {v : Value} {xs : List EAn} (h : RdAn w v xs) : ∃ a c, v = .slice a xs.length c := h.row.form
theorem OwnR.slice {E : Type} {K : RowK E} {base : Nat} {tw tb : TypeId} {w : World} {v : Value} {ps : List E} (h : OwnR K base tw tb w v ps) : ∃ a c, v = .slice a ps.length c := by
 rcases h.form with ⟨rfl, rfl⟩ | ⟨g, cap, rfl, _⟩ <;> exact ⟨_, _, rfl⟩
theorem szAnswer_any (x : EAn) (left : Int) (w : World) (h0 : 0 ≤ left) (h1 : left ≤ 1048576) (hd : Rd .u8 w x.dv x.db) (hr : RdR kHeapRecord w x.rv x.rs) :
  Calls Tryd.prog 68 #[.agg #[.int .i64 x.cd, .int .i64 x.tx, .int .i64 x.rid, x.dv, x.rv, .int .i64 x.us], .int .i64 left] w fun e w' => ∃ r : Int, e = .returned (.int .i64 r) ∧ (r = -1 ∨ (r = left - x.szs ∧ 0 ≤ r)) ∧ Same w w' := by
 obtain ⟨cd, tx, rid, dv, db, rv, rs, us⟩ := x
 dsimp only at hd hr ⊢
 obtain ⟨a1, c1, rfl⟩ := hd.form
 obtain ⟨a2, c2, rfl⟩ := hr.form
 have hm := hd.1
 have HR := hid hr
 have HK0 := hid (sameA w [.int .i64 cd, .int .i64 tx, .int .i64 rid, .slice a1 db.length c1, .slice a2 rs.length c2, .int .i64 us] 119)
 have b0 := Blk.newL w [.int .i64 cd, .int .i64 tx, .int .i64 rid, .slice a1 db.length c1, .slice a2 rs.length c2, .int .i64 us] 119
 have HB0 := hid b0
 clear hd hr b0
 go_enter Tryd.func68, Tryd.ntmps68
 go_wp2_with fail
 refine (szByteS_any _ _ _ left _ (by omega) (by omega) hm).mono ?_
 rintro e w1 ⟨r1, rfl, hr, rfl⟩
 replace hr : r1 = -1 ∨ (r1 = left - db.length ∧ 0 ≤ r1) := by omega
 rcases hr with rfl | ⟨hr, hr1⟩
 ·go_wp2
  go_ret
  exact ⟨_, rfl, .inl rfl, HK0.out⟩
 have hle1 : r1 ≤ 1048576 := by omega
 have HR1 := (show Hid (r1 = left - db.length) from hr)
 clear hr
 have k2 := szHeapRecordS_any _ rs r1 _ hr1 hle1 (HR.out.same HK0.out)
 go_wp2_with fail
 refine k2.mono ?_
 rintro e w2 ⟨r2, rfl, hr, hk2⟩
 have HK2 := hid (HK0.out.trans hk2)
 clear hk2 k2
 rcases hr with rfl | ⟨hr, hr2⟩
 ·go_wp2
  go_ret
  exact ⟨_, rfl, .inl rfl, HK2.out⟩
 have HR2 := (show Hid (r2 = r1 - rs.length - sizeHeapRecordS rs) from hr)
 clear hr
 go_wp2
 go_ret
 exact ⟨_, rfl, .inr ⟨by have e1 := HR1.out; have e2 := HR2.out; simp only [EAn.szs]; omega, hr2⟩, HK2.out⟩
theorem eqAnswer_own (x y : EAn) (w : World) (hn : x.szs ≤ 1073741824) (hd : x.dat = y.dat) (ha : Own 0 5 .u8 w x.dv x.db) (hb : Own 0 5 .u8 w y.dv y.db) (hra : OwnR kHeapRecord 0 88 5 w x.rv x.rs) (hrb : OwnR kHeapRecord 0 88 5 w y.rv y.rs) :
  Calls Tryd.prog 77 #[.agg #[.int .i64 x.cd, .int .i64 x.tx, .int .i64 x.rid, x.dv, x.rv, .int .i64 x.us], .agg #[.int .i64 y.cd, .int .i64 y.tx, .int .i64 y.rid, y.dv, y.rv, .int .i64 y.us]] w fun e w' => e = .returned (.bool true) ∧ Same w w' := by
 obtain ⟨cd, tx, rid, dv, db, rv, rs, us⟩ := x
 obtain ⟨cd2, tx2, rid2, dv2, db2, rv2, rs2, us2⟩ := y
 simp only [EAn.dat, Prod.mk.injEq] at hd
 obtain ⟨rfl, rfl, rfl, rfl, hdr, rfl⟩ := hd
 simp only [EAn.szs] at hn
 dsimp only at ha hb hra hrb ⊢
 obtain ⟨a1, c1, rfl⟩ := ha.rd.form
 obtain ⟨a2, c2, rfl⟩ := hb.rd.form
 obtain ⟨a3, c3, rfl⟩ := hra.slice
 obtain ⟨a4, c4, rfl⟩ := hrb.slice
 have HA := hid ha
 have HB := hid hb
 have HRA := hid hra
 have HRB := hid hrb
 have HDR := hid hdr
 have HK0 := (show Hid (Same w ((w.alloc (.cells #[.int .i64 cd, .int .i64 tx, .int .i64 rid, .slice a1 db.length c1, .slice a3 rs.length c3, .int .i64 us] 85)).alloc (.cells #[.int .i64 cd, .int .i64 tx, .int .i64 rid, .slice a2 db.length c2, .slice a4 rs2.length c4, .int .i64 us] 85))) from ((Kept.refl _ _).alloc _).alloc _)
 have HX0 := hid (Blk.newA w [.int .i64 cd, .int .i64 tx, .int .i64 rid, .slice a1 db.length c1, .slice a3 rs.length c3, .int .i64 us] 85 [.int .i64 cd, .int .i64 tx, .int .i64 rid, .slice a2 db.length c2, .slice a4 rs2.length c4, .int .i64 us] 85)
 have HY0 := hid (Blk.newB w [.int .i64 cd, .int .i64 tx, .int .i64 rid, .slice a1 db.length c1, .slice a3 rs.length c3, .int .i64 us] 85 [.int .i64 cd, .int .i64 tx, .int .i64 rid, .slice a2 db.length c2, .slice a4 rs2.length c4, .int .i64 us] 85)
 clear ha hb hra hrb hdr
 go_enter Tryd.func77, Tryd.ntmps77
 go_wp2_with fail
 refine (eqByteS_own 0 _ _ db _ (by omega) (HA.out.same HK0.out) (HB.out.same HK0.out)).mono ?_
 rintro e w1 ⟨rfl, nn, hww⟩
 have hk : Same ((w.alloc (.cells #[.int .i64 cd, .int .i64 tx, .int .i64 rid, .slice a1 db.length c1, .slice a3 rs.length c3, .int .i64 us] 85)).alloc (.cells #[.int .i64 cd, .int .i64 tx, .int .i64 rid, .slice a2 db.length c2, .slice a4 rs2.length c4, .int .i64 us] 85)) w1 := by rw [hww]; exact (Kept.refl _ _).drewN _
 clear hww
 have HK1 := hid (HK0.out.trans hk)
 have HX1 := hid (HX0.out.same hk)
 have HY1 := hid (HY0.out.same hk)
 clear hk
 have p4 := HX1.out.cell 4
 have q4 := HY1.out.cell 4
 dsimp only [List.getElem?_cons_zero, List.getElem?_cons_succ] at p4 q4
 go_wp2_with fail
 refine (eqHeapRecordS_own 0 _ _ rs rs2 _ (by omega) HDR.out (fun p hp => by have h1 := sizeHeapRecordS_mem rs p hp; omega) (HRA.out.same HK1.out) (HRB.out.same HK1.out)).mono ?_
 rintro e w2 ⟨rfl, hk⟩
 have HK2 := hid (HK1.out.trans hk)
 have p5 := (HX1.out.same hk).cell 5
 have q5 := (HY1.out.same hk).cell 5
 dsimp only [List.getElem?_cons_zero, List.getElem?_cons_succ] at p5 q5
 clear hk
 go_wp2
 go_ret
 exact ⟨rfl, HK2.out⟩
theorem toAnswer_any (x : EAn) (w : World) (hn : x.szs ≤ 1073741824) (hd : Rd .u8 w x.dv x.db) (hr : RdR kHeapRecord w x.rv x.rs) :
  Calls Tryd.prog 70 #[.agg #[.int .i64 x.cd, .int .i64 x.tx, .int .i64 x.rid, x.dv, x.rv, .int .i64 x.us]] w fun e w' => ∃ y : EAn, e = .returned (.agg #[.int .i64 y.cd, .int .i64 y.tx, .int .i64 y.rid, y.dv, y.rv, .int .i64 y.us]) ∧ y.dat = x.dat ∧
   Own 0 5 .u8 w' y.dv y.db ∧ OwnR kHeapRecord 0 88 5 w' y.rv y.rs ∧ (∀ b, y.dv.ownBlock = some b ∨ footR kHeapRecord y.rv y.rs b → w.heap.size ≤ b) ∧ Same w w' := by
 obtain ⟨cd, tx, rid, dv, db, rv, rs, us⟩ := x
 simp only [EAn.szs] at hn
 dsimp only at hd hr ⊢
 obtain ⟨a1, c1, rfl⟩ := hd.form
 obtain ⟨a2, c2, rfl⟩ := hr.form
 have HV0 := hid hd
 have HV1 := hid hr
 clear hd hr
 have hk0 : Same w (((w.alloc (.cells #[.int .i64 cd, .int .i64 tx, .int .i64 rid, .slice a1 db.length c1, .slice a2 rs.length c2, .int .i64 us] 119)).alloc (.cells #[.int .i64 0, .int .i64 0, .int .i64 0, .slice none 0 0, .slice none 0 0, .int .i64 0] 85)).alloc (.cells #[.int .i64 cd, .int .i64 tx, .int .i64 rid, .slice none 0 0, .slice none 0 0, .int .i64 0] 85)) := (((Kept.refl _ _).alloc _).alloc _).alloc _
 have b0 : Blk (((w.alloc (.cells #[.int .i64 cd, .int .i64 tx, .int .i64 rid, .slice a1 db.length c1, .slice a2 rs.length c2, .int .i64 us] 119)).alloc (.cells #[.int .i64 0, .int .i64 0, .int .i64 0, .slice none 0 0, .slice none 0 0, .int .i64 0] 85)).alloc (.cells #[.int .i64 cd, .int .i64 tx, .int .i64 rid, .slice none 0 0, .slice none 0 0, .int .i64 0] 85)) w.heap.size 119 [.int .i64 cd, .int .i64 tx, .int .i64 rid, .slice a1 db.length c1, .slice a2 rs.length c2, .int .i64 us] := ((Blk.newL w [.int .i64 cd, .int .i64 tx, .int .i64 rid, .slice a1 db.length c1, .slice a2 rs.length c2, .int .i64 us] 119).alloc _).alloc _
 have b1 : Blk (((w.alloc (.cells #[.int .i64 cd, .int .i64 tx, .int .i64 rid, .slice a1 db.length c1, .slice a2 rs.length c2, .int .i64 us] 119)).alloc (.cells #[.int .i64 0, .int .i64 0, .int .i64 0, .slice none 0 0, .slice none 0 0, .int .i64 0] 85)).alloc (.cells #[.int .i64 cd, .int .i64 tx, .int .i64 rid, .slice none 0 0, .slice none 0 0, .int .i64 0] 85)) (w.heap.size + 1) 85 [.int .i64 0, .int .i64 0, .int .i64 0, .slice none 0 0, .slice none 0 0, .int .i64 0] := (Blk.newB w [.int .i64 cd, .int .i64 tx, .int .i64 rid, .slice a1 db.length c1, .slice a2 rs.length c2, .int .i64 us] 119 [.int .i64 0, .int .i64 0, .int .i64 0, .slice none 0 0, .slice none 0 0, .int .i64 0] 85).alloc _
 have b2 : Blk (((w.alloc (.cells #[.int .i64 cd, .int .i64 tx, .int .i64 rid, .slice a1 db.length c1, .slice a2 rs.length c2, .int .i64 us] 119)).alloc (.cells #[.int .i64 0, .int .i64 0, .int .i64 0, .slice none 0 0, .slice none 0 0, .int .i64 0] 85)).alloc (.cells #[.int .i64 cd, .int .i64 tx, .int .i64 rid, .slice none 0 0, .slice none 0 0, .int .i64 0] 85)) (w.heap.size + 1 + 1) 85 [.int .i64 cd, .int .i64 tx, .int .i64 rid, .slice none 0 0, .slice none 0 0, .int .i64 0] := by have h := Blk.newL ((w.alloc (.cells #[.int .i64 cd, .int .i64 tx, .int .i64 rid, .slice a1 db.length c1, .slice a2 rs.length c2, .int .i64 us] 119)).alloc (.cells #[.int .i64 0, .int .i64 0, .int .i64 0, .slice none 0 0, .slice none 0 0, .int .i64 0] 85)) [.int .i64 cd, .int .i64 tx, .int .i64 rid, .slice none 0 0, .slice none 0 0, .int .i64 0] 85; rw [World.size_alloc, World.size_alloc] at h; exact h
 have hsz : (((w.alloc (.cells #[.int .i64 cd, .int .i64 tx, .int .i64 rid, .slice a1 db.length c1, .slice a2 rs.length c2, .int .i64 us] 119)).alloc (.cells #[.int .i64 0, .int .i64 0, .int .i64 0, .slice none 0 0, .slice none 0 0, .int .i64 0] 85)).alloc (.cells #[.int .i64 cd, .int .i64 tx, .int .i64 rid, .slice none 0 0, .slice none 0 0, .int .i64 0] 85)).heap.size = w.heap.size + 1 + 1 + 1 := by simp only [World.size_alloc]
 go_enter Tryd.func70, Tryd.ntmps70
 go_wp2_with fail
 refine (toByteS_any _ db _ (by omega) (HV0.out.same hk0)).mono ?_
 rintro e w1 ⟨g0, rfl, hg, ho, hk⟩
 have hg0 : w.heap.size + 1 + 1 < g0 := by rw [hsz] at hg; omega
 have hk1 : Same w w1 := hk0.trans hk
 replace b0 := b0.same hk
 replace b1 := b1.same hk
 replace b2 := b2.same hk
 replace hsz : w.heap.size + 1 + 1 + 1 ≤ w1.heap.size := by have := hk.size; omega
 have ho1 : Own 0 5 .u8 (w1.setCell ⟨w.heap.size + 1 + 1, 3, none⟩ (.slice (some ⟨g0, 0, none⟩) db.length db.length)) (.slice (some ⟨g0, 0, none⟩) db.length db.length) db := ho.kept (R := fun b => b = w.heap.size + 1 + 1) (Kept.setCell (R := fun b => b = w.heap.size + 1 + 1) (Kept.refl _ _) (.inr rfl) _) (fun b hb e => by have h2 : g0 = b := Option.some.inj hb; omega)
 clear hk hg ho
 have da1_0 := b0.cell 0; have dr1_0 := b1.cell 0; have fr1_0 := b1.frozen 0; have do1_0 := b2.cell 0; have fo1_0 := b2.frozen 0
 have da1_1 := b0.cell 1; have dr1_1 := b1.cell 1; have fr1_1 := b1.frozen 1; have do1_1 := b2.cell 1; have fo1_1 := b2.frozen 1
 have da1_2 := b0.cell 2; have dr1_2 := b1.cell 2; have fr1_2 := b1.frozen 2; have do1_2 := b2.cell 2; have fo1_2 := b2.frozen 2
 have da1_3 := b0.cell 3; have dr1_3 := b1.cell 3; have fr1_3 := b1.frozen 3; have do1_3 := b2.cell 3; have fo1_3 := b2.frozen 3
 have da1_4 := b0.cell 4; have dr1_4 := b1.cell 4; have fr1_4 := b1.frozen 4; have do1_4 := b2.cell 4; have fo1_4 := b2.frozen 4
 have da1_5 := b0.cell 5; have dr1_5 := b1.cell 5; have fr1_5 := b1.frozen 5; have do1_5 := b2.cell 5; have fo1_5 := b2.frozen 5
 dsimp only [List.getElem?_cons_zero, List.getElem?_cons_succ] at da1_0 da1_1 da1_2 da1_3 da1_4 da1_5 dr1_0 dr1_1 dr1_2 dr1_3 dr1_4 dr1_5 do1_0 do1_1 do1_2 do1_3 do1_4 do1_5
 have hk2 : Same w (w1.setCell ⟨w.heap.size + 1 + 1, 3, none⟩ (.slice (some ⟨g0, 0, none⟩) db.length db.length)) := hk1.setCell (.inl (by simp only []; omega)) _
 replace b0 : Blk (w1.setCell ⟨w.heap.size + 1 + 1, 3, none⟩ (.slice (some ⟨g0, 0, none⟩) db.length db.length)) w.heap.size 119 [.int .i64 cd, .int .i64 tx, .int .i64 rid, .slice a1 db.length c1, .slice a2 rs.length c2, .int .i64 us] := b0.other (by simp only []; omega) _
 replace b1 : Blk (w1.setCell ⟨w.heap.size + 1 + 1, 3, none⟩ (.slice (some ⟨g0, 0, none⟩) db.length db.length)) (w.heap.size + 1) 85 [.int .i64 0, .int .i64 0, .int .i64 0, .slice none 0 0, .slice none 0 0, .int .i64 0] := b1.other (by simp only []; omega) _
 replace b2 : Blk (w1.setCell ⟨w.heap.size + 1 + 1, 3, none⟩ (.slice (some ⟨g0, 0, none⟩) db.length db.length)) (w.heap.size + 1 + 1) 85 [.int .i64 cd, .int .i64 tx, .int .i64 rid, .slice (some ⟨g0, 0, none⟩) db.length db.length, .slice none 0 0, .int .i64 0] := b2.stored 3 _
 replace hsz : w.heap.size + 1 + 1 + 1 ≤ (w1.setCell ⟨w.heap.size + 1 + 1, 3, none⟩ (.slice (some ⟨g0, 0, none⟩) db.length db.length)).heap.size := by rw [World.size_setCell]; exact hsz
 go_wp2_with fail
 refine (toHeapRecordS_any _ rs _ (by omega) (fun p hp => by have h1 := sizeHeapRecordS_mem rs p hp; omega) (HV1.out.same hk2)).mono ?_
 rintro e w2 ⟨g1, qs, rfl, hdq, hfq, hoq, hk⟩
 have hk3 : Same w w2 := hk2.trans hk
 have ho2 := ho1.same hk
 replace b0 := b0.same hk
 replace b1 := b1.same hk
 replace b2 := b2.same hk
 have hfq2 : ∀ b, footR kHeapRecord (.slice (some ⟨g1, 0, none⟩) rs.length rs.length) qs b → w.heap.size + 1 + 1 < b := fun b hb => by have := hfq b hb; omega
 clear hk hfq ho1 hk2 hk1 hk0
 clear da1_0 da1_1 da1_2 da1_3 da1_4 da1_5 dr1_0 dr1_1 dr1_2 dr1_3 dr1_4 dr1_5 fr1_0 fr1_1 fr1_2 fr1_3 fr1_4 fr1_5 do1_0 do1_1 do1_2 do1_3 do1_4 do1_5 fo1_0 fo1_1 fo1_2 fo1_3 fo1_4 fo1_5
 have da2_0 := b0.cell 0; have dr2_0 := b1.cell 0; have fr2_0 := b1.frozen 0; have do2_0 := b2.cell 0; have fo2_0 := b2.frozen 0
 have da2_1 := b0.cell 1; have dr2_1 := b1.cell 1; have fr2_1 := b1.frozen 1; have do2_1 := b2.cell 1; have fo2_1 := b2.frozen 1
 have da2_2 := b0.cell 2; have dr2_2 := b1.cell 2; have fr2_2 := b1.frozen 2; have do2_2 := b2.cell 2; have fo2_2 := b2.frozen 2
 have da2_3 := b0.cell 3; have dr2_3 := b1.cell 3; have fr2_3 := b1.frozen 3; have do2_3 := b2.cell 3; have fo2_3 := b2.frozen 3
 have da2_4 := b0.cell 4; have dr2_4 := b1.cell 4; have fr2_4 := b1.frozen 4; have do2_4 := b2.cell 4; have fo2_4 := b2.frozen 4
 have da2_5 := b0.cell 5; have dr2_5 := b1.cell 5; have fr2_5 := b1.frozen 5; have do2_5 := b2.cell 5; have fo2_5 := b2.frozen 5
 dsimp only [List.getElem?_cons_zero, List.getElem?_cons_succ] at da2_0 da2_1 da2_2 da2_3 da2_4 da2_5 dr2_0 dr2_1 dr2_2 dr2_3 dr2_4 dr2_5 do2_0 do2_1 do2_2 do2_3 do2_4 do2_5
 have HKz := hid hk3
 have HO0 := hid ho2
 have HO1 := hid hoq
 have HF1 := hid hfq2
 have HDQ := hid hdq
 clear b0 b1 b2 hk3 ho2 hoq hfq2 hdq
 go_wp2
 refine bodyPost_ret (v := .agg #[.int .i64 cd, .int .i64 tx, .int .i64 rid, .slice (some ⟨g0, 0, none⟩) db.length db.length, .slice (some ⟨g1, 0, none⟩) rs.length rs.length, .int .i64 us]) (by simp [results, Tryd.results70, go_sem, dr2_0, dr2_1, dr2_2, dr2_3, dr2_4, dr2_5]) rfl ⟨⟨cd, tx, rid, .slice (some ⟨g0, 0, none⟩) db.length db.length, db, .slice (some ⟨g1, 0, none⟩) rs.length rs.length, qs, us⟩, rfl, ?_, ?_, ?_, ?_, ?_⟩
 ·simp only [EAn.dat, HDQ.out]
 ·refine HO0.out.kept (R := fun b => b = w.heap.size + 1 ∨ b = w.heap.size + 1 + 1) ?_ (fun b hb e => by have h2 : g0 = b := Option.some.inj hb; omega)
  iterate 6 refine Kept.setCell ?_ (.inr (.inl rfl)) _
  iterate 2 refine Kept.setCell ?_ (.inr (.inr rfl)) _
  exact Kept.refl _ _
 ·refine HO1.out.kept (R := fun b => b = w.heap.size + 1 ∨ b = w.heap.size + 1 + 1) ?_ (fun b hb e => by have := HF1.out b hb; omega)
  iterate 6 refine Kept.setCell ?_ (.inr (.inl rfl)) _
  iterate 2 refine Kept.setCell ?_ (.inr (.inr rfl)) _
  exact Kept.refl _ _
 ·intro b hb
  rcases hb with hb | hb
  ·have h2 : g0 = b := Option.some.inj hb
   omega
  ·have := HF1.out b hb
   omega
 ·iterate 8 refine Kept.setCell ?_ (.inl (by simp only []; omega)) _
  exact HKz.out
end Go.Proofs.YtbilnlgjpchgiaaDoor
