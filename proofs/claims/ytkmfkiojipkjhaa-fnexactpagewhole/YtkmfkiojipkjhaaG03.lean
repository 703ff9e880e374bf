import Derived.Test.YtkmfkiojipkjhaaG02
import Derived.Laws.StructEq
namespace Go.Proofs.Ytkmfkiojipkjhaa
set_option linter.unusedVariables false
set_option linter.unusedSimpArgs false
set_option maxRecDepth 100000
set_option maxHeartbeats 4000000
open Go.RowKit
theorem all_range_ints : ∀ (xs ys : List Int), xs.length = ys.length → ((List.range xs.length).all fun i => xs.getD i 0 == ys.getD i 0) = (xs == ys)
 | [], [], _ => rfl
 | x :: xs, y :: ys, h => by
  have ih := all_range_ints xs ys (by simpa using h)
  rw [List.length_cons, List.range_succ_eq_map, List.all_cons, List.all_map]
  simp only [List.getD_cons_zero, Function.comp_def, List.getD_cons_succ, ih]
  simp [List.cons_beq_cons]
 | [], _ :: _, h => by simp at h
 | _ :: _, [], h => by simp at h
theorem run_equalIn_ints {P : Program} (w : World) (d : Nat) (t e : TypeId) (n : Nat) (ht : P.underlying t = some (.array n e)) (he : P.underlying e = some (.int .u8)) (hsz : ∀ w, (sizeOf e).run P w = .ok 1 w)
  (xs ys : List Int) (hx : xs.length = n) (hy : ys.length = n) :
  (Op.equalIn (d + 2) t (.agg (vals .u8 xs).toArray) (.agg (vals .u8 ys).toArray)).run P w = .ok (xs == ys) w := by
 rw [← all_range_ints xs ys (hx.trans hy.symm), hx, List.range_eq_range', Op.equalIn]
 simp only [Sem.run_bind, run_underlying ht, Result.andThen_ok, hsz, Std.Legacy.Range.forIn_eq_forIn_range', Std.Legacy.Range.size, Nat.sub_zero, Nat.add_sub_cancel, Nat.div_one]
 have hl : ∀ i ∈ List.range' 0 n 1, i < n := fun i hi => by simpa using (List.mem_range'_1.1 hi).2
 generalize List.range' 0 n 1 = l at hl ⊢
 induction l with
 | nil => simp
 | cons i l ih =>
  have hi : i < n := hl i (by simp)
  have px : (Go.part e (vals .u8 xs).toArray (i * 1)).run P w = .ok (.int .u8 (xs.getD i 0)) w := by
   simp [vals, Go.part, isAgg, run_underlying he, List.getD, List.getElem?_eq_getElem (show i < xs.length by omega)]
  have py : (Go.part e (vals .u8 ys).toArray (i * 1)).run P w = .ok (.int .u8 (ys.getD i 0)) w := by
   simp [vals, Go.part, isAgg, run_underlying he, List.getD, List.getElem?_eq_getElem (show i < ys.length by omega)]
  have pe : (Op.equalIn (d + 1) e (.int .u8 (xs.getD i 0)) (.int .u8 (ys.getD i 0))).run P w = .ok (xs.getD i 0 == ys.getD i 0) w := run_equalIn_int w d e .u8 .u8 _ _ he
  simp only [List.forIn_cons, Sem.run_bind, px, py, pe, Result.andThen_ok, List.all_cons]
  cases hb : (xs.getD i 0 == ys.getD i 0)
  ·simp
  ·simp only [Bool.not_true, Bool.false_eq_true, if_false, Sem.run_pure, Result.andThen_ok, Bool.true_and]
   exact ih fun j hj => hl j (by simp [hj])
theorem size_byte (w : World) : (sizeOf 5).run Try.prog w = .ok 1 w := by
 obtain ⟨i0, hi, hz0, hz1, hz2⟩ := info_parts Try.infoByte'
 simp [sizeOf, typeInfo, hi, hz1]
theorem run_eql_pages (w : World) (xs ys : List Int) (hx : xs.length = 4096) (hy : ys.length = 4096) : (binOp .eql 70 (.agg (vals .u8 xs).toArray) (.agg (vals .u8 ys).toArray)).run Try.prog w = .ok (.bool (xs == ys)) w := by
 rw [run_eql_struct, run_equalIn_ints w 9998 70 5 4096 Try.underlying70 Try.underlying5 size_byte xs ys hx hy]
 rfl
theorem run_neq_pages (w : World) (xs ys : List Int) (hx : xs.length = 4096) (hy : ys.length = 4096) : (binOp .neq 70 (.agg (vals .u8 xs).toArray) (.agg (vals .u8 ys).toArray)).run Try.prog w = .ok (.bool (xs != ys)) w := by
 rw [run_neq_struct, run_equalIn_ints w 9998 70 5 4096 Try.underlying70 Try.underlying5 size_byte xs ys hx hy]
 rfl
def pageWhole (bs : List Int) : Bool := bs.length == 4096 && sealB bs == bs
/-! ### A number and its bytes -/
theorem lows_add (k : Nat) : ∀ (v m : Nat), lows ((v + m * 256 ^ k : Nat) : Int) k = lows (v : Int) k := by
 induction k with
 | zero => intro v m; rfl
 | succ k ih =>
  intro v m
  have e1 : (v + m * 256 ^ (k + 1) : Nat) = v + (m * 256) * 256 ^ k := by rw [Nat.pow_succ, Nat.mul_comm (256 ^ k) 256, Nat.mul_assoc]
  simp only [lows]
  rw [e1, ih v (m * 256)]
  congr 1
  have h2 : (((v + m * 256 * 256 ^ k : Nat) : Int) / 256 ^ k) = (((v + m * 256 * 256 ^ k) / 256 ^ k : Nat) : Int) := by simp
  have h3 : ((v : Int) / 256 ^ k) = ((v / 256 ^ k : Nat) : Int) := by simp
  rw [h2, h3, Nat.add_mul_div_right _ _ (Nat.pow_pos (by decide))]
  omega
theorem lows_num (bs : List Int) (hb : IsB bs) : lows (num bs) bs.length = bs := by
 induction bs with
 | nil => rfl
 | cons b bs ih =>
  have hb' : IsB bs := fun y hy => hb y (by simp [hy])
  have h0 := hb b (by simp)
  have h1 := num_bound bs hb' bs.length (Nat.le_refl _)
  rw [List.take_length] at h1
  obtain ⟨n, hn⟩ : ∃ n : Nat, num bs = n := ⟨(num bs).toNat, by omega⟩
  obtain ⟨c, rfl⟩ : ∃ c : Nat, b = c := ⟨b.toNat, by omega⟩
  have ih' := ih hb'
  rw [num_cons, hn]
  rw [hn] at ih' h1
  have e3 : (256 : Int) ^ bs.length = ((256 ^ bs.length : Nat) : Int) := by simp
  rw [e3] at h1 ⊢
  have e : ((c : Int) * ((256 ^ bs.length : Nat) : Int) + (n : Int)) = ((n + c * 256 ^ bs.length : Nat) : Int) := by simp [Int.add_comm]
  rw [e, List.length_cons]
  simp only [lows]
  rw [lows_add, ih']
  congr 1
  have h2 : (((n + c * 256 ^ bs.length : Nat) : Int) / 256 ^ bs.length) = (((n + c * 256 ^ bs.length) / 256 ^ bs.length : Nat) : Int) := by simp
  rw [h2, Nat.add_mul_div_right _ _ (Nat.pow_pos (by decide)), Nat.div_eq_of_lt (by omega)]
  omega
theorem whole_iff (bs : List Int) (hb : IsB bs) (hl : bs.length = 4096) : (getN (bs.take 4) == crcOn 0 (bs.drop 4)) = (sealB bs == bs) := by
 have hsum := crcOn_le 0 (bs.drop 4) (by decide) (by decide) (isB_drop hb 4)
 have h4 : (bs.take 4).length = 4 := by simp; omega
 have hg : getN (bs.take 4) = num (bs.take 4) := by
  unfold getN
  rw [if_neg]
  have := getN_few (bs.take 4) (isB_take hb 4) (by omega)
  omega
 rw [hg, Bool.eq_iff_iff]
 simp only [beq_iff_eq]
 constructor
 ·intro h
  unfold sealB
  have := lows_num (bs.take 4) (isB_take hb 4)
  rw [h, h4] at this
  rw [this, List.take_append_drop]
 ·intro h
  have h5 : (sealB bs).take 4 = lows (crcOn 0 (bs.drop 4)) 4 := by
   unfold sealB
   rw [List.take_append_of_le_length (by rw [lows_length]; exact Nat.le_refl _), List.take_of_length_le (by rw [lows_length]; exact Nat.le_refl _)]
  rw [h] at h5
  rw [h5]
  obtain ⟨x, hx⟩ : ∃ x : Nat, crcOn 0 (bs.drop 4) = x := ⟨(crcOn 0 (bs.drop 4)).toNat, by omega⟩
  rw [hx, num_lows, Nat.mod_eq_of_lt (by rw [hx] at hsum; omega)]
theorem Rd.mid {k : IntKind} {w : World} {b off c : Nat} {bs : List Int} (h : Rd k w (.slice (some ⟨b, off, none⟩) bs.length c) bs) (o n c' : Nat) (hm : o + n ≤ bs.length) (hc' : n ≤ c') : Rd k w (.slice (some ⟨b, off + o, none⟩) n c') ((bs.drop o).take n) := by
 have hl : ((bs.drop o).take n).length = n := by simp; omega
 refine ⟨by rw [hl]; have := h.1; omega, ?_⟩
 by_cases h0 : n = 0
 ·subst h0
  exact .inl ⟨by simp, _, _, rfl, fun e => by cases e⟩
 ·rcases h.2 with ⟨hn, a, c', e, _⟩ | ⟨b', off', c'', e, hl', hc⟩
  ·rw [hn] at hm
   simp at hm
   omega
  ·cases e
   refine .inr ⟨b, off + o, c', by rw [hl], by omega, fun i hi => ?_⟩
   have := hc (o + i) (by omega)
   rw [Nat.add_assoc, this]
   simp [List.getD, List.getElem?_take, List.getElem?_drop, show i < n by omega]
theorem l3Number_any (b off len c : Nat) (bs : List Int) (at_ n : Nat) (w : World) (hB : IsB bs) (hl : bs.length = len) (hm : len ≤ 1099511627776) (h1 : 1 ≤ n) (h2 : at_ + n ≤ len) (hv : Rd .u8 w (.slice (some ⟨b, off, none⟩) len c) bs) :
  Calls Try.prog 51 #[.slice (some ⟨b, off, none⟩) len c, .int .i64 at_, .int .i64 n] w fun e w' => e = .returned (.int .i64 (getN ((bs.drop at_).take n))) ∧ Same w w' := by
 have hc : len ≤ c := by
  rcases hv.2 with ⟨h0, _⟩ | ⟨b', o', c', e, hl', hc⟩
  ·rw [h0] at hl
   simp at hl
   omega
  ·cases e
   omega
 have HR := (show Hid (Rd .u8 w (.slice (some ⟨b, off + at_, none⟩) n (c - at_)) ((bs.drop at_).take n)) from (by subst hl; exact hv.mid at_ n (c - at_) h2 (by omega)))
 have HG := (show Hid (Calls Try.prog 73 #[.slice (some ⟨b, off + at_, none⟩) n (c - at_)] w fun e w' => e = .returned (.int .i64 (getN ((bs.drop at_).take n))) ∧ Same w w') from specGet_any _ _ w (isB_take (isB_drop hB at_) n) (by simp; omega) HR.out)
 clear hv hB HR
 have q1 : (at_ : Int) ≤ (at_ : Int) + (n : Int) := by omega
 have q2 : (at_ : Int) + (n : Int) ≤ (c : Int) := by omega
 have q3 : (0 : Int) ≤ (at_ : Int) := by omega
 have q4 : at_ < c := by omega
 have q5 : ¬ c = at_ := by omega
 have q6 : ((at_ : Int) + (n : Int)).toNat = at_ + n := by omega
 have q7 : at_ + n - at_ = n := by omega
 go_enter Try.func51, Try.ntmps51
 go_wp2_with fail
 with_reducible refine HG.out.mono ?_
 rintro e w1 ⟨rfl, hk1⟩
 go_wp2
 go_ret
 exact ⟨rfl, hk1⟩
end Go.Proofs.Ytkmfkiojipkjhaa
