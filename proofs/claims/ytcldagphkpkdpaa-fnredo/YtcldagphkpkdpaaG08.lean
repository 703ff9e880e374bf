import Derived.Test.YtcldagphkpkdpaaG07
import Derived.Laws.IdiomCopy
namespace Go.Proofs.Ytcldagphkpkdpaa
set_option linter.unusedVariables false
set_option linter.unusedSimpArgs false
set_option maxRecDepth 100000
set_option maxHeartbeats 8000000
open Go.RowKit
def behind (g cap o : Nat) : Option Addr := if cap = o then some ⟨g, 0, none⟩ else some ⟨g, o, none⟩
theorem Own.laid {base : Nat} {e : TypeId} {w : World} {g n cap : Nat} {xs : List Int} (h : Own base e .u8 w (.slice (some ⟨g, 0, none⟩) n cap) xs) (hn : n = xs.length) (o : Nat) (ys : List Int) (ho : o + ys.length ≤ n) :
    Own base e .u8 (w.setCells g o (vals .u8 ys)) (.slice (some ⟨g, 0, none⟩) n cap) (layI xs o ys) := by
  subst hn
  have h1 := owns_setCells (size := 1) (vals .u8 ys) o h (by rw [vals_length, vals_length]; exact ho)
  rw [lay_layI] at h1
  unfold Own
  rw [layI_length _ _ _ ho]
  exact h1
theorem Own.caps {base : Nat} {e : TypeId} {k : IntKind} {w : World} {a : Option Addr} {n cap : Nat} {xs : List Int} (h : Own base e k w (.slice a n cap) xs) : n = xs.length ∧ n ≤ cap := by
  rcases h.form with ⟨h, h'⟩ | ⟨g', cap', h, _, _, hc, _⟩
  · simp only [Value.slice.injEq] at h
    rw [h']
    exact ⟨h.2.1, by omega⟩
  · simp only [Value.slice.injEq] at h
    exact ⟨h.2.1, by omega⟩
theorem run_copyOwn {P : Program} {T tb : TypeId} {w : World} {base : Nat} {e : TypeId} {g n cap : Nat} {xs ys : List Int} {sv : Value} (ty : TypeId) (hu : P.underlying T = some (.slice tb)) (hsz : (P.info? tb).map (·.size) = some 1)
    (hown : Own base e .u8 w (.slice (some ⟨g, 0, none⟩) n cap) xs) (hn : n = xs.length) (o : Nat) (ho : o + ys.length ≤ n) (hs : Rd .u8 w sv ys) :
    (Builtin.copy_ #[T, T] ty #[.slice (behind g cap o) (n - o) (cap - o), sv]).run P w = .ok (goInt ys.length) (w.setCells g o (vals .u8 ys)) := by
  have hcap : n ≤ cap := by
    rcases hown.form with ⟨h, _⟩ | ⟨g', cap', h, _, _, hc, _⟩
    · cases h
    · cases h; omega
  rcases hs.2 with ⟨rfl, a, c, rfl, _⟩ | ⟨b, off, c, rfl, _, hc⟩
  · have h := run_copy_none (P := P) w T T ty tb (behind g cap o) a (n - o) (cap - o) 0 c hu hsz (by simp)
    rw [h]
    rfl
  · by_cases h0 : ys.length = 0
    · obtain rfl : ys = [] := List.length_eq_zero_iff.1 h0
      have h := run_copy_none (P := P) w T T ty tb (behind g cap o) (some ⟨b, off, none⟩) (n - o) (cap - o) 0 c hu hsz (by simp)
      simp only [List.length_nil] at h ⊢
      rw [h]
      rfl
    · have e : behind g cap o = some ⟨g, o, none⟩ := if_neg (by omega)
      rw [e]
      have h := run_copy_cells (P := P) w T T ty tb g o (n - o) (cap - o) ⟨b, off, none⟩ ys.length c (vals .u8 ys) hu hsz (by rw [vals_length]; exact (Nat.min_eq_left (by omega)).symm) (news_of hc) (fun j hj => by rw [vals_length] at hj; rw [hown.cell hn (o + j) (by omega)]; rfl) (fun j _ => hown.frozen hn _) vals_one
      rw [vals_length] at h
      exact h
theorem layI_right (A B d : List Int) (o : Nat) : layI (A ++ B) (A.length + o) d = A ++ layI B o d := by
  unfold layI
  rw [List.take_append, List.take_of_length_le (by omega), Nat.add_sub_cancel_left, List.append_assoc, List.drop_append, List.drop_of_length_le (by omega), List.nil_append, show A.length + o + d.length - A.length = o + d.length from by omega]
theorem layI_left (A B d : List Int) (o : Nat) (h : o + d.length ≤ A.length) : layI (A ++ B) o d = layI A o d ++ B := by
  unfold layI
  rw [List.take_append_of_le_length (by omega), List.drop_append_of_le_length (by omega), List.append_assoc, List.append_assoc]
theorem layI_all (A d : List Int) (h : d.length = A.length) : layI A 0 d = d := by
  unfold layI
  simp [h]
theorem layI_drop (A d : List Int) (o m : Nat) (h : m ≤ o) (hl : o + d.length ≤ A.length) : (layI A o d).drop m = layI (A.drop m) (o - m) d := by
  unfold layI
  rw [List.drop_append_of_le_length (by rw [List.length_take]; omega), List.drop_take, List.drop_drop]
  congr 3
  omega
theorem encB_eq (sum : List Int) (lsn num bot : Int) (sl raw : List Int) (h1 : sum.length = 4) (h2 : sl.length = 64) : encB sum lsn num bot sl raw = headB sum lsn num bot ++ (slotB sl ++ raw.drop 148) := by
  unfold encB cont
  rw [List.length_append, headB_length _ _ _ _ h1, slotB_length, h2, List.append_assoc]
theorem encB_body {sum : List Int} {lsn num bot : Int} {sl raw : List Int} (h1 : sum.length = 4) (h2 : sl.length = 64) (h3 : raw.length = 4096) (b : Nat) (d : List Int) (hb : 148 ≤ b) (hd : b + d.length ≤ 4096) :
    layI (encB sum lsn num bot sl raw) b d = encB sum lsn num bot sl (layI raw b d) := by
  rw [encB_eq _ _ _ _ _ _ h1 h2, encB_eq _ _ _ _ _ _ h1 h2, layI_drop raw d b 148 hb (by omega)]
  have e1 : b = (headB sum lsn num bot).length + ((slotB sl).length + (b - 148)) := by rw [headB_length _ _ _ _ h1, slotB_length, h2]; omega
  conv => lhs; rw [e1]
  rw [layI_right, layI_right]
theorem slotB_append (a b : List Int) : slotB (a ++ b) = slotB a ++ slotB b := by simp [slotB]
theorem slotB_set (sl : List Int) (j : Nat) (x : Int) (h : j < sl.length) : layI (slotB sl) (2 * j) (lows x 2) = slotB (sl.set j x) := by
  have e : sl = sl.take j ++ (sl[j] :: sl.drop (j + 1)) := by rw [← List.drop_eq_getElem_cons h, List.take_append_drop]
  have e2 : sl.set j x = sl.take j ++ (x :: sl.drop (j + 1)) := List.set_eq_take_append_cons_drop.trans (if_pos h)
  rw [e2]
  conv => lhs; rw [e]
  rw [slotB_append, slotB_append]
  have hl : (slotB (sl.take j)).length = 2 * j := by rw [slotB_length, List.length_take]; omega
  rw [← hl, ← Nat.add_zero (slotB (sl.take j)).length, layI_right]
  rfl
theorem encB_slot {sum : List Int} {lsn num bot : Int} {sl raw : List Int} (h1 : sum.length = 4) (h2 : sl.length = 64) (j : Nat) (x : Int) (hj : j < 64) :
    layI (encB sum lsn num bot sl raw) (20 + 2 * j) (lows x 2) = encB sum lsn num bot (sl.set j x) raw := by
  rw [encB_eq _ _ _ _ _ _ h1 h2, encB_eq _ _ _ _ _ _ h1 (by rw [List.length_set]; exact h2)]
  have e1 : 20 + 2 * j = (headB sum lsn num bot).length + 2 * j := by rw [headB_length _ _ _ _ h1]
  rw [e1, layI_right, layI_left _ _ _ _ (by rw [slotB_length, lows_length, h2]; omega), slotB_set _ _ _ (by omega)]
theorem encB_bot {sum : List Int} {lsn num bot : Int} {sl raw : List Int} (h1 : sum.length = 4) (h2 : sl.length = 64) (x : Int) :
    layI (encB sum lsn num bot sl raw) 16 (lows x 2) = encB sum lsn num x sl raw := by
  rw [encB_eq _ _ _ _ _ _ h1 h2, encB_eq _ _ _ _ _ _ h1 h2]
  rw [layI_left _ _ _ _ (by rw [headB_length _ _ _ _ h1]; simp [lows_length])]
  congr 1
  unfold headB
  rw [layI_left _ _ _ _ (by simp [lows_length, h1])]
  congr 1
  have e : 16 = (sum ++ lows lsn 8 ++ lows num 4).length + 0 := by simp [lows_length, h1]
  conv => lhs; rw [e]
  rw [layI_right, layI_all _ _ (by simp [lows_length])]
theorem encB_lsn {sum : List Int} {lsn num bot : Int} {sl raw : List Int} (h1 : sum.length = 4) (h2 : sl.length = 64) (x : Int) :
    layI (encB sum lsn num bot sl raw) 4 (lows x 8) = encB sum x num bot sl raw := by
  rw [encB_eq _ _ _ _ _ _ h1 h2, encB_eq _ _ _ _ _ _ h1 h2]
  rw [layI_left _ _ _ _ (by rw [headB_length _ _ _ _ h1]; simp [lows_length])]
  congr 1
  unfold headB
  rw [layI_left _ _ _ _ (by simp [lows_length, h1]), layI_left _ _ _ _ (by simp [lows_length, h1]), layI_left _ _ _ _ (by simp [lows_length, h1])]
  congr 3
  have e : 4 = sum.length + 0 := by omega
  conv => lhs; rw [e]
  rw [layI_right, layI_all _ _ (by simp [lows_length])]
theorem own_enc {raw : List Int} (h : ownOK raw = true) : encB (raw.take 4) (numAt raw 4 8) (numAt raw 12 4) (numAt raw 16 2) (slotsOf raw) raw = raw ∧ isLSN (numAt raw 4 8) = true := by
  have hl := ownOK_len h
  unfold ownOK pageFault faultP at h
  simp only [hl, ne_eq, not_true_eq_false, if_false] at h
  simp only [beq_self_eq_true, Bool.true_and] at h
  by_cases h2 : headBad (raw.take 4) (numAt raw 4 8) (numAt raw 12 4) (numAt raw 16 2) (slotsOf raw) raw = true
  · simp [h2] at h
  unfold headBad at h2
  simp at h2
  exact ⟨h2.2, h2.1⟩
theorem Rd.cut {w : World} {b off c : Nat} {raw : List Int} (h : Rd .u8 w (.slice (some ⟨b, off, none⟩) raw.length c) raw) (x y : Nat) (hxy : x + y ≤ raw.length) :
    Rd .u8 w (.slice (some (if c = x then ⟨b, off, none⟩ else ⟨b, off + x, none⟩)) y (c - x)) ((raw.drop x).take y) := by
  have hl : ((raw.drop x).take y).length = y := by simp; omega
  rcases h.2 with ⟨rfl, _⟩ | ⟨b', off', c', he, hle, hc⟩
  · simp at hxy
    obtain ⟨rfl, rfl⟩ := hxy
    exact ⟨by simp, .inl ⟨by simp, _, _, rfl, fun h => by cases h⟩⟩
  · injection he with h1 h2 h3
    injection h1 with h1
    injection h1 with h1 h4
    subst h1 h4 h3
    by_cases h0 : y = 0
    · subst h0
      exact ⟨by rw [hl]; simp, .inl ⟨by simp, _, _, rfl, fun h => by cases h⟩⟩
    · rw [if_neg (by omega)]
      refine ⟨by have := h.1; omega, .inr ⟨b, off + x, c - x, by rw [hl], by omega, fun i hi => ?_⟩⟩
      rw [hl] at hi
      rw [Nat.add_assoc, hc (x + i) (by omega)]
      simp [List.getD, List.getElem?_take, List.getElem?_drop, hi]
theorem Rd.part {k : IntKind} {w : World} {b off n c : Nat} {bs : List Int} (h : ∀ i, i < bs.length → w.cell? ⟨b, off + i, none⟩ = some (.int k (bs.getD i 0))) (lo m : Nat) (hm : lo + m ≤ bs.length) (hn : n = m) (hc : m ≤ c) (hmax : m ≤ maxLen) :
    Rd k w (.slice (some ⟨b, off + lo, none⟩) n c) ((bs.drop lo).take m) := by
  have hl : ((bs.drop lo).take m).length = m := by simp; omega
  refine ⟨by omega, .inr ⟨b, off + lo, c, by rw [hn, hl], by rw [hl]; exact hc, fun i hi => ?_⟩⟩
  rw [hl] at hi
  have h1 := h (lo + i) (by omega)
  rw [← Nat.add_assoc] at h1
  rw [h1]
  simp [List.getD, hi]
theorem zeroPR_own (w : World) : OwnL w (StPageRecord.rows ⟨false, ⟨0, none, 0, []⟩⟩) := OwnL.one (Own.nil 0 0 .u8 w)
theorem zeroPR_foot (b : Nat) : ¬ FootL (StPageRecord.rows ⟨false, ⟨0, none, 0, []⟩⟩) b := fun h => by have := (footL_ints _ _ _ _ _).1 h; simp [BS.v, Value.ownBlock] at this
theorem wellFormed_yes (v : Value) (raw : List Int) (w : World) (hB : IsB raw) (hn : raw.length ≤ 1099511627776) (hv : Rd .u8 w v raw) (hok : ownOK raw = true) :
    Calls Try.prog 19 #[v] w fun e w' => ∃ P, e = .returned (.pointer (some ⟨P, 0, none⟩)) ∧ w.heap.size ≤ P ∧ SP w' P (raw.take 4) (numAt raw 4 8) (numAt raw 12 4) (numAt raw 16 2) (slotsOf raw) raw ∧ Same w w' := by
  refine (wellFormed_any v raw w hB hn hv).mono ?_
  rintro e w1 ⟨hk, ⟨_, P, rfl, hP, hsp⟩ | ⟨hno, rfl⟩⟩
  · exact ⟨P, rfl, hP, hsp, hk⟩
  · rw [hok] at hno; cases hno
theorem wellFormed_no (v : Value) (raw : List Int) (w : World) (hB : IsB raw) (hn : raw.length ≤ 1099511627776) (hv : Rd .u8 w v raw) (hok : ownOK raw = false) :
    Calls Try.prog 19 #[v] w fun e w' => e = .returned (.pointer none) ∧ Same w w' := by
  refine (wellFormed_any v raw w hB hn hv).mono ?_
  rintro e w1 ⟨hk, ⟨hyes, P, rfl, hP, hsp⟩ | ⟨hno, rfl⟩⟩
  · rw [hok] at hyes; cases hyes
  · exact ⟨rfl, hk⟩
theorem specPageGet_any (v : Value) (raw : List Int) (s : Int) (w : World) (hB : IsB raw) (hn : raw.length ≤ 1099511627776) (hv : Rd .u8 w v raw) :
    Calls Try.prog 59 #[v, .int .i64 s] w fun e w' => ∃ y : StPageRecord, e = .returned y.val ∧ y.dat = pageGet raw s ∧ (∀ b, FootL y.rows b → w.heap.size ≤ b) ∧ OwnL w' y.rows ∧ Same w w' := by
  have b0 := Blk.new w #[.bool false, .slice none 0 0] 44
  have hr0 := hv.same ((Kept.refl _ w).alloc (.cells #[.bool false, .slice none 0 0] 44))
  have h := l3Own_any v raw _ hB hn hr0
  by_cases hno : ownOK raw = false ∨ s < 0 ∨ 32 ≤ s
  · rw [pageGet_no (hno.elim .inl (fun h => h.elim (fun h => .inr (.inl h)) (fun h => .inr (.inr (.inl h)))))]
    have hz : ∀ w1, Same (w.alloc (.cells #[.bool false, .slice none 0 0] 44)) w1 → w1.cell? ⟨w.heap.size, 0, none⟩ = some (.bool false) ∧ w1.cell? ⟨w.heap.size, 1, none⟩ = some (.slice none 0 0) ∧ w1.frozen? ⟨w.heap.size, 0, none⟩ = false ∧ w1.frozen? ⟨w.heap.size, 1, none⟩ = false := fun w1 hk => ⟨(b0.same hk).cell 0, (b0.same hk).cell 1, (b0.same hk).frozen 0, (b0.same hk).frozen 1⟩
    have hz2 : ∀ w1, Same (w.alloc (.cells #[.bool false, .slice none 0 0] 44)) w1 → Same w ((w1.setCell ⟨w.heap.size, 0, none⟩ (.bool false)).setCell ⟨w.heap.size, 1, none⟩ (.slice none 0 0)) := fun w1 hk => ((((Kept.refl _ w).alloc _).trans hk).setCell (p := ⟨w.heap.size, 0, none⟩) (.inl (Nat.le_refl _)) (.bool false)).setCell (p := ⟨w.heap.size, 1, none⟩) (.inl (Nat.le_refl _)) (.slice none 0 0)
    clear b0 hr0 hv hB
    cases hok : ownOK raw with
    | false =>
      rw [hok] at h
      go_enter Try.func59, Try.ntmps59
      go_wp2_with (go_at_call 48; refine h.mono ?_; rintro e w1 ⟨rfl, hk⟩; obtain ⟨c0, c1, f0, f1⟩ := hz w1 hk)
      refine bodyPost_ret (v := .agg #[.bool false, .slice none 0 0]) (by simp [results, Try.results59, go_sem, c0, c1]) rfl ⟨⟨false, ⟨0, none, 0, []⟩⟩, rfl, rfl, fun b hb => absurd hb (zeroPR_foot b), zeroPR_own _, hz2 w1 hk⟩
    | true =>
      rw [hok] at h
      by_cases h1 : s < 0
      · go_enter Try.func59, Try.ntmps59
        go_wp2_with (go_at_call 48; refine h.mono ?_; rintro e w1 ⟨rfl, hk⟩; obtain ⟨c0, c1, f0, f1⟩ := hz w1 hk)
        refine bodyPost_ret (v := .agg #[.bool false, .slice none 0 0]) (by simp [results, Try.results59, go_sem, c0, c1]) rfl ⟨⟨false, ⟨0, none, 0, []⟩⟩, rfl, rfl, fun b hb => absurd hb (zeroPR_foot b), zeroPR_own _, hz2 w1 hk⟩
      · have h2 : 32 ≤ s := hno.elim (fun h => by rw [hok] at h; cases h) (fun h => by omega)
        go_enter Try.func59, Try.ntmps59
        go_wp2_with (go_at_call 48; refine h.mono ?_; rintro e w1 ⟨rfl, hk⟩; obtain ⟨c0, c1, f0, f1⟩ := hz w1 hk)
        refine bodyPost_ret (v := .agg #[.bool false, .slice none 0 0]) (by simp [results, Try.results59, go_sem, c0, c1]) rfl ⟨⟨false, ⟨0, none, 0, []⟩⟩, rfl, rfl, fun b hb => absurd hb (zeroPR_foot b), zeroPR_own _, hz2 w1 hk⟩
  · have hok : ownOK raw = true := by cases h : ownOK raw with | true => rfl | false => exact absurd (.inl h) hno
    obtain ⟨k, rfl⟩ : ∃ k : Nat, s = k := ⟨s.toNat, by omega⟩
    have hk32 : k < 32 := by omega
    have hl := ownOK_len hok
    obtain ⟨a, c, rfl⟩ := hv.form
    obtain ⟨b, off, rfl, hc⟩ := rd_some hv (by omega)
    rw [hok] at h
    have hsl64 := slotsOf_length raw
    have hS := fun wx (h : Same w wx) => l3Slots_any b off c raw wx hB hl (by rw [← hl]; exact hv.same h)
    have hsl := ownOK_slot hok k hk32
    have hsm := slotsOf_small raw hB hl
    have hx := hsm.at (2 * k)
    have hy := hsm.at (2 * k + 1)
    rw [hl] at h ⊢
    have hc4 : 4096 ≤ c := by
      rcases hv.2 with ⟨h, _⟩ | ⟨_, _, _, he, hle, _⟩
      · rw [h] at hl; cases hl
      · injection he with _ _ h3; omega
    have hneg : ¬ (k : Int) < 0 := by omega
    have hge : ¬ (32 : Int) ≤ k := by omega
    obtain ⟨x, hxe⟩ : ∃ x : Nat, (slotsOf raw).getD (2 * k) 0 = x := ⟨((slotsOf raw).getD (2 * k) 0).toNat, by omega⟩
    obtain ⟨y, hye⟩ : ∃ y : Nat, (slotsOf raw).getD (2 * k + 1) 0 = y := ⟨((slotsOf raw).getD (2 * k + 1) 0).toNat, by omega⟩
    have HQ := (show Hid (∀ (wx : World) g, Rows2 wx g (slotsOf raw) → wx.cell? ⟨g, k * 2, none⟩ = some (.int .i64 x) ∧ wx.cell? ⟨g, k * 2 + 1, none⟩ = some (.int .i64 y)) from fun wx g h => ⟨by rw [h.at0 k hk32, hxe], by rw [h.at1 k hk32, hye]⟩)
    by_cases h0 : (slotsOf raw).getD (2 * k) 0 = 0
    · rw [pageGet_no (raw := raw) (s := k) (.inr (.inr (.inr h0)))]
      have hx0 : (x : Int) = 0 := by omega
      clear hv hB hr0 hxe hye hx hy hsl h0
      go_enter Try.func59, Try.ntmps59
      go_wp2_with (first
        | (go_at_call 48; refine h.mono ?_; rintro e w1 ⟨rfl, hk⟩; have b1 := b0.same hk; have hS' := hS w1 (((Kept.refl _ _).alloc _).trans hk))
        | (go_at_call 47; refine hS'.mono ?_; rintro e w2 ⟨g, cap, rfl, hg, hown, hk2⟩; have b2 := b1.same hk2; obtain ⟨q0, q1⟩ := HQ.out w2 g (rows2_of hown hsl64); have c0 : w2.cell? ⟨w.heap.size, 0, none⟩ = some (.bool false) := b2.cell 0; have c1 : w2.cell? ⟨w.heap.size, 1, none⟩ = some (.slice none 0 0) := b2.cell 1; have f0 := b2.frozen 0; have f1 := b2.frozen 1; have hlt := b2.lt; clear hown))
      have hk4 := (((((Kept.refl (fun _ => False) w).alloc _).trans hk).trans hk2).setCell (p := ⟨w.heap.size, 0, none⟩) (.inl (Nat.le_refl _)) (.bool false)).setCell (p := ⟨w.heap.size, 1, none⟩) (.inl (Nat.le_refl _)) (.slice none 0 0)
      have hk5 := hk4.alloc (.cells #[.int .i64 0, .int .i64 (y : Int)] 95)
      have bz := ((b2.stored 0 (.bool false)).stored 1 (.slice none 0 0)).alloc (.cells #[.int .i64 0, .int .i64 (y : Int)] 95)
      have d0 := bz.cell 0
      have d1 := bz.cell 1
      simp only [List.set_cons_zero, List.set_cons_succ, List.getElem?_cons_zero, List.getElem?_cons_succ] at d0 d1
      refine bodyPost_ret (v := .agg #[.bool false, .slice none 0 0]) (by simp [results, Try.results59, go_sem, d0, d1]) rfl ⟨⟨false, ⟨0, none, 0, []⟩⟩, rfl, rfl, fun b hb => absurd hb (zeroPR_foot b), zeroPR_own _, hk5⟩
    · rw [pageGet_yes hok hk32 h0]
      have hxy : x + y ≤ 4096 := by omega
      have hx0 : ¬ (x : Int) = 0 := by omega
      rw [hxe, hye]
      have hst : stretch raw x y = (raw.drop x).take y := rfl
      rw [hst]
      have hrd0 := Rd.cut hv x y (by omega)
      have hlen : ((raw.drop x).take y).length ≤ 1099511627776 := by simp; omega
      obtain ⟨bs, hbs⟩ : ∃ bs, (raw.drop x).take y = bs := ⟨_, rfl⟩
      rw [hbs] at hrd0 hlen ⊢
      obtain ⟨A, hA⟩ : ∃ A : Addr, (if c = x then ⟨b, off, none⟩ else ⟨b, off + x, none⟩) = A := ⟨_, rfl⟩
      rw [hA] at hrd0
      have hrun : ∀ wx : World, (Instr.slice 22 (.slice (some ⟨b, off, none⟩) 4096 c) (some (.int .i64 (x : Int))) (some (.int .i64 ((x : Int) + (y : Int)))) none).run Try.prog wx = .ok (.slice (some A) y (c - x)) wx := by
        intro wx
        rw [run_slice_lh wx 22 (some ⟨b, off, none⟩) 4096 c (by kernel_rfl) .i64 .i64 x (x + y) (by omega) (by omega) (by omega)]
        have hsz : (sizeOf (Try.prog.elem 22)).run Try.prog wx = .ok 1 wx := by kernel_rfl
        rw [hsz]
        simp only [Result.andThen, sliced, Int.toNat_natCast, Nat.mul_one]
        rw [show ((x : Int) + (y : Int)).toNat - x = y from by omega, ← hA]
        split
        · rfl
        · simp [addr_add]
      have HRD := (show Hid (Rd .u8 w (.slice (some A) y (c - x)) bs) from hrd0)
      clear hv hB hr0 hxe hye hx hy hsl h0 hbs hst hA hrd0
      go_enter Try.func59, Try.ntmps59
      go_wp2_with (first
        | (go_at_call 48; refine h.mono ?_; rintro e w1 ⟨rfl, hk⟩; have b1 := b0.same hk; have hS' := hS w1 (((Kept.refl _ _).alloc _).trans hk))
        | (go_at_call 47; refine hS'.mono ?_; rintro e w2 ⟨g, cap, rfl, hg, hown, hk2⟩; have b2 := b1.same hk2; obtain ⟨q0, q1⟩ := HQ.out w2 g (rows2_of hown hsl64); have hlt := b2.lt; have hkw2 := (((Kept.refl (fun _ => False) w).alloc _).trans hk).trans hk2; clear hown)
        | (go_at_call 25; refine (l1Copy_any _ bs _ hlen (HRD.out.same (hkw2.alloc _))).mono ?_; rintro e w5 ⟨a5, n5, c5, rfl, hown, hfr, hk5⟩; have b5 := (b2.alloc _).same hk5; have c0 : w5.cell? ⟨w.heap.size, 0, none⟩ = some (.bool false) := b5.cell 0; have c1 : w5.cell? ⟨w.heap.size, 1, none⟩ = some (.slice none 0 0) := b5.cell 1; have f0 := b5.frozen 0; have f1 := b5.frozen 1))
      obtain rfl : n5 = bs.length := by obtain ⟨_, _, he⟩ := hown.rd.form; injection he
      have hb5 := b5.lt
      have hkz := (((hkw2.alloc _).trans hk5).setCell (p := ⟨w.heap.size, 0, none⟩) (.inl (Nat.le_refl _)) (.bool true)).setCell (p := ⟨w.heap.size, 1, none⟩) (.inl (Nat.le_refl _)) (.slice a5 bs.length c5)
      have hko : Kept (fun b => b = w.heap.size) w5 ((w5.setCell ⟨w.heap.size, 0, none⟩ (.bool true)).setCell ⟨w.heap.size, 1, none⟩ (.slice a5 bs.length c5)) := ((Kept.refl (fun b => b = w.heap.size) w5).setCell (p := ⟨w.heap.size, 0, none⟩) (.inr rfl) _).setCell (p := ⟨w.heap.size, 1, none⟩) (.inr rfl) _
      simp only [World.size_alloc] at hfr
      refine bodyPost_ret (v := .agg #[.bool true, .slice a5 bs.length c5]) (by simp [results, Try.results59, go_sem, c0, c1]) rfl ⟨⟨true, ⟨5, a5, c5, bs⟩⟩, rfl, rfl, fun b hb => ?_, OwnL.one (hown.kept hko (fun b hb e => ?_)), hkz⟩
      · have := hfr b ((footL_ints _ _ _ _ _).1 hb); omega
      · have := hfr b hb; omega
theorem byte_one : (Try.prog.info? 5).map (·.size) = some 1 := by kernel_rfl
theorem SP.setRaw {w : World} {B : Nat} {sum : List Int} {lsn num bot : Int} {sl raw : List Int} (h : SP w B sum lsn num bot sl raw) (r2 : List Int) (hr : r2.length = 4096) : SP (w.setCells B 71 (vals .u8 r2)) B sum lsn num bot sl r2 := by
  refine ⟨?_, h.l1, h.l2, hr⟩
  have hs := Blk.setCells (vals .u8 r2) 71 h.blk (by rw [spCells_length h.l1 h.l2 h.l3, vals_length, hr]; omega)
  have e : ∀ r : List Int, spCells sum lsn num bot sl r = (vals .u8 sum ++ (.int .i64 lsn :: .int .i64 num :: .int .i64 bot :: vals .i64 sl)) ++ (vals .u8 r ++ []) := fun r => by simp [spCells]
  have hA : (vals .u8 sum ++ (.int .i64 lsn :: .int .i64 num :: .int .i64 bot :: vals .i64 sl)).length = 71 := by simp [vals, h.l1, h.l2]
  have hl : lay (spCells sum lsn num bot sl raw) 71 (vals .u8 r2) = spCells sum lsn num bot sl r2 := by
    have hm := lay_mid (vals .u8 sum ++ (.int .i64 lsn :: .int .i64 num :: .int .i64 bot :: vals .i64 sl)) (vals .u8 raw) [] (vals .u8 r2) (by rw [vals_length, vals_length, hr, h.l3])
    rw [hA] at hm
    rw [e raw, e r2]
    exact hm
  rw [hl] at hs
  exact hs
theorem SP.setBot {w : World} {B : Nat} {sum : List Int} {lsn num bot : Int} {sl raw : List Int} (h : SP w B sum lsn num bot sl raw) (x : Int) : SP (w.setCell ⟨B, 6, none⟩ (.int .i64 x)) B sum lsn num x sl raw := by
  refine ⟨?_, h.l1, h.l2, h.l3⟩
  have hs := h.blk.stored 6 (.int .i64 x)
  have e : (spCells sum lsn num bot sl raw).set 6 (.int .i64 x) = spCells sum lsn num x sl raw := by
    unfold spCells
    have h4 : (vals .u8 sum).length = 4 := by rw [vals_length, h.l1]
    rw [List.set_append_right (h := by omega), h4]
    rfl
  rw [e] at hs
  exact hs
theorem SP.setLsn {w : World} {B : Nat} {sum : List Int} {lsn num bot : Int} {sl raw : List Int} (h : SP w B sum lsn num bot sl raw) (x : Int) : SP (w.setCell ⟨B, 4, none⟩ (.int .i64 x)) B sum x num bot sl raw := by
  refine ⟨?_, h.l1, h.l2, h.l3⟩
  have hs := h.blk.stored 4 (.int .i64 x)
  have e : (spCells sum lsn num bot sl raw).set 4 (.int .i64 x) = spCells sum x num bot sl raw := by
    unfold spCells
    have h4 : (vals .u8 sum).length = 4 := by rw [vals_length, h.l1]
    rw [List.set_append_right (h := by omega), h4]
    rfl
  rw [e] at hs
  exact hs
theorem compact_any (P : Nat) (sum : List Int) (lsn num bot : Int) (sl raw : List Int) (w : World) (hp : SP w P sum lsn num bot sl raw) (hok : SlOK sl) :
    Calls Try.prog 60 #[.pointer (some ⟨P, 0, none⟩)] w fun e w' => e = .returned (.tuple #[]) ∧ SP w' P sum lsn num (cBot sl 32) (cSl sl 32) (cBody raw sl 32) ∧ Kept (fun b => b = P) w w' := by
  have HP := hid hp
  have HOK := hid hok
  have hPl := hp.blk.lt
  have HIs := (show Hid ((Try.prog.info? 58).map (·.size) = some (vals .i64 sl).length) from (by rw [vals_length, hp.l2]; exact (by kernel_rfl : (Try.prog.info? 58).map (·.size) = some 64) : (Try.prog.info? 58).map (·.size) = some (vals .i64 sl).length))
  obtain ⟨ss, hss⟩ : ∃ ss : List Value, vals .i64 sl = ss := ⟨_, rfl⟩
  have HSS := hid hss
  have hz8 : Try.zeroCells60.toList = vals .u8 (List.replicate 4096 0) := by kernel_rfl
  obtain ⟨w1, hw1⟩ : ∃ x, w.alloc (.cells Try.zeroCells60 60) = x := ⟨_, rfl⟩
  have HM1 := (show Hid (Blk w1 w.heap.size 60 (vals .u8 (cBody raw sl 0))) from by
    rw [← hw1]
    have h := Blk.new w Try.zeroCells60 60
    rw [hz8] at h
    exact h)
  have HK1 := (show Hid (Same w w1) from by rw [← hw1]; exact (Kept.refl _ _).alloc _)
  have HP1 := hid (HP.out.same HK1.out)
  have HRs := (show Hid ((w.alloc (.cells Try.zeroCells60 60)).rangeAt P 7 ss) from by rw [← hss, hw1]; exact HP1.out.slRange)
  have HW1 := hid hw1
  rw [hss] at HIs
  clear hss hp hok hw1 hz8
  go_enter Try.func60, Try.ntmps60
  go_wp2_with (refine wpList_load_mid rfl 58 _ rfl P 7 rfl ss _ HRs.out Try.underlying58 rfl HIs.out ?_)
  rw [HW1.out]
  clear HW1 HRs
  go_loopw [3, 10] (fun b i wr => ∃ (k : Nat), k ≤ 32 ∧ b = .int .i64 (cBot sl k) ∧ i = .int .i64 (k : Int) ∧ Hid (SP wr P sum lsn num bot (cSl sl k) raw) ∧ Hid (Blk wr w.heap.size 60 (vals .u8 (cBody raw sl k))) ∧ Hid (Kept (fun b => b = P) w wr)) (fun _ i _ => 32 - (intOf i).toNat)
  case atStart => exact ⟨0, Nat.zero_le _, rfl, rfl, HP1, HM1, HK1.out.mono (fun _ _ e => e.elim)⟩
  case round =>
    obtain ⟨k, hk, rfl, rfl, HS, HM, HK⟩ := hrel
    clear HP1 HM1 HK1
    by_cases hlt : k < 32
    case pos =>
      have hk2 : (k : Int) < 32 := by omega
      have hix := fun w => slot_at sl HP.out.l2 k hlt w
      rw [HSS.out] at hix
      have h1 := HOK.out.one k hlt
      have hb0 := HOK.out.bot k hk
      have hb1 := HOK.out.bot (k + 1) (by omega)
      have hbs := cBot_succ sl k
      obtain ⟨xn, hxn⟩ : ∃ n : Nat, sl.getD (2 * k) 0 = (n : Int) := ⟨(sl.getD (2 * k) 0).toNat, by omega⟩
      obtain ⟨yn, hyn⟩ : ∃ n : Nat, sl.getD (2 * k + 1) 0 = (n : Int) := ⟨(sl.getD (2 * k + 1) 0).toNat, by omega⟩
      have HCS := (show Hid (cSl sl (k + 1) = if sl.getD (2 * k) 0 = 0 then cSl sl k else (cSl sl k).set (2 * k) (cBot sl (k + 1))) from rfl)
      have HCB := (show Hid (cBody raw sl (k + 1) = if sl.getD (2 * k) 0 = 0 then cBody raw sl k else layI (cBody raw sl k) (cBot sl (k + 1)).toNat (stretch raw (sl.getD (2 * k) 0) (sl.getD (2 * k + 1) 0))) from rfl)
      rw [hxn] at HCS
      rw [hxn, hyn] at HCB hix h1
      rw [hyn] at hbs
      have kU := fun wx => used_any (xn : Int) (yn : Int) wx
      have hzr := HK.out.size
      by_cases hx0 : xn = 0
      · have hx0i : (xn : Int) = 0 := by omega
        rw [if_pos hx0i] at HCS HCB
        rw [hx0i] at kU hix
        rw [show ((0 : Int) != 0) = false from rfl] at kU
        have HBT := hid (show cBot sl (k + 1) = cBot sl k from by omega)
        clear hx0 hx0i h1 hbs hxn hyn
        go_wp2_with (go_at_call 62; (with_reducible refine (kU _).mono ?_); rintro e w3 ⟨rfl, hk3⟩; have HK3 : Hid (Same wr w3) := ((Kept.refl _ _).alloc _).trans hk3; clear hk3)
        go_roundw
        case rel => exact ⟨k + 1, by omega, by rw [HBT.out], by go_num, by rw [HCS.out]; exact HS.out.same HK3.out, by rw [HCB.out]; exact HM.out.same HK3.out, HK.out.next HK3.out (fun i hi e => e.elim)⟩
        case measure => simp [intOf]; omega
      have hxi : ¬ (xn : Int) = 0 := by omega
      rw [if_neg hxi] at HCS HCB
      have hx2 : ((xn : Int) != 0) = true := by simp; omega
      rw [hx2] at kU
      obtain ⟨bn, hbn⟩ : ∃ n : Nat, cBot sl (k + 1) = (n : Int) := ⟨(cBot sl (k + 1)).toNat, by omega⟩
      have HBN := hid hbn
      rw [hbn] at HCS HCB hbs hb1
      rw [Int.toNat_natCast] at HCB
      have hxy : xn + yn ≤ 4096 := by omega
      have hbn2 : bn + yn ≤ 4096 := by omega
      have HSTR := (show Hid (stretch raw (xn : Int) (yn : Int) = (raw.drop xn).take yn) from by unfold Hid stretch; simp)
      rw [HSTR.out] at HCB
      have hstl : ((raw.drop xn).take yn).length = yn := by rw [List.length_take, List.length_drop, HP.out.l3]; omega
      have HST := hid hstl
      have kR := fun wx (h : SP wx P sum lsn num bot (cSl sl k) raw) => record_any P sum lsn num bot (cSl sl k) raw xn yn wx h hxy
      have HBL := hid (HOK.out.body raw HP.out.l3 k hk)
      obtain ⟨cb, hcb0⟩ : ∃ x, cBot sl k = x := ⟨_, rfl⟩
      rw [hcb0] at hbs hb0 ⊢
      have q1 : IntKind.i64.wrap (cb - (yn : Int)) = (bn : Int) := by rw [IntKind.wrap_i64]; omega
      have g2 : (bn : Int) ≤ 4096 := by omega
      obtain ⟨ab, hab⟩ : ∃ ab : Option Addr, some (if 4096 = bn then (⟨w.heap.size, 0, none⟩ : Addr) else ⟨w.heap.size, bn, none⟩) = ab := ⟨_, rfl⟩
      have HAB := (show Hid (behind w.heap.size 4096 bn = ab) from by rw [← hab]; unfold behind Hid; split <;> rfl)
      clear h1 hbs hxn hyn hstl hb0 hcb0 hbn hx0 HSTR
      go_wp2_with fail
      refine (kU _).mono ?_
      rintro e w3 ⟨rfl, hk3⟩
      have HB3 := hid ((Blk.newL wr [.int .i64 (xn : Int), .int .i64 (yn : Int)] 57).same hk3)
      have HK3 : Hid (Same wr w3) := ((Kept.refl _ _).alloc _).trans hk3
      obtain ⟨BS, hBS⟩ : ∃ b, wr.heap.size = b := ⟨_, rfl⟩
      rw [hBS] at HB3 ⊢
      have HBS : Hid (w.heap.size < BS ∧ P < BS) := by have h1 := HM.out.lt; have h2 := HS.out.blk.lt; unfold Hid; omega
      obtain ⟨d0, d1⟩ := HB3.out.all2
      have HS3 := hid (HS.out.same HK3.out)
      have HM3 := hid (HM.out.same HK3.out)
      clear hk3 kU hBS
      go_wp2_with fail
      let Y1 : World → Prop := fun wx : World => wx.cell? ⟨BS, 0, none⟩ = some (.int .i64 (xn : Int)) ∧ wx.cell? ⟨BS, 1, none⟩ = some (.int .i64 (yn : Int))
      have hS : Y1 w3.drew := ⟨d0, d1⟩
      refine wp_region_V Y1 99 6 rfl (by kernel_rfl) ?_
      refine tk 0 21 hS ?_
      refine tkV 1 22 (.slice ab (4096 - bn) (4096 - bn)) hS ?_
      refine tk 2 23 hS ?_
      refine tk 3 24 hS ?_
      refine wpAnyV_one (i := 4) (by kernel_rfl) rfl (fun K hK => ?_)
      go_simp
      refine (kR _ (HS3.out.same (Kept.refl _ _).drew)).mono ?_
      rintro e w4 ⟨a4, c4, rfl, hr4, hk4⟩
      have HK4 : Hid (Same w3 w4) := (Kept.refl _ _).drew.trans hk4
      have HS4 := hid (HS3.out.same HK4.out)
      have HM4 := hid (HM3.out.same HK4.out)
      have hcp := run_copyOwn (P := Try.prog) 3 Try.underlying22 byte_one (xs := cBody raw sl k) (n := 4096) (cap := 4096) (by have h := Blk.own HM4.out (by rw [HBL.out]; unfold maxLen; omega); rw [HBL.out] at h; exact h) HBL.out.symm bn (by rw [HST.out]; omega) (by have h := hr4; exact h)
      rw [HAB.out, HST.out] at hcp
      have hS : Y1 w4 := ⟨HK4.out.cellOf d0 id, HK4.out.cellOf d1 id⟩
      refine hK.out _ _ (fun _ => hS) ?_
      clear hK K hk4 hr4
      try simp only [Act.put, sA, s0, sS]
      have HB4 := hid (HB3.out.same HK4.out)
      refine wpAnyV_one (i := 5) (by kernel_rfl) rfl (fun K hK => ?_)
      go_simp
      have hk45 : Kept (fun b => b = w.heap.size) w4 (w4.setCells w.heap.size bn (vals .u8 ((raw.drop xn).take yn))) := Kept.setCells (R := fun b => b = w.heap.size) (.inr rfl) _ _ (Kept.refl _ _)
      have HB5 := hid (HB4.out.kept hk45 (by have := HBS.out; omega))
      have HS5 := hid (HS4.out.kept hk45 (by omega))
      have HM5 := (show Hid (Blk (w4.setCells w.heap.size bn (vals .u8 ((raw.drop xn).take yn))) w.heap.size 60 (vals .u8 (layI (cBody raw sl k) bn ((raw.drop xn).take yn)))) from by
        have h := Blk.setCells (vals .u8 ((raw.drop xn).take yn)) bn HM4.out (by rw [vals_length, vals_length, HST.out, HBL.out]; omega)
        rw [lay_layI] at h
        exact h)
      have HK5 := (show Hid (Kept (fun b => b = P) w (w4.setCells w.heap.size bn (vals .u8 ((raw.drop xn).take yn)))) from Kept.setCells (R := fun b => b = P) (.inl (Nat.le_refl _)) _ _ (HK.out.trans ((HK3.out.trans HK4.out).mono (fun _ _ e => e.elim))))
      refine hK.out _ _ (fun _ => ⟨HB5.out.cell 0, HB5.out.cell 1⟩) ?_
      clear hK K hcp hk45
      try simp only [Act.put, sA, s0, sS]
      refine wpAnyV_done (by kernel_rfl) ?_
      rw [← HCB.out] at HM5
      generalize w4.setCells w.heap.size bn (vals .u8 ((raw.drop xn).take yn)) = w5 at HB5 HS5 HM5 HK5 ⊢
      have c0 := HS5.out.slAt (2 * k) (by omega)
      rw [show 7 + 2 * k = 7 + k * 2 from by omega] at c0
      have cf := HS5.out.blk.frozen (7 + k * 2)
      have HS6 := hid (HS5.out.slot (2 * k) (by omega) (bn : Int))
      rw [show 7 + 2 * k = 7 + k * 2 from by omega, ← HCS.out] at HS6
      have hk56 : Kept (fun b => b = P) w5 (w5.setCell ⟨P, 7 + k * 2, none⟩ (.int .i64 (bn : Int))) := Kept.setCell (R := fun b => b = P) (Kept.refl _ _) (p := ⟨P, 7 + k * 2, none⟩) (.inr rfl) _
      have HM6 := hid (HM5.out.kept hk56 (by omega))
      have HK6 := hid (HK5.out.trans hk56)
      generalize (cSl sl k).getD (2 * k) 0 = uo at c0
      clear hk56 d0 d1 hS
      go_wp2
      go_roundw
      case rel => exact ⟨k + 1, by omega, by rw [HBN.out], by go_num, HS6, HM6, HK6⟩
      case measure => simp [intOf]; omega
    obtain rfl : k = 32 := by omega
    have HBL := HOK.out.body raw HP.out.l3 32 hk
    obtain ⟨ds, hds⟩ : ∃ ds : List Value, vals .u8 (cBody raw sl 32) = ds := ⟨_, rfl⟩
    have HDS := hid hds
    have hdl : ds.length = 4096 := by rw [← hds, vals_length, HBL]
    have hone : ∀ v ∈ ds, v.oneCell' = true := by rw [← hds]; exact vals_one
    have HM2 := HM.out
    rw [hds] at HM2
    have HRG := (show Hid (wr.rangeAt w.heap.size 0 ds) from HM2.rangeAll)
    have HTH := (show Hid (wr.there P 71 ds.toArray.size) from HS.out.blk.there 71 _ (by rw [spCells_length HS.out.l1 HS.out.l2 HS.out.l3, List.size_toArray, hdl]; omega))
    have HI := (show Hid ((Try.prog.info? 60).map (·.size) = some ds.length) from (by rw [hdl]; exact (by kernel_rfl : (Try.prog.info? 60).map (·.size) = some 4096) : (Try.prog.info? 60).map (·.size) = some ds.length))
    have HI2 := (show Hid ((Try.prog.info? 60).map (·.size) = some ds.toArray.size) from by rw [List.size_toArray]; exact HI.out)
    have HONE := (show Hid (ds.toArray.all (·.oneCell') = true) from all_oneCell_toArray hone)
    have HS7 := (show Hid (SP (wr.setCells P 71 ds) P sum lsn num bot (cSl sl 32) (cBody raw sl 32)) from by rw [← HDS.out]; exact HS.out.setRaw _ HBL)
    have HK7 := (show Hid (Kept (fun b => b = P) w (wr.setCells P 71 ds)) from Kept.setCells (R := fun b => b = P) (.inr rfl) _ _ HK.out)
    obtain ⟨n0, n1, n2⟩ := HS7.out.num3
    have nf := HS7.out.blk.frozen 6
    have HS8 := hid (HS7.out.setBot (cBot sl 32))
    have HK8 := (show Hid (Kept (fun b => b = P) w ((wr.setCells P 71 ds).setCell ⟨P, 6, none⟩ (.int .i64 (cBot sl 32)))) from Kept.setCell (R := fun b => b = P) HK7.out (p := ⟨P, 6, none⟩) (.inr rfl) _)
    obtain ⟨cb, hcb0⟩ : ∃ x, cBot sl 32 = x := ⟨_, rfl⟩
    rw [hcb0] at HS8 HK8 ⊢
    have HCB0 := hid hcb0
    clear hds hdl hone HM2 HBL hcb0 HDS
    go_wp2_with (first
      | (refine wpList_load_mid rfl 60 _ rfl w.heap.size 0 rfl ds _ HRG.out Try.underlying60 rfl HI.out ?_)
      | (refine wpList_store_mid rfl 60 _ _ rfl P 71 ds.toArray rfl rfl HTH.out HI2.out HONE.out ?_))
    refine bodyPost_end (results_none Try.results60 _ _ _) rfl ?_
    exact ⟨rfl, by rw [HCB0.out]; exact HS8.out, HK8.out⟩
theorem getN_lows {x : Int} {n : Nat} (hn : 1 ≤ n) (hn8 : n ≤ 8) (h0 : 0 ≤ x) (h1 : x < 256 ^ n) (h2 : x ≤ 9223372036854775807) : getN (lows x n) = x := by
  obtain ⟨m, rfl⟩ : ∃ m : Nat, x = (m : Int) := ⟨x.toNat, by omega⟩
  have e : num (lows (m : Int) n) = (m : Int) := by
    rw [num_lows, Nat.mod_eq_of_lt]
    have : ((256 ^ n : Nat) : Int) = (256 : Int) ^ n := by simp
    omega
  unfold getN
  rw [e, lows_length, if_neg (by omega)]
theorem take_mid (A B C : List Int) : ((A ++ (B ++ C)).drop A.length).take B.length = B := by
  rw [List.drop_left, List.take_left]
theorem take_midN (A B C : List Int) (a b : Nat) (ha : a = A.length) (hb : b = B.length) : ((A ++ (B ++ C)).drop a).take b = B := by subst ha hb; exact take_mid A B C
theorem slotB_at (sl : List Int) (j : Nat) (hj : j < sl.length) : ((slotB sl).drop (2 * j)).take 2 = lows (sl.getD j 0) 2 := by
  have e : sl = sl.take j ++ (sl[j] :: sl.drop (j + 1)) := by rw [← List.drop_eq_getElem_cons hj, List.take_append_drop]
  have hg : sl.getD j 0 = sl[j] := by simp [hj]
  rw [hg]
  conv => lhs; rw [e]
  rw [slotB_append, show slotB (sl[j] :: sl.drop (j + 1)) = lows sl[j] 2 ++ slotB (sl.drop (j + 1)) from by unfold slotB; rw [List.flatMap_cons]]
  exact take_midN _ _ _ _ _ (by rw [slotB_length, List.length_take]; omega) (by rw [lows_length])
structure EncOK (sum : List Int) (lsn num bot : Int) (sl raw : List Int) : Prop where
  s4 : sum.length = 4
  sl64 : sl.length = 64
  r : raw.length = 4096
  lsn : 0 ≤ lsn ∧ lsn ≤ 9223372036854775807
  num : 0 ≤ num ∧ num < 4294967296
  bot : 0 ≤ bot ∧ bot ≤ 65535
  sls : ∀ x ∈ sl, 0 ≤ x ∧ x ≤ 65535
section
variable {sum : List Int} {lsn num bot : Int} {sl raw : List Int}
theorem EncOK.flat (h : EncOK sum lsn num bot sl raw) : encB sum lsn num bot sl raw = sum ++ (lows lsn 8 ++ (lows num 4 ++ (lows bot 2 ++ (lows 0 2 ++ (slotB sl ++ raw.drop 148))))) := by
  rw [encB_eq _ _ _ _ _ _ h.s4 h.sl64]
  simp [headB]
theorem EncOK.len (h : EncOK sum lsn num bot sl raw) : (encB sum lsn num bot sl raw).length = 4096 := encB_length h.s4 h.sl64 h.r
theorem EncOK.sum4 (h : EncOK sum lsn num bot sl raw) : (encB sum lsn num bot sl raw).take 4 = sum := by
  rw [h.flat, List.take_append_of_le_length (by rw [h.s4]; exact Nat.le_refl _), List.take_of_length_le (by rw [h.s4]; exact Nat.le_refl _)]
theorem EncOK.dec (h : EncOK sum lsn num bot sl raw) : numAt (encB sum lsn num bot sl raw) 4 8 = lsn ∧ numAt (encB sum lsn num bot sl raw) 12 4 = num ∧ numAt (encB sum lsn num bot sl raw) 16 2 = bot := by
  refine ⟨?_, ?_, ?_⟩
  · unfold numAt
    rw [h.flat, take_midN _ _ _ _ _ (by rw [h.s4]) (by rw [lows_length])]
    exact getN_lows (by decide) (by decide) h.lsn.1 (by have := h.lsn.2; have : (256 : Int) ^ 8 = 18446744073709551616 := by decide
                                                        omega) h.lsn.2
  · unfold numAt
    rw [h.flat, ← List.append_assoc, take_midN _ _ _ _ _ (by rw [List.length_append, h.s4, lows_length]) (by rw [lows_length])]
    exact getN_lows (by decide) (by decide) h.num.1 (by have := h.num.2; have : (256 : Int) ^ 4 = 4294967296 := by decide
                                                        omega) (by have := h.num.2; omega)
  · unfold numAt
    rw [h.flat, ← List.append_assoc, ← List.append_assoc, take_midN _ _ _ _ _ (by rw [List.length_append, List.length_append, h.s4, lows_length, lows_length]) (by rw [lows_length])]
    exact getN_lows (by decide) (by decide) h.bot.1 (by have := h.bot.2; have : (256 : Int) ^ 2 = 65536 := by decide
                                                        omega) (by have := h.bot.2; omega)
theorem EncOK.behind (h : EncOK sum lsn num bot sl raw) : (encB sum lsn num bot sl raw).drop 148 = raw.drop 148 := by
  rw [encB_eq _ _ _ _ _ _ h.s4 h.sl64, ← List.append_assoc, List.drop_append, List.drop_of_length_le (by rw [List.length_append, headB_length _ _ _ _ h.s4, slotB_length, h.sl64]; decide), List.nil_append, List.length_append, headB_length _ _ _ _ h.s4, slotB_length, h.sl64]
  rfl
theorem EncOK.slots (h : EncOK sum lsn num bot sl raw) : slotsOf (encB sum lsn num bot sl raw) = sl := by
  apply List.ext_getElem?
  intro j
  by_cases hj : j < 64
  · rw [List.getElem?_eq_getElem (by rw [slotsOf_length]; exact hj), List.getElem?_eq_getElem (by rw [h.sl64]; exact hj)]
    have e1 : (slotsOf (encB sum lsn num bot sl raw))[j]'(by rw [slotsOf_length]; exact hj) = (slotsOf (encB sum lsn num bot sl raw)).getD j 0 := by simp [slotsOf_length, hj]
    have e2 : sl[j]'(by rw [h.sl64]; exact hj) = sl.getD j 0 := by simp [h.sl64, hj]
    rw [e1, e2, slotsOf_at _ j hj]
    congr 1
    unfold numAt
    rw [encB_eq _ _ _ _ _ _ h.s4 h.sl64]
    have hd : (headB sum lsn num bot ++ (slotB sl ++ raw.drop 148)).drop (20 + 2 * j) = (slotB sl).drop (2 * j) ++ raw.drop 148 := by
      rw [List.drop_append, List.drop_of_length_le (by rw [headB_length _ _ _ _ h.s4]; omega), List.nil_append, headB_length _ _ _ _ h.s4, Nat.add_sub_cancel_left, List.drop_append_of_le_length (by rw [slotB_length, h.sl64]; omega)]
    rw [hd, List.take_append_of_le_length (by rw [List.length_drop, slotB_length, h.sl64]; omega), slotB_at sl j (by rw [h.sl64]; exact hj)]
    have hb : 0 ≤ sl.getD j 0 ∧ sl.getD j 0 ≤ 65535 := by rw [← e2]; exact h.sls _ (List.getElem_mem _)
    exact getN_lows (by decide) (by decide) hb.1 (by have : (256 : Int) ^ 2 = 65536 := by decide
                                                     omega) (by omega)
  · rw [List.getElem?_eq_none (by rw [slotsOf_length]; omega), List.getElem?_eq_none (by rw [h.sl64]; omega)]
theorem EncOK.again (h : EncOK sum lsn num bot sl raw) : encB sum lsn num bot sl (encB sum lsn num bot sl raw) = encB sum lsn num bot sl raw := by
  rw [encB_eq _ _ _ _ _ (encB sum lsn num bot sl raw) h.s4 h.sl64, h.behind, ← encB_eq _ _ _ _ _ _ h.s4 h.sl64]
theorem EncOK.own (h : EncOK sum lsn num bot sl raw) (hL : isLSN lsn = true) (hb : 148 ≤ bot ∧ bot ≤ 4096) (ha : astray bot sl = false) (hs : share sl = false) : ownOK (encB sum lsn num bot sl raw) = true := by
  obtain ⟨d1, d2, d3⟩ := h.dec
  unfold ownOK pageFault faultP
  rw [h.sum4, d1, d2, d3, h.slots, h.len]
  have hh : headBad sum lsn num bot sl (encB sum lsn num bot sl raw) = false := by
    unfold headBad
    rw [hL, h.again]
    simp
  rw [hh, ha, hs]
  simp
  omega
end
def sl0 (sl : List Int) (s : Nat) : List Int := (sl.set (2 * s) 0).set (2 * s + 1) 0
theorem sl0_length (sl : List Int) (s : Nat) : (sl0 sl s).length = sl.length := by simp [sl0]
theorem sl0_at (sl : List Int) (s j : Nat) : (sl0 sl s).getD j 0 = if j = 2 * s ∨ j = 2 * s + 1 then 0 else sl.getD j 0 := by
  unfold sl0
  simp only [List.getD_eq_getElem?_getD]
  by_cases h1 : j = 2 * s + 1
  · subst h1
    rw [if_pos (.inr rfl)]
    by_cases hl : 2 * s + 1 < sl.length
    · rw [List.getElem?_set_self (by rw [List.length_set]; exact hl)]; rfl
    · rw [List.getElem?_eq_none (by rw [List.length_set, List.length_set]; omega)]; rfl
  · rw [List.getElem?_set_ne (by omega)]
    by_cases h2 : j = 2 * s
    · subst h2
      rw [if_pos (.inl rfl)]
      by_cases hl : 2 * s < sl.length
      · rw [List.getElem?_set_self hl]; rfl
      · rw [List.getElem?_eq_none (by rw [List.length_set]; omega)]; rfl
    · rw [List.getElem?_set_ne (by omega), if_neg (by omega)]
theorem sl0_two (sl : List Int) (s k : Nat) : ((sl0 sl s).getD (2 * k) 0 = if k = s then 0 else sl.getD (2 * k) 0) ∧ ((sl0 sl s).getD (2 * k + 1) 0 = if k = s then 0 else sl.getD (2 * k + 1) 0) := by
  rw [sl0_at, sl0_at]
  by_cases e : k = s
  · subst e; simp
  · refine ⟨?_, ?_⟩
    · rw [if_neg (by omega), if_neg e]
    · rw [if_neg (by omega), if_neg e]
theorem SlOK.zero {sl : List Int} (h : SlOK sl) (s : Nat) : SlOK (sl0 sl s) := by
  refine ⟨fun k hk => ?_, fun i j hi hj => ?_⟩
  · obtain ⟨e1, e2⟩ := sl0_two sl s k
    rw [e1, e2]
    by_cases e : k = s
    · rw [if_pos e, if_pos e]; exact .inl ⟨rfl, rfl⟩
    · rw [if_neg e, if_neg e]; exact h.one k hk
  · obtain ⟨e1, e2⟩ := sl0_two sl s i
    obtain ⟨e3, e4⟩ := sl0_two sl s j
    rw [e1, e2, e3, e4]
    have h1 := h.two i j hi hj
    have h2 := h.one i hi
    have h3 := h.one j (by omega)
    by_cases ei : i = s
    · rw [if_pos ei, if_pos ei]; omega
    · rw [if_neg ei, if_neg ei]
      by_cases ej : j = s
      · rw [if_pos ej, if_pos ej]; omega
      · rw [if_neg ej, if_neg ej]; exact h1
theorem usedN_zero (sl : List Int) (s : Nat) : ∀ k, usedN (sl0 sl s) k = usedN sl k - (if s < k then sl.getD (2 * s + 1) 0 else 0)
  | 0 => by simp [usedN]
  | k + 1 => by
    rw [usedN, usedN, usedN_zero sl s k, (sl0_two sl s k).2]
    by_cases e : k = s
    · subst e
      rw [if_pos rfl, if_neg (by omega), if_pos (by omega)]
      omega
    · rw [if_neg e]
      by_cases h : s < k
      · rw [if_pos h, if_pos (by omega)]; omega
      · rw [if_neg h, if_neg (by omega)]; omega
theorem SlOK.astray0 {sl : List Int} {bot : Int} (h : ∀ k, k < 32 → astrayAt bot (sl.getD (2 * k) 0) (sl.getD (2 * k + 1) 0) = false) : astray bot sl = false := by
  unfold astray
  rw [List.any_eq_false]
  intro i hi
  rw [h i (List.mem_range.1 hi)]
  simp
theorem SlOK.share0 {sl : List Int} (h : SlOK sl) : share sl = false := by
  refine share_no sl (fun i hi j hj => ?_)
  unfold shareAt sharesB
  simpa using h.two i j hi hj
theorem cBody_eq {sl : List Int} (h : SlOK sl) (raw raw' : List Int) (e : raw.drop 148 = raw'.drop 148) : ∀ k, k ≤ 32 → cBody raw sl k = cBody raw' sl k
  | 0, _ => rfl
  | k + 1, hk => by
    rw [cBody, cBody, cBody_eq h raw raw' e k (by omega)]
    split
    · rfl
    · rename_i h0
      have h1 := h.one k (by omega)
      have hs : stretch raw (sl.getD (2 * k) 0) (sl.getD (2 * k + 1) 0) = stretch raw' (sl.getD (2 * k) 0) (sl.getD (2 * k + 1) 0) := by
        unfold stretch
        obtain ⟨m, hm⟩ : ∃ m, (sl.getD (2 * k) 0).toNat = 148 + m := ⟨(sl.getD (2 * k) 0).toNat - 148, by omega⟩
        rw [hm, ← List.drop_drop, ← List.drop_drop, e]
      rw [hs]
/-! ### The page that is set -/
def setPut (sum : List Int) (lsn num bt : Int) (sl body : List Int) (s : Nat) (d : List Int) : List Int :=
  encB sum lsn num (bt - d.length) ((sl.set (2 * s) (bt - d.length)).set (2 * s + 1) d.length) (layI body (bt - d.length).toNat d)
def setB (raw : List Int) (s : Nat) (u : Bool) (d : List Int) (lsn : Int) : List Int :=
  if u = false then encB (raw.take 4) lsn (numAt raw 12 4) (numAt raw 16 2) (sl0 (slotsOf raw) s) raw
  else if numAt raw 16 2 - 148 < d.length then setPut (raw.take 4) lsn (numAt raw 12 4) (cBot (sl0 (slotsOf raw) s) 32) (cSl (sl0 (slotsOf raw) s) 32) (cBody raw (sl0 (slotsOf raw) s) 32) s d
  else setPut (raw.take 4) lsn (numAt raw 12 4) (numAt raw 16 2) (sl0 (slotsOf raw) s) raw s d
def setBad (raw : List Int) (s : Int) (u : Bool) (d : List Int) (lsn : Int) : Bool := !ownOK raw || (decide (s < 0) || (decide (32 ≤ s) || (decide (lsn < 0) || (decide (1099511627776 < lsn) || (decide (1000 < d.length) || (!u && decide (0 < d.length)))))))
def setFull (raw : List Int) (s : Nat) (d : List Int) : Prop := 3948 < usedN (slotsOf raw) 32 - (slotsOf raw).getD (2 * s + 1) 0 + d.length
def setFullDec (raw : List Int) (s : Nat) (d : List Int) : Decidable (setFull raw s d) := inferInstanceAs (Decidable (_ < _))
def pageSet (raw : List Int) (s : Int) (u : Bool) (d : List Int) (lsn : Int) : Int × List Int :=
  if setBad raw s u d lsn = true then (1, []) else @ite _ (setFull raw s.toNat d) (setFullDec raw s.toNat d) (2, []) (0, setB raw s.toNat u d lsn)
end Go.Proofs.Ytcldagphkpkdpaa
