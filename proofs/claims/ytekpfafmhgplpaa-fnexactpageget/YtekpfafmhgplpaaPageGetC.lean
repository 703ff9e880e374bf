/-
  PageGet of both sides.
-/
import Derived.Test.YtekpfafmhgplpaaGetFn
namespace Go.Proofs.Ytekpfafmhgplpaa
open Go.RowKit
set_option linter.unusedVariables false
set_option linter.unusedSimpArgs false

theorem zeroPR_own (w : World) : OwnL w (StPageRecord.rows ⟨false, ⟨0, none, 0, []⟩⟩) := OwnL.one (Own.nil 0 0 .u8 w)
theorem zeroPR_foot (b : Nat) : ¬ FootL (StPageRecord.rows ⟨false, ⟨0, none, 0, []⟩⟩) b := fun h => by have := (footL_ints _ _ _ _ _).1 h; simp [BS.v, Value.ownBlock] at this
theorem wellFormed_yes (v : Value) (raw : List Int) (w : World) (hB : IsB raw) (hn : raw.length ≤ 1099511627776) (hv : Rd .u8 w v raw) (hok : ownOK raw = true) :
    Calls Try.prog 41 #[v] w fun e w' => ∃ P, e = .returned (.pointer (some ⟨P, 0, none⟩)) ∧ w.heap.size ≤ P ∧ SP w' P (raw.take 4) (numAt raw 4 8) (numAt raw 12 4) (numAt raw 16 2) (slotsOf raw) raw ∧ Same w w' := by
  refine (wellFormed_any v raw w hB hn hv).mono ?_
  rintro e w1 ⟨hk, ⟨_, P, rfl, hP, hsp⟩ | ⟨hno, rfl⟩⟩
  · exact ⟨P, rfl, hP, hsp, hk⟩
  · rw [hok] at hno; cases hno
theorem wellFormed_no (v : Value) (raw : List Int) (w : World) (hB : IsB raw) (hn : raw.length ≤ 1099511627776) (hv : Rd .u8 w v raw) (hok : ownOK raw = false) :
    Calls Try.prog 41 #[v] w fun e w' => e = .returned (.pointer none) ∧ Same w w' := by
  refine (wellFormed_any v raw w hB hn hv).mono ?_
  rintro e w1 ⟨hk, ⟨hyes, P, rfl, hP, hsp⟩ | ⟨hno, rfl⟩⟩
  · rw [hok] at hyes; cases hyes
  · exact ⟨rfl, hk⟩

set_option maxRecDepth 100000 in
set_option maxHeartbeats 4000000 in
theorem implPageGet_any (v : Value) (raw : List Int) (s : Int) (w : World) (hB : IsB raw) (hn : raw.length ≤ 1099511627776) (hv : Rd .u8 w v raw) :
    Calls Try.prog 16 #[v, .int .i64 s] w fun e w' => ∃ y : StPageRecord, e = .returned y.val ∧ y.dat = pageGet raw s ∧ (∀ b, FootL y.rows b → w.heap.size ≤ b) ∧ OwnL w' y.rows ∧ Same w w' := by
  have b0 := Blk.new w #[.bool false, .slice none 0 0] 28
  have hr0 := hv.same ((Kept.refl _ w).alloc (.cells #[.bool false, .slice none 0 0] 28))
  cases hok : ownOK raw with
  | false =>
    have h := wellFormed_no v raw _ hB hn hr0 hok
    rw [pageGet_no (.inl hok)]
    clear hv hB hr0
    go_enter Try.func16, Try.ntmps16
    go_wp2_with (go_at_call 41; refine h.mono ?_; rintro e w1 ⟨rfl, hk⟩; have b1 := b0.same hk; have c0 : w1.cell? ⟨w.heap.size, 0, none⟩ = some (.bool false) := b1.cell 0; have c1 : w1.cell? ⟨w.heap.size, 1, none⟩ = some (.slice none 0 0) := b1.cell 1; have f0 := b1.frozen 0; have f1 := b1.frozen 1)
    have hk2 := ((((Kept.refl _ w).alloc _).trans hk).setCell (p := ⟨w.heap.size, 0, none⟩) (.inl (Nat.le_refl _)) (.bool false)).setCell (p := ⟨w.heap.size, 1, none⟩) (.inl (Nat.le_refl _)) (.slice none 0 0)
    refine bodyPost_ret (v := .agg #[.bool false, .slice none 0 0]) (by simp [results, Try.results16, go_sem, c0, c1]) rfl ⟨⟨false, ⟨0, none, 0, []⟩⟩, rfl, rfl, fun b hb => absurd hb (zeroPR_foot b), zeroPR_own _, hk2⟩
  | true =>
    have hl := ownOK_len hok
    have h := wellFormed_yes v raw _ hB hn hr0 hok
    by_cases hs : 0 ≤ s ∧ s < 32
    · obtain ⟨k, rfl⟩ : ∃ k : Nat, s = k := ⟨s.toNat, by omega⟩
      have hk32 : k < 32 := by omega
      have hS := fun wx => isSlot_any k wx
      rw [show (decide (0 ≤ (k : Int)) && decide ((k : Int) < 32)) = true from by simp; omega] at hS
      have hsl := ownOK_slot hok k hk32
      have hsm := slotsOf_small raw hB hl
      have hx := hsm.at (2 * k)
      have hy := hsm.at (2 * k + 1)
      have HS := (show Hid (∀ P wx, SP wx P (raw.take 4) (numAt raw 4 8) (numAt raw 12 4) (numAt raw 16 2) (slotsOf raw) raw → wx.cell? ⟨P, 7 + k * 2, none⟩ = some (.int .i64 ((slotsOf raw).getD (2 * k) 0)) ∧ wx.cell? ⟨P, 7 + k * 2 + 1, none⟩ = some (.int .i64 ((slotsOf raw).getD (2 * k + 1) 0))) from fun P wx h => ⟨by rw [Nat.mul_comm]; exact h.slAt (2 * k) (by omega), by rw [Nat.mul_comm, Nat.add_assoc]; exact h.slAt (2 * k + 1) (by omega)⟩)
      by_cases h0 : (slotsOf raw).getD (2 * k) 0 = 0
      · rw [pageGet_no (raw := raw) (s := k) (.inr (.inr (.inr h0)))]
        have hU := fun y wx => used_any 0 y wx
        rw [h0] at HS
        clear hv hB hr0
        go_enter Try.func16, Try.ntmps16
        go_wp2_with (first
          | (go_at_call 41; refine h.mono ?_; rintro e w1 ⟨P, rfl, hP, hsp, hk⟩; have b1 := b0.same hk)
          | (go_at_call 42; refine (hS _).mono ?_; rintro e w2 ⟨rfl, hk2⟩; have b2 := b1.same hk2; have hsp2 := hsp.same hk2; obtain ⟨q0, q1⟩ := HS.out P w2 hsp2)
          | (go_at_call 43; refine (hU _ _).mono ?_; rintro e w3 ⟨rfl, hk3⟩; have b3 := b2.same hk3; have c0 : w3.cell? ⟨w.heap.size, 0, none⟩ = some (.bool false) := b3.cell 0; have c1 : w3.cell? ⟨w.heap.size, 1, none⟩ = some (.slice none 0 0) := b3.cell 1; have f0 := b3.frozen 0; have f1 := b3.frozen 1))
        have hk4 := ((((((Kept.refl _ w).alloc _).trans hk).trans hk2).trans hk3).setCell (p := ⟨w.heap.size, 0, none⟩) (.inl (Nat.le_refl _)) (.bool false)).setCell (p := ⟨w.heap.size, 1, none⟩) (.inl (Nat.le_refl _)) (.slice none 0 0)
        refine bodyPost_ret (v := .agg #[.bool false, .slice none 0 0]) (by simp [results, Try.results16, go_sem, c0, c1]) rfl ⟨⟨false, ⟨0, none, 0, []⟩⟩, rfl, rfl, fun b hb => absurd hb (zeroPR_foot b), zeroPR_own _, hk4⟩
      · rw [pageGet_yes hok hk32 h0]
        obtain ⟨x, hxe⟩ : ∃ x : Nat, (slotsOf raw).getD (2 * k) 0 = x := ⟨((slotsOf raw).getD (2 * k) 0).toNat, by omega⟩
        obtain ⟨y, hye⟩ : ∃ y : Nat, (slotsOf raw).getD (2 * k + 1) 0 = y := ⟨((slotsOf raw).getD (2 * k + 1) 0).toNat, by omega⟩
        have hxy : x + y ≤ 4096 := by omega
        have hx0 : ¬ (x : Int) = 0 := by omega
        rw [hxe, hye] at HS ⊢
        have hU := fun wx => used_any x y wx
        rw [show ((x : Int) != 0) = true from by simpa using hx0] at hU
        have hst : stretch raw x y = (raw.drop x).take y := rfl
        rw [hst]
        have hR := fun P wx (h : SP wx P (raw.take 4) (numAt raw 4 8) (numAt raw 12 4) (numAt raw 16 2) (slotsOf raw) raw) => record_any P _ _ _ _ _ raw x y wx h hxy
        have hlen : ((raw.drop x).take y).length ≤ 1099511627776 := by simp; omega
        obtain ⟨bs, hbs⟩ : ∃ bs, (raw.drop x).take y = bs := ⟨_, rfl⟩
        rw [hbs] at hR hlen ⊢
        clear hv hB hr0 hxe hye hsl h0 hx hy hsm hbs hst
        go_enter Try.func16, Try.ntmps16
        go_wp2_with (first
          | (go_at_call 41; refine h.mono ?_; rintro e w1 ⟨P, rfl, hP, hsp, hk⟩; have b1 := b0.same hk)
          | (go_at_call 42; refine (hS _).mono ?_; rintro e w2 ⟨rfl, hk2⟩; have b2 := b1.same hk2; have hsp2 := hsp.same hk2; obtain ⟨q0, q1⟩ := HS.out P w2 hsp2)
          | (go_at_call 43; refine (hU _).mono ?_; rintro e w3 ⟨rfl, hk3⟩; have b3 := b2.same hk3; have hsp3 := hsp2.same hk3; obtain ⟨q0', q1'⟩ := HS.out P w3 hsp3)
          | (go_at_call 45; refine (hR P w3 hsp3).mono ?_; rintro e w4 ⟨a4, c4, rfl, hrd, hk4⟩; have b4 := b3.same hk4)
          | (go_at_call 44; refine (clone_any _ bs _ hlen hrd).mono ?_; rintro e w5 ⟨a5, n5, c5, rfl, hown, hfr, hk5⟩; have b5 := b4.same hk5; have c0 : w5.cell? ⟨w.heap.size, 0, none⟩ = some (.bool false) := b5.cell 0; have c1 : w5.cell? ⟨w.heap.size, 1, none⟩ = some (.slice none 0 0) := b5.cell 1; have f0 := b5.frozen 0; have f1 := b5.frozen 1))
        obtain rfl : n5 = bs.length := by obtain ⟨_, _, he⟩ := hown.rd.form; injection he
        have hb5 := b5.lt
        have hb4 := b4.lt
        have hkw := ((((((Kept.refl (fun _ => False) w).alloc _).trans hk).trans hk2).trans hk3).trans hk4).trans hk5
        have hkz := (hkw.setCell (p := ⟨w.heap.size, 0, none⟩) (.inl (Nat.le_refl _)) (.bool true)).setCell (p := ⟨w.heap.size, 1, none⟩) (.inl (Nat.le_refl _)) (.slice a5 bs.length c5)
        have hko : Kept (fun b => b = w.heap.size) w5 ((w5.setCell ⟨w.heap.size, 0, none⟩ (.bool true)).setCell ⟨w.heap.size, 1, none⟩ (.slice a5 bs.length c5)) := ((Kept.refl (fun b => b = w.heap.size) w5).setCell (p := ⟨w.heap.size, 0, none⟩) (.inr rfl) _).setCell (p := ⟨w.heap.size, 1, none⟩) (.inr rfl) _
        refine bodyPost_ret (v := .agg #[.bool true, .slice a5 bs.length c5]) (by simp [results, Try.results16, go_sem, c0, c1]) rfl ⟨⟨true, ⟨5, a5, c5, bs⟩⟩, rfl, rfl, fun b hb => ?_, OwnL.one (hown.kept hko (fun b hb e => ?_)), hkz⟩
        · have := hfr b ((footL_ints _ _ _ _ _).1 hb); omega
        · have := hfr b hb; omega
    · have hg := pageGet_no (raw := raw) (s := s) (by omega)
      rw [hg]
      have hS := fun wx => isSlot_any s wx
      rw [show (decide (0 ≤ s) && decide (s < 32)) = false from by simp; omega] at hS
      clear hv hB hr0
      go_enter Try.func16, Try.ntmps16
      go_wp2_with (first
        | (go_at_call 41; refine h.mono ?_; rintro e w1 ⟨P, rfl, hP, hsp, hk⟩; have b1 := b0.same hk)
        | (go_at_call 42; refine (hS _).mono ?_; rintro e w2 ⟨rfl, hk2⟩; have b2 := b1.same hk2; have c0 : w2.cell? ⟨w.heap.size, 0, none⟩ = some (.bool false) := b2.cell 0; have c1 : w2.cell? ⟨w.heap.size, 1, none⟩ = some (.slice none 0 0) := b2.cell 1; have f0 := b2.frozen 0; have f1 := b2.frozen 1))
      have hk3 := (((((Kept.refl _ w).alloc _).trans hk).trans hk2).setCell (p := ⟨w.heap.size, 0, none⟩) (.inl (Nat.le_refl _)) (.bool false)).setCell (p := ⟨w.heap.size, 1, none⟩) (.inl (Nat.le_refl _)) (.slice none 0 0)
      refine bodyPost_ret (v := .agg #[.bool false, .slice none 0 0]) (by simp [results, Try.results16, go_sem, c0, c1]) rfl ⟨⟨false, ⟨0, none, 0, []⟩⟩, rfl, rfl, fun b hb => absurd hb (zeroPR_foot b), zeroPR_own _, hk3⟩

/-- What a part of a slice reads. -/
theorem Rd.part {w : World} {b off c : Nat} {raw : List Int} (h : Rd .u8 w (.slice (some ⟨b, off, none⟩) raw.length c) raw) (x y : Nat) (hxy : x + y ≤ raw.length) :
    Rd .u8 w (.slice (some (if c = x then ⟨b, off, none⟩ else ⟨b, off + x, none⟩)) y (c - x)) ((raw.drop x).take y) := by
  have hl : ((raw.drop x).take y).length = y := by simp; omega
  rcases h.2 with ⟨rfl, _⟩ | ⟨b', off', c', he, hle, hc⟩
  · simp at hxy
    obtain ⟨rfl, rfl⟩ := hxy
    exact ⟨by simp, .inl ⟨by simp, _, _, rfl, fun h => by cases h⟩⟩
  · injection he with h1 h2 h3
    injection h1 with h1
    injection h1 with h1 h4
    subst h1 h4 h3
    by_cases h0 : y = 0
    · subst h0
      exact ⟨by rw [hl]; simp, .inl ⟨by simp, _, _, rfl, fun h => by cases h⟩⟩
    · rw [if_neg (by omega)]
      refine ⟨by have := h.1; omega, .inr ⟨b, off + x, c - x, by rw [hl], by omega, fun i hi => ?_⟩⟩
      rw [hl] at hi
      rw [Nat.add_assoc, hc (x + i) (by omega)]
      simp [List.getD, List.getElem?_take, List.getElem?_drop, hi]
set_option maxRecDepth 100000 in
set_option maxHeartbeats 4000000 in
theorem specPageGet_any (v : Value) (raw : List Int) (s : Int) (w : World) (hB : IsB raw) (hn : raw.length ≤ 1099511627776) (hv : Rd .u8 w v raw) :
    Calls Try.prog 14 #[v, .int .i64 s] w fun e w' => ∃ y : StPageRecord, e = .returned y.val ∧ y.dat = pageGet raw s ∧ (∀ b, FootL y.rows b → w.heap.size ≤ b) ∧ OwnL w' y.rows ∧ Same w w' := by
  have b0 := Blk.new w #[.bool false, .slice none 0 0] 28
  have hr0 := hv.same ((Kept.refl _ w).alloc (.cells #[.bool false, .slice none 0 0] 28))
  have h := l3Own_any v raw _ hB hn hr0
  by_cases hno : ownOK raw = false ∨ s < 0 ∨ 32 ≤ s
  · rw [pageGet_no (hno.elim .inl (fun h => h.elim (fun h => .inr (.inl h)) (fun h => .inr (.inr (.inl h)))))]
    have hz : ∀ w1, Same (w.alloc (.cells #[.bool false, .slice none 0 0] 28)) w1 → w1.cell? ⟨w.heap.size, 0, none⟩ = some (.bool false) ∧ w1.cell? ⟨w.heap.size, 1, none⟩ = some (.slice none 0 0) ∧ w1.frozen? ⟨w.heap.size, 0, none⟩ = false ∧ w1.frozen? ⟨w.heap.size, 1, none⟩ = false := fun w1 hk => ⟨(b0.same hk).cell 0, (b0.same hk).cell 1, (b0.same hk).frozen 0, (b0.same hk).frozen 1⟩
    have hz2 : ∀ w1, Same (w.alloc (.cells #[.bool false, .slice none 0 0] 28)) w1 → Same w ((w1.setCell ⟨w.heap.size, 0, none⟩ (.bool false)).setCell ⟨w.heap.size, 1, none⟩ (.slice none 0 0)) := fun w1 hk => ((((Kept.refl _ w).alloc _).trans hk).setCell (p := ⟨w.heap.size, 0, none⟩) (.inl (Nat.le_refl _)) (.bool false)).setCell (p := ⟨w.heap.size, 1, none⟩) (.inl (Nat.le_refl _)) (.slice none 0 0)
    clear b0 hr0 hv hB
    cases hok : ownOK raw with
    | false =>
      rw [hok] at h
      go_enter Try.func14, Try.ntmps14
      go_wp2_with (go_at_call 38; refine h.mono ?_; rintro e w1 ⟨rfl, hk⟩; obtain ⟨c0, c1, f0, f1⟩ := hz w1 hk)
      refine bodyPost_ret (v := .agg #[.bool false, .slice none 0 0]) (by simp [results, Try.results14, go_sem, c0, c1]) rfl ⟨⟨false, ⟨0, none, 0, []⟩⟩, rfl, rfl, fun b hb => absurd hb (zeroPR_foot b), zeroPR_own _, hz2 w1 hk⟩
    | true =>
      rw [hok] at h
      by_cases h1 : s < 0
      · go_enter Try.func14, Try.ntmps14
        go_wp2_with (go_at_call 38; refine h.mono ?_; rintro e w1 ⟨rfl, hk⟩; obtain ⟨c0, c1, f0, f1⟩ := hz w1 hk)
        refine bodyPost_ret (v := .agg #[.bool false, .slice none 0 0]) (by simp [results, Try.results14, go_sem, c0, c1]) rfl ⟨⟨false, ⟨0, none, 0, []⟩⟩, rfl, rfl, fun b hb => absurd hb (zeroPR_foot b), zeroPR_own _, hz2 w1 hk⟩
      · have h2 : 32 ≤ s := hno.elim (fun h => by rw [hok] at h; cases h) (fun h => by omega)
        go_enter Try.func14, Try.ntmps14
        go_wp2_with (go_at_call 38; refine h.mono ?_; rintro e w1 ⟨rfl, hk⟩; obtain ⟨c0, c1, f0, f1⟩ := hz w1 hk)
        refine bodyPost_ret (v := .agg #[.bool false, .slice none 0 0]) (by simp [results, Try.results14, go_sem, c0, c1]) rfl ⟨⟨false, ⟨0, none, 0, []⟩⟩, rfl, rfl, fun b hb => absurd hb (zeroPR_foot b), zeroPR_own _, hz2 w1 hk⟩
  · have hok : ownOK raw = true := by cases h : ownOK raw with | true => rfl | false => exact absurd (.inl h) hno
    obtain ⟨k, rfl⟩ : ∃ k : Nat, s = k := ⟨s.toNat, by omega⟩
    have hk32 : k < 32 := by omega
    have hl := ownOK_len hok
    obtain ⟨a, c, rfl⟩ := hv.form
    obtain ⟨b, off, rfl, hc⟩ := rd_some hv (by omega)
    rw [hok] at h
    have hsl64 := slotsOf_length raw
    have hS := fun wx (h : Same w wx) => l3Slots_any b off c raw wx hB hl (by rw [← hl]; exact hv.same h)
    have hsl := ownOK_slot hok k hk32
    have hsm := slotsOf_small raw hB hl
    have hx := hsm.at (2 * k)
    have hy := hsm.at (2 * k + 1)
    rw [hl] at h ⊢
    have hc4 : 4096 ≤ c := by
      rcases hv.2 with ⟨h, _⟩ | ⟨_, _, _, he, hle, _⟩
      · rw [h] at hl; cases hl
      · injection he with _ _ h3; omega
    have hneg : ¬ (k : Int) < 0 := by omega
    have hge : ¬ (32 : Int) ≤ k := by omega
    obtain ⟨x, hxe⟩ : ∃ x : Nat, (slotsOf raw).getD (2 * k) 0 = x := ⟨((slotsOf raw).getD (2 * k) 0).toNat, by omega⟩
    obtain ⟨y, hye⟩ : ∃ y : Nat, (slotsOf raw).getD (2 * k + 1) 0 = y := ⟨((slotsOf raw).getD (2 * k + 1) 0).toNat, by omega⟩
    have HQ := (show Hid (∀ (wx : World) g, Rows2 wx g (slotsOf raw) → wx.cell? ⟨g, k * 2, none⟩ = some (.int .i64 x) ∧ wx.cell? ⟨g, k * 2 + 1, none⟩ = some (.int .i64 y)) from fun wx g h => ⟨by rw [h.at0 k hk32, hxe], by rw [h.at1 k hk32, hye]⟩)
    by_cases h0 : (slotsOf raw).getD (2 * k) 0 = 0
    · rw [pageGet_no (raw := raw) (s := k) (.inr (.inr (.inr h0)))]
      have hx0 : (x : Int) = 0 := by omega
      clear hv hB hr0 hxe hye hx hy hsl h0
      go_enter Try.func14, Try.ntmps14
      go_wp2_with (first
        | (go_at_call 38; refine h.mono ?_; rintro e w1 ⟨rfl, hk⟩; have b1 := b0.same hk; have hS' := hS w1 (((Kept.refl _ _).alloc _).trans hk))
        | (go_at_call 39; refine hS'.mono ?_; rintro e w2 ⟨g, cap, rfl, hg, hown, hk2⟩; have b2 := b1.same hk2; obtain ⟨q0, q1⟩ := HQ.out w2 g (rows2_of hown hsl64); have c0 : w2.cell? ⟨w.heap.size, 0, none⟩ = some (.bool false) := b2.cell 0; have c1 : w2.cell? ⟨w.heap.size, 1, none⟩ = some (.slice none 0 0) := b2.cell 1; have f0 := b2.frozen 0; have f1 := b2.frozen 1; have hlt := b2.lt; clear hown))
      have hk4 := (((((Kept.refl (fun _ => False) w).alloc _).trans hk).trans hk2).setCell (p := ⟨w.heap.size, 0, none⟩) (.inl (Nat.le_refl _)) (.bool false)).setCell (p := ⟨w.heap.size, 1, none⟩) (.inl (Nat.le_refl _)) (.slice none 0 0)
      have hk5 := hk4.alloc (.cells #[.int .i64 0, .int .i64 (y : Int)] 61)
      have bz := ((b2.stored 0 (.bool false)).stored 1 (.slice none 0 0)).alloc (.cells #[.int .i64 0, .int .i64 (y : Int)] 61)
      have d0 := bz.cell 0
      have d1 := bz.cell 1
      simp only [List.set_cons_zero, List.set_cons_succ, List.getElem?_cons_zero, List.getElem?_cons_succ] at d0 d1
      refine bodyPost_ret (v := .agg #[.bool false, .slice none 0 0]) (by simp [results, Try.results14, go_sem, d0, d1]) rfl ⟨⟨false, ⟨0, none, 0, []⟩⟩, rfl, rfl, fun b hb => absurd hb (zeroPR_foot b), zeroPR_own _, hk5⟩
    · rw [pageGet_yes hok hk32 h0]
      have hxy : x + y ≤ 4096 := by omega
      have hx0 : ¬ (x : Int) = 0 := by omega
      rw [hxe, hye]
      have hst : stretch raw x y = (raw.drop x).take y := rfl
      rw [hst]
      have hrd0 := Rd.part hv x y (by omega)
      have hlen : ((raw.drop x).take y).length ≤ 1099511627776 := by simp; omega
      obtain ⟨bs, hbs⟩ : ∃ bs, (raw.drop x).take y = bs := ⟨_, rfl⟩
      rw [hbs] at hrd0 hlen ⊢
      obtain ⟨A, hA⟩ : ∃ A : Addr, (if c = x then ⟨b, off, none⟩ else ⟨b, off + x, none⟩) = A := ⟨_, rfl⟩
      rw [hA] at hrd0
      have hrun : ∀ wx : World, (Instr.slice 22 (.slice (some ⟨b, off, none⟩) 4096 c) (some (.int .i64 (x : Int))) (some (.int .i64 ((x : Int) + (y : Int)))) none).run Try.prog wx = .ok (.slice (some A) y (c - x)) wx := by
        intro wx
        rw [run_slice_lh wx 22 (some ⟨b, off, none⟩) 4096 c (by kernel_rfl) .i64 .i64 x (x + y) (by omega) (by omega) (by omega)]
        have hsz : (sizeOf (Try.prog.elem 22)).run Try.prog wx = .ok 1 wx := by kernel_rfl
        rw [hsz]
        simp only [Result.andThen, sliced, Int.toNat_natCast, Nat.mul_one]
        rw [show ((x : Int) + (y : Int)).toNat - x = y from by omega, ← hA]
        split
        · rfl
        · simp [addr_add]
      have HRD := (show Hid (Rd .u8 w (.slice (some A) y (c - x)) bs) from hrd0)
      clear hv hB hr0 hxe hye hx hy hsl h0 hbs hst hA hrd0
      go_enter Try.func14, Try.ntmps14
      go_wp2_with (first
        | (go_at_call 38; refine h.mono ?_; rintro e w1 ⟨rfl, hk⟩; have b1 := b0.same hk; have hS' := hS w1 (((Kept.refl _ _).alloc _).trans hk))
        | (go_at_call 39; refine hS'.mono ?_; rintro e w2 ⟨g, cap, rfl, hg, hown, hk2⟩; have b2 := b1.same hk2; obtain ⟨q0, q1⟩ := HQ.out w2 g (rows2_of hown hsl64); have hlt := b2.lt; have hkw2 := (((Kept.refl (fun _ => False) w).alloc _).trans hk).trans hk2; clear hown)
        | (go_at_call 40; refine (l1Copy_any _ bs _ hlen (HRD.out.same (hkw2.alloc _))).mono ?_; rintro e w5 ⟨a5, n5, c5, rfl, hown, hfr, hk5⟩; have b5 := (b2.alloc _).same hk5; have c0 : w5.cell? ⟨w.heap.size, 0, none⟩ = some (.bool false) := b5.cell 0; have c1 : w5.cell? ⟨w.heap.size, 1, none⟩ = some (.slice none 0 0) := b5.cell 1; have f0 := b5.frozen 0; have f1 := b5.frozen 1))
      obtain rfl : n5 = bs.length := by obtain ⟨_, _, he⟩ := hown.rd.form; injection he
      have hb5 := b5.lt
      have hkz := (((hkw2.alloc _).trans hk5).setCell (p := ⟨w.heap.size, 0, none⟩) (.inl (Nat.le_refl _)) (.bool true)).setCell (p := ⟨w.heap.size, 1, none⟩) (.inl (Nat.le_refl _)) (.slice a5 bs.length c5)
      have hko : Kept (fun b => b = w.heap.size) w5 ((w5.setCell ⟨w.heap.size, 0, none⟩ (.bool true)).setCell ⟨w.heap.size, 1, none⟩ (.slice a5 bs.length c5)) := ((Kept.refl (fun b => b = w.heap.size) w5).setCell (p := ⟨w.heap.size, 0, none⟩) (.inr rfl) _).setCell (p := ⟨w.heap.size, 1, none⟩) (.inr rfl) _
      simp only [World.size_alloc] at hfr
      refine bodyPost_ret (v := .agg #[.bool true, .slice a5 bs.length c5]) (by simp [results, Try.results14, go_sem, c0, c1]) rfl ⟨⟨true, ⟨5, a5, c5, bs⟩⟩, rfl, rfl, fun b hb => ?_, OwnL.one (hown.kept hko (fun b hb e => ?_)), hkz⟩
      · have := hfr b ((footL_ints _ _ _ _ _).1 hb); omega
      · have := hfr b hb; omega
end Go.Proofs.Ytekpfafmhgplpaa
