import Derived.Test.YtaeikeglaobeeaaGreatFill
import Derived.Test.YtaeikeglaobeeaaGreatG00
import Derived.Deep.MidRow
import Derived.Deep.WholeRow
namespace Go.Proofs.YtaeikeglaobeeaaGreat
set_option maxRecDepth 100000
set_option maxHeartbeats 4000000
open Go.RowKit
set_option linter.unusedVariables false

theorem compl_nat (r : Nat) (h : r < 4294967296) : 4294967295 ^^^ r = 4294967295 - r := by
  have e : 4294967295 - r = 2 ^ 32 - (r + 1) := by omega
  rw [e, show 4294967295 = 2 ^ 32 - 1 from rfl]
  apply Nat.eq_of_testBit_eq
  intro i
  rw [Nat.testBit_xor, Nat.testBit_two_pow_sub_one, Nat.testBit_two_pow_sub_succ (by omega)]
  by_cases hi : i < 32
  · simp [hi]
  · have : r.testBit i = false := Nat.testBit_lt_two_pow (Nat.lt_of_lt_of_le h (Nat.pow_le_pow_right (n := 2) (i := 32) (by decide) (by omega)))
    simp [hi, this]
theorem compl_u32 (x : Int) (h0 : 0 ≤ x) (h1 : x ≤ 4294967295) : bits .xor .u32 4294967295 x = 4294967295 - x := by
  obtain ⟨r, rfl⟩ : ∃ r : Nat, x = r := ⟨x.toNat, by omega⟩
  have := u32_xor_nat 4294967295 r (by decide) (by omega)
  rw [compl_nat r (by omega)] at this
  rw [show ((4294967295 : Nat) : Int) = 4294967295 from rfl] at this
  rw [this]
  omega
theorem goOn_any (B : Nat) (w : World) (sum : Int) (v : Value) (bs : List Int) (hb : Blk w B 134 (tcells 0 0 0 (List.replicate 256 0))) (h0 : 0 ≤ sum) (h1 : sum ≤ 4294967295) (hB : IsB bs) (hn : bs.length ≤ 1099511627776) (hv : ∀ w', Kept (fun b => b = B) w w' → Rd .u8 w' v bs) :
    Calls Tryz.prog 86 #[.pointer (some ⟨B, 0, none⟩), .int .i64 sum, v] w fun e w' => e = .returned (.int .i64 (crcOn sum bs)) ∧ Kept (fun b => b = B) w w' := by
  have hF := fill_any B 134 (w.setCell ⟨B, 1, none⟩ (.int .i32 1)) (by have := hb.stored 1 (.int .i32 1); exact this)
  have hk0 : Kept (fun b => b = B) w (w.setCell ⟨B, 1, none⟩ (.int .i32 1)) := Kept.setCell (R := fun b => b = B) (Kept.refl _ _) (.inr rfl) _
  have hD := do_any B 134 _ w hb rfl rfl (fun w' ys => ys = tcells 0 1 0 (tabM 8 0) ∧ Kept (fun b => b = B) w w') (hF.mono (by
    rintro e w' ⟨rfl, hb', hk⟩
    exact ⟨rfl, _, hb', rfl, rfl, rfl, hk0.trans hk⟩))
  clear hF hk0
  obtain ⟨a, c, rfl⟩ := (hv w (Kept.refl _ _)).form
  have HV := (show Hid (∀ w', Kept (fun b => b = B) w w' → Rd .u8 w' (.slice a bs.length c) bs) from hv)
  have HB := (show Hid (IsB bs) from hB)
  have hcr : crcOn sum bs = 4294967295 - reg (4294967295 - sum).toNat bs := by unfold crcOn; rw [if_neg (by omega)]
  have HCR := (show Hid (crcOn sum bs = 4294967295 - reg (4294967295 - sum).toNat bs) from hcr)
  obtain ⟨G, hG⟩ : ∃ G, crcOn sum bs = G := ⟨_, rfl⟩
  have HG := (show Hid (crcOn sum bs = G) from hG)
  rw [hG]
  have hmx : IntKind.u32.max = 4294967295 := by decide
  have hc0 := compl_u32 sum h0 h1
  clear hv hB hcr hG hb
  generalize hl : bs.length = len at *
  have HL := (show Hid (bs.length = len) from hl)
  clear hl
  go_enter Tryz.func86, Tryz.ntmps86
  go_wp2_with (go_at_call 87; refine hD.mono ?_; rintro e w' ⟨rfl, w1, ys, hy, ⟨rfl, hk1⟩, rfl⟩)
  have HK := (show Hid (Kept (fun b => b = B) w ((w1.setCell ⟨B, 0, none⟩ (.int .u32 1)).setCell ⟨B, 1, none⟩ (.int .i32 0)).drew) from (Kept.setCell (R := fun b => b = B) (Kept.setCell (R := fun b => b = B) hk1 (.inr rfl) _) (.inr rfl) _).drew)
  have HT := (show Hid (Blk ((w1.setCell ⟨B, 0, none⟩ (.int .u32 1)).setCell ⟨B, 1, none⟩ (.int .i32 0)).drew B 134 (tcells 1 0 0 (tabM 8 0))) from ((hy.stored 0 _).stored 1 _).drew)
  clear hk1 hy hD
  generalize ((w1.setCell ⟨B, 0, none⟩ (.int .u32 1)).setCell ⟨B, 1, none⟩ (.int .i32 0)).drew = w2 at *
  clear w1
  go_loopw [7, 9, 21] (fun r _ i wr => ∃ k : Nat, k ≤ len ∧ r = .int .u32 ((reg (4294967295 - sum).toNat (bs.take k) : Nat) : Int) ∧ i = .int .i64 k ∧ wr = w2) (fun _ _ i _ => len - (intOf i).toNat)
  case atStart => exact ⟨0, Nat.zero_le _, by simp [reg]; omega, rfl, rfl⟩
  case round =>
    obtain ⟨k, hk, rfl, rfl, rfl⟩ := hrel
    by_cases hlt : k < len
    · have hlp : k < bs.length := by rw [HL.out]; exact hlt
      have hrd := HV.out _ HK.out
      rcases hrd.2 with ⟨hnil, _⟩ | ⟨b, off, c', h, _, hc⟩
      · rw [hnil] at hlp
        simp at hlp
      · have h2 := hc k hlp
        cases h
        have hrl := reg_lt (4294967295 - sum).toNat (bs.take k) (by omega) (fun y hy => HB.out y (List.mem_of_mem_take hy))
        have hbk := HB.out.at k hlp
        have HS := (show Hid (_ = _) from reg_take (4294967295 - sum).toNat bs k hlp)
        clear hrd hc
        obtain ⟨x, hx⟩ : ∃ x : Nat, bs.getD k 0 = (x : Int) := ⟨(bs.getD k 0).toNat, by omega⟩
        rw [hx] at h2 hbk
        have HX := (show Hid (bs.getD k 0 = (x : Int)) from hx)
        clear hx
        generalize hR : reg (4294967295 - sum).toNat (bs.take k) = R at *
        clear hR
        have hxb : x < 256 := by omega
        have ha := u8_xor_nat (R % 256) x (by omega) hxb
        have hb8 : R % 256 ^^^ x < 256 := Nat.xor_lt_two_pow (n := 8) (by omega) hxb
        obtain ⟨I, hI⟩ : ∃ I : Nat, R % 256 ^^^ x = I := ⟨_, rfl⟩
        have HI := (show Hid (R % 256 ^^^ x = I) from hI)
        rw [hI] at ha hb8
        clear hI
        have hti := tab_lt I (by omega)
        have h3 : wr.cell? ⟨B, 3 + I, none⟩ = some (.int .u32 ((tab I : Nat) : Int)) := by
          rw [HT.out.cell, Nat.add_comm, tcells_at]
          have := tabM_all I hb8
          simp [vals, this]
        have hxx := u32_xor_nat (R / 256) (tab I) (by omega) hti
        have ha' : bits .xor .u8 ((R : Int) % 256) (x : Int) = (I : Int) := by rw [← ha]; simp
        have hxx' : bits .xor .u32 ((R : Int) / 256) ((tab I : Nat) : Int) = ((R / 256 ^^^ tab I : Nat) : Int) := by rw [← hxx]; simp
        clear ha hxx
        go_wp2
        go_roundw
        case rel =>
          refine ⟨k + 1, by omega, ?_, by go_num, by first | rfl | trivial⟩
          rw [HS.out, HX.out, Int.toNat_natCast, step_tab, HI.out]
        case measure => simp [intOf]; omega
    · have hke : k = len := by omega
      have he : reg (4294967295 - sum).toNat (bs.take k) = reg (4294967295 - sum).toNat bs := by rw [hke, ← HL.out, List.take_length]
      rw [he]
      have hrl := reg_lt (4294967295 - sum).toNat bs (by omega) HB.out
      have hG2 := HCR.out
      rw [HG.out] at hG2
      clear he
      generalize reg (4294967295 - sum).toNat bs = R at *
      have hc1 := compl_u32 (R : Int) (by omega) (by omega)
      go_wp2
      go_ret
      exact ⟨by rw [hG2]; rfl, HK.out⟩

theorem rd_block {k : IntKind} {w w1 w' : World} {B : Nat} {v : Value} {bs : List Int} (hv : Rd k w v bs) (h1 : Same w w1) (hB : w.heap.size ≤ B) (h2 : Kept (fun b => b = B) w1 w') : Rd k w' v bs :=
  hv.same (h1.next h2 (fun i hi e => by omega))

theorem implCrcOn_yes (w : World) (sum : Int) (v : Value) (bs : List Int) (h0 : 0 ≤ sum) (h1 : sum ≤ 4294967295) (hB : IsB bs) (hn : bs.length ≤ 1099511627776) (hv : Rd .u8 w v bs) :
    Calls Tryz.prog 76 #[.int .i64 sum, v] w fun e w' => e = .returned (.int .i64 (crcOn sum bs)) ∧ Same w w' := by
  have hz : Tryz.zeroCells134.toList = tcells 0 0 0 (List.replicate 256 0) := by kernel_rfl
  have hst := run_storeCells_new (P := Tryz.prog) w 134 Tryz.zeroCells134 Tryz.zeroCells134 (by kernel_rfl) rfl (by kernel_rfl)
  have hG : ∀ w1, w1 = w.alloc (.cells Tryz.zeroCells134 134) → Calls Tryz.prog 86 #[.pointer (some ⟨w.heap.size, 0, none⟩), .int .i64 sum, v] w1 fun e w' => e = .returned (.int .i64 (crcOn sum bs)) ∧ Kept (fun b => b = w.heap.size) w1 w' := by
    rintro w1 rfl
    have hsame : Same w (w.alloc (.cells Tryz.zeroCells134 134)) := (Kept.refl _ _).alloc _
    exact goOn_any _ _ sum v bs (by rw [← hz]; exact Blk.new _ _ _) h0 h1 hB hn (fun w' hk => rd_block hv hsame (Nat.le_refl _) hk)
  clear hz
  go_enter Tryz.func76, Tryz.ntmps76
  go_wp2_with (go_at_call 86; refine (hG _ rfl).mono ?_; rintro e w' ⟨rfl, hk⟩)
  go_ret
  exact ⟨rfl, ((Kept.refl _ _).alloc _).next hk (fun i hi e => by omega)⟩

theorem xor_i64 (a b : Nat) (ha : a < 4294967296) (hb : b < 4294967296) : bits .xor .i64 (a : Int) (b : Int) = ((a ^^^ b : Nat) : Int) := by
  have h1 : a % 18446744073709551616 = a := Nat.mod_eq_of_lt (by omega)
  have h2 : b % 18446744073709551616 = b := Nat.mod_eq_of_lt (by omega)
  have h3 : a ^^^ b < 2 ^ 32 := Nat.xor_lt_two_pow (n := 32) (by omega) (by omega)
  have h4 : (BitVec.ofNat 64 a ^^^ BitVec.ofNat 64 b).toNat = a ^^^ b := by
    rw [BitVec.toNat_xor, BitVec.toNat_ofNat, BitVec.toNat_ofNat]
    simp only [Nat.reducePow, h1, h2]
  have h5 : bits .xor .i64 (a : Int) (b : Int) = IntKind.i64.wrap (((BitVec.ofNat 64 a ^^^ BitVec.ofNat 64 b).toNat : Nat) : Int) := rfl
  rw [h5, h4, IntKind.wrap_i64]
  generalize a ^^^ b = z at *
  omega

theorem step_any (r x : Nat) (hr : r < 4294967296) (hx : x < 256) (w : World) :
    Calls Tryz.prog 85 #[.int .i64 r, .int .u8 x] w fun e w' => e = .returned (.int .i64 ((shN 8 (r ^^^ x) : Nat) : Int)) ∧ w' = w := by
  have hx0 := xor_i64 r x hr (by omega)
  have hl0 : r ^^^ x < 4294967296 := Nat.xor_lt_two_pow (n := 32) (by omega) (by omega)
  generalize r ^^^ x = y at *
  go_enter Tryz.func85, Tryz.ntmps85
  go_wp2
  go_loopw [0, 5, 6] (fun z i _ wr => ∃ k : Nat, k ≤ 8 ∧ z = .int .i64 ((shN k y : Nat) : Int) ∧ i = .int .i64 k ∧ wr = w) (fun _ i _ _ => 8 - (intOf i).toNat)
  case atStart => exact ⟨0, Nat.zero_le _, rfl, rfl, rfl⟩
  case round =>
    obtain ⟨k, hk, rfl, rfl, rfl⟩ := hrel
    by_cases hlt : k < 8
    · have hzl := shN_lt k y hl0
      have HS := (show Hid (shN (k + 1) y = sh (shN k y)) from shN_succ k y)
      generalize shN k y = z at *
      by_cases ho : z % 2 = 1
      · have h2 := xor_i64 (z / 2) 3988292384 (by omega) (by decide)
        have h2' : bits .xor .i64 ((z : Int) / 2) 3988292384 = ((z / 2 ^^^ 3988292384 : Nat) : Int) := by rw [← h2]; simp
        have h3 : sh z = z / 2 ^^^ 3988292384 := by unfold sh; rw [if_pos ho]
        have h4 : (z : Int) % 2 = 1 := by omega
        clear h2
        go_wp2
        go_roundw
        case rel => exact ⟨k + 1, by omega, by rw [HS.out, h3], by go_num, by first | rfl | trivial⟩
        case measure => simp [intOf]; omega
      · have h3 : sh z = z / 2 := by unfold sh; rw [if_neg ho]
        have h4 : (z : Int) % 2 = 0 := by omega
        go_wp2
        go_roundw
        case rel => exact ⟨k + 1, by omega, by rw [HS.out, h3]; simp, by go_num, by first | rfl | trivial⟩
        case measure => simp [intOf]; omega
    · obtain rfl : k = 8 := by omega
      go_wp2
      go_ret
      exact ⟨rfl, rfl⟩

theorem specCrcOn_yes (w : World) (sum : Int) (v : Value) (bs : List Int) (h0 : 0 ≤ sum) (h1 : sum ≤ 4294967295) (hB : IsB bs) (hn : bs.length ≤ 1099511627776) (hv : Rd .u8 w v bs) :
    Calls Tryz.prog 75 #[.int .i64 sum, v] w fun e w' => e = .returned (.int .i64 (crcOn sum bs)) ∧ Same w w' := by
  obtain ⟨a, c, rfl⟩ := hv.form
  have HV := (show Hid (Rd .u8 w (.slice a bs.length c) bs) from hv)
  have HB := (show Hid (IsB bs) from hB)
  have hcr : crcOn sum bs = 4294967295 - reg (4294967295 - sum).toNat bs := by unfold crcOn; rw [if_neg (by omega)]
  have HCR := (show Hid (crcOn sum bs = 4294967295 - reg (4294967295 - sum).toNat bs) from hcr)
  obtain ⟨G, hG⟩ : ∃ G, crcOn sum bs = G := ⟨_, rfl⟩
  have HG := (show Hid (crcOn sum bs = G) from hG)
  rw [hG]
  clear hv hB hcr hG
  generalize hl : bs.length = len at *
  have HL := (show Hid (bs.length = len) from hl)
  clear hl
  go_enter Tryz.func75, Tryz.ntmps75
  go_wp2
  go_loopw [5, 6] (fun r i wr => ∃ k : Nat, k ≤ len ∧ r = .int .i64 ((reg (4294967295 - sum).toNat (bs.take k) : Nat) : Int) ∧ i = .int .i64 k ∧ wr = w) (fun _ i _ => len - (intOf i).toNat)
  case atStart => exact ⟨0, Nat.zero_le _, by simp [reg]; omega, rfl, rfl⟩
  case round =>
    obtain ⟨k, hk, rfl, rfl, rfl⟩ := hrel
    by_cases hlt : k < len
    · have hlp : k < bs.length := by rw [HL.out]; exact hlt
      have hrd := HV.out
      rcases hrd.2 with ⟨hnil, _⟩ | ⟨b, off, c', h, _, hc⟩
      · rw [hnil] at hlp
        simp at hlp
      · have h2 := hc k hlp
        cases h
        have hrl := reg_lt (4294967295 - sum).toNat (bs.take k) (by omega) (fun y hy => HB.out y (List.mem_of_mem_take hy))
        have hbk := HB.out.at k hlp
        have HS := (show Hid (_ = _) from reg_take (4294967295 - sum).toNat bs k hlp)
        clear hrd hc
        obtain ⟨x, hx⟩ : ∃ x : Nat, bs.getD k 0 = (x : Int) := ⟨(bs.getD k 0).toNat, by omega⟩
        rw [hx] at h2 hbk
        have HX := (show Hid (bs.getD k 0 = (x : Int)) from hx)
        clear hx
        generalize hR : reg (4294967295 - sum).toNat (bs.take k) = R at *
        clear hR
        have hxb : x < 256 := by omega
        go_wp2_with (go_at_call 85; refine (step_any R x hrl hxb _).mono ?_; rintro e w' ⟨rfl, rfl⟩)
        go_roundw
        case rel =>
          refine ⟨k + 1, by omega, ?_, by go_num, by first | rfl | trivial⟩
          rw [HS.out, HX.out, Int.toNat_natCast]
        case measure => simp [intOf]; omega
    · have hke : k = len := by omega
      have he : reg (4294967295 - sum).toNat (bs.take k) = reg (4294967295 - sum).toNat bs := by rw [hke, ← HL.out, List.take_length]
      rw [he]
      have hrl := reg_lt (4294967295 - sum).toNat bs (by omega) HB.out
      have hG2 := HCR.out
      rw [HG.out] at hG2
      clear he
      generalize reg (4294967295 - sum).toNat bs = R at *
      go_wp2
      go_ret
      exact ⟨by rw [hG2]; rfl, Kept.refl _ _⟩

theorem crcOn_no (sum : Int) (bs : List Int) (h : sum < 0 ∨ 4294967295 < sum) : crcOn sum bs = -1 := by unfold crcOn; rw [if_pos h]
theorem specCrcOn_no (w : World) (sum : Int) (v : Value) (h : sum < 0 ∨ 4294967295 < sum) :
    Calls Tryz.prog 75 #[.int .i64 sum, v] w fun e w' => e = .returned (.int .i64 (-1)) ∧ Same w w' := by
  rcases h with h | h <;>
  ( go_enter Tryz.func75, Tryz.ntmps75
    go_wp2
    go_ret
    exact ⟨rfl, Kept.refl _ _⟩)
theorem implCrcOn_no (w : World) (sum : Int) (v : Value) (h : sum < 0 ∨ 4294967295 < sum) :
    Calls Tryz.prog 76 #[.int .i64 sum, v] w fun e w' => e = .returned (.int .i64 (-1)) ∧ Same w w' := by
  rcases h with h | h <;>
  ( go_enter Tryz.func76, Tryz.ntmps76
    go_wp2
    go_ret
    exact ⟨rfl, Kept.refl _ _⟩)
theorem specCrcOn_any (sum : Int) (v : Value) (bs : List Int) (w : World) (hB : IsB bs) (hn : bs.length ≤ 1099511627776) (hv : Rd .u8 w v bs) :
    Calls Tryz.prog 75 #[.int .i64 sum, v] w fun e w' => e = .returned (.int .i64 (crcOn sum bs)) ∧ Same w w' := by
  by_cases h : sum < 0 ∨ 4294967295 < sum
  · rw [crcOn_no sum bs h]
    exact specCrcOn_no w sum v h
  · exact specCrcOn_yes w sum v bs (by omega) (by omega) hB hn hv
theorem implCrcOn_any (sum : Int) (v : Value) (bs : List Int) (w : World) (hB : IsB bs) (hn : bs.length ≤ 1099511627776) (hv : Rd .u8 w v bs) :
    Calls Tryz.prog 76 #[.int .i64 sum, v] w fun e w' => e = .returned (.int .i64 (crcOn sum bs)) ∧ Same w w' := by
  by_cases h : sum < 0 ∨ 4294967295 < sum
  · rw [crcOn_no sum bs h]
    exact implCrcOn_no w sum v h
  · exact implCrcOn_yes w sum v bs (by omega) (by omega) hB hn hv
theorem specCrc_any (v : Value) (bs : List Int) (w : World) (hB : IsB bs) (hn : bs.length ≤ 1099511627776) (hv : Rd .u8 w v bs) :
    Calls Tryz.prog 33 #[v] w fun e w' => e = .returned (.int .i64 (crcOn 0 bs)) ∧ Same w w' := by
  go_enter Tryz.func33, Tryz.ntmps33
  go_wp2_with (go_at_call 75; refine (specCrcOn_any 0 v bs _ hB hn hv).mono ?_; rintro e w' ⟨rfl, hk⟩)
  go_ret
  exact ⟨rfl, hk⟩
theorem implCrc_any (v : Value) (bs : List Int) (w : World) (hB : IsB bs) (hn : bs.length ≤ 1099511627776) (hv : Rd .u8 w v bs) :
    Calls Tryz.prog 36 #[v] w fun e w' => e = .returned (.int .i64 (crcOn 0 bs)) ∧ Same w w' := by
  go_enter Tryz.func36, Tryz.ntmps36
  go_wp2_with (go_at_call 76; refine (implCrcOn_any 0 v bs _ hB hn hv).mono ?_; rintro e w' ⟨rfl, hk⟩)
  go_ret
  exact ⟨rfl, hk⟩
end Go.Proofs.YtaeikeglaobeeaaGreat
