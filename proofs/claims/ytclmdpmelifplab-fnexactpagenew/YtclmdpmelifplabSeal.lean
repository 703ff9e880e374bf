/-
  PageSeal and PageWhole: the model's and the program's, at any world.
-/
import Derived.Test.YtclmdpmelifplabPageFn
import Derived.Deep.AppendLies
namespace Go.Proofs.Ytclmdpmelifplab
open Go.RowKit
set_option linter.unusedVariables false
set_option linter.unusedSimpArgs false

def pageSeal (bs : List Int) : List Int := if bs.length = 4096 then sealB bs else []
theorem pageSeal_length (bs : List Int) : (pageSeal bs).length ≤ 4096 := by
  unfold pageSeal
  split
  · rw [sealB_length _ (by omega)]; omega
  · simp
/-- A slice of a page's length as a pointer to an array. -/
theorem run_arrayP (w : World) (ad : Option Addr) (c : Nat) : (Instr.arrayAt 69 (.slice ad 4096 c)).run Try.prog w = .ok (.pointer ad) w := by
  simp [Instr.arrayAt, run_underlying Try.underlying69]
theorem page_info : (Try.prog.info? 69).map (·.size) = some 4096 := by kernel_rfl
/-- The cells behind a slice that is read. -/
theorem rd_range {w : World} {b off c : Nat} {bs : List Int} (h : Rd .u8 w (.slice (some ⟨b, off, none⟩) bs.length c) bs) (hn : 0 < bs.length) : w.rangeAt b off (vals .u8 bs) := fun j v hv => by
  have hj : j < bs.length := by have := (List.getElem?_eq_some_iff.1 hv).1; rwa [vals_length] at this
  rcases h.2 with ⟨h0, _⟩ | ⟨b', o', c', e, _, hc⟩
  · rw [h0] at hn
    simp at hn
  · cases e
    rw [hc j hj, ← hv, vals_at _ _ _ hj]
theorem rd_some {w : World} {a : Option Addr} {n c : Nat} {bs : List Int} (h : Rd .u8 w (.slice a n c) bs) (hn : 0 < bs.length) : ∃ b off, a = some ⟨b, off, none⟩ ∧ bs.length ≤ c := by
  rcases h.2 with ⟨h0, _⟩ | ⟨b', o', c', e, hl, hc⟩
  · rw [h0] at hn
    simp at hn
  · cases e
    exact ⟨_, _, rfl, hl⟩

theorem numB4 (x : Int) (h0 : 0 ≤ x) (h1 : x ≤ 4294967295) : numB x 4 = lows x 4 := by
  unfold numB
  rw [if_neg]
  · rfl
  · have : x / 256 ^ (4 : Int).toNat = 0 := by
      rw [show (256 : Int) ^ (4 : Int).toNat = 4294967296 from rfl]
      omega
    omega
set_option maxRecDepth 100000 in
set_option maxHeartbeats 4000000 in
theorem specSeal_any (v : Value) (bs : List Int) (w : World) (hB : IsB bs) (hn : bs.length ≤ 1099511627776) (hv : Rd .u8 w v bs) :
    Calls Try.prog 40 #[v] w fun e w' => ∃ a c, e = .returned (.slice a (pageSeal bs).length c) ∧ (∀ b, (Value.slice a (pageSeal bs).length c).ownBlock = some b → w.heap.size ≤ b) ∧
      Own 0 5 .u8 w' (.slice a (pageSeal bs).length c) (pageSeal bs) ∧ Same w w' := by
  obtain ⟨a, c, rfl⟩ := hv.form
  by_cases hl : bs.length = 4096
  · have hR : pageSeal bs = sealB bs := by unfold pageSeal; rw [if_pos hl]
    have hsl : (sealB bs).length = 4096 := by rw [sealB_length _ (by omega), hl]
    obtain ⟨b, off, rfl, hc⟩ := rd_some hv (by omega)
    obtain ⟨i0, hi, hz0, hz1, hz2⟩ := info_parts Try.infoByte'
    have HV := (show Hid (Rd .u8 w (.slice (some ⟨b, off, none⟩) bs.length c) bs) from hv)
    have HB := (show Hid (IsB bs) from hB)
    have HL := (show Hid (bs.length = 4096) from hl)
    have hsum := crcOn_le 0 (bs.drop 4) (by decide) (by decide) (fun y hy => hB y (List.mem_of_mem_drop hy))
    have HN4 := (show Hid (numB (crcOn 0 (bs.drop 4)) 4 = lows (crcOn 0 (bs.drop 4)) 4) from numB4 _ hsum.1 hsum.2)
    have HRd := (show Hid (∀ wx, Same w wx → Rd .u8 wx (.slice (some ⟨b, off + 4, none⟩) 4092 (c - 4)) (bs.drop 4)) from fun wx hx => by
      have h := Rd.back (hv.same hx) 4 (by omega)
      rwa [show bs.length - 4 = 4092 from by omega] at h)
    clear hv hB hn
    rw [hR, hsl, hl]
    rw [hl] at hc
    have hc4 : (4 : Int) ≤ (c : Int) := by omega
    have hc5 : 4 < c := by omega
    have hc6 : ¬ c = 4 := by omega
    clear hl
    go_enter Try.func40, Try.ntmps40
    go_wp2_with fail
    have hS : (fun _ : World => True) w.drew := by trivial
    refine wp_region_V (fun _ : World => True) 99 8 rfl (by kernel_rfl) ?_
    refine wpAnyV_take (i := 0) (v := ?vq1) (some 7) rfl rfl (by kernel_rfl) (by kernel_rfl) (by kernel_rfl) (by kernel_rfl) (fun _ _ _ h => h) (Or.inl ⟨by rfl, ?hyq1⟩) hS ?_
    case hyq1 => (intro w hSw; (try dsimp only at hSw); go_simp; (try with_reducible rfl))
    try simp only [Act.put, List.setIfInBounds_toArray, List.set_cons_zero, List.set_cons_succ]
    refine wpAnyV_take (i := 1) (v := ?vq2) (some 8) rfl rfl (by kernel_rfl) (by kernel_rfl) (by kernel_rfl) (by kernel_rfl) (fun _ _ _ h => h) (Or.inl ⟨by rfl, ?hyq2⟩) hS ?_
    case hyq2 => (intro w hSw; (try dsimp only at hSw); go_simp; (try with_reducible rfl))
    try simp only [Act.put, List.setIfInBounds_toArray, List.set_cons_zero, List.set_cons_succ]
    refine wpAnyV_take (i := 4) (v := ?vq3) (some 11) rfl rfl (by kernel_rfl) (by kernel_rfl) (by kernel_rfl) (by kernel_rfl) (fun _ _ _ h => h) (Or.inl ⟨by rfl, ?hyq3⟩) hS ?_
    case hyq3 => (intro w hSw; (try dsimp only at hSw); go_simp; (try with_reducible rfl))
    try simp only [Act.put, List.setIfInBounds_toArray, List.set_cons_zero, List.set_cons_succ]
    refine wpAnyV_take (i := 5) (v := ?vq4) (some 12) rfl rfl (by kernel_rfl) (by kernel_rfl) (by kernel_rfl) (by kernel_rfl) (fun _ _ _ h => h) (Or.inl ⟨by rfl, ?hyq4⟩) hS ?_
    case hyq4 => (intro w hSw; (try dsimp only at hSw); go_simp; (try with_reducible rfl))
    try simp only [Act.put, List.setIfInBounds_toArray, List.set_cons_zero, List.set_cons_succ]
    refine wpAnyV_one (i := 2) (by kernel_rfl) rfl (fun K hK => ?_)
    go_simp
    have hcc := specCrc_any (.slice (some ⟨b, off + 4, none⟩) 4092 (c - 4)) (bs.drop 4) w.drew (fun y hy => HB.out y (List.mem_of_mem_drop hy)) (by rw [List.length_drop, HL.out]; decide) (HRd.out _ (Kept.refl _ _).drew)
    with_reducible refine hcc.mono ?_
    clear hcc
    rintro e w2 ⟨rfl, hkk⟩
    have HK2 := (show Hid (Same w w2) from (Kept.refl _ _).drew.trans hkk)
    have hz2' := hkk.size
    clear hkk
    refine hK.out _ _ (fun _ => trivial) ?_
    clear hK K
    try simp only [Act.put, List.setIfInBounds_toArray, List.set_cons_zero, List.set_cons_succ]
    refine wpAnyV_one (i := 3) (by kernel_rfl) rfl (fun K hK => ?_)
    go_simp
    have hcc := specPut_any (crcOn 0 (bs.drop 4)) 4 w2 ⟨by omega, by omega⟩ ⟨by decide, by decide⟩
    with_reducible refine hcc.mono ?_
    clear hcc
    rintro e w3 ⟨a3, c3, rfl, hf3, ho3, hk3⟩
    rw [HN4.out, lows_length] at hf3 ho3 ⊢
    have HK3 := (show Hid (Same w w3) from HK2.out.trans hk3)
    have HF3 := (show Hid (∀ b, (Value.slice a3 4 c3).ownBlock = some b → w2.heap.size ≤ b) from hf3)
    have HO3 := (show Hid (Own 0 5 .u8 w3 (.slice a3 4 c3) (lows (crcOn 0 (bs.drop 4)) 4)) from ho3)
    clear hf3 ho3 hk3
    refine hK.out _ _ (fun _ => trivial) ?_
    clear hK K
    try simp only [Act.put, List.setIfInBounds_toArray, List.set_cons_zero, List.set_cons_succ]
    refine wpAnyV_one (i := 6) (by kernel_rfl) rfl (fun K hK => ?_)
    have hnews : ∀ j u, (vals .u8 (bs.drop 4))[j]? = some u → w3.cell? ((⟨b, off + 4, none⟩ : Addr).add j) = some u := fun j u hu => by
      have hj : j < (bs.drop 4).length := by have := (List.getElem?_eq_some_iff.1 hu).1; rwa [vals_length] at this
      rcases (HRd.out _ HK3.out).2 with ⟨h0, _⟩ | ⟨b', o', c', e, _, hcc⟩
      · rw [h0] at hj
        simp at hj
      · simp only [Value.slice.injEq, Option.some.injEq, Addr.mk.injEq] at e
        obtain ⟨⟨rfl, rfl, _⟩, _, rfl⟩ := e
        rw [addr_add, hcc j hj, ← hu, vals_at _ _ _ hj]
    have hdl : (vals .u8 (bs.drop 4)).length = 4092 := by rw [vals_length, List.length_drop, HL.out]
    have hown3 : w3.ownsRow 0 5 1 (.slice a3 4 c3) 4 (vals .u8 (lows (crcOn 0 (bs.drop 4)) 4)) := by have h := HO3.out; unfold Own at h; rwa [lows_length] at h
    refine step_append_lies _ (by rfl) _ _ 22 (by rfl) 0 5 i0 (.int .u8 0) 1 1 Try.underlying22 hi hz0 hz1 hz2 rfl (by omega) (.slice a3 4 c3) 4 (vals .u8 (lows (crcOn 0 (bs.drop 4)) 4)) (by rfl) hown3 ⟨b, off + 4, none⟩ 4092 (c - 4) (vals .u8 (bs.drop 4)) (by rfl) (by rw [hdl]) hnews vals_one (by omega) (by decide) (by decide) (Nat.zero_le _) w3.heap.size rfl ?_
    intro g4 cap4 w4 hown4 hgrow4 hat4 hlt4
    have HO4 := (show Hid (Own 0 5 .u8 w4 (.slice (some ⟨g4, 0, none⟩) 4096 cap4) (sealB bs)) from (by unfold Own Hid; rw [hsl]; simpa [sealB, vals] using hown4))
    have HK4 := (show Hid (Same w w4) from HK3.out.grown hgrow4 (fun k e => .inl (by have := HF3.out k e; have := HK2.out.size; omega)))
    have hg4 : w.heap.size ≤ g4 := by
      have := HK2.out.size
      have := HK3.out.size
      rcases hat4 with h | h
      · have := HF3.out g4 h; omega
      · omega
    clear hown4 hgrow4 hat4 hown3 hnews
    refine hK.out _ _ (fun _ => trivial) ?_
    clear hK K
    try simp only [Act.put, List.setIfInBounds_toArray, List.set_cons_zero, List.set_cons_succ]
    refine wpAnyV_take (i := 7) (v := ?vq5) (some 2) rfl rfl (by kernel_rfl) (by kernel_rfl) (by kernel_rfl) (by kernel_rfl) (fun _ _ _ h => h) (Or.inl ⟨by rfl, ?hyq5⟩) hS ?_
    case hyq5 => (intro w hSw; (try dsimp only at hSw); go_simp; (try with_reducible rfl))
    try simp only [Act.put, List.setIfInBounds_toArray, List.set_cons_zero, List.set_cons_succ]
    refine wpAnyV_done (by kernel_rfl) ?_
    go_wp2
    go_ret
    refine ⟨_, _, rfl, fun b hb => ?_, HO4.out, HK4.out⟩
    simp [Value.ownBlock] at hb
    omega
  · have hR : pageSeal bs = [] := by unfold pageSeal; rw [if_neg hl]
    rw [hR]
    have hl' : ¬ (bs.length : Int) = 4096 := by omega
    clear hv hB
    go_enter Try.func40, Try.ntmps40
    go_wp2
    go_ret
    exact ⟨some ⟨w.heap.size, 0, none⟩, 0, rfl, fun b hb => by simp [Value.ownBlock] at hb; omega, Own.empty _ _, (Kept.refl _ _).alloc _⟩
end Go.Proofs.Ytclmdpmelifplab
