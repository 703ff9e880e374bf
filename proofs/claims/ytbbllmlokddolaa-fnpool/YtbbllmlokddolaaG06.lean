import Derived.Test.YtbbllmlokddolaaG05
import Derived.Test.YtbbllmlokddolaaG00
import Derived.Test.YtbbllmlokddolaaG01
namespace Go.Proofs.Ytbbllmlokddolaa
set_option maxRecDepth 100000
set_option maxHeartbeats 4000000
open Go Go.RowKit
set_option linter.unusedVariables false
set_option linter.unusedSimpArgs false
theorem bytes7_k {w0 w : World} {B : Nat} {v : Value} {cs : List Int} {k : Nat} {size : Int} (h : SrcR w0 w B v cs k size) (hk : k ≤ 1073741821) :
    Calls Try.prog 22 #[.pointer (some ⟨B, 0, none⟩)] w fun e w' => ∃ (g : Nat) (bs : List Int), e = .returned (.slice (some ⟨g, 0, none⟩) bs.length bs.length) ∧ (bs.length = 4095 ∨ bs.length = 4096) ∧ IsB bs ∧ Own w0.heap.size 5 .u8 w' (.slice (some ⟨g, 0, none⟩) bs.length bs.length) bs ∧ g ≠ B ∧ SrcR w0 w' B v cs (k + 3) size ∧ w.heap.size ≤ g ∧ Kept (fun b => b = B) w w' := by
  obtain ⟨i0, hi, hz0, hz1, hz2⟩ := info_parts Try.infoByte'
  have k0 := chance_k 12 h (by omega) (by constructor <;> decide)
  clear h
  go_enter Try.func22, Try.ntmps22
  go_wp2_with fail
  refine k0.mono ?_
  rintro e w1 ⟨b, rfl, hs, hkc⟩
  have HKc := hid hkc
  have hw1s := hkc.size
  have HS := hid hs
  have hsz := hs.kept.size
  have hBl := hs.lt
  clear k0 hs hkc
  cases b
  · go_wp2_with (at_make; refine wpList_make_full _ rfl (.tmp 7) (.tmp 7) 22 rfl w0.heap.size 5 i0 (.int .u8 0) 1 Try.underlying22 hi hz0 hz1 .i64 .i64 _ _ 4096 rfl rfl (by simp) (by simp) (by rw [hz2]; omega) (by unfold maxLen; omega) hsz ?_; intro w2 hown1 hgrow1; have HO : Hid (∃ bs : List Int, bs.length = 4096 ∧ IsB bs ∧ Own w0.heap.size 5 .u8 w2 (.slice (some ⟨w1.heap.size, 0, none⟩) 4096 4096) bs) := ⟨List.replicate 4096 0, List.length_replicate, fun y hy => by rw [List.eq_of_mem_replicate hy]; omega, own_made (by simpa using hown1)⟩; have HS2 := hid (HS.out.same (Kept.of_grown hgrow1 (fun k e => by cases e))); have HKd := hid (HKc.out.trans (Kept.of_grown hgrow1 (fun k e => by cases e))); clear hown1 hgrow1)
    obtain ⟨bs, hbl, hbb, ho⟩ := HO.out
    clear HO
    refine (next_k 4096 HS2.out (by omega) (by constructor <;> decide)).mono ?_
    rintro e w3 ⟨r, rfl, hd, hs3, hk3⟩
    obtain ⟨hr1, hr2⟩ := hd.2 (by decide)
    have HS3 := hid hs3
    have HKe := hid (HKd.out.trans hk3)
    have HO3 := hid (ho.kept hk3 (fun b hb e => by simp [Value.ownBlock] at hb; omega))
    clear hd hs3 hk3 ho
    go_wp2_with fail
    refine (next_k 256 HS3.out (by omega) (by constructor <;> decide)).mono ?_
    rintro e w4 ⟨x, rfl, hd, hs4, hk4⟩
    obtain ⟨hx1, hx2⟩ := hd.2 (by decide)
    have HS4 := hid hs4
    have HKf := hid (HKe.out.trans hk4)
    have HO4 := hid (HO3.out.kept hk4 (fun b hb e => by simp [Value.ownBlock] at hb; omega))
    obtain ⟨r, rfl⟩ : ∃ r0 : Nat, r = (r0 : Int) := ⟨r.toNat, by omega⟩
    have hc := HO4.out.cell hbl.symm r (by omega)
    have hf := HO4.out.frozen hbl.symm r
    clear hd hs4 hk4
    go_wp2_with fail
    go_ret
    have hl : (bs.set r x).length = 4096 := by rw [List.length_set, hbl]
    refine ⟨w1.heap.size, bs.set r x, by rw [hl]; simp [results, Try.results22, go_sem], .inr hl, ?_, ?_, by omega, ?_, by omega, ?_⟩
    · intro y hy
      rcases List.mem_or_eq_of_mem_set hy with hy | rfl
      · exact hbb y hy
      · omega
    · rw [hl]
      exact HO4.out.stored hbl.symm r x
    · exact HS4.out.on (Kept.setCell (R := fun b => b = w1.heap.size) (Kept.refl _ _) (p := ⟨w1.heap.size, r, none⟩) (.inr rfl) _) (by omega) (fun i hi => by omega)
    · exact HKf.out.setCell (p := ⟨w1.heap.size, r, none⟩) (.inl (by omega)) _
  · go_wp2_with (at_make; refine wpList_make_full _ rfl (.tmp 7) (.tmp 7) 22 rfl w0.heap.size 5 i0 (.int .u8 0) 1 Try.underlying22 hi hz0 hz1 .i64 .i64 _ _ 4095 rfl rfl (by simp) (by simp) (by rw [hz2]; omega) (by unfold maxLen; omega) hsz ?_; intro w2 hown1 hgrow1; have HO : Hid (∃ bs : List Int, bs.length = 4095 ∧ IsB bs ∧ Own w0.heap.size 5 .u8 w2 (.slice (some ⟨w1.heap.size, 0, none⟩) 4095 4095) bs) := ⟨List.replicate 4095 0, List.length_replicate, fun y hy => by rw [List.eq_of_mem_replicate hy]; omega, own_made (by simpa using hown1)⟩; have HS2 := hid (HS.out.same (Kept.of_grown hgrow1 (fun k e => by cases e))); have HKd := hid (HKc.out.trans (Kept.of_grown hgrow1 (fun k e => by cases e))); clear hown1 hgrow1)
    obtain ⟨bs, hbl, hbb, ho⟩ := HO.out
    clear HO
    refine (next_k 4095 HS2.out (by omega) (by constructor <;> decide)).mono ?_
    rintro e w3 ⟨r, rfl, hd, hs3, hk3⟩
    obtain ⟨hr1, hr2⟩ := hd.2 (by decide)
    have HS3 := hid hs3
    have HKe := hid (HKd.out.trans hk3)
    have HO3 := hid (ho.kept hk3 (fun b hb e => by simp [Value.ownBlock] at hb; omega))
    clear hd hs3 hk3 ho
    go_wp2_with fail
    refine (next_k 256 HS3.out (by omega) (by constructor <;> decide)).mono ?_
    rintro e w4 ⟨x, rfl, hd, hs4, hk4⟩
    obtain ⟨hx1, hx2⟩ := hd.2 (by decide)
    have HS4 := hid hs4
    have HKf := hid (HKe.out.trans hk4)
    have HO4 := hid (HO3.out.kept hk4 (fun b hb e => by simp [Value.ownBlock] at hb; omega))
    obtain ⟨r, rfl⟩ : ∃ r0 : Nat, r = (r0 : Int) := ⟨r.toNat, by omega⟩
    have hc := HO4.out.cell hbl.symm r (by omega)
    have hf := HO4.out.frozen hbl.symm r
    clear hd hs4 hk4
    go_wp2_with fail
    go_ret
    have hl : (bs.set r x).length = 4095 := by rw [List.length_set, hbl]
    refine ⟨w1.heap.size, bs.set r x, by rw [hl]; simp [results, Try.results22, go_sem], .inl hl, ?_, ?_, by omega, ?_, by omega, ?_⟩
    · intro y hy
      rcases List.mem_or_eq_of_mem_set hy with hy | rfl
      · exact hbb y hy
      · omega
    · rw [hl]
      exact HO4.out.stored hbl.symm r x
    · exact HS4.out.on (Kept.setCell (R := fun b => b = w1.heap.size) (Kept.refl _ _) (p := ⟨w1.heap.size, r, none⟩) (.inr rfl) _) (by omega) (fun i hi => by omega)
    · exact HKf.out.setCell (p := ⟨w1.heap.size, r, none⟩) (.inl (by omega)) _
theorem page7_k {w0 w : World} {B : Nat} {v : Value} {cs : List Int} {k : Nat} {size : Int} (a : Option Addr) (n c : Nat) (hd : Int) (qs : List EFrame) (h : SrcR w0 w B v cs k size) (hk : k ≤ 1073741820)
    (hp : RdR kFrame w (.slice a n c) qs) (hn : n = qs.length) (hl : n ≤ 1000) (hf : ∀ b, footR kFrame (.slice a n c) qs b → b ≠ B) :
    Calls Try.prog 21 #[.pointer (some ⟨B, 0, none⟩), .agg #[.slice a n c, .int .i64 hd]] w fun e w' => ∃ r k', e = .returned (.int .i64 r) ∧ k' ≤ k + 2 ∧ SrcR w0 w' B v cs k' size ∧ Kept (fun b => b = B) w w' := by
  obtain ⟨w1, hw1⟩ : ∃ w1, w1 = w.alloc (.cells #[.slice a n c, .int .i64 hd] 25) := ⟨_, rfl⟩
  have HK0 := (show Hid (Same w w1) from by rw [hw1]; exact sameA w [.slice a n c, .int .i64 hd] 25)
  have HB0 := (show Hid (Blk w1 w.heap.size 25 [.slice a n c, .int .i64 hd]) from by rw [hw1]; exact Blk.newL w [.slice a n c, .int .i64 hd] 25)
  have HS0 := hid (h.same HK0.out)
  have hBl := h.lt
  have kc := chance_k 5 HS0.out (by omega) (by constructor <;> decide)
  obtain ⟨c0, c1⟩ := HB0.out.all2
  have HP := hid (hp.same HK0.out)
  have HF := hid hf
  have HN := hid hn
  clear h hp hf hn
  by_cases h0 : n = 0
  · subst h0
    have kn := next_k 18 HS0.out (by omega) (by constructor <;> decide)
    clear kc
    subst hw1
    go_enter Try.func21, Try.ntmps21
    go_wp2_with fail
    refine kn.mono ?_
    rintro e w2 ⟨r, rfl, hd2, hs2, hk2⟩
    have HS2 := hid hs2
    have HK2 := (show Hid (Kept (fun b => b = B) w w2) from (HK0.out.mono (fun _ _ h => h.elim)).trans hk2)
    obtain ⟨hr1, hr2⟩ := hd2.2 (by decide)
    clear kn hs2 hk2 hd2
    go_wp2
    go_ret
    exact ⟨_, k + 1, rfl, by omega, HS2.out, HK2.out⟩
  · have hne : ¬ (n : Int) = 0 := by omega
    have hne2 : decide ((n : Int) = 0) = false := by simp; omega
    have hne3 : ((n : Int) == 0) = false := by simp; omega
    rcases HP.out.row with ⟨rfl, _⟩ | ⟨b, off, c', hv, hc⟩
    · have := HN.out; simp at this; omega
    · simp only [Value.slice.injEq] at hv
      obtain ⟨rfl, hnq, rfl⟩ := hv
      clear hnq
      have HC0 := (show Hid (∀ j : Nat, j < n → w1.cell? ⟨b, off + j * 6, none⟩ = some (.int .i64 ((qs.getD j zFrame).page))) from fun j hj => by
        have h := hc j 0 (by rw [← HN.out]; exact hj) (by decide)
        rw [show off + (j * kFrame.m + 0) = off + j * 6 from rfl] at h
        rw [h]
        have : qs.getD j zFrame = qs[j]'(by rw [← HN.out]; exact hj) := by simp [List.getD_eq_getElem?_getD, List.getElem?_eq_getElem (show j < qs.length by rw [← HN.out]; exact hj)]
        rw [this]
        rfl)
      have hbB : ¬ b = B := HF.out b (.inl rfl)
      obtain ⟨pg, hpg⟩ : ∃ pg : Nat → Int, pg = fun j => (qs.getD j zFrame).page := ⟨_, rfl⟩
      have HC1 := (show Hid (∀ j : Nat, j < n → w1.cell? ⟨b, off + j * 6, none⟩ = some (.int .i64 (pg j))) from by rw [hpg]; exact HC0.out)
      clear hpg HC0 hc HP HF HN
      subst hw1
      go_enter Try.func21, Try.ntmps21
      go_wp2_with fail
      refine kc.mono ?_
      rintro e w2 ⟨bb, rfl, hs2, hk2⟩
      have HS2 := hid hs2
      have HK2 := (show Hid (Kept (fun b => b = B) w w2) from (HK0.out.mono (fun _ _ h => h.elim)).trans hk2)
      have HB2 := hid (HB0.out.kept hk2 (fun e => by omega))
      have HC2 := (show Hid (∀ j : Nat, j < n → w2.cell? ⟨b, off + j * 6, none⟩ = some (.int .i64 (pg j))) from fun j hj => hk2.cellOf (HC1.out j hj) hbB)
      clear kc hs2 hk2 HC1 HB0 HK0 HS0 c0 c1
      cases bb with
      | true =>
        go_wp2_with fail
        refine (next_k 18 HS2.out (by omega) (by constructor <;> decide)).mono ?_
        rintro e w3 ⟨r, rfl, hd3, hs3, hk3⟩
        have HS3 := hid hs3
        have HK3 := hid (HK2.out.trans hk3)
        obtain ⟨hr1, hr2⟩ := hd3.2 (by decide)
        clear hd3 hs3 hk3
        go_wp2
        go_ret
        first | exact ⟨_, k + 2, rfl, by omega, HS3.out, HK3.out⟩ | exact ⟨k + 2, by omega, HS3.out, HK3.out⟩ | exact ⟨⟨_, rfl⟩, k + 2, by omega, HS3.out, HK3.out⟩
      | false =>
        go_wp2_with fail
        have hS : ((fun wx : World => wx.cell? ⟨w.heap.size, 0, none⟩ = some (.slice (some ⟨b, off, none⟩) n c) ∧ (∀ j : Nat, j < n → wx.cell? ⟨b, off + j * 6, none⟩ = some (.int .i64 (pg j))))) w2.drew := by exact ⟨HB2.out.drew.cell 0, HC2.out⟩
        refine wp_region_V ((fun wx : World => wx.cell? ⟨w.heap.size, 0, none⟩ = some (.slice (some ⟨b, off, none⟩) n c) ∧ (∀ j : Nat, j < n → wx.cell? ⟨b, off + j * 6, none⟩ = some (.int .i64 (pg j))))) 99 11 rfl (by kernel_rfl) ?_
        refine wpAnyV_tk 0 16 (v := ?vq1) ?hyq1 hS ?_
        case hyq1 => (intro w hSw; (try dsimp only at hSw); go_simp; (try with_reducible rfl))
        try simp only [Act.put, sA, s0, sS]
        refine wpAnyV_tk 1 17 (v := ?vq2) ?hyq2 hS ?_
        case hyq2 => (intro w hSw; (try dsimp only at hSw); go_simp; (try with_reducible rfl))
        try simp only [Act.put, sA, s0, sS]
        refine wpAnyV_tk 2 18 (v := ?vq3) ?hyq3 hS ?_
        case hyq3 => (intro w hSw; (try dsimp only at hSw); go_simp; (try with_reducible rfl))
        try simp only [Act.put, sA, s0, sS]
        refine wpAnyV_tk 3 19 (v := ?vq4) ?hyq4 hS ?_
        case hyq4 => (intro w hSw; (try dsimp only at hSw); go_simp; (try with_reducible rfl))
        try simp only [Act.put, sA, s0, sS]
        refine wpAnyV_tk 4 20 (v := ?vq5) ?hyq5 hS ?_
        case hyq5 => (intro w hSw; (try dsimp only at hSw); go_simp; (try with_reducible rfl))
        try simp only [Act.put, sA, s0, sS]
        refine wpAnyV_tk 5 21 (v := ?vq6) ?hyq6 hS ?_
        case hyq6 => (intro w hSw; (try dsimp only at hSw); go_simp; (try with_reducible rfl))
        try simp only [Act.put, sA, s0, sS]
        refine wpAnyV_one (i := 6) (by kernel_rfl) rfl (fun K hK => ?_)
        go_simp
        refine (next_k (n : Int) (HS2.out.same ((Kept.refl _ _).drew)) (by omega) (by constructor <;> omega)).mono ?_
        rintro e w3 ⟨r, rfl, hd, hs3, hk3⟩
        obtain ⟨hr1, hr2⟩ := hd.2 (by omega)
        have HS3 := hid hs3
        have HK3 := hid (HK2.out.drew.trans hk3)
        obtain ⟨r, rfl⟩ : ∃ r0 : Nat, r = (r0 : Int) := ⟨r.toNat, by omega⟩
        have hrn : r < n := by omega
        have d3 := (HB2.out.drew.kept hk3 (fun e => by omega)).cell 0
        have HC3 := (show Hid (∀ j : Nat, j < n → w3.cell? ⟨b, off + j * 6, none⟩ = some (.int .i64 (pg j))) from fun j hj => hk3.cellOf (HC2.out j hj) hbB)
        clear hd hs3 hk3
        have hS : ((fun wx : World => wx.cell? ⟨w.heap.size, 0, none⟩ = some (.slice (some ⟨b, off, none⟩) n c) ∧ (∀ j : Nat, j < n → wx.cell? ⟨b, off + j * 6, none⟩ = some (.int .i64 (pg j))))) w3 := by exact ⟨d3, HC3.out⟩
        refine hK.out _ _ (fun _ => hS) ?_
        clear hK K
        try simp only [Act.put, sA, s0, sS]
        refine wpAnyV_tk 7 23 (v := ?vq7) ?hyq7 hS ?_
        case hyq7 => (intro w hSw; (try dsimp only at hSw); go_simp; (try rw [if_pos (by omega)]); (try with_reducible rfl))
        try simp only [Act.put, sA, s0, sS]
        refine wpAnyV_tk 8 24 (v := ?vq8) ?hyq8 hS ?_
        case hyq8 => (intro w hSw; (try dsimp only at hSw); go_simp; (try with_reducible rfl))
        try simp only [Act.put, sA, s0, sS]
        refine wpAnyV_tk 9 25 (v := ?vq9) ?hyq9 hS ?_
        case hyq9 => (intro w hSw; (try dsimp only at hSw); go_simp; (try simp only [hSw.2 r hrn]); (try with_reducible rfl))
        try simp only [Act.put, sA, s0, sS]
        refine wpAnyV_tk 10 4 (v := ?vq10) ?hyq10 hS ?_
        case hyq10 => (intro w hSw; (try dsimp only at hSw); go_simp; (try with_reducible rfl))
        try simp only [Act.put, sA, s0, sS]
        refine wpAnyV_done (by kernel_rfl) ?_
        go_wp2
        go_ret
        first | exact ⟨_, k + 2, rfl, by omega, HS3.out, HK3.out⟩ | exact ⟨k + 2, by omega, HS3.out, HK3.out⟩ | exact ⟨⟨_, rfl⟩, k + 2, by omega, HS3.out, HK3.out⟩
end Go.Proofs.Ytbbllmlokddolaa

namespace Go.Proofs.Ytbbllmlokddolaa
set_option maxRecDepth 100000
set_option maxHeartbeats 4000000
open Go Go.RowKit
set_option linter.unusedVariables false
set_option linter.unusedSimpArgs false
def DrawsPool : Prop := ∀ (w0 w : World) (B : Nat) (v : Value) (cs : List Int) (size : Int), SrcR w0 w B v cs 0 size → Calls Try.prog 18 #[.pointer (some ⟨B, 0, none⟩)] w fun e w' => ∃ a n c hd qs k', e = .returned (.agg #[.slice a n c, .int .i64 hd]) ∧ k' ≤ 1000 ∧ n = qs.length ∧ n ≤ 17 ∧ RdR kFrame w' (.slice a n c) qs ∧ (∀ b, footR kFrame (.slice a n c) qs b → b ≠ B ∧ w.heap.size ≤ b) ∧ SrcR w0 w' B v cs k' size ∧ Kept (fun b => b = B) w w'
theorem RdR.pins {w : World} {a : Option Addr} {n c : Nat} {qs : List EFrame} (h : RdR kFrame w (.slice a n c) qs) (hn : n = qs.length) {j : Nat} (hj : j < n) : ∃ b off, a = some ⟨b, off, none⟩ ∧ ∃ (p : Int) (d : Bool), w.cell? ⟨b, off + j * 6 + 2, none⟩ = some (.int .i64 p) ∧ w.cell? ⟨b, off + j * 6 + 3, none⟩ = some (.bool d) := by
  rcases h.row with ⟨rfl, _⟩ | ⟨b, off, c', hv, hc⟩
  · simp at hn; omega
  · simp only [Value.slice.injEq] at hv
    obtain ⟨rfl, _, _⟩ := hv
    have hjl : j < qs.length := by omega
    refine ⟨b, off, rfl, qs[j].pins, qs[j].dirty, ?_, ?_⟩
    · have h2 := hc j 2 hjl (by decide)
      rw [show off + (j * kFrame.m + 2) = off + j * 6 + 2 from by show off + (j * 6 + 2) = _; omega] at h2
      exact h2
    · have h2 := hc j 3 hjl (by decide)
      rw [show off + (j * kFrame.m + 3) = off + j * 6 + 3 from by show off + (j * 6 + 3) = _; omega] at h2
      exact h2
theorem drawLoad_of (hpool : DrawsPool) (v : Value) (cs : List Int) (w : World) (hb : IsB cs) (hn : cs.length ≤ 1048576) (hv : Rd .u8 w v cs) :
    Calls Try.prog 6 #[v] w fun e w' => ∃ (pa : Option Addr) (pn pc : Nat) (ph fr pg : Int) (g : Nat) (bs : List Int), e = .returned (.tuple #[.agg #[.slice pa pn pc, .int .i64 ph], .int .i64 fr, .int .i64 pg, .slice (some ⟨g, 0, none⟩) bs.length bs.length]) ∧ (bs.length = 4095 ∨ bs.length = 4096) ∧ IsB bs ∧ Rd .u8 w' (.slice (some ⟨g, 0, none⟩) bs.length bs.length) bs ∧ w.heap.size ≤ g ∧ Same w w' := by
  have HK0 := hid (sameA w [.slice none 0 0, .int .i64 0] 25)
  have HB0 := (show Hid (Blk (w.alloc (.cells #[.slice none 0 0, .int .i64 0] 25)) w.heap.size 25 [.slice none 0 0, .int .i64 0]) from Blk.newL w [.slice none 0 0, .int .i64 0] 25)
  have k0 := source_r v cs _ hb hn (hv.same HK0.out)
  obtain ⟨av, cv, rfl⟩ := hv.form
  clear hv hb hn
  go_enter Try.func6, Try.ntmps6
  go_wp2_with fail
  refine k0.mono ?_
  rintro e w1 ⟨B, size, rfl, hB, hs, hk⟩
  have HS1 := hid hs
  have HK1 := hid (HK0.out.trans hk)
  have HB1 := hid (HB0.out.same hk)
  have hBw : w.heap.size + 1 ≤ B := by rw [World.size_alloc] at hB; exact hB
  have hs1 : w.heap.size + 1 ≤ w1.heap.size := by have h := hk.size; rw [World.size_alloc] at h; exact h
  have hBl1 := hs.lt
  clear k0 hs hk hB HB0
  go_wp2_with fail
  refine (hpool _ _ _ _ _ _ HS1.out).mono ?_
  rintro e w2 ⟨a, n, c, hd, qs, k2, rfl, hk2, hnq, hn17, hrd, hft, hs2, hkp⟩
  have HS2 := hid hs2
  have HK2 := (show Hid (Same w w2) from HK1.out.next hkp (fun i hi e => by omega))
  have HB2 := hid (HB1.out.kept hkp (fun e => by omega))
  have HRD := hid hrd
  have HFT := hid hft
  have HNQ := hid hnq
  have hs2' := hkp.size
  clear hs2 hkp hrd hft hnq
  have HKp := (show Hid (Same w2 (w2.alloc (.cells #[.slice a n c, .int .i64 hd] 25))) from (Kept.refl _ _).alloc _)
  have HBp := (show Hid (Blk (w2.alloc (.cells #[.slice a n c, .int .i64 hd] 25)) w2.heap.size 25 [.slice a n c, .int .i64 hd]) from Blk.newL w2 [.slice a n c, .int .i64 hd] 25)
  go_wp2_with fail
  refine (next_k 6 (HS2.out.same HKp.out) (by omega) (by constructor <;> decide)).mono ?_
  rintro e w3 ⟨r3, rfl, hd3, hs3, hk3⟩
  obtain ⟨hr1, hr2⟩ := hd3.2 (by decide)
  have HS3 := hid hs3
  have HKa := hid (((HKp.out.mono (fun _ _ h => h.elim) : Kept (fun b => b = B) w2 _)).trans hk3)
  have HBq := hid (HBp.out.kept hk3 (fun e => by have := HS2.out.lt; omega))
  clear hs3 hk3 hd3 HBp HKp
  go_wp2_with fail
  refine (next_k 2 HS3.out (by omega) (by constructor <;> decide)).mono ?_
  rintro e w4 ⟨r4, rfl, hd4, hs4, hk4⟩
  obtain ⟨hr3, hr4⟩ := hd4.2 (by decide)
  have HS4 := hid hs4
  have HK4b := hid (HKa.out.trans hk4)
  have HB4 := hid (HBq.out.kept hk4 (fun e => by have := HS2.out.lt; omega))
  have hB2 := HS2.out.lt
  have HRD4 := hid (HRD.out.kept HK4b.out (fun b hb e => (HFT.out b hb).1 e))
  have HK4 := (show Hid (Same w w4) from HK2.out.next HK4b.out (fun i hi e => by omega))
  clear hs4 hk4 hd4 HBq HS3 HKa HS2 HK4b HRD HB2
  go_wp2_with fail
  go_loopw [8, 9] (fun f i wr => ∃ (k kk : Nat) (fr : Int), k ≤ n ∧ f = .int .i64 fr ∧ i = .int .i64 k ∧ kk ≤ 1100 ∧ kk ≤ k2 + 2 + k ∧ Hid (SrcR w1 wr B (.slice av cs.length cv) cs kk size) ∧ Hid (Blk wr w2.heap.size 25 [.slice a n c, .int .i64 hd]) ∧ Hid (RdR kFrame wr (.slice a n c) qs) ∧ Hid (Same w wr)) (fun _ i _ => n - (intOf i).toNat)
  case atStart => exact ⟨0, k2 + 2, r3 - r4, Nat.zero_le _, by go_num, rfl, by omega, by omega, HS4, HB4, HRD4, HK4⟩
  case round =>
    clear HS4 HB4 HRD4 HK4
    obtain ⟨k, kk, fr, hk, rfl, rfl, hkk, hkk2, HS, HB, HR, HK⟩ := hrel
    obtain ⟨p0, p1⟩ := HB.out.all2
    by_cases hlt : k < n
    · obtain ⟨b, off, ha, pn, dt, hc2, hc3⟩ := HR.out.pins HNQ.out hlt
      subst ha
      have hbB : ¬ b = B := (HFT.out b (.inl rfl)).1
      go_wp2_with fail
      refine (chance_k 2 HS.out (by omega) (by constructor <;> decide)).mono ?_
      rintro e w5 ⟨bb, rfl, hs5, hk5⟩
      have HS5 := hid hs5
      have HB5 := hid (HB.out.kept hk5 (fun e => by omega))
      have HR5 := hid (HR.out.kept hk5 (fun b hb e => (HFT.out b hb).1 e))
      have HK5 := (show Hid (Same w w5) from HK.out.next hk5 (fun i hi e => by omega))
      have d2 := hk5.cellOf hc2 hbB
      have d3 := hk5.cellOf hc3 hbB
      obtain ⟨q0, q1⟩ := HB5.out.all2
      clear hs5 hk5 hc2 hc3 p0 p1 HS HB HR HK
      cases bb with
      | false =>
        go_wp2
        go_roundw
        case rel => exact ⟨k + 1, kk + 1, fr, by omega, rfl, by go_num, by omega, by omega, HS5, HB5, HR5, HK5⟩
        case measure => simp [intOf]; omega
      | true =>
        by_cases h0 : pn = 0
        · subst h0
          cases dt with
          | true =>
            go_wp2
            go_roundw
            case rel => exact ⟨k + 1, kk + 1, fr, by omega, rfl, by go_num, by omega, by omega, HS5, HB5, HR5, HK5⟩
            case measure => simp [intOf]; omega
          | false =>
            go_wp2
            go_roundw
            case rel => exact ⟨k + 1, kk + 1, k, by omega, rfl, by go_num, by omega, by omega, HS5, HB5, HR5, HK5⟩
            case measure => simp [intOf]; omega
        · go_wp2
          go_roundw
          case rel => exact ⟨k + 1, kk + 1, fr, by omega, rfl, by go_num, by omega, by omega, HS5, HB5, HR5, HK5⟩
          case measure => simp [intOf]; omega
    · obtain rfl : n = k := by omega
      go_wp2_with fail
      refine (next_k 17 HS.out (by omega) (by constructor <;> decide)).mono ?_
      rintro e w5 ⟨r5, rfl, hd5, hs5, hk5⟩
      have HS5 := hid hs5
      have HB5 := hid (HB.out.kept hk5 (fun e => by omega))
      have HR5 := hid (HR.out.kept hk5 (fun b hb e => (HFT.out b hb).1 e))
      have HK5 := (show Hid (Same w w5) from HK.out.next hk5 (fun i hi e => by omega))
      clear hs5 hk5 hd5 p0 p1 HS HB HR HK
      go_wp2_with fail
      refine (chance_k 5 HS5.out (by omega) (by constructor <;> decide)).mono ?_
      rintro e w6 ⟨bb, rfl, hs6, hk6⟩
      have HS6 := hid hs6
      have HB6 := hid (HB5.out.kept hk6 (fun e => by omega))
      have HR6 := hid (HR5.out.kept hk6 (fun b hb e => (HFT.out b hb).1 e))
      have HK6 := (show Hid (Same w w6) from HK5.out.next hk6 (fun i hi e => by omega))
      obtain ⟨q0, q1⟩ := HB6.out.all2
      clear hs6 hk6 HS5 HB5 HR5 HK5
      cases bb with
      | false =>
        go_wp2_with fail
        have hS : ((fun wx : World => wx.cell? ⟨w2.heap.size, 0, none⟩ = some (.slice a n c) ∧ wx.cell? ⟨w2.heap.size, 0 + 1, none⟩ = some (.int .i64 hd))) w6.drew := by exact ⟨HB6.out.drew.cell 0, HB6.out.drew.cell 1⟩
        refine wp_region_V ((fun wx : World => wx.cell? ⟨w2.heap.size, 0, none⟩ = some (.slice a n c) ∧ wx.cell? ⟨w2.heap.size, 0 + 1, none⟩ = some (.int .i64 hd))) 99 9 rfl (by kernel_rfl) ?_
        refine wpAnyV_tk 0 55 (v := ?vq1) ?hyq1 hS ?_
        case hyq1 => (intro w hSw; (try dsimp only at hSw); go_simp; (try with_reducible rfl))
        try simp only [Act.put, sA, s0, sS]
        refine wpAnyV_tk 1 56 (v := ?vq2) ?hyq2 hS ?_
        case hyq2 => (intro w hSw; (try dsimp only at hSw); go_simp; (try with_reducible rfl))
        try simp only [Act.put, sA, s0, sS]
        refine wpAnyV_tk 2 57 (v := ?vq3) ?hyq3 hS ?_
        case hyq3 => (intro w hSw; (try dsimp only at hSw); go_simp; (try with_reducible rfl))
        try simp only [Act.put, sA, s0, sS]
        refine wpAnyV_tk 3 58 (v := ?vq4) ?hyq4 hS ?_
        case hyq4 => (intro w hSw; (try dsimp only at hSw); go_simp; (try with_reducible rfl))
        try simp only [Act.put, sA, s0, sS]
        refine wpAnyV_one (i := 4) (by kernel_rfl) rfl (fun K hK => ?_)
        go_simp
        refine (bytes7_k (HS6.out.same ((Kept.refl _ _).drew)) (by omega)).mono ?_
        rintro e w9 ⟨g, bs, rfl, hbl, hbb, hbo, hgB, hs9, hgw, hk9⟩
        have HK9 := (show Hid (Same w w9) from HK6.out.drew.next hk9 (fun i hi e => by omega))
        have HBP9 := hid (HB6.out.drew.kept hk9 (fun e => by omega))
        have HBR9 := hid (HB1.out.kept hs9.kept (fun e => by omega))
        have HBO := hid hbo
        have HBB := hid hbb
        have HBL := hid hbl
        have hww := HK6.out.size
        have HBR := (show Hid (w.heap.size ≤ g ∧ g ≠ w.heap.size) from by have hgw2 : w6.heap.size ≤ g := hgw; have hr0 : w.heap.size < w9.heap.size := HBR9.out.lt; have hp := HB6.out.lt; exact ⟨by omega, by omega⟩)
        obtain ⟨r0, r1⟩ := HBR9.out.all2
        have fr9 := HBR9.out.frozen
        have lr9 := HBR9.out.lt
        clear hbo hbb hs9 hk9 hgw hbl
        obtain ⟨m, hm⟩ : ∃ m, bs.length = m := ⟨_, rfl⟩
        have HM := hid hm
        rw [hm]
        clear hm
        have HKS := (show Hid (Kept (fun b => b = w.heap.size) w9 ((w9.setCell ⟨w.heap.size, 0, none⟩ (.slice a n c)).setCell ⟨w.heap.size, 1, none⟩ (.int .i64 hd))) from by unfold Hid; exact Kept.setCell (R := fun b => b = w.heap.size) (Kept.setCell (R := fun b => b = w.heap.size) (Kept.refl _ _) (.inr rfl) _) (.inr rfl) _)
        have hS : ((fun wx : World => wx.cell? ⟨w2.heap.size, 0, none⟩ = some (.slice a n c) ∧ wx.cell? ⟨w2.heap.size, 0 + 1, none⟩ = some (.int .i64 hd))) w9 := by exact ⟨HBP9.out.cell 0, HBP9.out.cell 1⟩
        refine hK.out _ _ (fun _ => hS) ?_
        clear hK K
        try simp only [Act.put, sA, s0, sS]
        refine wpAnyV_one (i := 5) (by kernel_rfl) rfl (fun K hK => ?_)
        go_simp
        have hS : ((fun wx : World => wx.cell? ⟨w2.heap.size, 0, none⟩ = some (.slice a n c) ∧ wx.cell? ⟨w2.heap.size, 0 + 1, none⟩ = some (.int .i64 hd))) ((w9.setCell ⟨w.heap.size, 0, none⟩ (.slice a n c)).setCell ⟨w.heap.size, 1, none⟩ (.int .i64 hd)) := by exact ⟨(HKS.out.cellOf (HBP9.out.cell 0) (fun e => absurd (show w2.heap.size = w.heap.size from e) (by omega))), (HKS.out.cellOf (HBP9.out.cell 1) (fun e => absurd (show w2.heap.size = w.heap.size from e) (by omega)))⟩
        refine hK.out _ _ (fun _ => hS) ?_
        clear hK K
        try simp only [Act.put, sA, s0, sS]
        refine wpAnyV_tk 6 3 (v := ?vq5) ?hyq5 hS ?_
        case hyq5 => (intro w hSw; (try dsimp only at hSw); go_simp; (try with_reducible rfl))
        try simp only [Act.put, sA, s0, sS]
        refine wpAnyV_tk 7 4 (v := ?vq6) ?hyq6 hS ?_
        case hyq6 => (intro w hSw; (try dsimp only at hSw); go_simp; (try with_reducible rfl))
        try simp only [Act.put, sA, s0, sS]
        refine wpAnyV_tk 8 5 (v := ?vq7) ?hyq7 hS ?_
        case hyq7 => (intro w hSw; (try dsimp only at hSw); go_simp; (try with_reducible rfl))
        try simp only [Act.put, sA, s0, sS]
        refine wpAnyV_done (by kernel_rfl) ?_
        go_wp2
        refine bodyPost_ret (v := .tuple #[.agg #[.slice a n c, .int .i64 hd], .int .i64 fr, .int .i64 r5, .slice (some ⟨g, 0, none⟩) m m]) (by simp [results, Try.results6, go_sem, r0, r1]) rfl ⟨_, _, _, _, _, _, g, bs, by rw [HM.out], HBL.out, HBB.out, ?_, HBR.out.1, ?_⟩
        · exact HBO.out.rd.kept HKS.out (fun b hb e => by
            have : g = b := by simpa [Value.ownBlock] using hb
            have := HBR.out.2
            omega)
        · exact HK9.out.next HKS.out (fun i hi e => by omega)
      | true =>
        go_wp2_with fail
        refine (page7_k a n c hd qs HS6.out (by omega) HR6.out HNQ.out (by omega) (fun b hb => (HFT.out b hb).1)).mono ?_
        rintro e w7 ⟨r7, k7, rfl, hk7, hs7, hkp7⟩
        have HS7 := hid hs7
        have HB7 := hid (HB6.out.kept hkp7 (fun e => by omega))
        have HK7 := (show Hid (Same w w7) from HK6.out.next hkp7 (fun i hi e => by omega))
        clear hs7 hkp7 HS6 HB6 HR6 HK6 q0 q1
        go_wp2_with fail
        have hS : ((fun wx : World => wx.cell? ⟨w2.heap.size, 0, none⟩ = some (.slice a n c) ∧ wx.cell? ⟨w2.heap.size, 0 + 1, none⟩ = some (.int .i64 hd))) w7.drew := by exact ⟨HB7.out.drew.cell 0, HB7.out.drew.cell 1⟩
        refine wp_region_V ((fun wx : World => wx.cell? ⟨w2.heap.size, 0, none⟩ = some (.slice a n c) ∧ wx.cell? ⟨w2.heap.size, 0 + 1, none⟩ = some (.int .i64 hd))) 99 9 rfl (by kernel_rfl) ?_
        refine wpAnyV_tk 0 55 (v := ?vq8) ?hyq8 hS ?_
        case hyq8 => (intro w hSw; (try dsimp only at hSw); go_simp; (try with_reducible rfl))
        try simp only [Act.put, sA, s0, sS]
        refine wpAnyV_tk 1 56 (v := ?vq9) ?hyq9 hS ?_
        case hyq9 => (intro w hSw; (try dsimp only at hSw); go_simp; (try with_reducible rfl))
        try simp only [Act.put, sA, s0, sS]
        refine wpAnyV_tk 2 57 (v := ?vq10) ?hyq10 hS ?_
        case hyq10 => (intro w hSw; (try dsimp only at hSw); go_simp; (try with_reducible rfl))
        try simp only [Act.put, sA, s0, sS]
        refine wpAnyV_tk 3 58 (v := ?vq11) ?hyq11 hS ?_
        case hyq11 => (intro w hSw; (try dsimp only at hSw); go_simp; (try with_reducible rfl))
        try simp only [Act.put, sA, s0, sS]
        refine wpAnyV_one (i := 4) (by kernel_rfl) rfl (fun K hK => ?_)
        go_simp
        refine (bytes7_k (HS7.out.same ((Kept.refl _ _).drew)) (by omega)).mono ?_
        rintro e w9 ⟨g, bs, rfl, hbl, hbb, hbo, hgB, hs9, hgw, hk9⟩
        have HK9 := (show Hid (Same w w9) from HK7.out.drew.next hk9 (fun i hi e => by omega))
        have HBP9 := hid (HB7.out.drew.kept hk9 (fun e => by omega))
        have HBR9 := hid (HB1.out.kept hs9.kept (fun e => by omega))
        have HBO := hid hbo
        have HBB := hid hbb
        have HBL := hid hbl
        have hww := HK7.out.size
        have HBR := (show Hid (w.heap.size ≤ g ∧ g ≠ w.heap.size) from by have hgw2 : w7.heap.size ≤ g := hgw; have hr0 : w.heap.size < w9.heap.size := HBR9.out.lt; have hp := HB7.out.lt; exact ⟨by omega, by omega⟩)
        obtain ⟨r0, r1⟩ := HBR9.out.all2
        have fr9 := HBR9.out.frozen
        have lr9 := HBR9.out.lt
        clear hbo hbb hs9 hk9 hgw hbl
        obtain ⟨m, hm⟩ : ∃ m, bs.length = m := ⟨_, rfl⟩
        have HM := hid hm
        rw [hm]
        clear hm
        have HKS := (show Hid (Kept (fun b => b = w.heap.size) w9 ((w9.setCell ⟨w.heap.size, 0, none⟩ (.slice a n c)).setCell ⟨w.heap.size, 1, none⟩ (.int .i64 hd))) from by unfold Hid; exact Kept.setCell (R := fun b => b = w.heap.size) (Kept.setCell (R := fun b => b = w.heap.size) (Kept.refl _ _) (.inr rfl) _) (.inr rfl) _)
        have hS : ((fun wx : World => wx.cell? ⟨w2.heap.size, 0, none⟩ = some (.slice a n c) ∧ wx.cell? ⟨w2.heap.size, 0 + 1, none⟩ = some (.int .i64 hd))) w9 := by exact ⟨HBP9.out.cell 0, HBP9.out.cell 1⟩
        refine hK.out _ _ (fun _ => hS) ?_
        clear hK K
        try simp only [Act.put, sA, s0, sS]
        refine wpAnyV_one (i := 5) (by kernel_rfl) rfl (fun K hK => ?_)
        go_simp
        have hS : ((fun wx : World => wx.cell? ⟨w2.heap.size, 0, none⟩ = some (.slice a n c) ∧ wx.cell? ⟨w2.heap.size, 0 + 1, none⟩ = some (.int .i64 hd))) ((w9.setCell ⟨w.heap.size, 0, none⟩ (.slice a n c)).setCell ⟨w.heap.size, 1, none⟩ (.int .i64 hd)) := by exact ⟨(HKS.out.cellOf (HBP9.out.cell 0) (fun e => absurd (show w2.heap.size = w.heap.size from e) (by omega))), (HKS.out.cellOf (HBP9.out.cell 1) (fun e => absurd (show w2.heap.size = w.heap.size from e) (by omega)))⟩
        refine hK.out _ _ (fun _ => hS) ?_
        clear hK K
        try simp only [Act.put, sA, s0, sS]
        refine wpAnyV_tk 6 3 (v := ?vq12) ?hyq12 hS ?_
        case hyq12 => (intro w hSw; (try dsimp only at hSw); go_simp; (try with_reducible rfl))
        try simp only [Act.put, sA, s0, sS]
        refine wpAnyV_tk 7 4 (v := ?vq13) ?hyq13 hS ?_
        case hyq13 => (intro w hSw; (try dsimp only at hSw); go_simp; (try with_reducible rfl))
        try simp only [Act.put, sA, s0, sS]
        refine wpAnyV_tk 8 5 (v := ?vq14) ?hyq14 hS ?_
        case hyq14 => (intro w hSw; (try dsimp only at hSw); go_simp; (try with_reducible rfl))
        try simp only [Act.put, sA, s0, sS]
        refine wpAnyV_done (by kernel_rfl) ?_
        go_wp2
        refine bodyPost_ret (v := .tuple #[.agg #[.slice a n c, .int .i64 hd], .int .i64 fr, .int .i64 r7, .slice (some ⟨g, 0, none⟩) m m]) (by simp [results, Try.results6, go_sem, r0, r1]) rfl ⟨_, _, _, _, _, _, g, bs, by rw [HM.out], HBL.out, HBB.out, ?_, HBR.out.1, ?_⟩
        · exact HBO.out.rd.kept HKS.out (fun b hb e => by
            have : g = b := by simpa [Value.ownBlock] using hb
            have := HBR.out.2
            omega)
        · exact HK9.out.next HKS.out (fun i hi e => by omega)
end Go.Proofs.Ytbbllmlokddolaa
