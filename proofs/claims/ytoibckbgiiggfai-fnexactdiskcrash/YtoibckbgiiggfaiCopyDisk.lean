/-
  spec.l1CopyDisk, impl.cloneDisk.
-/
import Derived.Test.YtoibckbgiiggfaiSee
import Derived.Test.YtoibckbgiiggfaiDrawn
import Derived.Deep.AppendLies
namespace Go.Proofs.Ytoibckbgiiggfai
open Go.RowKit
set_option linter.unusedSimpArgs false

set_option maxRecDepth 100000 in
set_option maxHeartbeats 3000000 in
theorem copyDisk_any (dv pv : Value) (dur : List Int) (ps : List PW) (w : World) (hd : dur.length ≤ 1099511627776) (hn : ps.length ≤ 1073741824) (hs : ∀ p ∈ ps, p.bs.length ≤ 1099511627776) (hv : RdD w dv pv dur ps) :
    Calls Try.prog 48 #[.agg #[dv, pv]] w fun e w' => ∃ a n c a' n' c' qs, e = .returned (.agg #[.slice a n c, .slice a' n' c']) ∧ dataP qs = dataP ps ∧
      (∀ b, footD (.slice a n c) (.slice a' n' c') qs b → w.heap.size ≤ b) ∧ OwnD 0 65 5 w' (.slice a n c) (.slice a' n' c') dur qs ∧ Same w w' := by
  obtain ⟨a1, c1, rfl⟩ := hv.dur.form
  obtain ⟨a2, c2, e2⟩ := hv.pend.form
  obtain ⟨i0, hi, hz0, hz1, hz2⟩ := info_parts Try.infoSW
  have HP : Hid (RdP w pv ps) := hv.pend
  have HR : Hid (Rd .u8 w (.slice a1 dur.length c1) dur) := hv.dur
  have HS : Hid (∀ p ∈ ps, p.bs.length ≤ 1099511627776) := hs
  subst e2
  clear hv hs
  go_enter Try.func48, Try.ntmps48
  go_wp2_with fail
  refine (l1Copy_any _ dur _ hd (HR.out.same (((Kept.refl _ _).alloc _).alloc _))).mono ?_
  rintro e w1 ⟨a, n, c, rfl, ho, hf, hk⟩
  simp only [World.size_alloc] at hf
  have b0 := ((FBox.new w (.slice a1 dur.length c1) (.slice a2 ps.length c2) 30).next _).same hk
  have b1 := (FBox.new (w.alloc (.cells #[.slice a1 dur.length c1, .slice a2 ps.length c2] 30)) (.slice none 0 0) (.slice none 0 0) 30).same hk
  simp only [World.size_alloc] at b1
  have HB0 : Hid (FBox w1 w.heap.size (.slice a1 dur.length c1) (.slice a2 ps.length c2)) := b0
  have HB1 : Hid (FBox w1 (w.heap.size + 1) (.slice none 0 0) (.slice none 0 0)) := b1
  have HO := (show Hid (Own 0 5 .u8 w1 (.slice a n c) dur) from ho)
  have HF : Hid (∀ b, (Value.slice a n c).ownBlock = some b → w.heap.size + 1 < b ∧ b < w1.heap.size) := fun b hb => ⟨by have := hf b hb; omega, (ho.lt b hb).2⟩
  have HK : Hid (Same w w1) := (((Kept.refl _ _).alloc _).alloc _).trans hk
  have hz1' : w.heap.size + 1 < w1.heap.size := b1.lt
  clear ho hf hk b0 b1
  go_wp2
  have hw1 : w.heap.size < w1.heap.size := by omega
  go_loopw [4] (fun i wr => ∃ (k : Nat) (aa : Option Addr) (na ca : Nat) (qs : List PW), k ≤ ps.length ∧ i = .int .i64 k ∧ Hid (qs.length = k) ∧ Hid (dataP qs = dataP (ps.take k)) ∧ Hid (FBox wr w1.heap.size (.slice a n c) (.slice aa na ca)) ∧
      Hid (∀ b, footP (.slice aa na ca) qs b → w1.heap.size < b) ∧ Hid (OwnP 0 65 5 wr (.slice aa na ca) qs) ∧ Hid (Same w1 wr)) (fun i _ => ps.length - (intOf i).toNat)
  case atStart => exact ⟨0, none, 0, 0, [], Nat.zero_le _, rfl, rfl, rfl, FBox.new _ _ _ _, fun b hb => absurd hb (footP_nil b), OwnP.nil _ _ _ _, (Kept.refl _ _).alloc _⟩
  case round =>
    obtain ⟨k, aa, na, ca, qs, hk, rfl, HQL, HQ, HX, HFP, HOP, HKr⟩ := hrel
    obtain ⟨o1, o2, _, _⟩ := HB0.out.same HKr.out
    by_cases hlt : k < ps.length
    · obtain ⟨b, off, rfl, hc⟩ : ∃ b off, a2 = some ⟨b, off, none⟩ ∧ ∀ i (h : i < ps.length), w.cell? ⟨b, off + i * 2, none⟩ = some (.int .i64 ps[i].sec) ∧ w.cell? ⟨b, off + i * 2 + 1, none⟩ = some ps[i].v := by
        rcases HP.out.row with ⟨rfl, _⟩ | ⟨b, off, c, e, hc⟩
        · simp at hlt
        · simp only [Value.slice.injEq, true_and] at e
          obtain ⟨rfl, rfl⟩ := e
          exact ⟨b, off, rfl, hc⟩
      obtain ⟨a3, c3, ev⟩ := (HP.out.data _ (List.getElem_mem hlt)).form
      have hrd := (HP.out.data _ (List.getElem_mem hlt)).same (HK.out.trans HKr.out)
      have hm1 := HS.out _ (List.getElem_mem hlt)
      have q1 := (HK.out.trans HKr.out).cellOf (hc k hlt).1 id
      have q2 := (HK.out.trans HKr.out).cellOf (hc k hlt).2 id
      rw [ev] at q2 hrd
      have HRD := (show Hid (Rd .u8 wr (.slice a3 ps[k].bs.length c3) ps[k].bs) from hrd)
      have HM1 : Hid (ps[k].bs.length ≤ 1099511627776) := hm1
      have hbw : b < w.heap.size := World.block_lt_of_cell? w _ (hc k hlt).1
      clear ev hrd hc hm1
      obtain ⟨x1, x2, x3, x4⟩ := HX.out
      have hki : (k : Int) < (ps.length : Int) := by omega
      have hk0 : (0 : Int) ≤ (k : Int) := by omega
      have HKO : Hid (∀ wx, Same wr wx → ∀ o, (wx.alloc o).ownsRow 0 65 2 (.slice aa na ca) k (pwCells qs)) := fun wx hx o => by have h := ((HOP.out.same hx).same ((Kept.refl _ _).alloc o)).row; rwa [HQL.out] at h
      go_wp2_with fail
      have hS : (fun w' => w'.cell? ⟨w1.heap.size, 1, none⟩ = some (.slice aa na ca) ∧ w'.cell? ⟨w.heap.size, 1, none⟩ = some (.slice (some ⟨b, off, none⟩) ps.length c2) ∧ w'.cell? ⟨b, off + k * 2, none⟩ = some (.int .i64 ps[k].sec) ∧ w'.cell? ⟨b, off + k * 2 + 1, none⟩ = some (.slice a3 ps[k].bs.length c3) ∧ w'.frozen? ⟨w1.heap.size, 1, none⟩ = false) wr.drew := by go_keep
      refine wp_region_V (fun w' => w'.cell? ⟨w1.heap.size, 1, none⟩ = some (.slice aa na ca) ∧ w'.cell? ⟨w.heap.size, 1, none⟩ = some (.slice (some ⟨b, off, none⟩) ps.length c2) ∧ w'.cell? ⟨b, off + k * 2, none⟩ = some (.int .i64 ps[k].sec) ∧ w'.cell? ⟨b, off + k * 2 + 1, none⟩ = some (.slice a3 ps[k].bs.length c3) ∧ w'.frozen? ⟨w1.heap.size, 1, none⟩ = false) 19 20 rfl (by kernel_rfl) ?_
      refine wpAnyV_take (i := 0) (v := ?v0) (some 16) rfl rfl (by kernel_rfl) (by kernel_rfl) (by kernel_rfl) (by kernel_rfl) (fun _ _ _ h => h) (Or.inl ⟨by rfl, ?hy0⟩) hS ?_
      case hy0 => (intro w hSw; (try dsimp only at hSw); go_simp; (try with_reducible rfl))
      try simp only [Act.put, List.setIfInBounds_toArray, List.set_cons_zero, List.set_cons_succ]
      refine wpAnyV_take (i := 1) (v := ?v1) (some 17) rfl rfl (by kernel_rfl) (by kernel_rfl) (by kernel_rfl) (by kernel_rfl) (fun _ _ _ h => h) (Or.inl ⟨by rfl, ?hy1⟩) hS ?_
      case hy1 => (intro w hSw; (try dsimp only at hSw); go_simp; (try with_reducible rfl))
      try simp only [Act.put, List.setIfInBounds_toArray, List.set_cons_zero, List.set_cons_succ]
      refine wpAnyV_take (i := 2) (v := ?v2) (some 18) rfl rfl (by kernel_rfl) (by kernel_rfl) (by kernel_rfl) (by kernel_rfl) (fun _ _ _ h => h) (Or.inl ⟨by rfl, ?hy2⟩) hS ?_
      case hy2 => (intro w hSw; (try dsimp only at hSw); go_simp; (try with_reducible rfl))
      try simp only [Act.put, List.setIfInBounds_toArray, List.set_cons_zero, List.set_cons_succ]
      refine wpAnyV_take (i := 3) (v := ?v3) (some 19) rfl rfl (by kernel_rfl) (by kernel_rfl) (by kernel_rfl) (by kernel_rfl) (fun _ _ _ h => h) (Or.inl ⟨by rfl, ?hy3⟩) hS ?_
      case hy3 => (intro w hSw; (try dsimp only at hSw); go_simp; (try with_reducible rfl))
      try simp only [Act.put, List.setIfInBounds_toArray, List.set_cons_zero, List.set_cons_succ]
      refine wpAnyV_take (i := 4) (v := ?v4) (some 20) rfl rfl (by kernel_rfl) (by kernel_rfl) (by kernel_rfl) (by kernel_rfl) (fun _ _ _ h => h) (Or.inl ⟨by rfl, ?hy4⟩) hS ?_
      case hy4 => (intro w hSw; (try dsimp only at hSw); go_simp; (try with_reducible rfl))
      try simp only [Act.put, List.setIfInBounds_toArray, List.set_cons_zero, List.set_cons_succ]
      refine wpAnyV_take (i := 5) (v := ?v5) (some 21) rfl rfl (by kernel_rfl) (by kernel_rfl) (by kernel_rfl) (by kernel_rfl) (fun _ _ _ h => h) (Or.inl ⟨by rfl, ?hy5⟩) hS ?_
      case hy5 => (intro w hSw; (try dsimp only at hSw); go_simp; (try with_reducible rfl))
      try simp only [Act.put, List.setIfInBounds_toArray, List.set_cons_zero, List.set_cons_succ]
      refine wpAnyV_take (i := 6) (v := ?v6) (some 22) rfl rfl (by kernel_rfl) (by kernel_rfl) (by kernel_rfl) (by kernel_rfl) (fun _ _ _ h => h) (Or.inl ⟨by rfl, ?hy6⟩) hS ?_
      case hy6 => (intro w hSw; (try dsimp only at hSw); go_simp; (try with_reducible rfl))
      try simp only [Act.put, List.setIfInBounds_toArray, List.set_cons_zero, List.set_cons_succ]
      refine wpAnyV_take (i := 7) (v := ?v7) (some 23) rfl rfl (by kernel_rfl) (by kernel_rfl) (by kernel_rfl) (by kernel_rfl) (fun _ _ _ h => h) (Or.inl ⟨by rfl, ?hy7⟩) hS ?_
      case hy7 => (intro w hSw; (try dsimp only at hSw); go_simp; (try with_reducible rfl))
      try simp only [Act.put, List.setIfInBounds_toArray, List.set_cons_zero, List.set_cons_succ]
      refine wpAnyV_take (i := 8) (v := ?v8) (some 24) rfl rfl (by kernel_rfl) (by kernel_rfl) (by kernel_rfl) (by kernel_rfl) (fun _ _ _ h => h) (Or.inl ⟨by rfl, ?hy8⟩) hS ?_
      case hy8 => (intro w hSw; (try dsimp only at hSw); go_simp; (try with_reducible rfl))
      try simp only [Act.put, List.setIfInBounds_toArray, List.set_cons_zero, List.set_cons_succ]
      refine wpAnyV_take (i := 9) (v := ?v9) (some 25) rfl rfl (by kernel_rfl) (by kernel_rfl) (by kernel_rfl) (by kernel_rfl) (fun _ _ _ h => h) (Or.inl ⟨by rfl, ?hy9⟩) hS ?_
      case hy9 => (intro w hSw; (try dsimp only at hSw); go_simp; (try with_reducible rfl))
      try simp only [Act.put, List.setIfInBounds_toArray, List.set_cons_zero, List.set_cons_succ]
      refine wpAnyV_take (i := 10) (v := ?v10) (some 26) rfl rfl (by kernel_rfl) (by kernel_rfl) (by kernel_rfl) (by kernel_rfl) (fun _ _ _ h => h) (Or.inl ⟨by rfl, ?hy10⟩) hS ?_
      case hy10 => (intro w hSw; (try dsimp only at hSw); go_simp; (try with_reducible rfl))
      try simp only [Act.put, List.setIfInBounds_toArray, List.set_cons_zero, List.set_cons_succ]
      refine wpAnyV_take (i := 11) (v := ?v11) (some 27) rfl rfl (by kernel_rfl) (by kernel_rfl) (by kernel_rfl) (by kernel_rfl) (fun _ _ _ h => h) (Or.inl ⟨by rfl, ?hy11⟩) hS ?_
      case hy11 => (intro w hSw; (try dsimp only at hSw); go_simp; (try with_reducible rfl))
      try simp only [Act.put, List.setIfInBounds_toArray, List.set_cons_zero, List.set_cons_succ]
      refine wpAnyV_take (i := 12) (v := ?v12) (some 28) rfl rfl (by kernel_rfl) (by kernel_rfl) (by kernel_rfl) (by kernel_rfl) (fun _ _ _ h => h) (Or.inl ⟨by rfl, ?hy12⟩) hS ?_
      case hy12 => (intro w hSw; (try dsimp only at hSw); go_simp; (try with_reducible rfl))
      try simp only [Act.put, List.setIfInBounds_toArray, List.set_cons_zero, List.set_cons_succ]
      refine wpAnyV_take (i := 13) (v := ?v13) (some 29) rfl rfl (by kernel_rfl) (by kernel_rfl) (by kernel_rfl) (by kernel_rfl) (fun _ _ _ h => h) (Or.inl ⟨by rfl, ?hy13⟩) hS ?_
      case hy13 => (intro w hSw; (try dsimp only at hSw); go_simp; (try with_reducible rfl))
      try simp only [Act.put, List.setIfInBounds_toArray, List.set_cons_zero, List.set_cons_succ]
      refine wpAnyV_one (i := 14) (by kernel_rfl) rfl (fun K hK => ?_)
      go_simp
      refine (l1Copy_any _ ps[k].bs _ HM1.out (by exact HRD.out.same (Kept.refl _ _).drew)).mono ?_
      rintro e w2 ⟨a4, n4, c4, rfl, ho4, hf4, hk4⟩
      have HK4 : Hid (Same wr w2) := (Kept.refl _ _).drew.trans hk4
      have HO4 := (show Hid (Own 0 5 .u8 w2 (.slice a4 n4 c4) ps[k].bs) from ho4)
      have HF4 : Hid (∀ b, (Value.slice a4 n4 c4).ownBlock = some b → wr.heap.size ≤ b) := hf4
      have y1 := HK4.out.cellOf x2 id
      have y2 := HK4.out.cellOf o2 id
      have y3 := HK4.out.cellOf q1 id
      have y4 := HK4.out.cellOf q2 id
      have y5 := (HX.out.same HK4.out).2.2.2
      have y6 : ∀ o, (w2.alloc o).frozen? ⟨w1.heap.size, 1, none⟩ = false := fun o => ((HX.out.same HK4.out).next o).2.2.2
      have z1 := World.block_lt_of_cell? w2 _ y1
      have z2 := World.block_lt_of_cell? w2 _ y2
      have z3 := World.block_lt_of_cell? w2 _ y3
      clear ho4 hf4 hk4
      go_wp2_with fail
      have hS2 : (fun w' => w'.cell? ⟨w1.heap.size, 1, none⟩ = some (.slice aa na ca) ∧ w'.cell? ⟨w.heap.size, 1, none⟩ = some (.slice (some ⟨b, off, none⟩) ps.length c2) ∧ w'.cell? ⟨b, off + k * 2, none⟩ = some (.int .i64 ps[k].sec) ∧ w'.cell? ⟨b, off + k * 2 + 1, none⟩ = some (.slice a3 ps[k].bs.length c3) ∧ w'.frozen? ⟨w1.heap.size, 1, none⟩ = false) w2 := by go_keep
      refine hK.out _ _ (fun _ => hS2) ?_
      clear hK K
      try simp only [Act.put, List.setIfInBounds_toArray, List.set_cons_zero, List.set_cons_succ]
      refine wpAnyV_take (i := 15) (v := ?v15) (some 31) rfl rfl (by kernel_rfl) (by kernel_rfl) (by kernel_rfl) (by kernel_rfl) (fun _ _ _ h => h) (Or.inl ⟨by rfl, ?hy15⟩) hS2 ?_
      case hy15 => (intro w hSw; (try dsimp only at hSw); go_simp; (try with_reducible rfl))
      try simp only [Act.put, List.setIfInBounds_toArray, List.set_cons_zero, List.set_cons_succ]
      refine wpAnyV_one (i := 16) (by kernel_rfl) rfl (fun K hK => ?_)
      go_simp
      have hS3 : (fun w' => w'.cell? ⟨w1.heap.size, 1, none⟩ = some (.slice aa na ca) ∧ w'.cell? ⟨w.heap.size, 1, none⟩ = some (.slice (some ⟨b, off, none⟩) ps.length c2) ∧ w'.cell? ⟨b, off + k * 2, none⟩ = some (.int .i64 ps[k].sec) ∧ w'.cell? ⟨b, off + k * 2 + 1, none⟩ = some (.slice a3 ps[k].bs.length c3) ∧ w'.frozen? ⟨w1.heap.size, 1, none⟩ = false) (w2.alloc (.cells #[.int .i64 ps[k].sec, .slice a4 n4 c4] 65)) := by go_keep
      refine hK.out _ _ (fun _ => hS3) ?_
      clear hK K
      try simp only [Act.put, List.setIfInBounds_toArray, List.set_cons_zero, List.set_cons_succ]
      refine wpAnyV_one (i := 17) (by kernel_rfl) rfl (fun K hK => ?_)
      refine step_append_lies _ (by rfl) (.tmp 17) (.tmp 32) 28 (by rfl) 0 65 i0 _ 2 32 Try.underlying28 hi hz0 hz1 hz2 rfl (by omega) (.slice aa na ca) k (pwCells qs) (by rfl) (by exact HKO.out w2 HK4.out _) ⟨w2.heap.size, 0, none⟩ 1 1 [.int .i64 ps[k].sec, .slice a4 n4 c4] (by rfl) (by rfl) (World.news_of_block (cs := #[.int .i64 ps[k].sec, .slice a4 n4 c4]) (t := 65) (fr := (0, 0)) (heap_alloc_new w2 _)) (by simp [Value.oneCell']) (by omega) (by unfold maxLen; omega) (by omega) (Nat.zero_le _) (w2.heap.size + 1) (by simp) ?_
      intro g5 cap5 w3 hown5 hgrow5 hat5 hlt5
      have hk5 : Kept (fun b => (Value.slice aa na ca).ownBlock = some b) w2 w3 := ((Kept.refl _ _).alloc _).trans (Kept.of_grown hgrow5 (fun k e => e))
      have n1 : ¬ (Value.slice aa na ca).ownBlock = some w1.heap.size := (fun e => absurd (HFP.out _ (.inl e)) (by omega))
      have n2 : ¬ (Value.slice aa na ca).ownBlock = some w.heap.size := (fun e => absurd (HFP.out _ (.inl e)) (by omega))
      have n3 : ¬ (Value.slice aa na ca).ownBlock = some b := (fun e => absurd (HFP.out _ (.inl e)) (by omega))
      have y11 := hk5.cellOf y1 n1
      have y12 := hk5.cellOf y2 n2
      have y13 := hk5.cellOf y3 n3
      have y14 := hk5.cellOf y4 n3
      have y15 := ((HX.out.same HK4.out).kept hk5 n1).2.2.2
      have HOWN5 := (show Hid (w3.ownsRow 0 65 2 (.slice (some ⟨g5, 0, none⟩) (k + 1) cap5) (k + 1) (pwCells qs ++ [.int .i64 ps[k].sec, .slice a4 n4 c4])) from hown5)
      have HG5 := (show Hid ((w2.alloc (.cells #[.int .i64 ps[k].sec, .slice a4 n4 c4] 65)).grownBy w3 (Value.slice aa na ca).ownBlock) from hgrow5)
      have HAT5 : Hid ((Value.slice aa na ca).ownBlock = some g5 ∨ g5 = w2.heap.size + 1) := hat5
      have HK5 := (show Hid (Kept (fun b => (Value.slice aa na ca).ownBlock = some b) w2 w3) from hk5)
      clear hown5 hgrow5 hat5 hk5 n1 n2 n3 y1 y2 y3 y4 y5 y6
      have hS4 : (fun w' => w'.cell? ⟨w1.heap.size, 1, none⟩ = some (.slice aa na ca) ∧ w'.cell? ⟨w.heap.size, 1, none⟩ = some (.slice (some ⟨b, off, none⟩) ps.length c2) ∧ w'.cell? ⟨b, off + k * 2, none⟩ = some (.int .i64 ps[k].sec) ∧ w'.cell? ⟨b, off + k * 2 + 1, none⟩ = some (.slice a3 ps[k].bs.length c3) ∧ w'.frozen? ⟨w1.heap.size, 1, none⟩ = false) w3 := by go_keep
      refine hK.out _ _ (fun _ => hS4) ?_
      clear hK K
      try simp only [Act.put, List.setIfInBounds_toArray, List.set_cons_zero, List.set_cons_succ]
      refine wpAnyV_take (i := 18) (v := ?v18) (some 34) rfl rfl (by kernel_rfl) (by kernel_rfl) (by kernel_rfl) (by kernel_rfl) (fun _ _ _ h => h) (Or.inl ⟨by rfl, ?hy18⟩) hS4 ?_
      case hy18 => (intro w hSw; (try dsimp only at hSw); go_simp; (try with_reducible rfl))
      try simp only [Act.put, List.setIfInBounds_toArray, List.set_cons_zero, List.set_cons_succ]
      refine wpAnyV_one (i := 19) (by kernel_rfl) rfl (fun K hK => ?_)
      go_simp
      refine hK.out _ _ (fun h => absurd rfl h) ?_
      clear hK K
      refine wpAnyV_done (by kernel_rfl) ?_
      try simp only [Act.put, List.setIfInBounds_toArray, List.set_cons_zero, List.set_cons_succ]
      have el : w2.heap.size + 1 = (w2.alloc (.cells #[.int .i64 ps[k].sec, .slice a4 n4 c4] 65)).heap.size := by simp
      have hrl : w1.heap.size < wr.heap.size := HX.out.lt
      have h2l : wr.heap.size ≤ w2.heap.size := HK4.out.size
      have hsnoc := OwnP.snoc (sec := ps[k].sec) (bs := ps[k].bs) ((HOP.out.same HK4.out).same ((Kept.refl _ _).alloc _)) (HO4.out.same ((Kept.refl _ _).alloc _)) (fun b hb hf => by have h1 := HF4.out b hb; have h2 := (HOP.out.lt b hf).2; omega) HG5.out HOWN5.out HQL.out.symm (by rw [← el]; exact HAT5.out)
      have HN : Hid (∀ b, footP (.slice (some ⟨g5, 0, none⟩) (k + 1) cap5) (qs ++ [⟨ps[k].sec, .slice a4 n4 c4, ps[k].bs⟩]) b → w1.heap.size < b) := fun b hb => by
        rcases footP_snoc (v := .slice aa na ca) b hb with rfl | hb | hb
        · rcases HAT5.out with h | h
          · exact HFP.out _ (.inl h)
          · omega
        · exact HFP.out b hb
        · have := HF4.out b hb; omega
      have HO6 := (show Hid (OwnP 0 65 5 (w3.setCell ⟨w1.heap.size, 1, none⟩ (.slice (some ⟨g5, 0, none⟩) (k + 1) cap5)) (.slice (some ⟨g5, 0, none⟩) (k + 1) cap5) (qs ++ [⟨ps[k].sec, .slice a4 n4 c4, ps[k].bs⟩])) from
        hsnoc.kept (Kept.setCell (Kept.refl (fun b => b = w1.heap.size) w3) (p := ⟨w1.heap.size, 1, none⟩) (.inr rfl) _) (fun b hb e => by have := HN.out b hb; omega))
      have hrow : ¬ (Value.slice aa na ca).ownBlock = some w1.heap.size := fun e => by have := HFP.out _ (.inl e); omega
      have HX6 : Hid (FBox (w3.setCell ⟨w1.heap.size, 1, none⟩ (.slice (some ⟨g5, 0, none⟩) (k + 1) cap5)) w1.heap.size (.slice a n c) (.slice (some ⟨g5, 0, none⟩) (k + 1) cap5)) := ((HX.out.same HK4.out).kept HK5.out hrow).set1 _
      have HK6 : Hid (Same w1 (w3.setCell ⟨w1.heap.size, 1, none⟩ (.slice (some ⟨g5, 0, none⟩) (k + 1) cap5))) :=
        Kept.setCell ((HKr.out.trans HK4.out).next HK5.out (fun b hb e => by have := HFP.out _ (.inl e); omega)) (p := ⟨w1.heap.size, 1, none⟩) (.inl (Nat.le_refl _)) _
      clear hsnoc hrow el
      go_wp2
      go_roundw
      case rel =>
        refine ⟨k + 1, some ⟨g5, 0, none⟩, k + 1, cap5, qs ++ [⟨ps[k].sec, .slice a4 n4 c4, ps[k].bs⟩], by omega, by go_num, ?_, ?_, HX6, HN, HO6, HK6⟩
        · have := HQL.out; simp [Hid, this]
        · have h1 := HQ.out
          unfold Hid
          rw [List.take_succ_eq_append_getElem hlt]
          simp only [dataP, List.map_append] at h1 ⊢
          rw [h1]; rfl
      case measure => simp [intOf]; omega
    · obtain ⟨x1, x2, _, _⟩ := HX.out
      obtain ⟨p1, p2, p3, p4⟩ := HB1.out.same HKr.out
      have hrl : w1.heap.size < wr.heap.size := HX.out.lt
      go_wp2
      obtain rfl : k = ps.length := by omega
      have hq := HQ.out
      rw [List.take_length] at hq
      have hfr : ∀ b, footD (.slice a n c) (.slice aa na ca) qs b → w.heap.size + 1 < b := fun b hb => by
        rcases hb with hb | hb
        · exact (HF.out b hb).1
        · have := HFP.out b hb; omega
      refine bodyPost_ret (v := .agg #[.slice a n c, .slice aa na ca]) (by simp [results, Try.results48, go_sem, p1, p2]) rfl ⟨a, n, c, aa, na, ca, qs, rfl, hq, fun b hb => by have := hfr b hb; omega, ?_, ?_⟩
      · refine OwnD.kept (R := fun b => b = w.heap.size + 1) ⟨HO.out.same HKr.out, HOP.out, fun b hb e => by have h1 := HFP.out b hb; have h2 := (HF.out b e).2; omega⟩ ?_ (fun b hb e => by have := hfr b hb; omega)
        exact Kept.setTwo (Kept.refl (fun b => b = w.heap.size + 1) _) (.inr rfl) _ _
      · exact (HK.out.trans HKr.out).setTwo (.inl (by simp)) _ _

set_option maxRecDepth 100000 in
set_option maxHeartbeats 3000000 in
theorem cloneDisk_any (dv pv : Value) (dur : List Int) (ps : List PW) (w : World) (hd : dur.length ≤ 1099511627776) (hn : ps.length ≤ 1073741824) (hs : ∀ p ∈ ps, p.bs.length ≤ 1099511627776) (hv : RdD w dv pv dur ps) :
    Calls Try.prog 50 #[.agg #[dv, pv]] w fun e w' => ∃ a n c a' n' c' qs, e = .returned (.agg #[.slice a n c, .slice a' n' c']) ∧ dataP qs = dataP ps ∧
      (∀ b, footD (.slice a n c) (.slice a' n' c') qs b → w.heap.size ≤ b) ∧ OwnD 0 65 5 w' (.slice a n c) (.slice a' n' c') dur qs ∧ Same w w' := by
  obtain ⟨a1, c1, rfl⟩ := hv.dur.form
  obtain ⟨a2, c2, e2⟩ := hv.pend.form
  obtain ⟨i0, hi, hz0, hz1, hz2⟩ := info_parts Try.infoSW
  have HP : Hid (RdP w pv ps) := hv.pend
  have HR : Hid (Rd .u8 w (.slice a1 dur.length c1) dur) := hv.dur
  have HS : Hid (∀ p ∈ ps, p.bs.length ≤ 1099511627776) := hs
  subst e2
  clear hv hs
  go_enter Try.func50, Try.ntmps50
  go_wp2_with fail
  refine (clone_any _ dur _ hd (HR.out.same (((Kept.refl _ _).alloc _).alloc _))).mono ?_
  rintro e w1 ⟨a, n, c, rfl, ho, hf, hk⟩
  simp only [World.size_alloc] at hf
  have b0 := ((FBox.new w (.slice a1 dur.length c1) (.slice a2 ps.length c2) 30).next _).same hk
  have b1 := (FBox.new (w.alloc (.cells #[.slice a1 dur.length c1, .slice a2 ps.length c2] 30)) (.slice none 0 0) (.slice none 0 0) 30).same hk
  simp only [World.size_alloc] at b1
  have HB0 : Hid (FBox w1 w.heap.size (.slice a1 dur.length c1) (.slice a2 ps.length c2)) := b0
  have HB1 : Hid (FBox w1 (w.heap.size + 1) (.slice none 0 0) (.slice none 0 0)) := b1
  have HO := (show Hid (Own 0 5 .u8 w1 (.slice a n c) dur) from ho)
  have HF : Hid (∀ b, (Value.slice a n c).ownBlock = some b → w.heap.size + 1 < b ∧ b < w1.heap.size) := fun b hb => ⟨by have := hf b hb; omega, (ho.lt b hb).2⟩
  have HK : Hid (Same w w1) := (((Kept.refl _ _).alloc _).alloc _).trans hk
  have hz1' : w.heap.size + 1 < w1.heap.size := b1.lt
  clear ho hf hk b0 b1
  obtain ⟨i1, i2, _, _⟩ := HB0.out
  have hwl := HB0.out.lt
  go_wp2
  clear i1 i2
  have hw1 : w.heap.size < w1.heap.size := by omega
  go_loopw [13] (fun i wr => ∃ (k : Nat) (aa : Option Addr) (na ca : Nat) (qs : List PW), k ≤ ps.length ∧ i = .int .i64 k ∧ Hid (qs.length = k) ∧ Hid (dataP qs = dataP (ps.take k)) ∧ Hid (FBox wr w1.heap.size (.slice a n c) (.slice aa na ca)) ∧
      Hid (∀ b, footP (.slice aa na ca) qs b → w1.heap.size < b) ∧ Hid (OwnP 0 65 5 wr (.slice aa na ca) qs) ∧ Hid (Same w1 wr)) (fun i _ => ps.length - (intOf i).toNat)
  case atStart => exact ⟨0, none, 0, 0, [], Nat.zero_le _, rfl, rfl, rfl, FBox.new _ _ _ _, fun b hb => absurd hb (footP_nil b), OwnP.nil _ _ _ _, (Kept.refl _ _).alloc _⟩
  case round =>
    obtain ⟨k, aa, na, ca, qs, hk, rfl, HQL, HQ, HX, HFP, HOP, HKr⟩ := hrel
    obtain ⟨o1, o2, _, _⟩ := HB0.out.same HKr.out
    by_cases hlt : k < ps.length
    · obtain ⟨b, off, rfl, hc⟩ : ∃ b off, a2 = some ⟨b, off, none⟩ ∧ ∀ i (h : i < ps.length), w.cell? ⟨b, off + i * 2, none⟩ = some (.int .i64 ps[i].sec) ∧ w.cell? ⟨b, off + i * 2 + 1, none⟩ = some ps[i].v := by
        rcases HP.out.row with ⟨rfl, _⟩ | ⟨b, off, c, e, hc⟩
        · simp at hlt
        · simp only [Value.slice.injEq, true_and] at e
          obtain ⟨rfl, rfl⟩ := e
          exact ⟨b, off, rfl, hc⟩
      obtain ⟨a3, c3, ev⟩ := (HP.out.data _ (List.getElem_mem hlt)).form
      have hrd := (HP.out.data _ (List.getElem_mem hlt)).same (HK.out.trans HKr.out)
      have hm1 := HS.out _ (List.getElem_mem hlt)
      have q1 := (HK.out.trans HKr.out).cellOf (hc k hlt).1 id
      have q2 := (HK.out.trans HKr.out).cellOf (hc k hlt).2 id
      rw [ev] at q2 hrd
      have HRD := (show Hid (Rd .u8 wr (.slice a3 ps[k].bs.length c3) ps[k].bs) from hrd)
      have HM1 : Hid (ps[k].bs.length ≤ 1099511627776) := hm1
      have hbw : b < w.heap.size := World.block_lt_of_cell? w _ (hc k hlt).1
      clear ev hrd hc hm1
      obtain ⟨x1, x2, x3, x4⟩ := HX.out
      have hki : (k : Int) < (ps.length : Int) := by omega
      have hk0 : (0 : Int) ≤ (k : Int) := by omega
      have HKO : Hid (∀ wx, Same wr wx → ∀ o, (wx.alloc o).ownsRow 0 65 2 (.slice aa na ca) k (pwCells qs)) := fun wx hx o => by have h := ((HOP.out.same hx).same ((Kept.refl _ _).alloc o)).row; rwa [HQL.out] at h
      have hrl0 : w1.heap.size < wr.heap.size := HX.out.lt
      have HXa := (show Hid (FBox (wr.alloc (.cells #[.int .i64 ps[k].sec, .slice a3 ps[k].bs.length c3] 65)) w1.heap.size (.slice a n c) (.slice aa na ca)) from HX.out.next _)
      have HKa := (show Hid (Same wr (wr.alloc (.cells #[.int .i64 ps[k].sec, .slice a3 ps[k].bs.length c3] 65))) from (Kept.refl _ _).alloc _)
      have HBa := (show Hid (FBox (wr.alloc (.cells #[.int .i64 ps[k].sec, .slice a3 ps[k].bs.length c3] 65)) wr.heap.size (.int .i64 ps[k].sec) (.slice a3 ps[k].bs.length c3)) from FBox.new _ _ _ _)
      have xx := HXa.out.2.2.2
      go_wp2_with fail
      have hS : (fun w' => w'.cell? ⟨w1.heap.size, 1, none⟩ = some (.slice aa na ca) ∧ w'.cell? ⟨wr.heap.size, 0, none⟩ = some (.int .i64 ps[k].sec) ∧ w'.cell? ⟨wr.heap.size, 1, none⟩ = some (.slice a3 ps[k].bs.length c3) ∧ w'.frozen? ⟨w1.heap.size, 1, none⟩ = false) (wr.alloc (.cells #[.int .i64 ps[k].sec, .slice a3 ps[k].bs.length c3] 65)).drew := by go_keep
      refine wp_region_V (fun w' => w'.cell? ⟨w1.heap.size, 1, none⟩ = some (.slice aa na ca) ∧ w'.cell? ⟨wr.heap.size, 0, none⟩ = some (.int .i64 ps[k].sec) ∧ w'.cell? ⟨wr.heap.size, 1, none⟩ = some (.slice a3 ps[k].bs.length c3) ∧ w'.frozen? ⟨w1.heap.size, 1, none⟩ = false) 11 12 rfl (by kernel_rfl) ?_
      refine wpAnyV_take (i := 0) (v := ?v0) (some 17) rfl rfl (by kernel_rfl) (by kernel_rfl) (by kernel_rfl) (by kernel_rfl) (fun _ _ _ h => h) (Or.inl ⟨by rfl, ?hy0⟩) hS ?_
      case hy0 => (intro w hSw; (try dsimp only at hSw); go_simp; (try with_reducible rfl))
      try simp only [Act.put, List.setIfInBounds_toArray, List.set_cons_zero, List.set_cons_succ]
      refine wpAnyV_take (i := 1) (v := ?v1) (some 18) rfl rfl (by kernel_rfl) (by kernel_rfl) (by kernel_rfl) (by kernel_rfl) (fun _ _ _ h => h) (Or.inl ⟨by rfl, ?hy1⟩) hS ?_
      case hy1 => (intro w hSw; (try dsimp only at hSw); go_simp; (try with_reducible rfl))
      try simp only [Act.put, List.setIfInBounds_toArray, List.set_cons_zero, List.set_cons_succ]
      refine wpAnyV_take (i := 2) (v := ?v2) (some 19) rfl rfl (by kernel_rfl) (by kernel_rfl) (by kernel_rfl) (by kernel_rfl) (fun _ _ _ h => h) (Or.inl ⟨by rfl, ?hy2⟩) hS ?_
      case hy2 => (intro w hSw; (try dsimp only at hSw); go_simp; (try with_reducible rfl))
      try simp only [Act.put, List.setIfInBounds_toArray, List.set_cons_zero, List.set_cons_succ]
      refine wpAnyV_take (i := 3) (v := ?v3) (some 20) rfl rfl (by kernel_rfl) (by kernel_rfl) (by kernel_rfl) (by kernel_rfl) (fun _ _ _ h => h) (Or.inl ⟨by rfl, ?hy3⟩) hS ?_
      case hy3 => (intro w hSw; (try dsimp only at hSw); go_simp; (try with_reducible rfl))
      try simp only [Act.put, List.setIfInBounds_toArray, List.set_cons_zero, List.set_cons_succ]
      refine wpAnyV_take (i := 4) (v := ?v4) (some 21) rfl rfl (by kernel_rfl) (by kernel_rfl) (by kernel_rfl) (by kernel_rfl) (fun _ _ _ h => h) (Or.inl ⟨by rfl, ?hy4⟩) hS ?_
      case hy4 => (intro w hSw; (try dsimp only at hSw); go_simp; (try with_reducible rfl))
      try simp only [Act.put, List.setIfInBounds_toArray, List.set_cons_zero, List.set_cons_succ]
      refine wpAnyV_take (i := 5) (v := ?v5) (some 22) rfl rfl (by kernel_rfl) (by kernel_rfl) (by kernel_rfl) (by kernel_rfl) (fun _ _ _ h => h) (Or.inl ⟨by rfl, ?hy5⟩) hS ?_
      case hy5 => (intro w hSw; (try dsimp only at hSw); go_simp; (try with_reducible rfl))
      try simp only [Act.put, List.setIfInBounds_toArray, List.set_cons_zero, List.set_cons_succ]
      refine wpAnyV_one (i := 6) (by kernel_rfl) rfl (fun K hK => ?_)
      go_simp
      refine (clone_any _ ps[k].bs _ HM1.out (by exact (HRD.out.same HKa.out).same (Kept.refl _ _).drew)).mono ?_
      rintro e w2 ⟨a4, n4, c4, rfl, ho4, hf4, hk4⟩
      have HKb := (show Hid (Same (wr.alloc (.cells #[.int .i64 ps[k].sec, .slice a3 ps[k].bs.length c3] 65)) w2) from (Kept.refl _ _).drew.trans hk4)
      have HK4 : Hid (Same wr w2) := HKa.out.trans HKb.out
      have HO4 := (show Hid (Own 0 5 .u8 w2 (.slice a4 n4 c4) ps[k].bs) from ho4)
      have HF4 : Hid (∀ b, (Value.slice a4 n4 c4).ownBlock = some b → wr.heap.size ≤ b) := fun b hb => (by have h1 := hf4 b hb; simp at h1; omega)
      obtain ⟨_, y1, _, y5⟩ := HX.out.same HK4.out
      obtain ⟨y2, y3, _, _⟩ := HBa.out.same HKb.out
      have y6 : ∀ o, (w2.alloc o).frozen? ⟨w1.heap.size, 1, none⟩ = false := fun o => ((HX.out.same HK4.out).next o).2.2.2
      have z1 := World.block_lt_of_cell? w2 _ y1
      have z2 := World.block_lt_of_cell? w2 _ y2
      clear ho4 hf4 hk4
      go_wp2_with fail
      have hS2 : (fun w' => w'.cell? ⟨w1.heap.size, 1, none⟩ = some (.slice aa na ca) ∧ w'.cell? ⟨wr.heap.size, 0, none⟩ = some (.int .i64 ps[k].sec) ∧ w'.cell? ⟨wr.heap.size, 1, none⟩ = some (.slice a3 ps[k].bs.length c3) ∧ w'.frozen? ⟨w1.heap.size, 1, none⟩ = false) w2 := by go_keep
      refine hK.out _ _ (fun _ => hS2) ?_
      clear hK K
      try simp only [Act.put, List.setIfInBounds_toArray, List.set_cons_zero, List.set_cons_succ]
      refine wpAnyV_take (i := 7) (v := ?v7) (some 24) rfl rfl (by kernel_rfl) (by kernel_rfl) (by kernel_rfl) (by kernel_rfl) (fun _ _ _ h => h) (Or.inl ⟨by rfl, ?hy7⟩) hS2 ?_
      case hy7 => (intro w hSw; (try dsimp only at hSw); go_simp; (try with_reducible rfl))
      try simp only [Act.put, List.setIfInBounds_toArray, List.set_cons_zero, List.set_cons_succ]
      refine wpAnyV_one (i := 8) (by kernel_rfl) rfl (fun K hK => ?_)
      go_simp
      have hS3 : (fun w' => w'.cell? ⟨w1.heap.size, 1, none⟩ = some (.slice aa na ca) ∧ w'.cell? ⟨wr.heap.size, 0, none⟩ = some (.int .i64 ps[k].sec) ∧ w'.cell? ⟨wr.heap.size, 1, none⟩ = some (.slice a3 ps[k].bs.length c3) ∧ w'.frozen? ⟨w1.heap.size, 1, none⟩ = false) (w2.alloc (.cells #[.int .i64 ps[k].sec, .slice a4 n4 c4] 65)) := by go_keep
      refine hK.out _ _ (fun _ => hS3) ?_
      clear hK K
      try simp only [Act.put, List.setIfInBounds_toArray, List.set_cons_zero, List.set_cons_succ]
      refine wpAnyV_one (i := 9) (by kernel_rfl) rfl (fun K hK => ?_)
      refine step_append_lies _ (by rfl) (.tmp 18) (.tmp 25) 28 (by rfl) 0 65 i0 _ 2 32 Try.underlying28 hi hz0 hz1 hz2 rfl (by omega) (.slice aa na ca) k (pwCells qs) (by rfl) (by exact HKO.out w2 HK4.out _) ⟨w2.heap.size, 0, none⟩ 1 1 [.int .i64 ps[k].sec, .slice a4 n4 c4] (by rfl) (by rfl) (World.news_of_block (cs := #[.int .i64 ps[k].sec, .slice a4 n4 c4]) (t := 65) (fr := (0, 0)) (heap_alloc_new w2 _)) (by simp [Value.oneCell']) (by omega) (by unfold maxLen; omega) (by omega) (Nat.zero_le _) (w2.heap.size + 1) (by simp) ?_
      intro g5 cap5 w3 hown5 hgrow5 hat5 hlt5
      have hk5 : Kept (fun b => (Value.slice aa na ca).ownBlock = some b) w2 w3 := ((Kept.refl _ _).alloc _).trans (Kept.of_grown hgrow5 (fun k e => e))
      have n1 : ¬ (Value.slice aa na ca).ownBlock = some w1.heap.size := (fun e => absurd (HFP.out _ (.inl e)) (by omega))
      have n2 : ¬ (Value.slice aa na ca).ownBlock = some wr.heap.size := (fun e => absurd (HOP.out.lt _ (.inl e)).2 (by omega))
      have y11 := hk5.cellOf y1 n1
      have y12 := hk5.cellOf y2 n2
      have y13 := hk5.cellOf y3 n2
      have y15 := ((HX.out.same HK4.out).kept hk5 n1).2.2.2
      have HOWN5 := (show Hid (w3.ownsRow 0 65 2 (.slice (some ⟨g5, 0, none⟩) (k + 1) cap5) (k + 1) (pwCells qs ++ [.int .i64 ps[k].sec, .slice a4 n4 c4])) from hown5)
      have HG5 := (show Hid ((w2.alloc (.cells #[.int .i64 ps[k].sec, .slice a4 n4 c4] 65)).grownBy w3 (Value.slice aa na ca).ownBlock) from hgrow5)
      have HAT5 : Hid ((Value.slice aa na ca).ownBlock = some g5 ∨ g5 = w2.heap.size + 1) := hat5
      have HK5 := (show Hid (Kept (fun b => (Value.slice aa na ca).ownBlock = some b) w2 w3) from hk5)
      clear hown5 hgrow5 hat5 hk5 n1 n2 y1 y2 y3 y5 y6
      have hS4 : (fun w' => w'.cell? ⟨w1.heap.size, 1, none⟩ = some (.slice aa na ca) ∧ w'.cell? ⟨wr.heap.size, 0, none⟩ = some (.int .i64 ps[k].sec) ∧ w'.cell? ⟨wr.heap.size, 1, none⟩ = some (.slice a3 ps[k].bs.length c3) ∧ w'.frozen? ⟨w1.heap.size, 1, none⟩ = false) w3 := by go_keep
      refine hK.out _ _ (fun _ => hS4) ?_
      clear hK K
      try simp only [Act.put, List.setIfInBounds_toArray, List.set_cons_zero, List.set_cons_succ]
      refine wpAnyV_take (i := 10) (v := ?v10) (some 27) rfl rfl (by kernel_rfl) (by kernel_rfl) (by kernel_rfl) (by kernel_rfl) (fun _ _ _ h => h) (Or.inl ⟨by rfl, ?hy10⟩) hS4 ?_
      case hy10 => (intro w hSw; (try dsimp only at hSw); go_simp; (try with_reducible rfl))
      try simp only [Act.put, List.setIfInBounds_toArray, List.set_cons_zero, List.set_cons_succ]
      refine wpAnyV_one (i := 11) (by kernel_rfl) rfl (fun K hK => ?_)
      go_simp
      refine hK.out _ _ (fun h => absurd rfl h) ?_
      clear hK K
      refine wpAnyV_done (by kernel_rfl) ?_
      try simp only [Act.put, List.setIfInBounds_toArray, List.set_cons_zero, List.set_cons_succ]
      have el : w2.heap.size + 1 = (w2.alloc (.cells #[.int .i64 ps[k].sec, .slice a4 n4 c4] 65)).heap.size := by simp
      have hrl : w1.heap.size < wr.heap.size := HX.out.lt
      have h2l : wr.heap.size ≤ w2.heap.size := HK4.out.size
      have hsnoc := OwnP.snoc (sec := ps[k].sec) (bs := ps[k].bs) ((HOP.out.same HK4.out).same ((Kept.refl _ _).alloc _)) (HO4.out.same ((Kept.refl _ _).alloc _)) (fun b hb hf => by have h1 := HF4.out b hb; have h2 := (HOP.out.lt b hf).2; omega) HG5.out HOWN5.out HQL.out.symm (by rw [← el]; exact HAT5.out)
      have HN : Hid (∀ b, footP (.slice (some ⟨g5, 0, none⟩) (k + 1) cap5) (qs ++ [⟨ps[k].sec, .slice a4 n4 c4, ps[k].bs⟩]) b → w1.heap.size < b) := fun b hb => by
        rcases footP_snoc (v := .slice aa na ca) b hb with rfl | hb | hb
        · rcases HAT5.out with h | h
          · exact HFP.out _ (.inl h)
          · omega
        · exact HFP.out b hb
        · have := HF4.out b hb; omega
      have HO6 := (show Hid (OwnP 0 65 5 (w3.setCell ⟨w1.heap.size, 1, none⟩ (.slice (some ⟨g5, 0, none⟩) (k + 1) cap5)) (.slice (some ⟨g5, 0, none⟩) (k + 1) cap5) (qs ++ [⟨ps[k].sec, .slice a4 n4 c4, ps[k].bs⟩])) from
        hsnoc.kept (Kept.setCell (Kept.refl (fun b => b = w1.heap.size) w3) (p := ⟨w1.heap.size, 1, none⟩) (.inr rfl) _) (fun b hb e => by have := HN.out b hb; omega))
      have hrow : ¬ (Value.slice aa na ca).ownBlock = some w1.heap.size := fun e => by have := HFP.out _ (.inl e); omega
      have HX6 : Hid (FBox (w3.setCell ⟨w1.heap.size, 1, none⟩ (.slice (some ⟨g5, 0, none⟩) (k + 1) cap5)) w1.heap.size (.slice a n c) (.slice (some ⟨g5, 0, none⟩) (k + 1) cap5)) := ((HX.out.same HK4.out).kept HK5.out hrow).set1 _
      have HK6 : Hid (Same w1 (w3.setCell ⟨w1.heap.size, 1, none⟩ (.slice (some ⟨g5, 0, none⟩) (k + 1) cap5))) :=
        Kept.setCell ((HKr.out.trans HK4.out).next HK5.out (fun b hb e => by have := HFP.out _ (.inl e); omega)) (p := ⟨w1.heap.size, 1, none⟩) (.inl (Nat.le_refl _)) _
      clear hsnoc hrow el
      go_wp2
      go_roundw
      case rel =>
        refine ⟨k + 1, some ⟨g5, 0, none⟩, k + 1, cap5, qs ++ [⟨ps[k].sec, .slice a4 n4 c4, ps[k].bs⟩], by omega, by go_num, ?_, ?_, HX6, HN, HO6, HK6⟩
        · have := HQL.out; simp [Hid, this]
        · have h1 := HQ.out
          unfold Hid
          rw [List.take_succ_eq_append_getElem hlt]
          simp only [dataP, List.map_append] at h1 ⊢
          rw [h1]; rfl
      case measure => simp [intOf]; omega
    · obtain ⟨x1, x2, _, _⟩ := HX.out
      obtain ⟨p1, p2, p3, p4⟩ := HB1.out.same HKr.out
      have hrl : w1.heap.size < wr.heap.size := HX.out.lt
      go_wp2
      obtain rfl : k = ps.length := by omega
      have hq := HQ.out
      rw [List.take_length] at hq
      have hfr : ∀ b, footD (.slice a n c) (.slice aa na ca) qs b → w.heap.size + 1 < b := fun b hb => by
        rcases hb with hb | hb
        · exact (HF.out b hb).1
        · have := HFP.out b hb; omega
      refine bodyPost_ret (v := .agg #[.slice a n c, .slice aa na ca]) (by simp [results, Try.results50, go_sem, p1, p2]) rfl ⟨a, n, c, aa, na, ca, qs, rfl, hq, fun b hb => by have := hfr b hb; omega, ?_, ?_⟩
      · refine OwnD.kept (R := fun b => b = w.heap.size + 1) ⟨HO.out.same HKr.out, HOP.out, fun b hb e => by have h1 := HFP.out b hb; have h2 := (HF.out b e).2; omega⟩ ?_ (fun b hb e => by have := hfr b hb; omega)
        exact Kept.setTwo (Kept.refl (fun b => b = w.heap.size + 1) _) (.inr rfl) _ _
      · exact (HK.out.trans HKr.out).setTwo (.inl (by simp)) _ _
end Go.Proofs.Ytoibckbgiiggfai
