/-
  A write: spec.l1Put, (*impl.platter).write.
-/
import Derived.Test.YtoibckbgiiggfaiSyncSaid
import Derived.Deep.DeepCutAuto
namespace Go.Proofs.Ytoibckbgiiggfai
open Go.RowKit
set_option linter.unusedSimpArgs false

/-- A disk with room for one write more. -/
def roomD (dur : List Int) (ds : List (Int × List Int)) : List Int × List (Int × List Int) := if ds.length = 8192 then (settleN (fun _ => true) dur ds ds.length, []) else (dur, ds)
/-- A disk with one write more. -/
def putD (dur : List Int) (ds : List (Int × List Int)) (s : Int) (bs : List Int) : List Int × List (Int × List Int) := ((roomD dur ds).1, (roomD dur ds).2 ++ [(s, bs)])
theorem roomD_valid {dur : List Int} {ds : List (Int × List Int)} (h : Valid dur.length ds) : (roomD dur ds).1.length = dur.length ∧ (roomD dur ds).2.length < 8192 ∧ Valid dur.length (roomD dur ds).2 := by
  unfold roomD
  split
  · exact ⟨settleN_length _ _ _ h _ (Nat.le_refl _), by simp, ⟨h.1.1, h.1.2.1, h.1.2.2.1, Nat.zero_le _⟩, fun p hp => by simp at hp⟩
  · exact ⟨rfl, by have := h.1.2.2.2; simp only; omega, h⟩
theorem putD_valid {dur : List Int} {ds : List (Int × List Int)} {s : Int} {bs : List Int} (h : Valid dur.length ds) (h0 : 0 ≤ s) (h1 : s < (dur.length / 512 : Nat)) (hb : bs.length = 512) :
    (putD dur ds s bs).1.length = dur.length ∧ Valid dur.length (putD dur ds s bs).2 := by
  obtain ⟨r1, r2, r3⟩ := roomD_valid h
  refine ⟨r1, ⟨h.1.1, h.1.2.1, h.1.2.2.1, by simp [putD]; omega⟩, fun p hp => ?_⟩
  rcases List.mem_append.1 hp with hp | hp
  · exact r3.2 p hp
  · obtain rfl := List.mem_singleton.1 hp
    exact ⟨h0, h1, hb⟩

set_option maxRecDepth 100000 in
set_option maxHeartbeats 4000000 in
theorem l1Put_any (dv pv : Value) (dur : List Int) (ps : List PW) (s : Int) (v : Value) (bs : List Int) (w : World) (hd : dur.length ≤ 1099511627776) (hb : bs.length ≤ 1099511627776) (ho : OwnD 0 65 5 w dv pv dur ps) (hval : Valid dur.length (dataP ps)) (hv : Rd .u8 w v bs) :
    Calls Try.prog 49 #[.agg #[dv, pv], .int .i64 s, v] w fun e w' => ∃ a n c a' n' c' qs, e = .returned (.agg #[.slice a n c, .slice a' n' c']) ∧ dataP qs = (putD dur (dataP ps) s bs).2 ∧
      (∀ b, footD (.slice a n c) (.slice a' n' c') qs b → footD dv pv ps b ∨ w.heap.size ≤ b) ∧ OwnD 0 65 5 w' (.slice a n c) (.slice a' n' c') (putD dur (dataP ps) s bs).1 qs ∧ Kept (fun b => pv.ownBlock = some b) w w' := by
  obtain ⟨a1, n1, c1, rfl⟩ := slice_of_own ho.dur
  obtain ⟨a2, c2, rfl⟩ := ho.rd.pend.form
  obtain ⟨i0, hi, hz0, hz1, hz2⟩ := info_parts Try.infoSW
  obtain ⟨av, cv, rfl⟩ := hv.form
  have HRV := (show Hid (Rd .u8 w (.slice av bs.length cv) bs) from hv)
  have HO := (show Hid (OwnD 0 65 5 w (.slice a1 n1 c1) (.slice a2 ps.length c2) dur ps) from ho)
  have HV : Hid (Valid dur.length (dataP ps)) := hval
  have hpl : ps.length ≤ 8192 := by have := hval.1.2.2.2; rwa [dataP_length] at this
  clear hv ho hval
  go_enter Try.func49, Try.ntmps49
  go_upto_if 10 with fail
  go_cut [12] (fun _ wc => ∃ a3 n3 c3 a4 n4 c4 qs4, Hid (FBox wc w.heap.size (.slice a3 n3 c3) (.slice a4 n4 c4)) ∧ Hid (FBox wc (w.heap.size + 1) (.slice none 0 0) (.slice none 0 0)) ∧ Hid (dataP qs4 = (roomD dur (dataP ps)).2) ∧
    Hid (∀ b, footD (.slice a3 n3 c3) (.slice a4 n4 c4) qs4 b → footD (.slice a1 n1 c1) (.slice a2 ps.length c2) ps b ∨ w.heap.size + 1 < b) ∧ Hid (∀ b, (Value.slice a4 n4 c4).ownBlock = some b → (Value.slice a2 ps.length c2).ownBlock = some b ∨ w.heap.size + 1 < b) ∧ Hid (OwnD 0 65 5 wc (.slice a3 n3 c3) (.slice a4 n4 c4) (roomD dur (dataP ps)).1 qs4) ∧ Hid (Same w wc))
  case first =>
    by_cases hf : ps.length = 8192
    · have hfi : ((ps.length : Int) == 8192) = true := by simp [hf]
      have HRO : Hid (roomD dur (dataP ps) = (settleN (fun _ => true) dur (dataP ps) ps.length, [])) := by unfold Hid roomD; rw [dataP_length, if_pos hf]
      clear hf
      go_wp2_with fail
      refine (l1Settle_all _ _ dur ps _ hd (HO.out.rd.same (((Kept.refl _ _).alloc _).alloc _)) HV.out).mono ?_
      rintro e w2 ⟨a, n, c, rfl, hfr, ho2, hk2⟩
      simp only [World.size_alloc] at hfr
      have HX1 := (show Hid (FBox w2 w.heap.size (.slice a1 n1 c1) (.slice a2 ps.length c2)) from ((FBox.new _ _ _ _).next _).same hk2)
      have HX2 : Hid (FBox w2 (w.heap.size + 1) (.slice none 0 0) (.slice none 0 0)) := by have h := FBox.new (w.alloc (.cells #[.slice a1 n1 c1, .slice a2 ps.length c2] 30)) (.slice none 0 0) (.slice none 0 0) 30; rw [World.size_alloc] at h; exact h.same hk2
      have HK2 : Hid (Same w w2) := (((Kept.refl _ _).alloc _).alloc _).trans hk2
      have HO2 := (show Hid (Own 0 5 .u8 w2 (.slice a n c) (roomD dur (dataP ps)).1) from (by rw [HRO.out]; exact ho2))
      have HFR := (show Hid (∀ b, (Value.slice a n c).ownBlock = some b → w.heap.size + 1 < b) from fun b hb => by have := hfr b hb; omega)
      clear hfr ho2 hk2
      obtain ⟨x1, x2, x3, x4⟩ := HX1.out
      go_wp2_with fail
      go_meet
      case rel =>
        refine ⟨a, n, c, none, 0, 0, [], (HX1.out.set0 _).set1 _, (HX2.out.other _ (by simp) _).other _ (by simp) _, by rw [HRO.out]; rfl, fun b hb => .inr (HFR.out b (footD_dur hb)), fun b hb => by simp [Value.ownBlock] at hb, ?_, HK2.out.setTwo (.inl (Nat.le_refl _)) _ _⟩
        exact OwnD.kept (R := fun b => b = w.heap.size) (.ofDur HO2.out) (Kept.setTwo (Kept.refl (fun b => b = w.heap.size) _) (.inr rfl) _ _) (fun b hb e => by have := HFR.out b (footD_dur hb); omega)
    · have hfi : ((ps.length : Int) == 8192) = false := by simp; omega
      have HRO : Hid (roomD dur (dataP ps) = (dur, dataP ps)) := by unfold Hid roomD; rw [dataP_length, if_neg hf]
      clear hf
      go_wp2_with fail
      go_meet
      case rel =>
        refine ⟨a1, n1, c1, a2, ps.length, c2, ps, (FBox.new _ _ _ _).next _, ?_, by rw [HRO.out]; rfl, fun b hb => .inl hb, fun b hb => .inl hb, ?_, ((Kept.refl _ _).alloc _).alloc _⟩
        · have h := FBox.new (w.alloc (.cells #[.slice a1 n1 c1, .slice a2 ps.length c2] 30)) (.slice none 0 0) (.slice none 0 0) 30; rw [World.size_alloc] at h; exact h
        · rw [HRO.out]; exact HO.out.same (((Kept.refl _ _).alloc _).alloc _)
  case rest =>
    obtain ⟨a3, n3, c3, a4, n4, c4, qs4, HX, HX2, HQ, HF, HFP, HOC, HKC⟩ := hcut
    have hql : qs4.length < 8192 := by have := (roomD_valid HV.out).2.1; rw [← HQ.out, dataP_length] at this; exact this
    have HKO : Hid (∀ wx, Same wc wx → ∀ o, (wx.alloc o).ownsRow 0 65 2 (.slice a4 n4 c4) qs4.length (pwCells qs4)) := fun wx hx o => ((HOC.out.pend.same hx).same ((Kept.refl _ _).alloc o)).row
    have HNB : Hid (∀ b, footD (.slice a3 n3 c3) (.slice a4 n4 c4) qs4 b → b ≠ w.heap.size ∧ b ≠ w.heap.size + 1) := fun b hb => by
      rcases HF.out b hb with h | h
      · have := (HO.out.lt b h).2; omega
      · omega
    obtain ⟨_, x2, _, x4⟩ := HX.out
    go_wp2_with fail
    have hS : (fun w' => w'.cell? ⟨w.heap.size, 1, none⟩ = some (.slice a4 n4 c4) ∧ w'.frozen? ⟨w.heap.size, 1, none⟩ = false) wc.drew := by exact ⟨x2, x4⟩
    refine wp_region_V (fun w' => w'.cell? ⟨w.heap.size, 1, none⟩ = some (.slice a4 n4 c4) ∧ w'.frozen? ⟨w.heap.size, 1, none⟩ = false) 9 10 rfl (by kernel_rfl) ?_
    refine wpAnyV_take (i := 0) (v := ?vq4001) (some 13) rfl rfl (by kernel_rfl) (by kernel_rfl) (by kernel_rfl) (by kernel_rfl) (fun _ _ _ h => h) (Or.inl ⟨by rfl, ?hyq4001⟩) hS ?_
    case hyq4001 => (intro w hSw; (try dsimp only at hSw); go_simp; (try with_reducible rfl))
    try simp only [Act.put, List.setIfInBounds_toArray, List.set_cons_zero, List.set_cons_succ]
    refine wpAnyV_take (i := 1) (v := ?vq4002) (some 14) rfl rfl (by kernel_rfl) (by kernel_rfl) (by kernel_rfl) (by kernel_rfl) (fun _ _ _ h => h) (Or.inl ⟨by rfl, ?hyq4002⟩) hS ?_
    case hyq4002 => (intro w hSw; (try dsimp only at hSw); go_simp; (try with_reducible rfl))
    try simp only [Act.put, List.setIfInBounds_toArray, List.set_cons_zero, List.set_cons_succ]
    refine wpAnyV_take (i := 2) (v := ?vq4003) (some 15) rfl rfl (by kernel_rfl) (by kernel_rfl) (by kernel_rfl) (by kernel_rfl) (fun _ _ _ h => h) (Or.inl ⟨by rfl, ?hyq4003⟩) hS ?_
    case hyq4003 => (intro w hSw; (try dsimp only at hSw); go_simp; (try with_reducible rfl))
    try simp only [Act.put, List.setIfInBounds_toArray, List.set_cons_zero, List.set_cons_succ]
    refine wpAnyV_take (i := 3) (v := ?vq4004) (some 16) rfl rfl (by kernel_rfl) (by kernel_rfl) (by kernel_rfl) (by kernel_rfl) (fun _ _ _ h => h) (Or.inl ⟨by rfl, ?hyq4004⟩) hS ?_
    case hyq4004 => (intro w hSw; (try dsimp only at hSw); go_simp; (try with_reducible rfl))
    try simp only [Act.put, List.setIfInBounds_toArray, List.set_cons_zero, List.set_cons_succ]
    refine wpAnyV_one (i := 4) (by kernel_rfl) rfl (fun K hK => ?_)
    go_simp
    refine (l1Copy_any _ bs _ hb (by exact HRV.out.same (HKC.out.drew))).mono ?_
    rintro e w2 ⟨a5, n5, c5, rfl, ho5, hf5, hk5⟩
    have HK5 := (show Hid (Same wc w2) from (Kept.refl _ _).drew.trans hk5)
    have HO5 := (show Hid (Own 0 5 .u8 w2 (.slice a5 n5 c5) bs) from ho5)
    have HF5 := (show Hid (∀ b, (Value.slice a5 n5 c5).ownBlock = some b → wc.heap.size ≤ b) from hf5)
    obtain ⟨_, y2, _, y4⟩ := HX.out.same HK5.out
    have zB := (HX.out.same HK5.out).lt
    have y6 : ∀ o, (w2.alloc o).frozen? ⟨w.heap.size, 1, none⟩ = false := fun o => ((HX.out.same HK5.out).next o).2.2.2
    clear ho5 hf5 hk5
    go_wp2_with fail
    have hS2 : (fun w' => w'.cell? ⟨w.heap.size, 1, none⟩ = some (.slice a4 n4 c4) ∧ w'.frozen? ⟨w.heap.size, 1, none⟩ = false) w2 := by exact ⟨y2, y4⟩
    refine hK.out _ _ (fun _ => hS2) ?_
    clear hK K
    try simp only [Act.put, List.setIfInBounds_toArray, List.set_cons_zero, List.set_cons_succ]
    refine wpAnyV_take (i := 5) (v := ?vq4005) (some 18) rfl rfl (by kernel_rfl) (by kernel_rfl) (by kernel_rfl) (by kernel_rfl) (fun _ _ _ h => h) (Or.inl ⟨by rfl, ?hyq4005⟩) hS2 ?_
    case hyq4005 => (intro w hSw; (try dsimp only at hSw); go_simp; (try with_reducible rfl))
    try simp only [Act.put, List.setIfInBounds_toArray, List.set_cons_zero, List.set_cons_succ]
    refine wpAnyV_one (i := 6) (by kernel_rfl) rfl (fun K hK => ?_)
    go_simp
    have hS3 : (fun w' => w'.cell? ⟨w.heap.size, 1, none⟩ = some (.slice a4 n4 c4) ∧ w'.frozen? ⟨w.heap.size, 1, none⟩ = false) (w2.alloc (.cells #[.int .i64 s, .slice a5 n5 c5] 65)) := by go_keep
    refine hK.out _ _ (fun _ => hS3) ?_
    clear hK K
    try simp only [Act.put, List.setIfInBounds_toArray, List.set_cons_zero, List.set_cons_succ]
    refine wpAnyV_one (i := 7) (by kernel_rfl) rfl (fun K hK => ?_)
    refine step_append_lies _ (by rfl) (.tmp 14) (.tmp 19) 28 (by rfl) 0 65 i0 _ 2 32 Try.underlying28 hi hz0 hz1 hz2 rfl (by omega) (.slice a4 n4 c4) qs4.length (pwCells qs4) (by rfl) (by exact HKO.out w2 HK5.out _) ⟨w2.heap.size, 0, none⟩ 1 1 [.int .i64 s, .slice a5 n5 c5] (by rfl) (by rfl) (World.news_of_block (cs := #[.int .i64 s, .slice a5 n5 c5]) (t := 65) (fr := (0, 0)) (heap_alloc_new w2 _)) (by simp [Value.oneCell']) (by omega) (by unfold maxLen; omega) (by omega) (Nat.zero_le _) (w2.heap.size + 1) (by simp) ?_
    intro g6 cap6 w3 hown6 hgrow6 hat6 hlt6
    have hk6 : Kept (fun b => (Value.slice a4 n4 c4).ownBlock = some b) w2 w3 := ((Kept.refl _ _).alloc _).trans (Kept.of_grown hgrow6 (fun k e => e))
    have n1 : ¬ (Value.slice a4 n4 c4).ownBlock = some w.heap.size := (fun e => (HNB.out _ (.inr (.inl e))).1 rfl)
    obtain ⟨_, y11, _, y14⟩ := (HX.out.same HK5.out).kept hk6 n1
    have HOWN6 := (show Hid (w3.ownsRow 0 65 2 (.slice (some ⟨g6, 0, none⟩) (qs4.length + 1) cap6) (qs4.length + 1) (pwCells qs4 ++ [.int .i64 s, .slice a5 n5 c5])) from hown6)
    have HG6 := (show Hid ((w2.alloc (.cells #[.int .i64 s, .slice a5 n5 c5] 65)).grownBy w3 (Value.slice a4 n4 c4).ownBlock) from hgrow6)
    have HAT6 := (show Hid ((Value.slice a4 n4 c4).ownBlock = some g6 ∨ g6 = w2.heap.size + 1) from hat6)
    have HK6 := (show Hid (Kept (fun b => (Value.slice a4 n4 c4).ownBlock = some b) w2 w3) from hk6)
    clear hown6 hgrow6 hat6 hk6 n1
    have hS4 : (fun w' => w'.cell? ⟨w.heap.size, 1, none⟩ = some (.slice a4 n4 c4) ∧ w'.frozen? ⟨w.heap.size, 1, none⟩ = false) w3 := by exact ⟨y11, y14⟩
    refine hK.out _ _ (fun _ => hS4) ?_
    clear hK K
    try simp only [Act.put, List.setIfInBounds_toArray, List.set_cons_zero, List.set_cons_succ]
    refine wpAnyV_take (i := 8) (v := ?vq4006) (some 21) rfl rfl (by kernel_rfl) (by kernel_rfl) (by kernel_rfl) (by kernel_rfl) (fun _ _ _ h => h) (Or.inl ⟨by rfl, ?hyq4006⟩) hS4 ?_
    case hyq4006 => (intro w hSw; (try dsimp only at hSw); go_simp; (try with_reducible rfl))
    try simp only [Act.put, List.setIfInBounds_toArray, List.set_cons_zero, List.set_cons_succ]
    refine wpAnyV_one (i := 9) (by kernel_rfl) rfl (fun K hK => ?_)
    go_simp
    refine hK.out _ _ (fun h => absurd rfl h) ?_
    clear hK K
    refine wpAnyV_done (by kernel_rfl) ?_
    try simp only [Act.put, List.setIfInBounds_toArray, List.set_cons_zero, List.set_cons_succ]
    have el : w2.heap.size + 1 = (w2.alloc (.cells #[.int .i64 s, .slice a5 n5 c5] 65)).heap.size := by simp
    have hrl : w.heap.size + 1 < wc.heap.size := HX2.out.lt
    have h2l : wc.heap.size ≤ w2.heap.size := HK5.out.size
    have hsnoc := OwnP.snoc (sec := s) (bs := bs) ((HOC.out.pend.same HK5.out).same ((Kept.refl _ _).alloc _)) (HO5.out.same ((Kept.refl _ _).alloc _)) (fun b hb hf => by have h1 := HF5.out b hb; have h2 := (HOC.out.pend.lt b hf).2; omega) HG6.out HOWN6.out rfl (by rw [← el]; exact HAT6.out)
    have HN6 : Hid (∀ b, footP (.slice (some ⟨g6, 0, none⟩) (qs4.length + 1) cap6) (qs4 ++ [⟨s, .slice a5 n5 c5, bs⟩]) b → footP (.slice a4 n4 c4) qs4 b ∨ wc.heap.size ≤ b) := fun b hb => by
      rcases footP_snoc (v := .slice a4 n4 c4) b hb with rfl | hb | hb
      · rcases HAT6.out with h | h
        · exact .inl (.inl h)
        · exact .inr (by omega)
      · exact .inl hb
      · exact .inr (HF5.out b hb)
    have hD6 : Own 0 5 .u8 w3 (.slice a3 n3 c3) (roomD dur (dataP ps)).1 := (HOC.out.dur.same HK5.out).kept HK6.out (fun b hb e => HOC.out.apart b (.inl e) hb)
    have HOD := (show Hid (OwnD 0 65 5 w3 (.slice a3 n3 c3) (.slice (some ⟨g6, 0, none⟩) (qs4.length + 1) cap6) (roomD dur (dataP ps)).1 (qs4 ++ [⟨s, .slice a5 n5 c5, bs⟩])) from ⟨hD6, hsnoc, fun b hb hv => by
      rcases HN6.out b hb with h | h
      · exact HOC.out.apart b h hv
      · exact absurd (HOC.out.dur.lt b hv).2 (by omega)⟩)
    have HX3 := (show Hid (FBox w3 w.heap.size (.slice a3 n3 c3) (.slice a4 n4 c4)) from (HX.out.same HK5.out).kept HK6.out (fun e => (HNB.out _ (.inr (.inl e))).1 rfl))
    have HY3 := (show Hid (FBox w3 (w.heap.size + 1) (.slice none 0 0) (.slice none 0 0)) from (HX2.out.same HK5.out).kept HK6.out (fun e => (HNB.out _ (.inr (.inl e))).2 rfl))
    have HK3 := (show Hid (Kept (fun b => (Value.slice a2 ps.length c2).ownBlock = some b) w w3) from ((HKC.out.trans HK5.out).mono (fun _ _ h => h.elim)).next HK6.out (fun b hb e => by
      rcases HFP.out b e with h | h
      · exact h
      · omega))
    have HFD := (show Hid (∀ b, footD (.slice a3 n3 c3) (.slice (some ⟨g6, 0, none⟩) (qs4.length + 1) cap6) (qs4 ++ [⟨s, .slice a5 n5 c5, bs⟩]) b → (footD (.slice a1 n1 c1) (.slice a2 ps.length c2) ps b ∨ w.heap.size + 1 < b) ∧ b ≠ w.heap.size ∧ b ≠ w.heap.size + 1) from fun b hb => by
      have key : footD (.slice a3 n3 c3) (.slice a4 n4 c4) qs4 b ∨ wc.heap.size ≤ b := by
        rcases hb with hb | hb
        · exact .inl (.inl hb)
        · rcases HN6.out b hb with h | h
          · exact .inl (.inr h)
          · exact .inr h
      rcases key with h | h
      · exact ⟨HF.out b h, HNB.out b h⟩
      · exact ⟨.inr (by omega), by omega, by omega⟩)
    clear hsnoc hD6 el hS hS2 hS3 hS4 y2 y4 y6 y11 y14 x2 x4 zB
    obtain ⟨x1, x2, x3, x4⟩ := HX3.out
    obtain ⟨y1, y2, y3, y4⟩ := HY3.out
    go_wp2
    refine bodyPost_ret (v := .agg #[.slice a3 n3 c3, .slice (some ⟨g6, 0, none⟩) (qs4.length + 1) cap6]) (by simp [results, Try.results49, go_sem, y1, y2]) rfl ⟨a3, n3, c3, _, _, cap6, qs4 ++ [⟨s, .slice a5 n5 c5, bs⟩], rfl, ?_, fun b hb => ?_, ?_, ?_⟩
    · have h := HQ.out
      unfold putD
      rw [← h]
      simp [dataP]
    · rcases (HFD.out b hb).1 with h | h
      · exact .inl h
      · exact .inr (by omega)
    · have hk1 : Kept (fun b => b = w.heap.size ∨ b = w.heap.size + 1) w3 (w3.setCell ⟨w.heap.size, 1, none⟩ (.slice (some ⟨g6, 0, none⟩) (qs4.length + 1) cap6)) := Kept.setCell (Kept.refl _ w3) (.inr (.inl rfl)) _
      exact HOD.out.kept (Kept.setTwo hk1 (.inr (.inr rfl)) _ _) (fun b hb e => by
        rcases e with e | e
        · exact (HFD.out b hb).2.1 e
        · exact (HFD.out b hb).2.2 e)
    · have hk1 : Kept (fun b => (Value.slice a2 ps.length c2).ownBlock = some b) w (w3.setCell ⟨w.heap.size, 1, none⟩ (.slice (some ⟨g6, 0, none⟩) (qs4.length + 1) cap6)) := Kept.setCell HK3.out (.inl (Nat.le_refl _)) _
      exact hk1.setTwo (.inl (by simp)) _ _
end Go.Proofs.Ytoibckbgiiggfai
