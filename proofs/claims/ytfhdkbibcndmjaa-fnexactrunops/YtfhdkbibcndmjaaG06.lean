import Derived.Test.YtfhdkbibcndmjaaG05
import Derived.Deep.DeepCutAuto
namespace Go.Proofs.Ytfhdkbibcndmjaa
set_option maxRecDepth 100000
set_option maxHeartbeats 4000000
open Go.RowKit
set_option linter.unusedSimpArgs false
def roomD (dur : List Int) (ds : List (Int × List Int)) : List Int × List (Int × List Int) := if ds.length = 8192 then (settleN (fun _ => true) dur ds ds.length, []) else (dur, ds)
def putD (dur : List Int) (ds : List (Int × List Int)) (s : Int) (bs : List Int) : List Int × List (Int × List Int) := ((roomD dur ds).1, (roomD dur ds).2 ++ [(s, bs)])
theorem roomD_valid {dur : List Int} {ds : List (Int × List Int)} (h : Valid dur.length ds) : (roomD dur ds).1.length = dur.length ∧ (roomD dur ds).2.length < 8192 ∧ Valid dur.length (roomD dur ds).2 := by
  unfold roomD
  split
  · exact ⟨settleN_length _ _ _ h _ (Nat.le_refl _), by simp, ⟨h.1.1, h.1.2.1, h.1.2.2.1, Nat.zero_le _⟩, fun p hp => by simp at hp⟩
  · exact ⟨rfl, by have := h.1.2.2.2; simp only; omega, h⟩
theorem putD_valid {dur : List Int} {ds : List (Int × List Int)} {s : Int} {bs : List Int} (h : Valid dur.length ds) (h0 : 0 ≤ s) (h1 : s < (dur.length / 512 : Nat)) (hb : bs.length = 512) :
    (putD dur ds s bs).1.length = dur.length ∧ Valid dur.length (putD dur ds s bs).2 := by
  obtain ⟨r1, r2, r3⟩ := roomD_valid h
  refine ⟨r1, ⟨h.1.1, h.1.2.1, h.1.2.2.1, by simp [putD]; omega⟩, fun p hp => ?_⟩
  rcases List.mem_append.1 hp with hp | hp
  · exact r3.2 p hp
  · obtain rfl := List.mem_singleton.1 hp
    exact ⟨h0, h1, hb⟩
theorem l1Put_any (dv pv : Value) (dur : List Int) (ps : List PW) (s : Int) (v : Value) (bs : List Int) (w : World) (hd : dur.length ≤ 1099511627776) (hb : bs.length ≤ 1099511627776) (ho : OwnD 0 40 5 w dv pv dur ps) (hval : Valid dur.length (dataP ps)) (hv : Rd .u8 w v bs) :
    Calls Try.prog 62 #[.agg #[dv, pv], .int .i64 s, v] w fun e w' => ∃ a n c a' n' c' qs, e = .returned (.agg #[.slice a n c, .slice a' n' c']) ∧ dataP qs = (putD dur (dataP ps) s bs).2 ∧
      (∀ b, footD (.slice a n c) (.slice a' n' c') qs b → footD dv pv ps b ∨ w.heap.size ≤ b) ∧ OwnD 0 40 5 w' (.slice a n c) (.slice a' n' c') (putD dur (dataP ps) s bs).1 qs ∧ Kept (fun b => pv.ownBlock = some b) w w' := by
  obtain ⟨a1, n1, c1, rfl⟩ := slice_of_own ho.dur
  obtain ⟨a2, c2, rfl⟩ := ho.rd.pend.form
  obtain ⟨i0, hi, hz0, hz1, hz2⟩ := info_parts Try.infoSW
  obtain ⟨av, cv, rfl⟩ := hv.form
  have HRV := (show Hid (Rd .u8 w (.slice av bs.length cv) bs) from hv)
  have HO := (show Hid (OwnD 0 40 5 w (.slice a1 n1 c1) (.slice a2 ps.length c2) dur ps) from ho)
  have HV : Hid (Valid dur.length (dataP ps)) := hval
  have hpl : ps.length ≤ 8192 := by have := hval.1.2.2.2; rwa [dataP_length] at this
  clear hv ho hval
  go_enter Try.func62, Try.ntmps62
  go_upto_if 10 with fail
  go_cut [12] (fun _ wc => ∃ a3 n3 c3 a4 n4 c4 qs4, Hid (FBox wc w.heap.size (.slice a3 n3 c3) (.slice a4 n4 c4)) ∧ Hid (FBox wc (w.heap.size + 1) (.slice none 0 0) (.slice none 0 0)) ∧ Hid (dataP qs4 = (roomD dur (dataP ps)).2) ∧
    Hid (∀ b, footD (.slice a3 n3 c3) (.slice a4 n4 c4) qs4 b → footD (.slice a1 n1 c1) (.slice a2 ps.length c2) ps b ∨ w.heap.size + 1 < b) ∧ Hid (∀ b, (Value.slice a4 n4 c4).ownBlock = some b → (Value.slice a2 ps.length c2).ownBlock = some b ∨ w.heap.size + 1 < b) ∧ Hid (OwnD 0 40 5 wc (.slice a3 n3 c3) (.slice a4 n4 c4) (roomD dur (dataP ps)).1 qs4) ∧ Hid (Same w wc))
  case first =>
    by_cases hf : ps.length = 8192
    · have hfi : ((ps.length : Int) == 8192) = true := by simp [hf]
      have HRO : Hid (roomD dur (dataP ps) = (settleN (fun _ => true) dur (dataP ps) ps.length, [])) := by unfold Hid roomD; rw [dataP_length, if_pos hf]
      clear hf
      go_wp2_with fail
      refine (l1Settle_all _ _ dur ps _ hd (HO.out.rd.same (((Kept.refl _ _).alloc _).alloc _)) HV.out).mono ?_
      rintro e w2 ⟨a, n, c, rfl, hfr, ho2, hk2⟩
      simp only [World.size_alloc] at hfr
      have HX1 := (show Hid (FBox w2 w.heap.size (.slice a1 n1 c1) (.slice a2 ps.length c2)) from ((FBox.new _ _ _ _).next _).same hk2)
      have HX2 : Hid (FBox w2 (w.heap.size + 1) (.slice none 0 0) (.slice none 0 0)) := by have h := FBox.new (w.alloc (.cells #[.slice a1 n1 c1, .slice a2 ps.length c2] 25)) (.slice none 0 0) (.slice none 0 0) 25; rw [World.size_alloc] at h; exact h.same hk2
      have HK2 : Hid (Same w w2) := (((Kept.refl _ _).alloc _).alloc _).trans hk2
      have HO2 := (show Hid (Own 0 5 .u8 w2 (.slice a n c) (roomD dur (dataP ps)).1) from (by rw [HRO.out]; exact ho2))
      have HFR := (show Hid (∀ b, (Value.slice a n c).ownBlock = some b → w.heap.size + 1 < b) from fun b hb => by have := hfr b hb; omega)
      clear hfr ho2 hk2
      obtain ⟨x1, x2, x3, x4⟩ := HX1.out
      go_wp2_with fail
      go_meet
      case rel =>
        refine ⟨a, n, c, none, 0, 0, [], (HX1.out.set0 _).set1 _, (HX2.out.other _ (by simp) _).other _ (by simp) _, by rw [HRO.out]; rfl, fun b hb => .inr (HFR.out b (footD_dur hb)), fun b hb => by simp [Value.ownBlock] at hb, ?_, HK2.out.setTwo (.inl (Nat.le_refl _)) _ _⟩
        exact OwnD.kept (R := fun b => b = w.heap.size) (.ofDur HO2.out) (Kept.setTwo (Kept.refl (fun b => b = w.heap.size) _) (.inr rfl) _ _) (fun b hb e => by have := HFR.out b (footD_dur hb); omega)
    · have hfi : ((ps.length : Int) == 8192) = false := by simp; omega
      have HRO : Hid (roomD dur (dataP ps) = (dur, dataP ps)) := by unfold Hid roomD; rw [dataP_length, if_neg hf]
      clear hf
      go_wp2_with fail
      go_meet
      case rel =>
        refine ⟨a1, n1, c1, a2, ps.length, c2, ps, (FBox.new _ _ _ _).next _, ?_, by rw [HRO.out]; rfl, fun b hb => .inl hb, fun b hb => .inl hb, ?_, ((Kept.refl _ _).alloc _).alloc _⟩
        · have h := FBox.new (w.alloc (.cells #[.slice a1 n1 c1, .slice a2 ps.length c2] 25)) (.slice none 0 0) (.slice none 0 0) 25; rw [World.size_alloc] at h; exact h
        · rw [HRO.out]; exact HO.out.same (((Kept.refl _ _).alloc _).alloc _)
  case rest =>
    obtain ⟨a3, n3, c3, a4, n4, c4, qs4, HX, HX2, HQ, HF, HFP, HOC, HKC⟩ := hcut
    have hql : qs4.length < 8192 := by have := (roomD_valid HV.out).2.1; rw [← HQ.out, dataP_length] at this; exact this
    have HKO : Hid (∀ wx, Same wc wx → ∀ o, (wx.alloc o).ownsRow 0 40 2 (.slice a4 n4 c4) qs4.length (pwCells qs4)) := fun wx hx o => ((HOC.out.pend.same hx).same ((Kept.refl _ _).alloc o)).row
    have HNB : Hid (∀ b, footD (.slice a3 n3 c3) (.slice a4 n4 c4) qs4 b → b ≠ w.heap.size ∧ b ≠ w.heap.size + 1) := fun b hb => by
      rcases HF.out b hb with h | h
      · have := (HO.out.lt b h).2; omega
      · omega
    obtain ⟨_, x2, _, x4⟩ := HX.out
    go_wp2_with fail
    have hS : (fun w' => w'.cell? ⟨w.heap.size, 1, none⟩ = some (.slice a4 n4 c4) ∧ w'.frozen? ⟨w.heap.size, 1, none⟩ = false) wc.drew := by exact ⟨x2, x4⟩
    refine wp_region_V (fun w' => w'.cell? ⟨w.heap.size, 1, none⟩ = some (.slice a4 n4 c4) ∧ w'.frozen? ⟨w.heap.size, 1, none⟩ = false) 9 10 rfl (by kernel_rfl) ?_
    refine tk 0 13 hS ?_
    refine tk 1 14 hS ?_
    refine tk 2 15 hS ?_
    refine tk 3 16 hS ?_
    refine wpAnyV_one (i := 4) (by kernel_rfl) rfl (fun K hK => ?_)
    go_simp
    refine (l1Copy_any _ bs _ hb (by exact HRV.out.same (HKC.out.drew))).mono ?_
    rintro e w2 ⟨a5, n5, c5, rfl, ho5, hf5, hk5⟩
    have HK5 := (show Hid (Same wc w2) from (Kept.refl _ _).drew.trans hk5)
    have HO5 := (show Hid (Own 0 5 .u8 w2 (.slice a5 n5 c5) bs) from ho5)
    have HF5 := (show Hid (∀ b, (Value.slice a5 n5 c5).ownBlock = some b → wc.heap.size ≤ b) from hf5)
    obtain ⟨_, y2, _, y4⟩ := HX.out.same HK5.out
    have zB := (HX.out.same HK5.out).lt
    have y6 : ∀ o, (w2.alloc o).frozen? ⟨w.heap.size, 1, none⟩ = false := fun o => ((HX.out.same HK5.out).next o).2.2.2
    clear ho5 hf5 hk5
    go_wp2_with fail
    have hS2 : (fun w' => w'.cell? ⟨w.heap.size, 1, none⟩ = some (.slice a4 n4 c4) ∧ w'.frozen? ⟨w.heap.size, 1, none⟩ = false) w2 := by exact ⟨y2, y4⟩
    refine hK.out _ _ (fun _ => hS2) ?_
    clear hK K
    try simp only [Act.put, sA, s0, sS]
    refine tk 5 18 hS2 ?_
    refine wpAnyV_one (i := 6) (by kernel_rfl) rfl (fun K hK => ?_)
    go_simp
    have hS3 : (fun w' => w'.cell? ⟨w.heap.size, 1, none⟩ = some (.slice a4 n4 c4) ∧ w'.frozen? ⟨w.heap.size, 1, none⟩ = false) (w2.alloc (.cells #[.int .i64 s, .slice a5 n5 c5] 40)) := by go_keep
    refine hK.out _ _ (fun _ => hS3) ?_
    clear hK K
    try simp only [Act.put, sA, s0, sS]
    refine wpAnyV_one (i := 7) (by kernel_rfl) rfl (fun K hK => ?_)
    refine step_append_lies _ (by rfl) (.tmp 14) (.tmp 19) 23 (by rfl) 0 40 i0 _ 2 32 Try.underlying23 hi hz0 hz1 hz2 rfl (by omega) (.slice a4 n4 c4) qs4.length (pwCells qs4) (by rfl) (by exact HKO.out w2 HK5.out _) ⟨w2.heap.size, 0, none⟩ 1 1 [.int .i64 s, .slice a5 n5 c5] (by rfl) (by rfl) (World.news_of_block (cs := #[.int .i64 s, .slice a5 n5 c5]) (t := 40) (fr := (0, 0)) (heap_alloc_new w2 _)) (by simp [Value.oneCell']) (by omega) (by unfold maxLen; omega) (by omega) (Nat.zero_le _) (w2.heap.size + 1) (by simp) ?_
    intro g6 cap6 w3 hown6 hgrow6 hat6 hlt6
    have hk6 : Kept (fun b => (Value.slice a4 n4 c4).ownBlock = some b) w2 w3 := ((Kept.refl _ _).alloc _).trans (Kept.of_grown hgrow6 (fun k e => e))
    have n1 : ¬ (Value.slice a4 n4 c4).ownBlock = some w.heap.size := (fun e => (HNB.out _ (.inr (.inl e))).1 rfl)
    obtain ⟨_, y11, _, y14⟩ := (HX.out.same HK5.out).kept hk6 n1
    have HOWN6 := (show Hid (w3.ownsRow 0 40 2 (.slice (some ⟨g6, 0, none⟩) (qs4.length + 1) cap6) (qs4.length + 1) (pwCells qs4 ++ [.int .i64 s, .slice a5 n5 c5])) from hown6)
    have HG6 := (show Hid ((w2.alloc (.cells #[.int .i64 s, .slice a5 n5 c5] 40)).grownBy w3 (Value.slice a4 n4 c4).ownBlock) from hgrow6)
    have HAT6 := (show Hid ((Value.slice a4 n4 c4).ownBlock = some g6 ∨ g6 = w2.heap.size + 1) from hat6)
    have HK6 := (show Hid (Kept (fun b => (Value.slice a4 n4 c4).ownBlock = some b) w2 w3) from hk6)
    clear hown6 hgrow6 hat6 hk6 n1
    have hS4 : (fun w' => w'.cell? ⟨w.heap.size, 1, none⟩ = some (.slice a4 n4 c4) ∧ w'.frozen? ⟨w.heap.size, 1, none⟩ = false) w3 := by exact ⟨y11, y14⟩
    refine hK.out _ _ (fun _ => hS4) ?_
    clear hK K
    try simp only [Act.put, sA, s0, sS]
    refine tk 8 21 hS4 ?_
    refine wpAnyV_one (i := 9) (by kernel_rfl) rfl (fun K hK => ?_)
    go_simp
    refine hK.out _ _ (fun h => absurd rfl h) ?_
    clear hK K
    refine wpAnyV_done (by kernel_rfl) ?_
    try simp only [Act.put, sA, s0, sS]
    have el : w2.heap.size + 1 = (w2.alloc (.cells #[.int .i64 s, .slice a5 n5 c5] 40)).heap.size := by simp
    have hrl : w.heap.size + 1 < wc.heap.size := HX2.out.lt
    have h2l : wc.heap.size ≤ w2.heap.size := HK5.out.size
    have hsnoc := OwnP.snoc (sec := s) (bs := bs) ((HOC.out.pend.same HK5.out).same ((Kept.refl _ _).alloc _)) (HO5.out.same ((Kept.refl _ _).alloc _)) (fun b hb hf => by have h1 := HF5.out b hb; have h2 := (HOC.out.pend.lt b hf).2; omega) HG6.out HOWN6.out rfl (by rw [← el]; exact HAT6.out)
    have HN6 : Hid (∀ b, footP (.slice (some ⟨g6, 0, none⟩) (qs4.length + 1) cap6) (qs4 ++ [⟨s, .slice a5 n5 c5, bs⟩]) b → footP (.slice a4 n4 c4) qs4 b ∨ wc.heap.size ≤ b) := fun b hb => by
      rcases footP_snoc (v := .slice a4 n4 c4) b hb with rfl | hb | hb
      · rcases HAT6.out with h | h
        · exact .inl (.inl h)
        · exact .inr (by omega)
      · exact .inl hb
      · exact .inr (HF5.out b hb)
    have hD6 : Own 0 5 .u8 w3 (.slice a3 n3 c3) (roomD dur (dataP ps)).1 := (HOC.out.dur.same HK5.out).kept HK6.out (fun b hb e => HOC.out.apart b (.inl e) hb)
    have HOD := (show Hid (OwnD 0 40 5 w3 (.slice a3 n3 c3) (.slice (some ⟨g6, 0, none⟩) (qs4.length + 1) cap6) (roomD dur (dataP ps)).1 (qs4 ++ [⟨s, .slice a5 n5 c5, bs⟩])) from ⟨hD6, hsnoc, fun b hb hv => by
      rcases HN6.out b hb with h | h
      · exact HOC.out.apart b h hv
      · exact absurd (HOC.out.dur.lt b hv).2 (by omega)⟩)
    have HX3 := (show Hid (FBox w3 w.heap.size (.slice a3 n3 c3) (.slice a4 n4 c4)) from (HX.out.same HK5.out).kept HK6.out (fun e => (HNB.out _ (.inr (.inl e))).1 rfl))
    have HY3 := (show Hid (FBox w3 (w.heap.size + 1) (.slice none 0 0) (.slice none 0 0)) from (HX2.out.same HK5.out).kept HK6.out (fun e => (HNB.out _ (.inr (.inl e))).2 rfl))
    have HK3 := (show Hid (Kept (fun b => (Value.slice a2 ps.length c2).ownBlock = some b) w w3) from ((HKC.out.trans HK5.out).mono (fun _ _ h => h.elim)).next HK6.out (fun b hb e => by
      rcases HFP.out b e with h | h
      · exact h
      · omega))
    have HFD := (show Hid (∀ b, footD (.slice a3 n3 c3) (.slice (some ⟨g6, 0, none⟩) (qs4.length + 1) cap6) (qs4 ++ [⟨s, .slice a5 n5 c5, bs⟩]) b → (footD (.slice a1 n1 c1) (.slice a2 ps.length c2) ps b ∨ w.heap.size + 1 < b) ∧ b ≠ w.heap.size ∧ b ≠ w.heap.size + 1) from fun b hb => by
      have key : footD (.slice a3 n3 c3) (.slice a4 n4 c4) qs4 b ∨ wc.heap.size ≤ b := by
        rcases hb with hb | hb
        · exact .inl (.inl hb)
        · rcases HN6.out b hb with h | h
          · exact .inl (.inr h)
          · exact .inr h
      rcases key with h | h
      · exact ⟨HF.out b h, HNB.out b h⟩
      · exact ⟨.inr (by omega), by omega, by omega⟩)
    clear hsnoc hD6 el hS hS2 hS3 hS4 y2 y4 y6 y11 y14 x2 x4 zB
    obtain ⟨x1, x2, x3, x4⟩ := HX3.out
    obtain ⟨y1, y2, y3, y4⟩ := HY3.out
    go_wp2
    refine bodyPost_ret (v := .agg #[.slice a3 n3 c3, .slice (some ⟨g6, 0, none⟩) (qs4.length + 1) cap6]) (by simp [results, Try.results62, go_sem, y1, y2]) rfl ⟨a3, n3, c3, _, _, cap6, qs4 ++ [⟨s, .slice a5 n5 c5, bs⟩], rfl, ?_, fun b hb => ?_, ?_, ?_⟩
    · have h := HQ.out
      unfold putD
      rw [← h]
      simp [dataP]
    · rcases (HFD.out b hb).1 with h | h
      · exact .inl h
      · exact .inr (by omega)
    · have hk1 : Kept (fun b => b = w.heap.size ∨ b = w.heap.size + 1) w3 (w3.setCell ⟨w.heap.size, 1, none⟩ (.slice (some ⟨g6, 0, none⟩) (qs4.length + 1) cap6)) := Kept.setCell (Kept.refl _ w3) (.inr (.inl rfl)) _
      exact HOD.out.kept (Kept.setTwo hk1 (.inr (.inr rfl)) _ _) (fun b hb e => by
        rcases e with e | e
        · exact (HFD.out b hb).2.1 e
        · exact (HFD.out b hb).2.2 e)
    · have hk1 : Kept (fun b => (Value.slice a2 ps.length c2).ownBlock = some b) w (w3.setCell ⟨w.heap.size, 1, none⟩ (.slice (some ⟨g6, 0, none⟩) (qs4.length + 1) cap6)) := Kept.setCell HK3.out (.inl (Nat.le_refl _)) _
      exact hk1.setTwo (.inl (by simp)) _ _
end Go.Proofs.Ytfhdkbibcndmjaa

namespace Go.Proofs.Ytfhdkbibcndmjaa
set_option maxRecDepth 100000
set_option maxHeartbeats 8000000
open Go.RowKit
set_option linter.unusedSimpArgs false
def CanWrite (n : Nat) (s : Int) (bs : List Int) : Prop := 0 ≤ s ∧ s < (n / 512 : Nat) ∧ bs.length = 512
def canWriteDec (n : Nat) (s : Int) (bs : List Int) : Decidable (CanWrite n s bs) := by unfold CanWrite; infer_instance
def writeD (dur : List Int) (ds : List (Int × List Int)) (s : Int) (bs : List Int) : List Int × List (Int × List Int) := @ite _ (CanWrite dur.length s bs) (canWriteDec dur.length s bs) (putD dur ds s bs) (dur, ds)
theorem writeD_valid {dur : List Int} {ds : List (Int × List Int)} {s : Int} {bs : List Int} (h : Valid dur.length ds) : (writeD dur ds s bs).1.length = dur.length ∧ Valid dur.length (writeD dur ds s bs).2 := by
  unfold writeD
  split
  · rename_i hc; exact putD_valid h hc.1 hc.2.1 hc.2.2
  · exact ⟨rfl, h⟩
def looks (v : Value) (b : Nat) : Prop := ∃ o n c, v = .slice (some ⟨b, o, none⟩) n c
theorem write_any (B : Nat) (dv pv : Value) (dur : List Int) (ds : List (Int × List Int)) (s : Int) (v : Value) (bs : List Int) (w : World) (hp : Plat w B dv pv dur ds) (hval : Valid dur.length ds) (hv : Rd .u8 w v bs) (hsep : bs ≠ [] → ∀ b, looks v b → b ≠ B ∧ dv.ownBlock ≠ some b ∧ pv.ownBlock ≠ some b) :
    Calls Try.prog 64 #[.pointer (some ⟨B, 0, none⟩), .int .i64 s, v] w fun e w' => e = .returned (.tuple #[]) ∧ (∃ pv', Plat w' B dv pv' (writeD dur ds s bs).1 (writeD dur ds s bs).2 ∧ ∀ b, pv'.ownBlock = some b → pv.ownBlock = some b ∨ w.heap.size ≤ b) ∧ Kept (fun b => b = B ∨ dv.ownBlock = some b ∨ pv.ownBlock = some b) w w' := by
  obtain ⟨gd, cd, rfl⟩ : ∃ gd cd, dv = .slice (some ⟨gd, 0, none⟩) (dur.length / 512) cd := by
    rcases hp.dur.2 with ⟨_, h⟩ | ⟨g, cap, _, h, _⟩
    · have := hval.1.2.1; omega
    · exact ⟨g, cap, h⟩
  obtain ⟨ap, cp, rfl⟩ : ∃ aq cq, pv = .slice aq ds.length cq := by
    rcases hp.pend.2 with ⟨rfl, h⟩ | ⟨g, cap, _, h, _⟩
    · exact ⟨none, 0, by rw [h]⟩
    · exact ⟨_, _, h⟩
  obtain ⟨av, cv, rfl⟩ := hv.form
  have HRV := (show Hid (Rd .u8 w (.slice av bs.length cv) bs) from hv)
  have HSEP := (show Hid (bs ≠ [] → ∀ b, looks (.slice av bs.length cv) b → b ≠ B ∧ (Value.slice (some ⟨gd, 0, none⟩) (dur.length / 512) cd).ownBlock ≠ some b ∧ (Value.slice ap ds.length cp).ownBlock ≠ some b) from hsep)
  have HP := (show Hid (Plat w B (.slice (some ⟨gd, 0, none⟩) (dur.length / 512) cd) (.slice ap ds.length cp) dur ds) from hp)
  have HV : Hid (Valid dur.length ds) := hval
  have hdl : ds.length ≤ 8192 := hval.1.2.2.2
  have hdn : dur.length / 512 ≤ 1024 := hval.1.2.2.1
  have hvl := hv.1
  unfold maxLen at hvl
  obtain ⟨n, hn⟩ : ∃ n, dur.length / 512 = n := ⟨_, rfl⟩
  have HN : Hid (dur.length / 512 = n) := hn
  rw [hn] at HP HSEP hdn ⊢
  clear hp hval hv hsep hn
  have hno : ¬ CanWrite dur.length s bs → writeD dur ds s bs = (dur, ds) := fun h => by unfold writeD; rw [if_neg h]
  have HNO : Hid (¬ CanWrite dur.length s bs → Plat w B (.slice (some ⟨gd, 0, none⟩) n cd) (.slice ap ds.length cp) (writeD dur ds s bs).1 (writeD dur ds s bs).2) := fun h => by rw [hno h]; exact HP.out
  clear hno
  obtain ⟨p1, p2, p3, p4⟩ := HP.out.box
  by_cases hs0 : s < 0
  · go_enter Try.func64, Try.ntmps64
    go_wp2
    refine bodyPost_ret (results_none (by rfl) _ _ _) rfl ?_
    exact ⟨rfl, ⟨_, HNO.out (fun h => by have := h.1; omega), fun b hb => .inl hb⟩, Kept.refl _ _⟩
  · by_cases hs1 : (n : Int) ≤ s
    · go_enter Try.func64, Try.ntmps64
      go_wp2
      refine bodyPost_ret (results_none (by rfl) _ _ _) rfl ?_
      exact ⟨rfl, ⟨_, HNO.out (fun h => by have h1 := h.2.1; have := HN.out; omega), fun b hb => .inl hb⟩, Kept.refl _ _⟩
    · by_cases hbl : bs.length = 512
      case neg =>
        have hb2 : ((bs.length : Int) != 512) = true := by simp; omega
        go_enter Try.func64, Try.ntmps64
        go_wp2
        refine bodyPost_ret (results_none (by rfl) _ _ _) rfl ?_
        exact ⟨rfl, ⟨_, HNO.out (fun h => hbl h.2.2), fun b hb => .inl hb⟩, Kept.refl _ _⟩
      have hb2 : ((bs.length : Int) != 512) = false := by simp; omega
      obtain ⟨b3, o3, c3, e3, hsrc⟩ : ∃ b3 o3 c3, Value.slice av bs.length cv = .slice (some ⟨b3, o3, none⟩) bs.length c3 ∧ ∀ i, i < bs.length → w.cell? ⟨b3, o3 + i, none⟩ = some (.int .u8 (bs.getD i 0)) := by
        rcases HRV.out.2 with ⟨h, _⟩ | ⟨b3, o3, c3, h, _, hc⟩
        · simp [h] at hbl
        · exact ⟨b3, o3, c3, h, hc⟩
      simp only [Value.slice.injEq, true_and] at e3
      obtain ⟨rfl, rfl⟩ := e3
      obtain ⟨s1, s2, s3⟩ := HSEP.out (fun e => by simp [e] at hbl) b3 ⟨o3, _, _, rfl⟩
      have HS := (show Hid (b3 ≠ B ∧ gd ≠ b3 ∧ (Value.slice ap ds.length cp).ownBlock ≠ some b3) from ⟨s1, fun e => s2 (by rw [e]; rfl), s3⟩)
      have HCW : Hid (writeD dur ds s bs = putD dur ds s bs) := by unfold Hid writeD; rw [if_pos ⟨by omega, by have := HN.out; omega, hbl⟩]
      have HB3 : Hid (b3 < w.heap.size) := World.block_lt_of_cell? w _ (hsrc 0 (by omega))
      have hcl : (vals .u8 bs).length = 512 := by rw [vals_length]; exact hbl
      have RGW := (show Hid (w.rangeAt b3 o3 (vals .u8 bs)) from fun j v hj => by
        have hjl : j < bs.length := by have := (List.getElem?_eq_some_iff.1 hj).1; rwa [vals_length] at this
        rw [vals_at _ _ _ hjl] at hj
        rw [← hj]
        exact hsrc j hjl)
      have HBL : Hid (bs.length = 512) := hbl
      clear hbl hsrc s1 s2 s3 HNO
      go_enter Try.func64, Try.ntmps64
      go_upto_if 27 with fail
      go_cut [29] (fun _ wc => ∃ aq nq cq, Hid (Plat wc B (.slice (some ⟨gd, 0, none⟩) n cd) (.slice aq nq cq) (roomD dur ds).1 (roomD dur ds).2) ∧ Hid (∀ b, (Value.slice aq nq cq).ownBlock = some b → (Value.slice ap ds.length cp).ownBlock = some b) ∧ Hid (Kept (fun b => b = B ∨ gd = b) w wc))
      case first =>
        by_cases hf : 8192 ≤ ds.length
        · have hfi : (8192 : Int) ≤ (ds.length : Int) := by omega
          have HRO : Hid (roomD dur ds = (settleN (fun _ => true) dur ds ds.length, [])) := by unfold Hid roomD; rw [if_pos (by omega)]
          have HP' := (show Hid (Plat w B (.slice (some ⟨gd, 0, none⟩) n cd) (.slice ap ds.length cp) dur ds) from HP.out)
          clear hf
          go_wp2_with fail
          refine (sync_any B _ _ dur ds _ HP.out HV.out).mono ?_
          rintro e w2 ⟨rfl, hpl, hk⟩
          go_wp2_with fail
          go_meet
          case rel => exact ⟨none, 0, 0, by rw [HRO.out]; exact hpl, fun b hb => by simp [Value.ownBlock] at hb, hk.mono (fun b _ e => e.imp id Option.some.inj)⟩
        · have hfi : ¬ (8192 : Int) ≤ (ds.length : Int) := by omega
          have HRO : Hid (roomD dur ds = (dur, ds)) := by unfold Hid roomD; rw [if_neg (by omega)]
          clear hf
          go_wp2_with fail
          go_meet
          case rel => exact ⟨ap, ds.length, cp, by rw [HRO.out]; exact HP.out, fun b hb => hb, Kept.refl _ _⟩
      case rest =>
      obtain ⟨aq, nq, cq, HPL, HFQ, HKC⟩ := hcut
      obtain ⟨r1, r2, r3⟩ := roomD_valid HV.out
      have HX := (show Hid (FBox wc B (.slice (some ⟨gd, 0, none⟩) n cd) (.slice aq nq cq)) from HPL.out.box)
      have HSQ := (show Hid ((Value.slice aq nq cq).ownBlock ≠ some b3) from fun e => HS.out.2.2 (HFQ.out _ e))
      have hn3 : ¬ (b3 = B ∨ gd = b3) := fun e => e.elim HS.out.1 HS.out.2.1
      have RG0 := (show Hid (wc.rangeAt b3 o3 (vals .u8 bs)) from fun j v hj => HKC.out.cellOf (RGW.out j v hj) hn3)
      have RG := (show Hid (wc.drew.rangeAt b3 o3 (vals .u8 bs)) from RG0.out)
      have hu91 := Try.underlying109
      obtain ⟨j0, hj, hy0, hy1, hy2⟩ := info_parts Try.info91
      obtain ⟨i0, hi, hz0, hz1, hz2⟩ := info_parts Try.info93
      have hi91 : (Try.prog.info? 109).map (·.size) = some (vals .u8 bs).length := by rw [hcl, hj]; simp [hy1]
      have har := fun (wx : World) (ad : Option Addr) (c : Nat) => run_arrayAt wx ad bs.length c (by have := HBL.out; omega)
      have hzc : (Value.agg zeros93).cells.size = 513 := by kernel_rfl
      have HNB : Hid (∀ wx, wx = (wc.drew.alloc (.cells (Value.int .i64 s :: vals .u8 bs).toArray 111)) → ∀ j u, (Value.int .i64 s :: vals .u8 bs)[j]? = some u → wx.cell? ((⟨wc.heap.size, 0, none⟩ : Addr).add j) = some u) := fun wx hx j u hj => by
        have h := World.news_of_block (w := wx) (B := wc.heap.size) (cs := (Value.int .i64 s :: vals .u8 bs).toArray) (t := 111) (fr := (0, 0)) (by rw [hx]; have := heap_alloc_new wc.drew (.cells (Value.int .i64 s :: vals .u8 bs).toArray 111); simpa using this)
        exact h j u (by simpa using hj)
      have HONE : Hid (∀ u ∈ (Value.int .i64 s :: vals .u8 bs), u.oneCell' = true) := fun u hu => by
        rcases List.mem_cons.1 hu with rfl | hu
        · rfl
        · exact vals_one u hu
      clear p1 p2 p3 p4
      obtain ⟨_, x2, _, x4⟩ := HX.out
      go_wp2_with fail
      have hS : (fun w' => w'.cell? ⟨B, 1, none⟩ = some (.slice aq nq cq) ∧ w'.frozen? ⟨B, 1, none⟩ = false ∧ w'.rangeAt b3 o3 (vals .u8 bs)) wc.drew := by exact ⟨x2, x4, RG.out⟩
      refine wp_region_V (fun w' => w'.cell? ⟨B, 1, none⟩ = some (.slice aq nq cq) ∧ w'.frozen? ⟨B, 1, none⟩ = false ∧ w'.rangeAt b3 o3 (vals .u8 bs)) 14 15 rfl (by kernel_rfl) ?_
      refine tk 0 30 hS ?_
      refine tk 1 31 hS ?_
      refine tk 2 32 hS ?_
      refine tk 3 33 hS ?_
      refine tk 4 34 hS ?_
      refine tk 5 35 hS ?_
      refine tk 6 36 hS ?_
      refine tk 7 37 hS ?_
      refine wpAnyV_take (i := 8) (v := .agg (vals .u8 bs).toArray) (some 38) rfl rfl (by kernel_rfl) (by kernel_rfl) (by kernel_rfl) (by kernel_rfl) (fun _ _ _ h => h) (yieldsIf_load_mid (by rfl) _ _ rfl _ _ rfl _ _ (fun w hSw => by (try dsimp only at hSw); exact hSw.2.2) hu91 rfl hi91) hS ?_
      try simp only [Act.put, sA, s0, sS]
      refine wpAnyV_take (i := 9) (v := .agg (Value.int .i64 s :: vals .u8 bs).toArray) (some 39) rfl rfl (by kernel_rfl) (by kernel_rfl) (by kernel_rfl) (by kernel_rfl) (fun _ _ _ h => h) (yields_build93 (by rfl) _ _ rfl s (vals .u8 bs) (by rfl) (by rfl) hcl) hS ?_
      try simp only [Act.put, sA, s0, sS]
      refine wpAnyV_one (i := 10) (by kernel_rfl) rfl (fun K hK => ?_)
      refine step_row93 (by rfl) (.tmp 39) (by rfl) (Value.int .i64 s :: vals .u8 bs) (by rfl) (by rw [List.length_cons, hcl]) wc.heap.size (by simp) ?_
      simp only [List.getElem_toArray, List.getElem_cons_succ, List.getElem_cons_zero]
      obtain ⟨wb, hwb⟩ : ∃ wb, wb = (wc.drew.alloc (.cells (Value.int .i64 s :: vals .u8 bs).toArray 111)) := ⟨_, rfl⟩
      have HWB := (show Hid (wb = (wc.drew.alloc (.cells (Value.int .i64 s :: vals .u8 bs).toArray 111))) from hwb)
      rw [← hwb]
      clear hwb
      have HKB := (show Hid (Same wc wb) from (by rw [HWB.out]; exact (Kept.refl _ _).drew.alloc _))
      have hbs : wb.heap.size = wc.heap.size + 1 := by rw [HWB.out]; simp
      obtain ⟨_, y2, _, y4⟩ := HX.out.same HKB.out
      have RGB := (show Hid (wb.rangeAt b3 o3 (vals .u8 bs)) from fun j v hj => HKB.out.cellOf (RG0.out j v hj) id)
      have hS2 : (fun w' => w'.cell? ⟨B, 1, none⟩ = some (.slice aq nq cq) ∧ w'.frozen? ⟨B, 1, none⟩ = false ∧ w'.rangeAt b3 o3 (vals .u8 bs)) wb := by exact ⟨y2, y4, RGB.out⟩
      refine hK.out _ _ (fun _ => hS2) ?_
      clear hK K
      try simp only [Act.put, sA, s0, sS]
      refine wpAnyV_one (i := 11) (by kernel_rfl) rfl (fun K hK => ?_)
      refine step_append_lies _ (by rfl) (.tmp 34) (.tmp 40) 105 (by rfl) 0 111 i0 _ 513 520 Try.underlying105 hi hz0 hz1 hz2 hzc (by omega) (.slice aq nq cq) (roomD dur ds).2.length (penCells (roomD dur ds).2) (by rfl) (by exact HKB.out.owns HPL.out.pend (fun _ _ => id)) ⟨wc.heap.size, 0, none⟩ 1 1 (Value.int .i64 s :: vals .u8 bs) (by rfl) (by rw [List.length_cons, hcl]) (by exact HNB.out wb HWB.out) (by exact HONE.out) (by omega) (by unfold maxLen; omega) (by omega) (Nat.zero_le _) (wc.heap.size + 1) hbs ?_
      intro g5 cap5 w3 hown5 hgrow5 hat5 hlt5
      simp only [List.getElem_toArray, List.getElem_cons_succ, List.getElem_cons_zero]
      have hk5 : Kept (fun b => (Value.slice aq nq cq).ownBlock = some b) wb w3 := Kept.of_grown hgrow5 (fun k e => e)
      have HK5 := (show Hid (Kept (fun b => (Value.slice aq nq cq).ownBlock = some b) wb w3) from hk5)
      have HOWN5 := (show Hid (w3.ownsRow 0 111 513 (.slice (some ⟨g5, 0, none⟩) ((roomD dur ds).2.length + 1) cap5) ((roomD dur ds).2.length + 1) (penCells (roomD dur ds).2 ++ (Value.int .i64 s :: vals .u8 bs))) from hown5)
      have HAT5 : Hid ((Value.slice aq nq cq).ownBlock = some g5 ∨ g5 = wc.heap.size + 1) := hat5
      obtain ⟨_, y12, _, y14⟩ := (HX.out.same HKB.out).kept hk5 (fun e => HPL.out.a2 e)
      have RG5 := (show Hid (w3.rangeAt b3 o3 (vals .u8 bs)) from fun j v hj => hk5.cellOf (RGB.out j v hj) (fun e => HSQ.out e))
      clear hown5 hgrow5 hat5 hk5
      have hS4 : (fun w' => w'.cell? ⟨B, 1, none⟩ = some (.slice aq nq cq) ∧ w'.frozen? ⟨B, 1, none⟩ = false ∧ w'.rangeAt b3 o3 (vals .u8 bs)) w3 := by exact ⟨y12, y14, RG5.out⟩
      refine hK.out _ _ (fun _ => hS4) ?_
      clear hK K
      try simp only [Act.put, sA, s0, sS]
      refine wpAnyV_one (i := 12) (by kernel_rfl) rfl (fun K hK => ?_)
      go_simp
      refine hK.out _ _ (fun _ => hS4) ?_
      clear hK K
      try simp only [Act.put, sA, s0, sS]
      refine wpAnyV_one (i := 13) (by kernel_rfl) rfl (fun K hK => ?_)
      go_simp
      refine hK.out _ _ (fun _ => hS4) ?_
      clear hK K
      try simp only [Act.put, sA, s0, sS]
      refine wpAnyV_one (i := 14) (by kernel_rfl) rfl (fun K hK => ?_)
      go_simp
      refine hK.out _ _ (fun h => absurd rfl h) ?_
      clear hK K
      refine wpAnyV_done (by kernel_rfl) ?_
      try simp only [Act.put, sA, s0, sS]
      have hB : B < wc.heap.size := HX.out.lt
      have hset := Kept.setCell (Kept.refl (fun b => b = B) w3) (p := ⟨B, 1, none⟩) (.inr rfl) (.slice (some ⟨g5, 0, none⟩) ((roomD dur ds).2.length + 1) cap5)
      have HX3 := (show Hid (FBox (w3.setCell ⟨B, 1, none⟩ (.slice (some ⟨g5, 0, none⟩) ((roomD dur ds).2.length + 1) cap5)) B (.slice (some ⟨gd, 0, none⟩) n cd) (.slice (some ⟨g5, 0, none⟩) ((roomD dur ds).2.length + 1) cap5)) from ((HX.out.same HKB.out).kept HK5.out (fun e => HPL.out.a2 e)).set1 _)
      have hgd := World.ownsRow.lt HPL.out.dur gd rfl
      have hg5 : g5 ≠ B ∧ g5 ≠ gd ∧ ((Value.slice ap ds.length cp).ownBlock = some g5 ∨ w.heap.size ≤ g5) := by
        rcases HAT5.out with h | h
        · exact ⟨fun e => HPL.out.a2 (e ▸ h), fun e => HPL.out.a3 gd rfl (e ▸ h), .inl (HFQ.out _ h)⟩
        · have := HKC.out.size; exact ⟨by omega, by omega, .inr (by omega)⟩
      have HG5 := (show Hid (g5 ≠ B ∧ g5 ≠ gd ∧ ((Value.slice ap ds.length cp).ownBlock = some g5 ∨ w.heap.size ≤ g5)) from hg5)
      have hdur := HPL.out.dur
      rw [r1, HN.out] at hdur
      have HD3 := (show Hid (World.ownsRow (w3.setCell ⟨B, 1, none⟩ (.slice (some ⟨g5, 0, none⟩) ((roomD dur ds).2.length + 1) cap5)) 0 109 512 (.slice (some ⟨gd, 0, none⟩) n cd) n (vals .u8 (roomD dur ds).1)) from
        hset.owns (HK5.out.owns (HKB.out.owns hdur (fun _ _ => id)) (fun b hb e => HPL.out.a3 b hb e)) (fun b hb e => HPL.out.a1 (by rw [hb, e])))
      have HP3 := (show Hid (World.ownsRow (w3.setCell ⟨B, 1, none⟩ (.slice (some ⟨g5, 0, none⟩) ((roomD dur ds).2.length + 1) cap5)) 0 111 513 (.slice (some ⟨g5, 0, none⟩) ((roomD dur ds).2.length + 1) cap5) ((roomD dur ds).2.length + 1) (penCells (putD dur ds s bs).2)) from (by
        have e : penCells (putD dur ds s bs).2 = penCells (roomD dur ds).2 ++ (Value.int .i64 s :: vals .u8 bs) := by
          unfold putD
          rw [penCells_append]
          simp [penCells]
        rw [e]
        exact hset.owns HOWN5.out (fun b hb => by have e : b = g5 := (Option.some.inj hb).symm; show ¬ b = B; have := HG5.out.1; omega)))
      have HK3 := (show Hid (Kept (fun b => b = B ∨ (Value.slice (some ⟨gd, 0, none⟩) n cd).ownBlock = some b ∨ (Value.slice ap ds.length cp).ownBlock = some b) w (w3.setCell ⟨B, 1, none⟩ (.slice (some ⟨g5, 0, none⟩) ((roomD dur ds).2.length + 1) cap5))) from
        ((((HKC.out.mono (fun b _ e => e.imp id (fun h => Or.inl (by rw [h]; rfl)))).trans (HKB.out.mono (fun _ _ h => h.elim))).trans (HK5.out.mono (fun b _ e => .inr (.inr (HFQ.out b e))))).trans (hset.mono (fun b _ e => .inl e))))
      clear hset hg5 hgd hdur hS hS2 hS4 y2 y4 y12 y14 x2 x4
      go_wp2
      go_end0
      refine ⟨rfl, ⟨.slice (some ⟨g5, 0, none⟩) ((roomD dur ds).2.length + 1) cap5, ?_, fun b hb => ?_⟩, HK3.out⟩
      · rw [HCW.out]
        refine ⟨HX3.out, ?_, ?_, HPL.out.a1, fun e => HG5.out.1 (Option.some.inj e), fun b hb e => HG5.out.2.1 ((Option.some.inj e).trans (Option.some.inj hb).symm)⟩
        · have h := HD3.out
          have e : (putD dur ds s bs).1 = (roomD dur ds).1 := rfl
          rw [e, r1, HN.out]
          exact h
        · have e : (putD dur ds s bs).2.length = (roomD dur ds).2.length + 1 := by simp [putD]
          rw [e]
          exact HP3.out
      · obtain rfl : g5 = b := Option.some.inj hb
        exact HG5.out.2.2
end Go.Proofs.Ytfhdkbibcndmjaa

namespace Go.Proofs.Ytfhdkbibcndmjaa
set_option maxHeartbeats 4000000
open Go.RowKit
set_option linter.unusedSimpArgs false
set_option linter.unusedVariables false
abbrev IsWrite (s : Int) (bs : List Int) (dur : List Int) (ds : List (Int × List Int)) (r : List Int) (rs : List (Int × List Int)) : Prop := Ans (Valid dur.length ds ∧ CanWrite dur.length s bs) (putD dur ds s bs).1 (putD dur ds s bs).2 dur ds r rs
theorem IsWrite.of_writeD {s : Int} {bs dur : List Int} {ds rs : List (Int × List Int)} (hv : Valid dur.length ds) (h : rs = (writeD dur ds s bs).2) : IsWrite s bs dur ds (writeD dur ds s bs).1 rs := by
  subst h
  unfold writeD
  by_cases hc : CanWrite dur.length s bs
  · rw [if_pos hc]; exact .inl ⟨⟨hv, hc⟩, rfl, rfl⟩
  · rw [if_neg hc]; exact .inr ⟨fun h => hc h.2, rfl, rfl⟩
theorem Rd.looks_lt {k : IntKind} {w : World} {v : Value} {bs : List Int} (h : Rd k w v bs) (hb : bs ≠ []) {b : Nat} (hl : looks v b) : b < w.heap.size := by
  obtain ⟨o, n, c, rfl⟩ := hl
  rcases h.2 with ⟨h0, _⟩ | ⟨b', off, c', e, _, hc⟩
  · exact absurd h0 hb
  · simp only [Value.slice.injEq, Option.some.injEq, Addr.mk.injEq, and_true] at e
    obtain ⟨⟨rfl, rfl⟩, _⟩ := e
    exact World.block_lt_of_cell? w _ (hc 0 (by cases bs with | nil => exact absurd rfl hb | cons _ _ => simp))
theorem specWrite_any (dv pv : Value) (dur : List Int) (ps : List PW) (s : Int) (v : Value) (bs : List Int) (w : World) (hd : dur.length ≤ 1099511627776) (hn : ps.length ≤ 1073741824) (hs : ∀ p ∈ ps, p.bs.length ≤ 1099511627776) (hv : RdD w dv pv dur ps) (hbl : bs.length ≤ 1099511627776) (hb : Rd .u8 w v bs) :
    Calls Try.prog 20 #[.agg #[dv, pv], .int .i64 s, v] w fun e w' => ∃ a n c a' n' c' r qs, e = .returned (.agg #[.slice a n c, .slice a' n' c']) ∧ IsWrite s bs dur (dataP ps) r (dataP qs) ∧
      (∀ b, footD (.slice a n c) (.slice a' n' c') qs b → w.heap.size ≤ b) ∧ OwnD 0 40 5 w' (.slice a n c) (.slice a' n' c') r qs ∧ Same w w' := by
  obtain ⟨a1, c1, rfl⟩ := hv.dur.form
  obtain ⟨a2, c2, rfl⟩ := hv.pend.form
  have HV := (show Hid (RdD w (.slice a1 dur.length c1) (.slice a2 ps.length c2) dur ps) from hv)
  obtain ⟨av, cv, rfl⟩ := hb.form
  have HRV := (show Hid (Rd .u8 w (.slice av bs.length cv) bs) from hb)
  have hm := hv.dur.1
  have hbm := hb.1
  unfold maxLen at hbm
  have HS : Hid (∀ p ∈ ps, p.bs.length ≤ 1099511627776) := hs
  clear hv hs hb
  go_enter Try.func20, Try.ntmps20
  go_wp2_with fail
  refine (specValid_any _ _ dur ps _ (HV.out.same (((Kept.refl _ _).alloc _).alloc _))).mono ?_
  rintro e w1 ⟨⟨B, rfl, hB⟩, hk1⟩
  have HB1 : Hid (Box w1 w.heap.size (.slice a1 dur.length c1) (.slice a2 ps.length c2)) := (Box.new _ _ _ _).same (((Kept.refl _ _).alloc _).trans hk1)
  have HX1 : Hid (FBox w1 (w.heap.size + 1) (.slice none 0 0) (.slice none 0 0)) := by have h := FBox.new (w.alloc (.cells #[.slice a1 dur.length c1, .slice a2 ps.length c2] 25)) (.slice none 0 0) (.slice none 0 0) 25; rw [World.size_alloc] at h; exact h.same hk1
  have HK1 : Hid (Same w w1) := (((Kept.refl _ _).alloc _).alloc _).trans hk1
  clear hk1
  obtain ⟨p1, p2⟩ := HB1.out
  have hl1 := HX1.out.lt
  have hl0 := HB1.out.lt
  cases B with
  | false =>
    have HN : Hid (¬ Valid dur.length (dataP ps)) := fun h => by have := hB.2 h; simp at this
    clear hB
    go_wp2_with fail
    refine (copyDisk_any _ _ dur ps _ hd hn HS.out (HV.out.same HK1.out)).mono ?_
    rintro e w2 ⟨a, n, c, a', n', c', qs, rfl, hq, hf, ho, hk⟩
    have HQ : Hid (dataP qs = dataP ps) := hq
    have HF := (show Hid (∀ b, footD (.slice a n c) (.slice a' n' c') qs b → w.heap.size + 1 < b) from fun b hb => by have h1 := hf b hb; omega)
    have HO := (show Hid (OwnD 0 40 5 w2 (.slice a n c) (.slice a' n' c') dur qs) from ho)
    have HK : Hid (Same w w2) := HK1.out.trans hk
    obtain ⟨x1, x2, x3, x4⟩ := HX1.out.same hk
    clear hq hf ho hk p1 p2
    go_wp2
    exact agg_ret (by simp [results, Try.results20, go_sem, x1, x2]) rfl (A := IsWrite s bs dur (dataP ps)) (.inr ⟨fun h => HN.out h.1, rfl, HQ.out⟩) (Nat.le_succ _) HF.out HO.out HK.out
  | true =>
    have HY : Hid (Valid dur.length (dataP ps)) := hB.1 rfl
    clear hB
    by_cases s1 : s < 0
    · go_wp2_with fail
      refine (copyDisk_any _ _ dur ps _ hd hn HS.out (HV.out.same HK1.out)).mono ?_
      rintro e w2 ⟨a, n, c, a', n', c', qs, rfl, hq, hf, ho, hk⟩
      have HQ : Hid (dataP qs = dataP ps) := hq
      have HF := (show Hid (∀ b, footD (.slice a n c) (.slice a' n' c') qs b → w.heap.size + 1 < b) from fun b hb => by have h1 := hf b hb; omega)
      have HO := (show Hid (OwnD 0 40 5 w2 (.slice a n c) (.slice a' n' c') dur qs) from ho)
      have HK : Hid (Same w w2) := HK1.out.trans hk
      obtain ⟨x1, x2, x3, x4⟩ := HX1.out.same hk
      clear hq hf ho hk p1 p2
      go_wp2
      exact agg_ret (by simp [results, Try.results20, go_sem, x1, x2]) rfl (A := IsWrite s bs dur (dataP ps)) (.inr ⟨fun h => by have := h.2.1; omega, rfl, HQ.out⟩) (Nat.le_succ _) HF.out HO.out HK.out
    · by_cases s2 : (dur.length : Int) / 512 ≤ s
      · go_wp2_with (go_at_call 50; refine (l1Sectors_any _ _ _ _ _ _ _ hm).mono ?_; rintro e w' ⟨rfl, rfl⟩)
        refine (copyDisk_any _ _ dur ps _ hd hn HS.out (HV.out.same (HK1.out.alloc _))).mono ?_
        rintro e w2 ⟨a, n, c, a', n', c', qs, rfl, hq, hf, ho, hk⟩
        have HQ : Hid (dataP qs = dataP ps) := hq
        have HF := (show Hid (∀ b, footD (.slice a n c) (.slice a' n' c') qs b → w.heap.size + 1 < b) from fun b hb => by have h1 := hf b hb; rw [World.size_alloc] at h1; omega)
        have HO := (show Hid (OwnD 0 40 5 w2 (.slice a n c) (.slice a' n' c') dur qs) from ho)
        have HK : Hid (Same w w2) := (HK1.out.alloc _).trans hk
        obtain ⟨x1, x2, x3, x4⟩ := (HX1.out.next _).same hk
        clear hq hf ho hk p1 p2
        go_wp2
        exact agg_ret (by simp [results, Try.results20, go_sem, x1, x2]) rfl (A := IsWrite s bs dur (dataP ps)) (.inr ⟨fun h => by have := h.2.2.1; omega, rfl, HQ.out⟩) (Nat.le_succ _) HF.out HO.out HK.out
      · have s3 : ((dur.length / 512 : Nat) : Int) ≤ 1024 := by have := HY.out.1.2.2.1; omega
        by_cases s4 : bs.length = 512
        · have t4 : ((bs.length : Int) != 512) = false := by simp; omega
          have HCW : Hid (CanWrite dur.length s bs) := ⟨by omega, by omega, s4⟩
          clear s4
          go_wp2_with (go_at_call 50; refine (l1Sectors_any _ _ _ _ _ _ _ hm).mono ?_; rintro e w' ⟨rfl, rfl⟩)
          refine (copyDisk_any _ _ dur ps _ hd hn HS.out (HV.out.same (HK1.out.alloc _))).mono ?_
          rintro e w2 ⟨a, n, c, a', n', c', qs, rfl, hq, hf, ho, hk⟩
          have HQ : Hid (dataP qs = dataP ps) := hq
          have HF := (show Hid (∀ b, footD (.slice a n c) (.slice a' n' c') qs b → w.heap.size + 1 < b) from fun b hb => by have h1 := hf b hb; rw [World.size_alloc] at h1; omega)
          have HO := (show Hid (OwnD 0 40 5 w2 (.slice a n c) (.slice a' n' c') dur qs) from ho)
          have HK : Hid (Same w w2) := (HK1.out.alloc _).trans hk
          have HX2 : Hid (FBox w2 (w.heap.size + 1) (.slice none 0 0) (.slice none 0 0)) := (HX1.out.next _).same hk
          clear hq hf ho hk p1 p2
          go_wp2_with fail
          refine (l1Put_any _ _ dur qs s _ bs _ hd hbl HO.out (by rw [HQ.out]; exact HY.out) (HRV.out.same HK.out)).mono ?_
          rintro e w3 ⟨a3, n3, c3, a3', n3', c3', qs3, rfl, hq3, hf3, ho3, hk3⟩
          rw [HQ.out] at hq3 ho3
          have hx3 : ∀ b, (Value.slice a' n' c').ownBlock = some b → w.heap.size + 1 < b := fun b hb => HF.out b (.inr (.inl hb))
          have HQ3 : Hid (dataP qs3 = (putD dur (dataP ps) s bs).2) := hq3
          have HF3 := (show Hid (∀ b, footD (.slice a3 n3 c3) (.slice a3' n3' c3') qs3 b → w.heap.size + 1 < b) from fun b hb => by
            rcases hf3 b hb with h | h
            · exact HF.out b h
            · have := HX2.out.lt; omega)
          have HO3 := (show Hid (OwnD 0 40 5 w3 (.slice a3 n3 c3) (.slice a3' n3' c3') (putD dur (dataP ps) s bs).1 qs3) from ho3)
          have HK3 : Hid (Same w w3) := HK.out.next hk3 (fun b hb e => by have := hx3 b e; omega)
          obtain ⟨x1, x2, x3, x4⟩ := HX2.out.kept hk3 (fun e => by have := hx3 _ e; omega)
          clear hq3 hf3 ho3 hk3 hx3
          go_wp2
          exact agg_ret (by simp [results, Try.results20, go_sem, x1, x2]) rfl (A := IsWrite s bs dur (dataP ps)) (.inl ⟨⟨HY.out, HCW.out⟩, rfl, HQ3.out⟩) (Nat.le_succ _) HF3.out HO3.out HK3.out
        · have t4 : ((bs.length : Int) != 512) = true := by simp; omega
          have HCW : Hid (¬ CanWrite dur.length s bs) := fun h => s4 h.2.2
          clear s4
          go_wp2_with (go_at_call 50; refine (l1Sectors_any _ _ _ _ _ _ _ hm).mono ?_; rintro e w' ⟨rfl, rfl⟩)
          refine (copyDisk_any _ _ dur ps _ hd hn HS.out (HV.out.same (HK1.out.alloc _))).mono ?_
          rintro e w2 ⟨a, n, c, a', n', c', qs, rfl, hq, hf, ho, hk⟩
          have HQ : Hid (dataP qs = dataP ps) := hq
          have HF := (show Hid (∀ b, footD (.slice a n c) (.slice a' n' c') qs b → w.heap.size + 1 < b) from fun b hb => by have h1 := hf b hb; rw [World.size_alloc] at h1; omega)
          have HO := (show Hid (OwnD 0 40 5 w2 (.slice a n c) (.slice a' n' c') dur qs) from ho)
          have HK : Hid (Same w w2) := (HK1.out.alloc _).trans hk
          obtain ⟨x1, x2, x3, x4⟩ := (HX1.out.next _).same hk
          clear hq hf ho hk p1 p2
          go_wp2
          exact agg_ret (by simp [results, Try.results20, go_sem, x1, x2]) rfl (A := IsWrite s bs dur (dataP ps)) (.inr ⟨fun h => HCW.out h.2, rfl, HQ.out⟩) (Nat.le_succ _) HF.out HO.out HK.out
theorem implWrite_any (dv pv : Value) (dur : List Int) (ps : List PW) (s : Int) (v : Value) (bs : List Int) (w : World) (hd : dur.length ≤ 1099511627776) (hn : ps.length ≤ 1073741824) (hs : ∀ p ∈ ps, p.bs.length ≤ 1099511627776) (hv : RdD w dv pv dur ps) (hbl : bs.length ≤ 1099511627776) (hb : Rd .u8 w v bs) :
    Calls Try.prog 23 #[.agg #[dv, pv], .int .i64 s, v] w fun e w' => ∃ a n c a' n' c' r qs, e = .returned (.agg #[.slice a n c, .slice a' n' c']) ∧ IsWrite s bs dur (dataP ps) r (dataP qs) ∧
      (∀ b, footD (.slice a n c) (.slice a' n' c') qs b → w.heap.size ≤ b) ∧ OwnD 0 40 5 w' (.slice a n c) (.slice a' n' c') r qs ∧ Same w w' := by
  obtain ⟨a1, c1, rfl⟩ := hv.dur.form
  obtain ⟨a2, c2, rfl⟩ := hv.pend.form
  have HV := (show Hid (RdD w (.slice a1 dur.length c1) (.slice a2 ps.length c2) dur ps) from hv)
  obtain ⟨av, cv, rfl⟩ := hb.form
  have HRV := (show Hid (Rd .u8 w (.slice av bs.length cv) bs) from hb)
  have hm := hv.dur.1
  have hbm := hb.1
  unfold maxLen at hbm
  have HS : Hid (∀ p ∈ ps, p.bs.length ≤ 1099511627776) := hs
  clear hv hs hb
  go_enter Try.func23, Try.ntmps23
  go_wp2_with fail
  refine (implValid_any _ _ dur ps _ (HV.out.same (((Kept.refl _ _).alloc _).alloc _))).mono ?_
  rintro e w1 ⟨⟨B, rfl, hB⟩, hk1⟩
  have HB1 : Hid (Box w1 w.heap.size (.slice a1 dur.length c1) (.slice a2 ps.length c2)) := (Box.new _ _ _ _).same (((Kept.refl _ _).alloc _).trans hk1)
  have HX1 : Hid (FBox w1 (w.heap.size + 1) (.slice none 0 0) (.slice none 0 0)) := by have h := FBox.new (w.alloc (.cells #[.slice a1 dur.length c1, .slice a2 ps.length c2] 25)) (.slice none 0 0) (.slice none 0 0) 25; rw [World.size_alloc] at h; exact h.same hk1
  have HK1 : Hid (Same w w1) := (((Kept.refl _ _).alloc _).alloc _).trans hk1
  clear hk1
  obtain ⟨p1, p2⟩ := HB1.out
  have hl1 := HX1.out.lt
  have hl0 := HB1.out.lt
  cases B with
  | false =>
    have HN : Hid (¬ Valid dur.length (dataP ps)) := fun h => by have := hB.2 h; simp at this
    clear hB
    go_wp2_with fail
    refine (cloneDisk_any _ _ dur ps _ hd hn HS.out (HV.out.same HK1.out)).mono ?_
    rintro e w2 ⟨a, n, c, a', n', c', qs, rfl, hq, hf, ho, hk⟩
    have HQ : Hid (dataP qs = dataP ps) := hq
    have HF := (show Hid (∀ b, footD (.slice a n c) (.slice a' n' c') qs b → w.heap.size + 1 < b) from fun b hb => by have h1 := hf b hb; omega)
    have HO := (show Hid (OwnD 0 40 5 w2 (.slice a n c) (.slice a' n' c') dur qs) from ho)
    have HK : Hid (Same w w2) := HK1.out.trans hk
    obtain ⟨x1, x2, x3, x4⟩ := HX1.out.same hk
    clear hq hf ho hk p1 p2
    go_wp2
    exact agg_ret (by simp [results, Try.results23, go_sem, x1, x2]) rfl (A := IsWrite s bs dur (dataP ps)) (.inr ⟨fun h => HN.out h.1, rfl, HQ.out⟩) (Nat.le_succ _) HF.out HO.out HK.out
  | true =>
    have HY : Hid (Valid dur.length (dataP ps)) := hB.1 rfl
    clear hB
    go_wp2_with fail
    refine (openDisk_any _ _ dur ps _ (HV.out.same HK1.out) HY.out).mono ?_
    rintro e w2 ⟨B, dv', pv', rfl, hpl, ⟨hf1, hf2, hf3⟩, hk2⟩
    have HPL := (show Hid (Plat w2 B dv' pv' dur (dataP ps)) from hpl)
    have HF := (show Hid (w1.heap.size ≤ B ∧ (∀ b, dv'.ownBlock = some b → w1.heap.size ≤ b) ∧ ∀ b, pv'.ownBlock = some b → w1.heap.size ≤ b) from ⟨hf1, hf2, hf3⟩)
    have HK2 : Hid (Same w w2) := HK1.out.trans hk2
    have HX2 : Hid (FBox w2 (w.heap.size + 1) (.slice none 0 0) (.slice none 0 0)) := HX1.out.same hk2
    have hs2 := hk2.size
    clear hpl hf1 hf2 hf3 hk2 p1 p2
    go_wp2_with fail
    refine (write_any B dv' pv' dur (dataP ps) s _ bs _ HPL.out HY.out (HRV.out.same HK2.out) (fun h0 b hb => ?sep)).mono ?_
    case sep =>
      have hbw : b < w.heap.size := HRV.out.looks_lt h0 hb
      exact ⟨by have := HF.out.1; omega, fun e => by have := HF.out.2.1 b e; omega, fun e => by have := HF.out.2.2 b e; omega⟩
    rintro e w3 ⟨rfl, ⟨pv3, hpl, _⟩, hk3⟩
    have HPL3 := (show Hid (Plat w3 B dv' pv3 (writeD dur (dataP ps) s bs).1 (writeD dur (dataP ps) s bs).2) from hpl)
    have hK : ∀ b, (b = B ∨ dv'.ownBlock = some b ∨ pv'.ownBlock = some b) → w1.heap.size ≤ b := fun b e => by
      rcases e with rfl | e | e
      · exact HF.out.1
      · exact HF.out.2.1 b e
      · exact HF.out.2.2 b e
    have HK3 : Hid (Same w w3) := HK2.out.next hk3 (fun b hb e => by have := hK b e; omega)
    have HX3 : Hid (FBox w3 (w.heap.size + 1) (.slice none 0 0) (.slice none 0 0)) := HX2.out.kept hk3 (fun e => by have := hK _ e; omega)
    have hs3 := hk3.size
    clear hpl hk3 hK
    go_wp2_with fail
    refine (disk_any B dv' pv3 (writeD dur (dataP ps) s bs).1 (writeD dur (dataP ps) s bs).2 _ HPL3.out (by rw [(writeD_valid HY.out).1]; exact (writeD_valid HY.out).2)).mono ?_
    rintro e w4 ⟨a, n, c, a', n', c', qs, rfl, hq, hf, ho, hk⟩
    have HQ : Hid (dataP qs = (writeD dur (dataP ps) s bs).2) := hq
    have HF4 := (show Hid (∀ b, footD (.slice a n c) (.slice a' n' c') qs b → w.heap.size + 1 < b) from fun b hb => by have h1 := hf b hb; omega)
    have HO := (show Hid (OwnD 0 40 5 w4 (.slice a n c) (.slice a' n' c') (writeD dur (dataP ps) s bs).1 qs) from ho)
    have HK : Hid (Same w w4) := HK3.out.trans hk
    obtain ⟨x1, x2, x3, x4⟩ := HX3.out.same hk
    clear hq hf ho hk
    go_wp2
    exact agg_ret (by simp [results, Try.results23, go_sem, x1, x2]) rfl (A := IsWrite s bs dur (dataP ps)) (IsWrite.of_writeD HY.out HQ.out) (Nat.le_succ _) HF4.out HO.out HK.out
end Go.Proofs.Ytfhdkbibcndmjaa
