import Derived.Test.YteacihpankkhkaaDisk
import Derived.Test.YteacihpankkhkaaRows
import Derived.WalkKit
import Derived.ProofKit
import Derived.OpenShut
import Derived.ShutString
import Derived.ChangeOld
import Derived.Below
namespace Go.Proofs.Yteacihpankkhkaa
set_option maxRecDepth 100000
set_option maxHeartbeats 1000000
open Go.RowKit
theorem Try.infoByte : (Try.prog.info? 5).map (fun i => (i.zero, i.size, i.bytes)) = some (some (.int .u8 0), 1, 1) := by kernel_rfl
def newDur (s : Int) : List Int := if s < 1 ∨ 1024 < s then [] else List.replicate (s.toNat * 512) 0
theorem newDur_le (s : Int) : (newDur s).length ≤ 524288 := by
  unfold newDur
  split
  · simp
  · simp; omega
theorem newDisk_no (s : Int) (w : World) (h : s < 1 ∨ 1024 < s) :
    Calls Try.prog 13 #[.int .i64 s] w fun e w' => e = .returned (.agg #[.slice none 0 0, .slice none 0 0]) ∧ Same w w' := by
  rcases h with h | h
  · go_enter Try.func13, Try.ntmps13
    go_wp2
    exact bodyPost_ret (v := .agg #[.slice none 0 0, .slice none 0 0]) (by simp [results, Try.results13, go_sem]) rfl ⟨rfl, (Kept.refl _ _).alloc _⟩
  · have h' : ¬ s < 1 := by omega
    go_enter Try.func13, Try.ntmps13
    go_wp2
    exact bodyPost_ret (v := .agg #[.slice none 0 0, .slice none 0 0]) (by simp [results, Try.results13, go_sem]) rfl ⟨rfl, (Kept.refl _ _).alloc _⟩
theorem newDisk_yes (s : Int) (w : World) (h1 : 1 ≤ s) (h2 : s ≤ 1024) :
    Calls Try.prog 13 #[.int .i64 s] w fun e w' => ∃ g, e = .returned (.agg #[.slice (some ⟨g, 0, none⟩) (s.toNat * 512) (s.toNat * 512), .slice none 0 0]) ∧ w.heap.size ≤ g ∧
      Own 0 5 .u8 w' (.slice (some ⟨g, 0, none⟩) (s.toNat * 512) (s.toNat * 512)) (List.replicate (s.toNat * 512) 0) ∧ Same w w' := by
  obtain ⟨n, rfl⟩ : ∃ n : Nat, s = n := ⟨s.toNat, by omega⟩
  obtain ⟨i0, hi, hz0, hz1, hz2⟩ := info_parts Try.infoByte
  have h1' : ¬ (n : Int) < 1 := by omega
  go_enter Try.func13, Try.ntmps13
  go_wp2_with (at_make; refine wpList_make_full _ rfl (.tmp 11) (.tmp 11) 22 rfl 0 5 i0 (.int .u8 0) 1 Try.underlying22 hi hz0 hz1 .i64 .i64 _ _ (n * 512) rfl rfl (by simp) (by simp) (by rw [hz2]; omega) (by unfold maxLen; omega) (Nat.zero_le _) ?_; intro w1 hown1 hgrow1; have HO : Hid (Own 0 5 .u8 w1 (.slice (some ⟨w.heap.size + 1, 0, none⟩) (n * 512) (n * 512)) (List.replicate (n * 512) 0)) := own_made (by simpa using hown1); have HK : Hid (Same w w1) := ((Kept.refl _ _).alloc _).grown hgrow1 (fun k e => by cases e); obtain ⟨q1, q2, q3, q4, q5⟩ := kept_two (Kept.of_grown (R := fun _ => False) hgrow1 (fun k e => by cases e)) id; clear hown1 hgrow1)
  refine bodyPost_ret (v := .agg #[.slice (some ⟨w.heap.size + 1, 0, none⟩) (n * 512) (n * 512), .slice none 0 0]) (by simp [results, Try.results13, go_sem, q1, q2]) rfl ⟨w.heap.size + 1, by simp, by omega, ?_, ?_⟩
  · exact HO.out.kept (R := fun b => b = w.heap.size) ((Kept.refl (fun b => b = w.heap.size) _).setTwo (.inr rfl) _ _) (fun b hb e => by simp [Value.ownBlock] at hb; omega)
  · exact HK.out.setTwo (.inl (Nat.le_refl _)) _ _
theorem newDisk_any (s : Int) (w : World) :
    Calls Try.prog 13 #[.int .i64 s] w fun e w' => ∃ a n c, e = .returned (.agg #[.slice a n c, .slice none 0 0]) ∧ OwnD 0 45 5 w' (.slice a n c) (.slice none 0 0) (newDur s) [] ∧
      (∀ b, (Value.slice a n c).ownBlock = some b → w.heap.size ≤ b) ∧ Same w w' := by
  by_cases h : s < 1 ∨ 1024 < s
  · refine (newDisk_no s w h).mono ?_
    rintro e w' ⟨rfl, hk⟩
    refine ⟨none, 0, 0, rfl, ⟨?_, OwnP.nil _ _ _ _, fun b hb => ?_⟩, fun b hb => by simp [Value.ownBlock] at hb, hk⟩
    · rw [newDur, if_pos h]; exact Own.nil _ _ _ _
    · simp [Value.ownBlock]
  · refine (newDisk_yes s w (by omega) (by omega)).mono ?_
    rintro e w' ⟨g, rfl, hg, ho, hk⟩
    refine ⟨_, _, _, rfl, ⟨?_, OwnP.nil _ _ _ _, fun b hb => ?_⟩, fun b hb => ?_, hk⟩
    · rw [newDur, if_neg h]; exact ho
    · rcases hb with hb | ⟨p, hp, _⟩
      · simp [Value.ownBlock] at hb
      · simp at hp
    · simp [Value.ownBlock] at hb; omega
theorem specNewDisk_no (s : Int) (w : World) (h : s < 1 ∨ 1024 < s) :
    Calls Try.prog 12 #[.int .i64 s] w fun e w' => e = .returned (.agg #[.slice none 0 0, .slice none 0 0]) ∧ Same w w' := by
  rcases h with h | h
  · go_enter Try.func12, Try.ntmps12
    go_wp2
    exact bodyPost_ret (v := .agg #[.slice none 0 0, .slice none 0 0]) (by simp [results, Try.results12, go_sem]) rfl ⟨rfl, (Kept.refl _ _).alloc _⟩
  · have h' : ¬ s < 1 := by omega
    go_enter Try.func12, Try.ntmps12
    go_wp2
    exact bodyPost_ret (v := .agg #[.slice none 0 0, .slice none 0 0]) (by simp [results, Try.results12, go_sem]) rfl ⟨rfl, (Kept.refl _ _).alloc _⟩
theorem specNewDisk_yes (s : Int) (w : World) (h1 : 1 ≤ s) (h2 : s ≤ 1024) :
    Calls Try.prog 12 #[.int .i64 s] w fun e w' => ∃ g, e = .returned (.agg #[.slice (some ⟨g, 0, none⟩) (s.toNat * 512) (s.toNat * 512), .slice none 0 0]) ∧ w.heap.size ≤ g ∧
      Own 0 5 .u8 w' (.slice (some ⟨g, 0, none⟩) (s.toNat * 512) (s.toNat * 512)) (List.replicate (s.toNat * 512) 0) ∧ Same w w' := by
  obtain ⟨n, rfl⟩ : ∃ n : Nat, s = n := ⟨s.toNat, by omega⟩
  obtain ⟨i0, hi, hz0, hz1, hz2⟩ := info_parts Try.infoByte
  have h1' : ¬ (n : Int) < 1 := by omega
  go_enter Try.func12, Try.ntmps12
  go_wp2_with (at_make; refine wpList_make_full _ rfl (.tmp 11) (.tmp 11) 22 rfl 0 5 i0 (.int .u8 0) 1 Try.underlying22 hi hz0 hz1 .i64 .i64 _ _ (n * 512) rfl rfl (by simp) (by simp) (by rw [hz2]; omega) (by unfold maxLen; omega) (Nat.zero_le _) ?_; intro w1 hown1 hgrow1; have HO : Hid (Own 0 5 .u8 w1 (.slice (some ⟨w.heap.size + 1, 0, none⟩) (n * 512) (n * 512)) (List.replicate (n * 512) 0)) := own_made (by simpa using hown1); have HK : Hid (Same w w1) := ((Kept.refl _ _).alloc _).grown hgrow1 (fun k e => by cases e); obtain ⟨q1, q2, q3, q4, q5⟩ := kept_two (Kept.of_grown (R := fun _ => False) hgrow1 (fun k e => by cases e)) id; clear hown1 hgrow1)
  refine bodyPost_ret (v := .agg #[.slice (some ⟨w.heap.size + 1, 0, none⟩) (n * 512) (n * 512), .slice none 0 0]) (by simp [results, Try.results12, go_sem, q1, q2]) rfl ⟨w.heap.size + 1, by simp, by omega, ?_, ?_⟩
  · exact HO.out.kept (R := fun b => b = w.heap.size) ((Kept.refl (fun b => b = w.heap.size) _).setTwo (.inr rfl) _ _) (fun b hb e => by simp [Value.ownBlock] at hb; omega)
  · exact HK.out.setTwo (.inl (Nat.le_refl _)) _ _
theorem specNewDisk_any (s : Int) (w : World) :
    Calls Try.prog 12 #[.int .i64 s] w fun e w' => ∃ a n c, e = .returned (.agg #[.slice a n c, .slice none 0 0]) ∧ OwnD 0 45 5 w' (.slice a n c) (.slice none 0 0) (newDur s) [] ∧
      (∀ b, (Value.slice a n c).ownBlock = some b → w.heap.size ≤ b) ∧ Same w w' := by
  by_cases h : s < 1 ∨ 1024 < s
  · refine (specNewDisk_no s w h).mono ?_
    rintro e w' ⟨rfl, hk⟩
    refine ⟨none, 0, 0, rfl, ⟨?_, OwnP.nil _ _ _ _, fun b hb => ?_⟩, fun b hb => by simp [Value.ownBlock] at hb, hk⟩
    · rw [newDur, if_pos h]; exact Own.nil _ _ _ _
    · simp [Value.ownBlock]
  · refine (specNewDisk_yes s w (by omega) (by omega)).mono ?_
    rintro e w' ⟨g, rfl, hg, ho, hk⟩
    refine ⟨_, _, _, rfl, ⟨?_, OwnP.nil _ _ _ _, fun b hb => ?_⟩, fun b hb => ?_, hk⟩
    · rw [newDur, if_neg h]; exact ho
    · rcases hb with hb | ⟨p, hp, _⟩
      · simp [Value.ownBlock] at hb
      · simp at hp
    · simp [Value.ownBlock] at hb; omega
theorem newDisk_law (s : Int) (w : World) :
    Calls Try.prog 4 #[.int .i64 s] w fun e w' => e = .returned (.bool true) ∧ Same w w' := by
  have hlen := newDur_le s
  generalize hd : newDur s = dur at hlen
  have HD : Hid (newDur s = dur) := hd
  clear hd
  go_enter Try.func4, Try.ntmps4
  go_wp2_with fail
  refine (specNewDisk_any s _).mono ?_
  rintro e w1 ⟨a1, n1, c1, rfl, ho1, hf1, hk1⟩
  rw [HD.out] at ho1
  have HO1 := (show Hid (OwnD 0 45 5 w1 (.slice a1 n1 c1) (.slice none 0 0) dur []) from ho1)
  have HF1 := (show Hid (∀ b, (Value.slice a1 n1 c1).ownBlock = some b → w.heap.size ≤ b) from hf1)
  have HK1 : Hid (Same w w1) := hk1
  clear ho1 hf1 hk1
  go_wp2_with fail
  refine (newDisk_any s _).mono ?_
  rintro e w2 ⟨a2, n2, c2, rfl, ho2, hf2, hk2⟩
  rw [HD.out] at ho2
  have HB1 : Hid (Box w2 w1.heap.size (.slice a1 n1 c1) (.slice none 0 0)) := (Box.new _ _ _ _).same hk2
  obtain ⟨p1, p2⟩ := HB1.out
  have HO2 := (show Hid (OwnD 0 45 5 w2 (.slice a2 n2 c2) (.slice none 0 0) dur []) from ho2)
  have HO1' := (show Hid (OwnD 0 45 5 w2 (.slice a1 n1 c1) (.slice none 0 0) dur []) from HO1.out.same (((Kept.refl _ _).alloc _).trans hk2))
  have HF2 := (show Hid (∀ b, (Value.slice a2 n2 c2).ownBlock = some b → w1.heap.size < b) from fun b hb => by have := hf2 b hb; simp at this; omega)
  have hz2 : w1.heap.size < w2.heap.size := by have := hk2.size; simp at this; omega
  have HK2 : Hid (Same w w2) := (HK1.out.alloc _).trans hk2
  clear ho2 hf2 hk2
  go_wp2_with fail
  refine (eqDisk_own 0 _ _ _ _ dur [] [] _ (by omega) (by simp) rfl (by simp) (HO2.out.same ((Kept.refl _ _).alloc _)) (HO1'.out.same ((Kept.refl _ _).alloc _))).mono ?_
  rintro e w3 ⟨rfl, hk3⟩
  have hk3' : Same w2 w3 := ((Kept.refl _ _).alloc _).trans hk3
  have HB1' : Hid (Box w3 w1.heap.size (.slice a1 n1 c1) (.slice none 0 0)) := HB1.out.same hk3'
  have HB2 : Hid (Box w3 w2.heap.size (.slice a2 n2 c2) (.slice none 0 0)) := (Box.new _ _ _ _).same hk3
  have HO13 := hid (HO1'.out.same hk3')
  have HO23 := hid (HO2.out.same hk3')
  have HK3 : Hid (Same w w3) := HK2.out.trans hk3'
  clear hk3 hk3' p1 p2
  obtain ⟨p1, p2⟩ := HB1'.out
  obtain ⟨p3, p4⟩ := HB2.out
  go_wp2_with fail
  obtain ⟨E, hE⟩ : ∃ E, endP (1 + (dur.length : Int)) [] = E := ⟨_, rfl⟩
  have hE0 : 0 ≤ E := by rw [← hE]; simp only [endP]; omega
  have hE1 : E ≤ 1125899906842624 := by rw [← hE]; simp only [endP]; omega
  have HE : Hid (endP (1 + (dur.length : Int)) [] = E) := hE
  clear hE
  have hm := markDisk_own 0 (.slice a2 n2 c2) (.slice none 0 0) dur [] 1 w3 (by omega) (by rw [HE.out]; exact hE1) (by simp) HO23.out
  rw [HE.out] at hm
  refine hm.mono ?_
  clear hm
  rintro e w4 ⟨rfl, ho4, hk4⟩
  have hfoot : ∀ b, footD (.slice a2 n2 c2) (.slice none 0 0) [] b → w1.heap.size < b ∧ b < w2.heap.size := fun b hb => by
    rcases hb with hb | hb
    · exact ⟨HF2.out b hb, (HO2.out.lt b (.inl hb)).2⟩
    · exact absurd hb (footP_nil b)
  have HB14 : Hid (Box w4 w1.heap.size (.slice a1 n1 c1) (.slice none 0 0)) := HB1'.out.kept hk4 (fun e => by have := hfoot _ e; omega)
  have HB24 : Hid (Box w4 w2.heap.size (.slice a2 n2 c2) (.slice none 0 0)) := HB2.out.kept hk4 (fun e => by have := hfoot _ e; omega)
  have HO14 := (show Hid (OwnD 0 45 5 w4 (.slice a1 n1 c1) (.slice none 0 0) dur []) from HO13.out.kept hk4 (fun b hb e => by have h1 := hfoot _ e; have h2 := (HO1.out.lt b hb).2; omega))
  have HO24 := (show Hid (OwnD 0 45 5 w4 (.slice a2 n2 c2) (.slice none 0 0) (marks 1 dur.length) (markP (1 + (dur.length : Int)) [])) from ho4)
  have HK4 : Hid (Same w w4) := HK3.out.next hk4 (fun b hb e => by have h1 := hfoot _ e; have h2 := HK1.out.size; omega)
  clear p1 p2 p3 p4 ho4 hk4
  obtain ⟨p1, p2⟩ := HB14.out
  obtain ⟨p3, p4⟩ := HB24.out
  go_wp2_with fail
  have hh := heldDisk_own 0 (.slice a2 n2 c2) (.slice none 0 0) dur [] 1 w4 (by omega) (by rw [HE.out]; exact hE1) (by simp) HO24.out
  rw [HE.out] at hh
  refine hh.mono ?_
  clear hh
  rintro e w5 ⟨rfl, hk5⟩
  have HB15 : Hid (Box w5 w1.heap.size (.slice a1 n1 c1) (.slice none 0 0)) := HB14.out.same hk5
  have HB25 : Hid (Box w5 w2.heap.size (.slice a2 n2 c2) (.slice none 0 0)) := HB24.out.same hk5
  have HO15 := hid (HO14.out.same hk5)
  have HO25 := hid (HO24.out.same hk5)
  have HK5 : Hid (Same w w5) := HK4.out.trans hk5
  clear p1 p2 p3 p4 hk5
  go_wp2_with fail
  refine (newDisk_any s _).mono ?_
  rintro e w6 ⟨a3, n3, c3, rfl, ho6, hf6, hk6⟩
  rw [HD.out] at ho6
  have HB16 : Hid (Box w6 w1.heap.size (.slice a1 n1 c1) (.slice none 0 0)) := HB15.out.same hk6
  have HB26 : Hid (Box w6 w2.heap.size (.slice a2 n2 c2) (.slice none 0 0)) := HB25.out.same hk6
  have HO16 := hid (HO15.out.same hk6)
  have HO26 := hid (HO25.out.same hk6)
  have HO36 := (show Hid (OwnD 0 45 5 w6 (.slice a3 n3 c3) (.slice none 0 0) dur []) from ho6)
  have HK6 : Hid (Same w w6) := HK5.out.trans hk6
  clear ho6 hf6 hk6
  obtain ⟨p1, p2⟩ := HB16.out
  have hz6 := HB16.out.lt
  go_wp2_with fail
  refine (eqDisk_own 0 _ _ _ _ dur [] [] _ (by omega) (by simp) rfl (by simp) (HO36.out.same ((Kept.refl _ _).alloc _)) (HO16.out.same ((Kept.refl _ _).alloc _))).mono ?_
  rintro e w7 ⟨rfl, hk7⟩
  have hk7' : Same w6 w7 := ((Kept.refl _ _).alloc _).trans hk7
  have HB27 : Hid (Box w7 w2.heap.size (.slice a2 n2 c2) (.slice none 0 0)) := HB26.out.same hk7'
  have HO27 := hid (HO26.out.same hk7')
  have HK7 : Hid (Same w w7) := HK6.out.trans hk7'
  clear p1 p2 hk7 hk7'
  obtain ⟨p3, p4⟩ := HB27.out
  go_wp2_with fail
  have hh := heldDisk_own 0 (.slice a2 n2 c2) (.slice none 0 0) dur [] 1 w7 (by omega) (by rw [HE.out]; exact hE1) (by simp) HO27.out
  rw [HE.out] at hh
  refine hh.mono ?_
  clear hh
  rintro e w8 ⟨rfl, hk8⟩
  have HK8 : Hid (Same w w8) := HK7.out.trans hk8
  clear p3 p4 hk8
  go_wp2
  go_ret
  exact ⟨rfl, HK8.out⟩
end Go.Proofs.Yteacihpankkhkaa

namespace Go.Proofs.Yteacihpankkhkaa.fnExactNewDisk
open Go.ChangeShapes Go.WideShapes Go.ChangeAt Go.RowKit
set_option linter.unusedVariables false
theorem own : ownKnob Try.prog.godebug = none := by kernel_rfl
theorem walk (a0 : Int) (w : World) :
    Calls Try.prog 4 #[.int .i64 a0] w fun e w' => e = .returned (.bool true) ∧ Below w.heap.size w w' :=
  (newDisk_law a0 w).mono fun _ _ ⟨he, hk⟩ => ⟨he, hk.below (Nat.le_refl _) (fun _ _ => id)⟩
set_option maxRecDepth 100000 in
theorem lifted (os : Os) (started : os.Started) (H : Type) (enc : TypeId × Value → H) :
    ReturnsInHanded {} Try.checked os 4 .any (Rows.fnExactNewDiskSpec.pre6 enc Try.prog Try.f4 Rows.fnExactNewDiskRow.domain false) (Rows.fnExactNewDiskSpec.post enc Try.prog Try.f4 false true false false) := by
  refine returnsInHanded_of_change (C := Try.checked) own started (by kernel_rfl) Try.func4
    (ChangeSpec.witness6 (enc := enc) (C := Try.checked) false ⟨#[], #[.int .i64 0], []⟩ 8 (by kernel_rfl) (by kernel_rfl) (by kernel_rfl) (by kernel_rfl)) ?_
  intro W base args ds gs before hval0 hW hcnd _
  have hval : ∀ (j : Nat) t v, Try.f4.params[j]? = some t → args[j]? = some v → Value.okWide Try.prog W .any base t v := hval0
  have hW' := hW
  obtain ⟨p, q, hA0, hV, rfl, hfz, hnd⟩ := hW
  have hA : DataW.TrodAll enc Try.prog W 0 (fun _ => true) true Try.f4.params.toList args.toList ds p := hA0
  rw [Try.params4] at hA hval
  obtain ⟨v0, vs0, d0, ds0, p0, q0, hargs, rfl, rfl, h0, r0⟩ := trodAll_cons hA
  obtain ⟨rfl, rfl, rfl⟩ := trodAll_nil r0
  obtain rfl : args = #[v0] := by cases args; simp_all
  obtain ⟨rfl, rfl⟩ := trodVars_none hV
  obtain ⟨a0, rfl, rfl, rfl, w0⟩ := open_int Try.underlying2 (hval 0 2 v0 rfl rfl) h0
  clear hA0 hval0
  simp only [List.append_nil] at hW'
  refine (walk a0 W).mono fun e W' ⟨he, bel⟩ => ?_
  subst he
  exact ⟨_, rfl, _, _, _, [], _, [], hW', trodAll_mk1 (shut_bool Try.underlying4 _), (trodAll_cons_mk (shut_int Try.underlying2 w0) trodAll_mk0), rfl, bel.frame _, fun h => by cases h⟩
theorem over : Rows.fnExactNewDiskRow.holds Try.pinned (OpenSpec.ofChange Rows.fnExactNewDiskSpec) :=
  OpenClaim.holds_of_wide 4 Try.f4 rfl rfl rfl rfl rfl rfl rfl ⟨rfl, rfl, rfl, rfl, rfl⟩ rfl rfl rfl rfl rfl (by kernel_rfl) Try.func4 (by kernel_rfl)
    (of_decide_eq_true (by kernel_rfl)) (by unfold Func.isWrapper; first | (rw [if_pos (by decide +kernel)]; kernel_rfl) | (rw [if_neg (by decide +kernel)]; exact ⟨rfl, rfl⟩))
    (fun os started H enc _ => lifted os started H enc)
end Go.Proofs.Yteacihpankkhkaa.fnExactNewDisk
namespace Go.Proofs.Yteacihpankkhkaa
theorem newDisk_proved : Rows.FnExactNewDiskSaid := fnExactNewDisk.over
#print axioms newDisk_proved
end Go.Proofs.Yteacihpankkhkaa
