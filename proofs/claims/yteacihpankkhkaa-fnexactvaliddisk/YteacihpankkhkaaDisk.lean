import Derived.Test.YteacihpankkhkaaG00
namespace Go.Proofs.Yteacihpankkhkaa
set_option maxHeartbeats 400000
open Go.RowKit
theorem slice_of_ownP {base : Nat} {tw tb : TypeId} {w : World} {v : Value} {ps : List PW} (h : OwnP base tw tb w v ps) : ∃ aa na ca, v = .slice aa na ca := by
 rcases h.form with ⟨rfl, _⟩ | ⟨g, cap, rfl, _⟩ <;> exact ⟨_, _, _, rfl⟩
theorem eqDisk_own (base : Nat) (dv pv dv' pv' : Value) (dur : List Int) (ps qs : List PW) (w : World) (hd : dur.length ≤ 1125899906842624) (hn : ps.length ≤ 1125899906842624)
  (hs : dataP ps = dataP qs) (hsm : ∀ p ∈ ps, p.bs.length ≤ 1125899906842624)
  (ha : OwnD base 45 5 w dv pv dur ps) (hb : OwnD base 45 5 w dv' pv' dur qs) :
  Calls Try.prog 11 #[.agg #[dv, pv], .agg #[dv', pv']] w fun e w' => e = .returned (.bool true) ∧ Same w w' := by
 obtain ⟨a1, n1, c1, rfl⟩ := slice_of_own ha.dur
 obtain ⟨a2, n2, c2, rfl⟩ := slice_of_ownP ha.pend
 obtain ⟨a3, n3, c3, rfl⟩ := slice_of_own hb.dur
 obtain ⟨a4, n4, c4, rfl⟩ := slice_of_ownP hb.pend
 have HA := (show Hid (OwnD base 45 5 w _ _ dur ps) from ha)
 have HB := (show Hid (OwnD base 45 5 w _ _ dur qs) from hb)
 have HS : Hid (dataP ps = dataP qs) := hs
 have HM : Hid (∀ p ∈ ps, p.bs.length ≤ 1125899906842624) := hsm
 clear ha hb hs hsm
 go_enter Try.func11, Try.ntmps11
 go_wp2_with fail
 refine (eqByteS_own base _ _ dur _ hd (HA.out.dur.same (((Kept.refl _ _).alloc _).alloc _)) (HB.out.dur.same (((Kept.refl _ _).alloc _).alloc _))).mono ?_
 rintro e w1 ⟨rfl, m1, rfl⟩
 go_wp2_with fail
 refine (eqSectorWriteS_own base _ _ ps qs _ hn HS.out HM.out (HA.out.pend.same ((((Kept.refl _ _).alloc _).alloc _).drewN _)) (HB.out.pend.same ((((Kept.refl _ _).alloc _).alloc _).drewN _))).mono ?_
 rintro e w2 ⟨rfl, hk2⟩
 go_wp2
 go_ret
 exact ⟨rfl, ((((Kept.refl _ _).alloc _).alloc _).drewN _).trans hk2⟩
theorem markDisk_own (base : Nat) (dv pv : Value) (dur : List Int) (ps : List PW) (k0 : Int) (w : World) (h0 : 0 ≤ k0) (h1 : endP (k0 + dur.length) ps ≤ 1125899906842624) (hn : ps.length ≤ 1125899906842624)
  (ha : OwnD base 45 5 w dv pv dur ps) :
  Calls Try.prog 14 #[.agg #[dv, pv], .int .i64 k0] w fun e w' => e = .returned (.int .i64 (endP (k0 + dur.length) ps)) ∧
   OwnD base 45 5 w' dv pv (marks k0 dur.length) (markP (k0 + dur.length) ps) ∧ Kept (footD dv pv ps) w w' := by
 have hle := endP_le (k0 + dur.length) ps
 obtain ⟨a1, n1, c1, rfl⟩ := slice_of_own ha.dur
 obtain ⟨a2, n2, c2, rfl⟩ := slice_of_ownP ha.pend
 have HA := (show Hid (OwnD base 45 5 w _ _ dur ps) from ha)
 have H1 : Hid (endP (k0 + dur.length) ps ≤ 1125899906842624) := h1
 have hb1 : k0 + dur.length ≤ 1125899906842624 := by omega
 have hlt := HA.out.lt
 have HLT : Hid (∀ b, footD (.slice a1 n1 c1) (.slice a2 n2 c2) ps b → base ≤ b ∧ b < w.heap.size) := hlt
 clear ha h1 hle hlt
 go_enter Try.func14, Try.ntmps14
 go_wp2_with fail
 refine (markByteS_own base _ dur k0 _ (by omega) (by omega) (by omega) (HA.out.dur.same ((Kept.refl _ _).alloc _))).mono ?_
 rintro e w1 ⟨rfl, ho1, hk1⟩
 have hc : w1.cell? ⟨w.heap.size, 1, none⟩ = some (.slice a2 n2 c2) := by
  rw [hk1.cell (by simp) (fun e => by have := (HLT.out w.heap.size (.inl e)).2; omega)]; simp
 have HO1 : Hid (OwnP base 45 5 w1 (.slice a2 n2 c2) ps) :=
  (HA.out.pend.same ((Kept.refl _ _).alloc _)).kept hk1 (fun b hb e => HA.out.apart b hb e)
 have HK1 : Hid (Kept (fun b => (Value.slice a1 n1 c1).ownBlock = some b) w w1) := ((Kept.refl _ _).alloc _).trans hk1
 have HD1 : Hid (Own base 5 .u8 w1 (.slice a1 n1 c1) (marks k0 dur.length)) := ho1
 clear ho1 hk1
 go_wp2_with fail
 refine (markSectorWriteS_own base _ ps (k0 + dur.length) _ (by omega) H1.out hn HO1.out).mono ?_
 rintro e w2 ⟨rfl, ho2, hk2⟩
 have HF : Hid (OwnD base 45 5 w2 (.slice a1 n1 c1) (.slice a2 n2 c2) (marks k0 dur.length) (markP (k0 + dur.length) ps) ∧ Kept (footD (.slice a1 n1 c1) (.slice a2 n2 c2) ps) w w2) :=
  ⟨⟨HD1.out.kept hk2 (fun b hb e => HA.out.apart b e hb), ho2, fun b hb => HA.out.apart b ((footP_v (markP_v _ _) b).1 hb)⟩,
   (HK1.out.mono (fun b _ e => .inl e)).trans (hk2.mono (fun b _ e => .inr e))⟩
 clear ho2 hk2 hc HO1 HK1 HD1
 go_wp2
 go_ret
 exact ⟨rfl, HF.out⟩
theorem heldDisk_own (base : Nat) (dv pv : Value) (dur : List Int) (ps : List PW) (k0 : Int) (w : World) (h0 : 0 ≤ k0) (h1 : endP (k0 + dur.length) ps ≤ 1125899906842624) (hn : ps.length ≤ 1125899906842624)
  (ha : OwnD base 45 5 w dv pv (marks k0 dur.length) (markP (k0 + dur.length) ps)) :
  Calls Try.prog 15 #[.agg #[dv, pv], .int .i64 k0] w fun e w' => e = .returned (.int .i64 (endP (k0 + dur.length) ps)) ∧ Same w w' := by
 have hle := endP_le (k0 + dur.length) ps
 obtain ⟨a1, n1, c1, rfl⟩ := slice_of_own ha.dur
 obtain ⟨a2, n2, c2, rfl⟩ := slice_of_ownP ha.pend
 have HA := (show Hid (OwnD base 45 5 w _ _ (marks k0 dur.length) (markP (k0 + dur.length) ps)) from ha)
 have H1 : Hid (endP (k0 + dur.length) ps ≤ 1125899906842624) := h1
 have hb1 : k0 + dur.length ≤ 1125899906842624 := by omega
 clear ha h1
 go_enter Try.func15, Try.ntmps15
 go_wp2_with fail
 refine (heldByteS_own base _ dur.length k0 _ (by omega) (by omega) (by omega) (HA.out.dur.same ((Kept.refl _ _).alloc _))).mono ?_
 rintro e w1 ⟨rfl, rfl⟩
 go_wp2_with fail
 refine (heldSectorWriteS_own base _ ps (k0 + dur.length) _ (by omega) H1.out hn (HA.out.pend.same ((Kept.refl _ _).alloc _))).mono ?_
 rintro e w2 ⟨rfl, rfl⟩
 go_wp2
 go_ret
 exact ⟨rfl, (Kept.refl _ _).alloc _⟩
end Go.Proofs.Yteacihpankkhkaa
