import Derived.Test.YtnkollbhicmdhaaDoorReadM
import Derived.Test.YtnkollbhicmdhaaDoorG00
import Derived.Test.YtnkollbhicmdhaaDoorG02
namespace Go.Proofs.YtnkollbhicmdhaaDoor
set_option maxRecDepth 100000
set_option maxHeartbeats 4000000
open Go.RowKit
set_option linter.unusedVariables false
set_option linter.unusedSimpArgs false
theorem eqMaster_any (s e c l : Int) (w : World) : Calls Tryd.prog 55 #[.agg #[.int .i64 s, .int .i64 e, .int .i64 c, .int .i64 l], .agg #[.int .i64 s, .int .i64 e, .int .i64 c, .int .i64 l]] w fun ex w' => ex = .returned (.bool true) ∧ Same w w' := by
  go_enter Tryd.func55, Tryd.ntmps55
  go_wp2
  go_ret
  exact ⟨rfl, ((Kept.refl _ _).alloc _).alloc _⟩
theorem eqMasterResult_any (g : Bool) (sl s e c l : Int) (w : World) : Calls Tryd.prog 22 #[.agg #[.bool g, .int .i64 sl, .int .i64 s, .int .i64 e, .int .i64 c, .int .i64 l], .agg #[.bool g, .int .i64 sl, .int .i64 s, .int .i64 e, .int .i64 c, .int .i64 l]] w fun ex w' => ex = .returned (.bool true) ∧ Same w w' := by
  go_enter Tryd.func22, Tryd.ntmps22
  go_wp2_with (go_at_call 55; refine (eqMaster_any s e c l _).mono ?_; rintro ex w1 ⟨rfl, hk⟩)
  go_ret
  exact ⟨rfl, (((Kept.refl _ _).alloc _).alloc _).trans hk⟩
theorem decV_form (bs : List Int) : ∃ g sl s e c l, decV bs = .agg #[.bool g, .int .i64 sl, .int .i64 s, .int .i64 e, .int .i64 c, .int .i64 l] := by
  unfold decV
  split
  · exact ⟨_, _, _, _, _, _, rfl⟩
  · exact ⟨_, _, _, _, _, _, rfl⟩
theorem decodeMaster_law (v : Value) (bs : List Int) (a0 a1 a2 a3 a4 : Addr) (w : World) (hE : Errs5 w a0 a1 a2 a3 a4) (hv : Rd .u8 w v bs) (hB : IsB bs) : Calls Tryd.prog 4 #[v] w fun ex w' => ex = .returned (.bool true) ∧ Same w w' := by
  obtain ⟨a, c', rfl⟩ := hv.form
  have hm := hv.1
  unfold maxLen at hm
  have HE := (show Hid (Errs5 w a0 a1 a2 a3 a4) from hE)
  have HB := (show Hid (IsB bs) from hB)
  have HV := (show Hid (Rd .u8 w (.slice a bs.length c') bs) from hv)
  clear hE hv hB
  obtain ⟨g, sl, s, e, c, l, hd⟩ := decV_form bs
  have HD := (show Hid (decV bs = .agg #[.bool g, .int .i64 sl, .int .i64 s, .int .i64 e, .int .i64 c, .int .i64 l]) from hd)
  clear hd
  go_enter Tryd.func4, Tryd.ntmps4
  by_cases hb : (1048576 : Int) < (bs.length : Int)
  · go_wp2
    go_ret
    exact ⟨rfl, Kept.refl _ _⟩
  go_wp2_with fail
  refine (toByteS_any _ bs _ (by omega) HV.out).mono ?_
  rintro ex w1 ⟨g1, rfl, hf, ho, hk⟩
  have HK1 := (show Hid (Same w w1) from hk)
  have HO1 := (show Hid (Own 0 5 .u8 w1 (.slice (some ⟨g1, 0, none⟩) bs.length bs.length) bs) from ho)
  clear hf ho hk
  go_wp2_with fail
  refine (specDec_any _ bs _ HB.out (by omega) HO1.out.rd).mono ?_
  rintro ex w2 ⟨rfl, hk⟩
  rw [HD.out]
  have HK2 := (show Hid (Same w w2) from HK1.out.trans hk)
  clear hk HK1 HO1
  have b2 := Blk.new w2 #[.bool g, .int .i64 sl, .int .i64 s, .int .i64 e, .int .i64 c, .int .i64 l] 30
  have HK2' := (show Hid (Same w (w2.alloc (.cells #[.bool g, .int .i64 sl, .int .i64 s, .int .i64 e, .int .i64 c, .int .i64 l] 30))) from HK2.out.alloc _)
  go_wp2_with fail
  refine (toByteS_any _ bs _ (by omega) (HV.out.same HK2'.out)).mono ?_
  rintro ex w3 ⟨g3, rfl, hf, ho, hk⟩
  have HK3 := (show Hid (Same w w3) from HK2'.out.trans hk)
  have b3 := b2.same hk
  have HO3 := (show Hid (Own 0 5 .u8 w3 (.slice (some ⟨g3, 0, none⟩) bs.length bs.length) bs) from ho)
  clear hf ho hk HK2 HK2' b2
  go_wp2_with fail
  refine (implDec_any _ bs a0 a1 a2 a3 a4 _ (HE.out.same HK3.out) HB.out HO3.out.rd).mono ?_
  rintro ex w4 ⟨rfl, hk⟩
  rw [HD.out]
  have HK4 := (show Hid (Same w w4) from HK3.out.trans hk)
  have b4 := b3.same hk
  have HO4 := hid (HO3.out.same hk)
  clear hk HK3 b3 HO3
  have l4 := b4.lt
  obtain ⟨d0, d1, d2, d3, d4, d5⟩ := b4.all6
  go_wp2_with fail
  refine (eqMasterResult_any g sl s e c l _).mono ?_
  rintro ex w5 ⟨rfl, hk⟩
  have hk' : Same w4 w5 := ((Kept.refl _ _).alloc _).trans hk
  have HK5 := (show Hid (Same w w5) from HK4.out.trans hk')
  have HO5 := hid (HO4.out.same hk')
  clear hk hk' HK4 b4 HO4 d0 d1 d2 d3 d4 d5 l4
  go_wp2_with fail
  refine (toByteS_any _ bs _ (by omega) (HV.out.same HK5.out)).mono ?_
  rintro ex w6 ⟨g6, rfl, hf, ho, hk⟩
  have HK6 := (show Hid (Same w w6) from HK5.out.trans hk)
  have HO6 := hid (HO5.out.same hk)
  have HP6 := (show Hid (Own 0 5 .u8 w6 (.slice (some ⟨g6, 0, none⟩) bs.length bs.length) bs) from ho)
  clear hf ho hk HK5 HO5
  go_wp2_with fail
  refine (eqByteS_own 0 _ _ bs _ (by omega) HO6.out HP6.out).mono ?_
  rintro ex w7 ⟨rfl, nn, hww⟩
  have hk : Same w6 w7 := by rw [hww]; exact (Kept.refl _ _).drewN _
  clear hww
  go_wp2
  go_ret
  exact ⟨rfl, HK6.out.trans hk⟩
end Go.Proofs.YtnkollbhicmdhaaDoor
