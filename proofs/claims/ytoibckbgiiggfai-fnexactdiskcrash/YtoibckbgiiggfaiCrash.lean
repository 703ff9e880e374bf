/-
  A crash: spec.l1Settle with a list, (*impl.platter).crash.
-/
import Derived.Test.YtoibckbgiiggfaiWriteFn
namespace Go.Proofs.Ytoibckbgiiggfai
open Go.RowKit
set_option linter.unusedSimpArgs false
set_option linter.unusedVariables false

/-- Is write number k kept? -/
def keepS (ks : List Int) (k : Nat) : Bool := decide (k < ks.length) && (ks.getD k 0 != 0)
theorem keep_cell {kd : IntKind} {w : World} {v : Value} {ks : List Int} (h : Rd kd w v ks) {k : Nat} (hk : k < ks.length) : ∃ b o c, v = .slice (some ⟨b, o, none⟩) ks.length c ∧ w.cell? ⟨b, o + k, none⟩ = some (.int kd (ks.getD k 0)) := by
  rcases h.2 with ⟨rfl, _⟩ | ⟨b, o, c, e, _, hc⟩
  · simp at hk
  · exact ⟨b, o, c, e, hc k hk⟩

set_option maxRecDepth 100000 in
set_option maxHeartbeats 4000000 in
theorem l1Settle_keep (dv pv : Value) (dur : List Int) (ps : List PW) (kv : Value) (ks : List Int) (w : World) (hd : dur.length ≤ 1099511627776) (hv : RdD w dv pv dur ps) (hval : Valid dur.length (dataP ps)) (hkv : Rd .i64 w kv ks) :
    Calls Try.prog 55 #[.agg #[dv, pv], .bool false, kv] w fun e w' => ∃ a n c, e = .returned (.agg #[.slice a n c, .slice none 0 0]) ∧
      (∀ b, (Value.slice a n c).ownBlock = some b → w.heap.size ≤ b) ∧ Own 0 5 .u8 w' (.slice a n c) (settleN (keepS ks) dur (dataP ps) ps.length) ∧ Same w w' := by
  obtain ⟨sel, hsel⟩ : ∃ sel : Nat → Bool, sel = keepS ks := ⟨_, rfl⟩
  rw [← hsel]
  have HSEL : Hid (sel = keepS ks) := hsel
  clear hsel
  have hsz1 : (Try.prog.info? 5).map (·.size) = some 1 := by kernel_rfl
  obtain ⟨a1, c1, rfl⟩ := hv.dur.form
  obtain ⟨ak, ck, rfl⟩ := hkv.form
  have HKV := (show Hid (Rd .i64 w (.slice ak ks.length ck) ks) from hkv)
  have hkm := hkv.1
  unfold maxLen at hkm
  clear hkv
  obtain ⟨a2, c2, e2⟩ := hv.pend.form
  have HP : Hid (RdP w pv ps) := hv.pend
  have HR : Hid (Rd .u8 w (.slice a1 dur.length c1) dur) := hv.dur
  have HV : Hid (Valid dur.length (dataP ps)) := hval
  subst e2
  have hpl : ps.length ≤ 8192 := by have := hval.1.2.2.2; rwa [dataP_length] at this
  have hdl : 512 ≤ dur.length := by have := hval.1.2.1; omega
  clear hv hval
  go_enter Try.func55, Try.ntmps55
  go_wp2_with fail
  refine (l1Copy_any _ dur _ hd (HR.out.same (((Kept.refl _ _).alloc _).alloc _))).mono ?_
  rintro e w1 ⟨a, n, c, rfl, ho, hf, hk⟩
  simp only [World.size_alloc] at hf
  obtain ⟨g, cap, e3, _, hgw, hcap, _⟩ : ∃ g cap, Value.slice a n c = .slice (some ⟨g, 0, none⟩) dur.length cap ∧ 0 ≤ g ∧ g < w1.heap.size ∧ dur.length ≤ cap ∧ cap ≤ maxLen := by
    rcases ho.form with ⟨_, h⟩ | h
    · simp [h] at hdl
    · exact h
  simp only [Value.slice.injEq] at e3
  obtain ⟨rfl, rfl, rfl⟩ := e3
  have hgf : w.heap.size + 1 < g := by have := hf g rfl; omega
  have b0 := ((FBox.new w (.slice a1 dur.length c1) (.slice a2 ps.length c2) 30).next _).same hk
  have b1 := (FBox.new (w.alloc (.cells #[.slice a1 dur.length c1, .slice a2 ps.length c2] 30)) (.slice none 0 0) (.slice none 0 0) 30).same hk
  simp only [World.size_alloc] at b1
  have HB0 : Hid (FBox w1 w.heap.size (.slice a1 dur.length c1) (.slice a2 ps.length c2)) := b0
  have HB1 : Hid (FBox w1 (w.heap.size + 1) (.slice none 0 0) (.slice none 0 0)) := b1
  have HO := (show Hid (Own 0 5 .u8 w1 (.slice (some ⟨g, 0, none⟩) dur.length c) dur) from ho)
  have HK : Hid (Same w w1) := (((Kept.refl _ _).alloc _).alloc _).trans hk
  have hz1' : w.heap.size + 1 < w1.heap.size := b1.lt
  clear ho hf hk b0 b1
  obtain ⟨cap, rfl⟩ : ∃ cap, cap = c := ⟨_, rfl⟩
  go_wp2
  go_loopw [8] (fun i wr => ∃ (k : Nat), k ≤ ps.length ∧ i = .int .i64 k ∧ Hid (FBox wr w1.heap.size (.slice (some ⟨g, 0, none⟩) dur.length cap) (.slice none 0 0)) ∧
      Hid (Own 0 5 .u8 wr (.slice (some ⟨g, 0, none⟩) dur.length cap) (settleN sel dur (dataP ps) k)) ∧ Hid (Kept (fun b => b = g) w1 wr)) (fun i _ => ps.length - (intOf i).toNat)
  case atStart => exact ⟨0, Nat.zero_le _, rfl, FBox.new _ _ _ _, HO.out.same ((Kept.refl _ _).alloc _), (Kept.refl _ _).alloc _⟩
  case round =>
    obtain ⟨k, hk, rfl, HX, HOr, HKr⟩ := hrel
    obtain ⟨o1, o2, _, _⟩ := HB0.out.kept HKr.out (by omega)
    by_cases hlt : k < ps.length
    · obtain ⟨b, off, rfl, hc⟩ : ∃ b off, a2 = some ⟨b, off, none⟩ ∧ ∀ i (h : i < ps.length), w.cell? ⟨b, off + i * 2, none⟩ = some (.int .i64 ps[i].sec) ∧ w.cell? ⟨b, off + i * 2 + 1, none⟩ = some ps[i].v := by
        rcases HP.out.row with ⟨rfl, _⟩ | ⟨b, off, c, e, hc⟩
        · simp at hlt
        · simp only [Value.slice.injEq, true_and] at e
          obtain ⟨rfl, rfl⟩ := e
          exact ⟨b, off, rfl, hc⟩
      obtain ⟨v1, v2, v3⟩ := HV.out.2 (ps[k].sec, ps[k].bs) (List.mem_map.2 ⟨ps[k], List.getElem_mem hlt, rfl⟩)
      simp only at v1 v2 v3
      obtain ⟨b3, o3, c3, ev, hsrc⟩ : ∃ b3 o3 c3, ps[k].v = .slice (some ⟨b3, o3, none⟩) ps[k].bs.length c3 ∧ ∀ i, i < ps[k].bs.length → w.cell? ⟨b3, o3 + i, none⟩ = some (.int .u8 (ps[k].bs.getD i 0)) := by
        rcases (HP.out.data _ (List.getElem_mem hlt)).2 with ⟨h, _⟩ | ⟨b3, o3, c3, h, _, hc⟩
        · simp [h] at v3
        · exact ⟨b3, o3, c3, h, hc⟩
      have hbw : b < w.heap.size := World.block_lt_of_cell? w _ (hc k hlt).1
      have hkw : Kept (fun b => b = g) w wr := (HK.out.mono (fun _ _ h => h.elim)).trans HKr.out
      have q1 := hkw.cellOf (hc k hlt).1 (by show ¬ b = g; omega)
      have q2 := hkw.cellOf (hc k hlt).2 (by show ¬ b = g; omega)
      rw [ev] at q2
      by_cases hsl : keepS ks k = true
      case neg =>
        have hs0 : sel k = false := by rw [HSEL.out]; simpa using hsl
        have e0 : settleN sel dur (dataP ps) (k + 1) = settleN sel dur (dataP ps) k := by rw [settleN, hs0, if_neg (by simp)]
        have HO9 := (show Hid (Own 0 5 .u8 wr (.slice (some ⟨g, 0, none⟩) dur.length cap) (settleN sel dur (dataP ps) (k + 1))) from (by rw [e0]; exact HOr.out))
        have hki : (k : Int) < (ps.length : Int) := by omega
        have hk0 : (0 : Int) ≤ (k : Int) := by omega
        clear q1 q2 ev hc hsrc v1 v2 v3 e0
        by_cases hkl : k < ks.length
        · obtain ⟨kb, ko, kc, ek, hkc⟩ := keep_cell HKV.out hkl
          simp only [Value.slice.injEq, true_and] at ek
          obtain ⟨rfl, rfl⟩ := ek
          have hkb : kb < w.heap.size := World.block_lt_of_cell? w _ hkc
          have q3 := hkw.cellOf hkc (by show ¬ kb = g; omega)
          have q4 : (ks.getD k 0 != 0) = false := by unfold keepS at hsl; rw [decide_eq_true hkl, Bool.true_and] at hsl; simpa using hsl
          generalize ks.getD k 0 = z at q3 q4
          have hkk : (k : Int) < (ks.length : Int) := by omega
          clear hkc hkw hsl
          go_wp2
          go_roundw
          case rel => exact ⟨k + 1, by omega, by go_num, HX, HO9, HKr⟩
          case measure => simp [intOf]; omega
        · have hkk : ¬ (k : Int) < (ks.length : Int) := by omega
          clear hkw hsl hkl
          go_wp2
          go_roundw
          case rel => exact ⟨k + 1, by omega, by go_num, HX, HO9, HKr⟩
          case measure => simp [intOf]; omega
      have HSL : Hid (sel k = true) := by rw [HSEL.out]; exact hsl
      have hkl : k < ks.length := by unfold keepS at hsl; simp at hsl; exact hsl.1
      obtain ⟨kb, ko, kc, ek, hkc⟩ := keep_cell HKV.out hkl
      simp only [Value.slice.injEq, true_and] at ek
      obtain ⟨rfl, rfl⟩ := ek
      have hkb : kb < w.heap.size := World.block_lt_of_cell? w _ hkc
      have q3 := hkw.cellOf hkc (by show ¬ kb = g; omega)
      have q4 : (ks.getD k 0 != 0) = true := by unfold keepS at hsl; rw [decide_eq_true hkl, Bool.true_and] at hsl; simpa using hsl
      generalize ks.getD k 0 = z at q3 q4
      have hkk : (k : Int) < (ks.length : Int) := by omega
      clear hkc hsl
      obtain ⟨sn, hsn⟩ : ∃ sn : Nat, ps[k].sec = sn := ⟨ps[k].sec.toNat, by omega⟩
      rw [hsn] at q1 v2
      have hgd : (dataP ps).getD k (0, []) = ((sn : Int), ps[k].bs) := by simp [dataP, List.getD, hlt, hsn]
      have hb3 : ∀ i, i < ps[k].bs.length → b3 < w.heap.size := fun i hi => World.block_lt_of_cell? w _ (hsrc i hi)
      have HSRC : Hid (∀ i, i < ps[k].bs.length → wr.drew.cell? ⟨b3, o3 + i, none⟩ = some (.int .u8 (ps[k].bs.getD i 0))) := fun i hi => hkw.drew.cellOf (hsrc i hi) (by have := hb3 i hi; show ¬ b3 = g; omega)
      have HLN : Hid ((settleN sel dur (dataP ps) k).length = dur.length) := settleN_length _ _ _ HV.out _ (by rw [dataP_length]; omega)
      have hs1 : (sn + 1) * 512 ≤ dur.length := by have := HV.out.1.1; omega
      have HFIT : Hid (sn * 512 + ps[k].bs.length ≤ (settleN sel dur (dataP ps) k).length) := by rw [HLN.out, v3]; unfold Hid; omega
      have HST : Hid (settleN sel dur (dataP ps) (k + 1) = putAt (settleN sel dur (dataP ps) k) (sn * 512) ps[k].bs) := by
        unfold Hid
        rw [settleN, HSL.out, if_pos rfl, hgd]
        simp
      have HKW : Hid (Kept (fun b => b = g) w wr) := hkw
      have hsm : (sn : Int) ≤ 1024 := by have := HV.out.1.2.2.1; omega
      have e1 : ((sn : Int) * 512).toNat = sn * 512 := by omega
      have e2 : (sn : Int) * 512 ≤ (dur.length : Int) := by omega
      have e3 : (sn : Int) * 512 ≤ (cap : Int) := by omega
      have e4 : (dur.length : Int) ≤ (cap : Int) := by omega
      have e5 : IntKind.i64.wrap ((sn : Int) * 512) = (sn : Int) * 512 := by rw [IntKind.wrap_i64]; omega
      have e6 : ¬ cap = sn * 512 := by omega
      have e7 : (0 : Int) ≤ (sn : Int) * 512 := by omega
      clear ev hc hsrc hb3 hgd hsn hkw v1 v2 v3
      have hki : (k : Int) < (ps.length : Int) := by omega
      have hk0 : (0 : Int) ≤ (k : Int) := by omega
      obtain ⟨x1, x2, x3, x4⟩ := HX.out
      go_wp2_with fail
      have hS : (fun w' => w'.cell? ⟨w1.heap.size, 0, none⟩ = some (.slice (some ⟨g, 0, none⟩) dur.length cap) ∧ w'.cell? ⟨w.heap.size, 1, none⟩ = some (.slice (some ⟨b, off, none⟩) ps.length c2) ∧ w'.cell? ⟨b, off + k * 2, none⟩ = some (.int .i64 (sn : Int)) ∧ w'.cell? ⟨b, off + k * 2 + 1, none⟩ = some (.slice (some ⟨b3, o3, none⟩) ps[k].bs.length c3)) wr.drew := by go_keep
      refine wp_region_V (fun w' => w'.cell? ⟨w1.heap.size, 0, none⟩ = some (.slice (some ⟨g, 0, none⟩) dur.length cap) ∧ w'.cell? ⟨w.heap.size, 1, none⟩ = some (.slice (some ⟨b, off, none⟩) ps.length c2) ∧ w'.cell? ⟨b, off + k * 2, none⟩ = some (.int .i64 (sn : Int)) ∧ w'.cell? ⟨b, off + k * 2 + 1, none⟩ = some (.slice (some ⟨b3, o3, none⟩) ps[k].bs.length c3)) 99 17 rfl (by kernel_rfl) ?_
      refine wpAnyV_take (i := 0) (v := ?v0) (some 34) rfl rfl (by kernel_rfl) (by kernel_rfl) (by kernel_rfl) (by kernel_rfl) (fun _ _ _ h => h) (Or.inl ⟨by rfl, ?hy0⟩) hS ?_
      case hy0 => (intro w hSw; (try dsimp only at hSw); go_simp; (try with_reducible rfl))
      try simp only [Act.put, List.setIfInBounds_toArray, List.set_cons_zero, List.set_cons_succ]
      refine wpAnyV_take (i := 1) (v := ?v1) (some 35) rfl rfl (by kernel_rfl) (by kernel_rfl) (by kernel_rfl) (by kernel_rfl) (fun _ _ _ h => h) (Or.inl ⟨by rfl, ?hy1⟩) hS ?_
      case hy1 => (intro w hSw; (try dsimp only at hSw); go_simp; (try with_reducible rfl))
      try simp only [Act.put, List.setIfInBounds_toArray, List.set_cons_zero, List.set_cons_succ]
      refine wpAnyV_take (i := 2) (v := ?v2) (some 36) rfl rfl (by kernel_rfl) (by kernel_rfl) (by kernel_rfl) (by kernel_rfl) (fun _ _ _ h => h) (Or.inl ⟨by rfl, ?hy2⟩) hS ?_
      case hy2 => (intro w hSw; (try dsimp only at hSw); go_simp; (try with_reducible rfl))
      try simp only [Act.put, List.setIfInBounds_toArray, List.set_cons_zero, List.set_cons_succ]
      refine wpAnyV_take (i := 3) (v := ?v3) (some 37) rfl rfl (by kernel_rfl) (by kernel_rfl) (by kernel_rfl) (by kernel_rfl) (fun _ _ _ h => h) (Or.inl ⟨by rfl, ?hy3⟩) hS ?_
      case hy3 => (intro w hSw; (try dsimp only at hSw); go_simp; (try with_reducible rfl))
      try simp only [Act.put, List.setIfInBounds_toArray, List.set_cons_zero, List.set_cons_succ]
      refine wpAnyV_take (i := 4) (v := ?v4) (some 38) rfl rfl (by kernel_rfl) (by kernel_rfl) (by kernel_rfl) (by kernel_rfl) (fun _ _ _ h => h) (Or.inl ⟨by rfl, ?hy4⟩) hS ?_
      case hy4 => (intro w hSw; (try dsimp only at hSw); go_simp; (try with_reducible rfl))
      try simp only [Act.put, List.setIfInBounds_toArray, List.set_cons_zero, List.set_cons_succ]
      refine wpAnyV_take (i := 5) (v := ?v5) (some 39) rfl rfl (by kernel_rfl) (by kernel_rfl) (by kernel_rfl) (by kernel_rfl) (fun _ _ _ h => h) (Or.inl ⟨by rfl, ?hy5⟩) hS ?_
      case hy5 => (intro w hSw; (try dsimp only at hSw); go_simp; (try with_reducible rfl))
      try simp only [Act.put, List.setIfInBounds_toArray, List.set_cons_zero, List.set_cons_succ]
      refine wpAnyV_take (i := 6) (v := ?v6) (some 40) rfl rfl (by kernel_rfl) (by kernel_rfl) (by kernel_rfl) (by kernel_rfl) (fun _ _ _ h => h) (Or.inl ⟨by rfl, ?hy6⟩) hS ?_
      case hy6 => (intro w hSw; (try dsimp only at hSw); go_simp; (try with_reducible rfl))
      try simp only [Act.put, List.setIfInBounds_toArray, List.set_cons_zero, List.set_cons_succ]
      refine wpAnyV_take (i := 7) (v := ?v7) (some 41) rfl rfl (by kernel_rfl) (by kernel_rfl) (by kernel_rfl) (by kernel_rfl) (fun _ _ _ h => h) (Or.inl ⟨by rfl, ?hy7⟩) hS ?_
      case hy7 => (intro w hSw; (try dsimp only at hSw); go_simp; (try with_reducible rfl))
      try simp only [Act.put, List.setIfInBounds_toArray, List.set_cons_zero, List.set_cons_succ]
      refine wpAnyV_take (i := 8) (v := ?v8) (some 42) rfl rfl (by kernel_rfl) (by kernel_rfl) (by kernel_rfl) (by kernel_rfl) (fun _ _ _ h => h) (Or.inl ⟨by rfl, ?hy8⟩) hS ?_
      case hy8 => (intro w hSw; (try dsimp only at hSw); go_simp; (try with_reducible rfl))
      try simp only [Act.put, List.setIfInBounds_toArray, List.set_cons_zero, List.set_cons_succ]
      refine wpAnyV_take (i := 9) (v := ?v9) (some 43) rfl rfl (by kernel_rfl) (by kernel_rfl) (by kernel_rfl) (by kernel_rfl) (fun _ _ _ h => h) (Or.inl ⟨by rfl, ?hy9⟩) hS ?_
      case hy9 => (intro w hSw; (try dsimp only at hSw); go_simp; (try with_reducible rfl))
      try simp only [Act.put, List.setIfInBounds_toArray, List.set_cons_zero, List.set_cons_succ]
      refine wpAnyV_take (i := 10) (v := ?v10) (some 44) rfl rfl (by kernel_rfl) (by kernel_rfl) (by kernel_rfl) (by kernel_rfl) (fun _ _ _ h => h) (Or.inl ⟨by rfl, ?hy10⟩) hS ?_
      case hy10 => (intro w hSw; (try dsimp only at hSw); go_simp; (try with_reducible rfl))
      try simp only [Act.put, List.setIfInBounds_toArray, List.set_cons_zero, List.set_cons_succ]
      refine wpAnyV_take (i := 11) (v := ?v11) (some 45) rfl rfl (by kernel_rfl) (by kernel_rfl) (by kernel_rfl) (by kernel_rfl) (fun _ _ _ h => h) (Or.inl ⟨by rfl, ?hy11⟩) hS ?_
      case hy11 => (intro w hSw; (try dsimp only at hSw); go_simp; (try with_reducible rfl))
      try simp only [Act.put, List.setIfInBounds_toArray, List.set_cons_zero, List.set_cons_succ]
      refine wpAnyV_take (i := 12) (v := ?v12) (some 46) rfl rfl (by kernel_rfl) (by kernel_rfl) (by kernel_rfl) (by kernel_rfl) (fun _ _ _ h => h) (Or.inl ⟨by rfl, ?hy12⟩) hS ?_
      case hy12 => (intro w hSw; (try dsimp only at hSw); go_simp; (try with_reducible rfl))
      try simp only [Act.put, List.setIfInBounds_toArray, List.set_cons_zero, List.set_cons_succ]
      refine wpAnyV_take (i := 13) (v := ?v13) (some 47) rfl rfl (by kernel_rfl) (by kernel_rfl) (by kernel_rfl) (by kernel_rfl) (fun _ _ _ h => h) (Or.inl ⟨by rfl, ?hy13⟩) hS ?_
      case hy13 => (intro w hSw; (try dsimp only at hSw); go_simp; (try with_reducible rfl))
      try simp only [Act.put, List.setIfInBounds_toArray, List.set_cons_zero, List.set_cons_succ]
      refine wpAnyV_take (i := 14) (v := ?v14) (some 48) rfl rfl (by kernel_rfl) (by kernel_rfl) (by kernel_rfl) (by kernel_rfl) (fun _ _ _ h => h) (Or.inl ⟨by rfl, ?hy14⟩) hS ?_
      case hy14 => (intro w hSw; (try dsimp only at hSw); go_simp; (try with_reducible rfl))
      try simp only [Act.put, List.setIfInBounds_toArray, List.set_cons_zero, List.set_cons_succ]
      refine wpAnyV_take (i := 15) (v := ?v15) (some 49) rfl rfl (by kernel_rfl) (by kernel_rfl) (by kernel_rfl) (by kernel_rfl) (fun _ _ _ h => h) (Or.inl ⟨by rfl, ?hy15⟩) hS ?_
      case hy15 => (intro w hSw; (try dsimp only at hSw); go_simp; (try with_reducible rfl))
      try simp only [Act.put, List.setIfInBounds_toArray, List.set_cons_zero, List.set_cons_succ]
      refine wpAnyV_one (i := 16) (by kernel_rfl) rfl (fun K hK => ?_)
      refine step_copy_own (by rfl) (.tmp 43) (.tmp 49) 22 (by rfl) Try.underlying22 hsz1 g (sn * 512) dur.length cap (cap - sn * 512) b3 o3 c3 (settleN sel dur (dataP ps) k) ps[k].bs (by exact HOr.out.same (Kept.refl _ _).drew) HLN.out.symm (by rfl) (by rfl) (by exact fun i hi => HSRC.out i hi) HFIT.out ?_
      intro w3 ho3 hg3
      have HO3 := (show Hid (Own 0 5 .u8 w3 _ _) from ho3)
      have HG3 := (show Hid (Kept (fun b => b = g) wr w3) from (Kept.refl _ _).drew.trans (Kept.of_grown hg3 (fun k e => (Option.some.inj e).symm)))
      clear ho3 hg3
      have HX3 : Hid (FBox w3 w1.heap.size (.slice (some ⟨g, 0, none⟩) dur.length cap) (.slice none 0 0)) := HX.out.kept HG3.out (by show ¬ w1.heap.size = g; omega)
      have y1 := HX3.out.1
      have y2 := HG3.out.cellOf o2 (by show ¬ w.heap.size = g; omega)
      have y3 := HG3.out.cellOf q1 (by show ¬ b = g; omega)
      have y4 := HG3.out.cellOf q2 (by show ¬ b = g; omega)
      refine hK.out _ _ (fun _ => by go_keep) ?_
      clear hK K
      refine wpAnyV_done (by kernel_rfl) ?_
      try simp only [Act.put, List.setIfInBounds_toArray, List.set_cons_zero, List.set_cons_succ]
      rw [← HST.out] at HO3
      have HK3 : Hid (Kept (fun b => b = g) w1 w3) := HKr.out.trans HG3.out
      clear hS x1 x2 x3 x4 q1 q2 o1 o2 y1 y2 y3 y4
      go_wp2
      go_roundw
      case rel => exact ⟨k + 1, by omega, by go_num, HX3, HO3, HK3⟩
      case measure => simp [intOf]; omega
    · obtain ⟨x1, x2, _, _⟩ := HX.out
      obtain ⟨p1, p2, p3, p4⟩ := HB1.out.kept HKr.out (by omega)
      have hrl : w1.heap.size < wr.heap.size := HX.out.lt
      go_wp2
      obtain rfl : k = ps.length := by omega
      refine bodyPost_ret (v := .agg #[.slice (some ⟨g, 0, none⟩) dur.length cap, .slice none 0 0]) (by simp [results, Try.results55, go_sem, p1, p2]) rfl ⟨some ⟨g, 0, none⟩, dur.length, cap, rfl, fun b hb => by simp [Value.ownBlock] at hb; omega, ?_, ?_⟩
      · refine HOr.out.kept (R := fun b => b = w.heap.size + 1) ?_ (fun b hb e => by simp [Value.ownBlock] at hb; omega)
        exact Kept.setTwo (Kept.refl (fun b => b = w.heap.size + 1) _) (.inr rfl) _ _
      · exact Kept.setTwo (HK.out.next HKr.out (fun b hb e => by have e' : b = g := e; omega)) (.inl (by simp)) _ _

set_option maxRecDepth 100000 in
set_option maxHeartbeats 4000000 in
theorem crash_any (B : Nat) (dv pv : Value) (dur : List Int) (ds : List (Int × List Int)) (kv : Value) (ks : List Int) (w : World) (hp : Plat w B dv pv dur ds) (hval : Valid dur.length ds) (hkv : Rd .i64 w kv ks) (hsep : ks ≠ [] → ∀ b, looks kv b → dv.ownBlock ≠ some b) :
    Calls Try.prog 57 #[.pointer (some ⟨B, 0, none⟩), kv] w fun e w' => e = .returned (.tuple #[]) ∧ Plat w' B dv (.slice none 0 0) (settleN (keepS ks) dur ds ds.length) [] ∧ Kept (fun b => b = B ∨ dv.ownBlock = some b) w w' := by
  obtain ⟨gd, cd, rfl⟩ : ∃ gd cd, dv = .slice (some ⟨gd, 0, none⟩) (dur.length / 512) cd := by
    rcases hp.dur.2 with ⟨_, h⟩ | ⟨g, cap, _, h, _⟩
    · have := hval.1.2.1; omega
    · exact ⟨g, cap, h⟩
  obtain ⟨aq, cq, rfl⟩ : ∃ aq cq, pv = .slice aq ds.length cq := by
    rcases hp.pend.2 with ⟨rfl, h⟩ | ⟨g, cap, _, h, _⟩
    · exact ⟨none, 0, by rw [h]⟩
    · exact ⟨_, _, h⟩
  have HP : Hid (Plat w B (.slice (some ⟨gd, 0, none⟩) (dur.length / 512) cd) (.slice aq ds.length cq) dur ds) := hp
  have HV : Hid (Valid dur.length ds) := hval
  have hdl : ds.length ≤ 8192 := hval.1.2.2.2
  have hdn : dur.length / 512 ≤ 1024 := hval.1.2.2.1
  obtain ⟨n, hn⟩ : ∃ n, dur.length / 512 = n := ⟨_, rfl⟩
  rw [hn] at HP hdn ⊢
  have HN : Hid (dur.length = n * 512) := by have := hval.1.1; unfold Hid; omega
  have hbd : gd ≠ B := fun e => HP.out.a1 (by rw [e]; rfl)
  obtain ⟨ak, ck, rfl⟩ := hkv.form
  have HKV := (show Hid (Rd .i64 w (.slice ak ks.length ck) ks) from hkv)
  have HSEP := (show Hid (ks ≠ [] → ∀ b, looks (.slice ak ks.length ck) b → (Value.slice (some ⟨gd, 0, none⟩) n cd).ownBlock ≠ some b) from (by rw [← hn]; exact hsep))
  have hkm := hkv.1
  unfold maxLen at hkm
  clear hp hval hn hkv hsep
  have hz93 := zero93
  obtain ⟨p1, p2, p3, p4⟩ := HP.out.box
  go_enter Try.func57, Try.ntmps57
  go_wp2
  go_loopw [11] (fun i wr => ∃ (k : Nat), k ≤ ds.length ∧ i = .int .i64 k ∧ Hid (wr.ownsRow 0 91 512 (.slice (some ⟨gd, 0, none⟩) n cd) n (vals .u8 (settleN (keepS ks) dur ds k))) ∧ Hid (Kept (fun b => b = gd) w wr)) (fun i _ => ds.length - (intOf i).toNat)
  case atStart => exact ⟨0, Nat.zero_le _, rfl, (by have h := HP.out.dur; rw [show dur.length / 512 = n from by have := HN.out; omega] at h; exact h), Kept.refl _ _⟩
  case round =>
    obtain ⟨k, hk, rfl, HRr, HKr⟩ := hrel
    by_cases hlt : k < ds.length
    · obtain ⟨gq, rfl⟩ : ∃ gq, aq = some ⟨gq, 0, none⟩ := by
        rcases HP.out.pend.2 with ⟨h, h0⟩ | ⟨g, cap, _, h, _⟩
        · omega
        · simp only [Value.slice.injEq] at h; exact ⟨g, h.1⟩
      have hgq : gq ≠ gd := fun e => HP.out.a3 gd rfl (by rw [e]; rfl)
      obtain ⟨v1, v2, v3⟩ := HV.out.2 ds[k] (List.getElem_mem hlt)
      have hpr := HKr.out.owns HP.out.pend (fun b hb => by have e : b = gq := (Option.some.inj hb).symm; show ¬ b = gd; omega)
      have hplen : (penCells ds).length = ds.length * 513 := penCells_length ds (fun p hp => (HV.out.2 p hp).2.2)
      have hrange : wr.rangeAt gq (k * 513) (Value.int .i64 ds[k].1 :: vals .u8 ds[k].2) := by
        have h := owns_range hpr (k * 513) 513 (by rw [hplen]; omega)
        rw [penCells_at ds (fun p hp => (HV.out.2 p hp).2.2) k hlt] at h
        have e : (Value.int .i64 ds[k].1 :: (vals .u8 ds[k].2 ++ penCells (ds.drop (k + 1)))).take 513 = Value.int .i64 ds[k].1 :: vals .u8 ds[k].2 := by
          rw [List.take_succ_cons, List.take_append_of_le_length (by rw [vals_length, v3]; exact Nat.le_refl _), List.take_of_length_le (by rw [vals_length, v3]; exact Nat.le_refl _)]
        rw [e] at h
        exact h
      have HRG := (show Hid (wr.rangeAt gq (k * 513) (Value.int .i64 ds[k].1 :: vals .u8 ds[k].2)) from hrange)
      have hcl : (vals .u8 ds[k].2).length = 512 := by rw [vals_length]; exact v3
      have HCL : Hid ((Value.int .i64 ds[k].1 :: vals .u8 ds[k].2).length = 513) := by unfold Hid; rw [List.length_cons, hcl]
      have HI93 : Hid ((Try.prog.info? 93).map (·.size) = some (Value.int .i64 ds[k].1 :: vals .u8 ds[k].2).length) := by
        obtain ⟨i0, hi, hz0, hz1, hz2⟩ := info_parts Try.info93
        unfold Hid; rw [HCL.out, hi]; simp [hz1]
      obtain ⟨cs, hcs⟩ : ∃ cs, cs = Value.int .i64 ds[k].1 :: vals .u8 ds[k].2 := ⟨_, rfl⟩
      rw [← hcs] at HRG HCL HI93
      have HCS : Hid (cs = Value.int .i64 ds[k].1 :: vals .u8 ds[k].2) := hcs
      have HONE : Hid (∀ u ∈ cs, u.oneCell' = true) := fun u hu => by
        rw [hcs] at hu
        rcases List.mem_cons.1 hu with rfl | hu
        · rfl
        · exact vals_one u hu
      have hzs : zeros93.size = 513 := by kernel_rfl
      have HTH : Hid ((wr.alloc (.cells zeros93 93)).there wr.heap.size 0 cs.toArray.size) := fun j hj => by
        rw [List.size_toArray, HCL.out] at hj
        refine ⟨?_, ?_⟩
        · rw [cell_of_row _ wr.heap.size (0 + j) zeros93 93 (0, 0) (heap_alloc_new wr _)]
          simp [hzs, hj]
        · exact frozen_of_row _ _ _ zeros93 93 (heap_alloc_new wr _)
      have HI93' : Hid ((Try.prog.info? 93).map (·.size) = some cs.toArray.size) := by rw [List.size_toArray]; exact HI93
      obtain ⟨wb, hwb⟩ : ∃ wb, wb = (wr.alloc (.cells zeros93 93)).setCells wr.heap.size 0 cs := ⟨_, rfl⟩
      have HRB : Hid (wb.rangeAt wr.heap.size 0 cs) := by rw [hwb]; exact World.rangeAt_setCells_same _ _ _ _ (by have h := HTH.out; rwa [List.size_toArray] at h)
      have HKB : Hid (Same wr wb) := by
        obtain ⟨_, hgr⟩ := owns_setCells (base := 0) (e := 93) (size := 513) (g := wr.heap.size) (n := 1) (cap := 1) cs 0 (wr.alloc (.cells zeros93 93)) zeros93.toList (World.ownsRow_lit wr zeros93 1 (Nat.zero_le _) (by unfold maxLen; omega) (by rw [hzs])) (by rw [HCL.out, Array.length_toList, hzs]; exact Nat.le_refl _)
        rw [hwb]
        exact ((Kept.refl _ _).alloc _).grown hgr (fun k e => .inl (by have : wr.heap.size = k := Option.some.inj e; omega))
      have HWB : Hid (wb = (wr.alloc (.cells zeros93 93)).setCells wr.heap.size 0 cs) := hwb
      clear hcs hwb
      have hki : (k : Int) < (ds.length : Int) := by omega
      have hk0 : (0 : Int) ≤ (k : Int) := by omega
      clear hpr hplen hrange p1 p2 p3 p4
      have hst : ∀ k, k ≤ ds.length → (settleN (keepS ks) dur ds k).length = dur.length := fun k hk => settleN_length _ _ _ HV.out k hk
      obtain ⟨sn, hsn⟩ : ∃ sn : Nat, ds[k].1 = sn := ⟨ds[k].1.toNat, by omega⟩
      have hnn := HN.out
      have hsn1 : sn < n := by have := v2; omega
      have x1 := ((HP.out.box.kept HKr.out (by show ¬ B = gd; omega)).same HKB.out).1
      have x2 := ((HP.out.box.kept HKr.out (by show ¬ B = gd; omega)).same HKB.out).2.1
      have y1 : wb.cell? ⟨wr.heap.size, 0, none⟩ = some (.int .i64 (sn : Int)) := by have h := HRB.out 0 (.int .i64 ds[k].1) (by rw [HCS.out]; rfl); rw [hsn] at h; exact h
      have RG : Hid (wb.drew.rangeAt wr.heap.size 1 (vals .u8 ds[k].2)) := fun j v hj => by
        have h := HRB.out (j + 1) v (by rw [HCS.out, List.getElem?_cons_succ]; exact hj)
        show wb.cell? _ = _
        rw [← h]
        congr 2
        omega
      have HI91 : Hid ((Try.prog.info? 91).map (·.size) = some (vals .u8 ds[k].2).length) := by
        obtain ⟨j0, hj, hy0, hy1, hy2⟩ := info_parts Try.info91
        unfold Hid; rw [hcl, hj]; simp [hy1]
      have HID : Hid ((Try.prog.info? 91).map (·.size) = some (vals .u8 ds[k].2).toArray.size) := by rw [List.size_toArray]; exact HI91
      have HOD := (show Hid (wb.drew.ownsRow 0 91 512 (.slice (some ⟨gd, 0, none⟩) n cd) n (vals .u8 (settleN (keepS ks) dur ds k))) from (HKB.out.owns HRr.out (fun _ _ => id)).drew)
      have HFD : Hid (sn * 512 + 512 ≤ (vals .u8 (settleN (keepS ks) dur ds k)).length) := by unfold Hid; rw [vals_length, hst k (by omega)]; omega
      have HTD : Hid (wb.drew.there gd (sn * 512) (vals .u8 ds[k].2).toArray.size) := by rw [List.size_toArray, hcl]; exact owns_there HOD.out (sn * 512) 512 HFD.out
      have g1 : (sn : Int) < (n : Int) := by omega
      have g2 : (0 : Int) ≤ (sn : Int) := by omega
      have HSN : Hid (ds[k].1 = sn) := hsn
      have HCL2 : Hid ((vals .u8 ds[k].2).length = 512) := hcl
      clear hst hnn v1 v2 v3 hcl hzs
      by_cases hsl : keepS ks k = true
      case neg =>
        have hs0 : keepS ks k = false := by simpa using hsl
        have e0 : settleN (keepS ks) dur ds (k + 1) = settleN (keepS ks) dur ds k := by rw [settleN, hs0, if_neg (by simp)]
        have HR9 := (show Hid (wb.ownsRow 0 91 512 (.slice (some ⟨gd, 0, none⟩) n cd) n (vals .u8 (settleN (keepS ks) dur ds (k + 1)))) from (by rw [e0]; exact HKB.out.owns HRr.out (fun _ _ => id)))
        have HK9 := (show Hid (Kept (fun b => b = gd) w wb) from HKr.out.trans (HKB.out.mono (fun _ _ h => h.elim)))
        clear e0
        by_cases hkl : k < ks.length
        · obtain ⟨kb, ko, kc, ek, hkc⟩ := keep_cell HKV.out hkl
          simp only [Value.slice.injEq, true_and] at ek
          obtain ⟨rfl, rfl⟩ := ek
          have hkb : kb ≠ gd := fun e => HSEP.out (fun e0 => by simp [e0] at hkl) kb ⟨_, _, _, rfl⟩ (by rw [e]; rfl)
          have q3 := HK9.out.cellOf hkc (by show ¬ kb = gd; omega)
          have q4 : (ks.getD k 0 != 0) = false := by unfold keepS at hsl; rw [decide_eq_true hkl, Bool.true_and] at hsl; simpa using hsl
          generalize ks.getD k 0 = z at q3 q4
          have hkk : (k : Int) < (ks.length : Int) := by omega
          clear hkc hsl x1 x2 y1
          go_wp2_with (first | (refine wpList_load_mid rfl 93 _ rfl gq (k * 513) rfl cs _ HRG.out Try.underlying93 rfl HI93.out ?_) | (refine wpList_store_mid rfl 93 _ _ rfl wr.heap.size 0 cs.toArray rfl rfl HTH.out HI93'.out (all_oneCell_toArray HONE.out) ?_; rw [List.toList_toArray, ← HWB.out]))
          go_wp2
          go_roundw
          case rel => exact ⟨k + 1, by omega, by go_num, HR9, HK9⟩
          case measure => simp [intOf]; omega
        · have hkk : ¬ (k : Int) < (ks.length : Int) := by omega
          clear hsl hkl x1 x2 y1
          go_wp2_with (first | (refine wpList_load_mid rfl 93 _ rfl gq (k * 513) rfl cs _ HRG.out Try.underlying93 rfl HI93.out ?_) | (refine wpList_store_mid rfl 93 _ _ rfl wr.heap.size 0 cs.toArray rfl rfl HTH.out HI93'.out (all_oneCell_toArray HONE.out) ?_; rw [List.toList_toArray, ← HWB.out]))
          go_wp2
          go_roundw
          case rel => exact ⟨k + 1, by omega, by go_num, HR9, HK9⟩
          case measure => simp [intOf]; omega
      have HSL : Hid (keepS ks k = true) := hsl
      have hkl : k < ks.length := by unfold keepS at hsl; simp at hsl; exact hsl.1
      obtain ⟨kb, ko, kc, ek, hkc⟩ := keep_cell HKV.out hkl
      simp only [Value.slice.injEq, true_and] at ek
      obtain ⟨rfl, rfl⟩ := ek
      have hkb : kb ≠ gd := fun e => HSEP.out (fun e0 => by simp [e0] at hkl) kb ⟨_, _, _, rfl⟩ (by rw [e]; rfl)
      have q3 := (HKr.out.trans (HKB.out.mono (fun _ _ h => h.elim))).cellOf hkc (by show ¬ kb = gd; omega)
      have q4 : (ks.getD k 0 != 0) = true := by unfold keepS at hsl; rw [decide_eq_true hkl, Bool.true_and] at hsl; simpa using hsl
      generalize ks.getD k 0 = z at q3 q4
      have hkk : (k : Int) < (ks.length : Int) := by omega
      clear hkc hsl
      have HST : Hid (vals .u8 (settleN (keepS ks) dur ds (k + 1)) = lay (vals .u8 (settleN (keepS ks) dur ds k)) (sn * 512) (vals .u8 ds[k].2)) := by
        unfold Hid
        have e : ds.getD k (0, []) = ds[k] := by simp [List.getD, hlt]
        rw [settleN, if_pos HSL.out, e, hsn, Int.toNat_natCast]
        simp [vals, putAt, lay]
      clear hsn
      go_wp2_with (first | (refine wpList_load_mid rfl 93 _ rfl gq (k * 513) rfl cs _ HRG.out Try.underlying93 rfl HI93.out ?_) | (refine wpList_store_mid rfl 93 _ _ rfl wr.heap.size 0 cs.toArray rfl rfl HTH.out HI93'.out (all_oneCell_toArray HONE.out) ?_; rw [List.toList_toArray, ← HWB.out]))
      have hS : (fun w' => w'.cell? ⟨B, 0, none⟩ = some (.slice (some ⟨gd, 0, none⟩) n cd) ∧ w'.cell? ⟨wr.heap.size, 0, none⟩ = some (.int .i64 (sn : Int)) ∧ w'.rangeAt wr.heap.size 1 (vals .u8 ds[k].2)) wb.drew := by exact ⟨x1, y1, RG.out⟩
      refine wp_region_V (fun w' => w'.cell? ⟨B, 0, none⟩ = some (.slice (some ⟨gd, 0, none⟩) n cd) ∧ w'.cell? ⟨wr.heap.size, 0, none⟩ = some (.int .i64 (sn : Int)) ∧ w'.rangeAt wr.heap.size 1 (vals .u8 ds[k].2)) 9 10 rfl (by kernel_rfl) ?_
      refine wpAnyV_take (i := 0) (v := ?vq4201) (some 27) rfl rfl (by kernel_rfl) (by kernel_rfl) (by kernel_rfl) (by kernel_rfl) (fun _ _ _ h => h) (Or.inl ⟨by rfl, ?hyq4201⟩) hS ?_
      case hyq4201 => (intro w hSw; (try dsimp only at hSw); go_simp; (try with_reducible rfl))
      try simp only [Act.put, List.setIfInBounds_toArray, List.set_cons_zero, List.set_cons_succ]
      refine wpAnyV_take (i := 1) (v := ?vq4202) (some 28) rfl rfl (by kernel_rfl) (by kernel_rfl) (by kernel_rfl) (by kernel_rfl) (fun _ _ _ h => h) (Or.inl ⟨by rfl, ?hyq4202⟩) hS ?_
      case hyq4202 => (intro w hSw; (try dsimp only at hSw); go_simp; (try with_reducible rfl))
      try simp only [Act.put, List.setIfInBounds_toArray, List.set_cons_zero, List.set_cons_succ]
      refine wpAnyV_take (i := 2) (v := ?vq4203) (some 29) rfl rfl (by kernel_rfl) (by kernel_rfl) (by kernel_rfl) (by kernel_rfl) (fun _ _ _ h => h) (Or.inl ⟨by rfl, ?hyq4203⟩) hS ?_
      case hyq4203 => (intro w hSw; (try dsimp only at hSw); go_simp; (try with_reducible rfl))
      try simp only [Act.put, List.setIfInBounds_toArray, List.set_cons_zero, List.set_cons_succ]
      refine wpAnyV_take (i := 3) (v := ?vq4204) (some 30) rfl rfl (by kernel_rfl) (by kernel_rfl) (by kernel_rfl) (by kernel_rfl) (fun _ _ _ h => h) (Or.inl ⟨by rfl, ?hyq4204⟩) hS ?_
      case hyq4204 => (intro w hSw; (try dsimp only at hSw); go_simp; (try with_reducible rfl))
      try simp only [Act.put, List.setIfInBounds_toArray, List.set_cons_zero, List.set_cons_succ]
      refine wpAnyV_take (i := 4) (v := ?vq4205) (some 31) rfl rfl (by kernel_rfl) (by kernel_rfl) (by kernel_rfl) (by kernel_rfl) (fun _ _ _ h => h) (Or.inl ⟨by rfl, ?hyq4205⟩) hS ?_
      case hyq4205 => (intro w hSw; (try dsimp only at hSw); go_simp; (try with_reducible rfl))
      try simp only [Act.put, List.setIfInBounds_toArray, List.set_cons_zero, List.set_cons_succ]
      refine wpAnyV_take (i := 5) (v := ?vq4206) (some 32) rfl rfl (by kernel_rfl) (by kernel_rfl) (by kernel_rfl) (by kernel_rfl) (fun _ _ _ h => h) (Or.inl ⟨by rfl, ?hyq4206⟩) hS ?_
      case hyq4206 => (intro w hSw; (try dsimp only at hSw); go_simp; (try with_reducible rfl))
      try simp only [Act.put, List.setIfInBounds_toArray, List.set_cons_zero, List.set_cons_succ]
      refine wpAnyV_take (i := 6) (v := ?vq4207) (some 33) rfl rfl (by kernel_rfl) (by kernel_rfl) (by kernel_rfl) (by kernel_rfl) (fun _ _ _ h => h) (Or.inl ⟨by rfl, ?hyq4207⟩) hS ?_
      case hyq4207 => (intro w hSw; (try dsimp only at hSw); go_simp; (try with_reducible rfl))
      try simp only [Act.put, List.setIfInBounds_toArray, List.set_cons_zero, List.set_cons_succ]
      refine wpAnyV_take (i := 7) (v := .agg (vals .u8 ds[k].2).toArray) (some 34) rfl rfl (by kernel_rfl) (by kernel_rfl) (by kernel_rfl) (by kernel_rfl) (fun _ _ _ h => h) (yieldsIf_load_mid (by rfl) _ _ rfl _ _ rfl _ _ (fun w hSw => by (try dsimp only at hSw); exact hSw.2.2) Try.underlying91 rfl HI91.out) hS ?_
      try simp only [Act.put, List.setIfInBounds_toArray, List.set_cons_zero, List.set_cons_succ]
      refine wpAnyV_take (i := 8) (v := ?vq4208) (some 35) rfl rfl (by kernel_rfl) (by kernel_rfl) (by kernel_rfl) (by kernel_rfl) (fun _ _ _ h => h) (Or.inl ⟨by rfl, ?hyq4208⟩) hS ?_
      case hyq4208 => (intro w hSw; (try dsimp only at hSw); go_simp; (try with_reducible rfl))
      try simp only [Act.put, List.setIfInBounds_toArray, List.set_cons_zero, List.set_cons_succ]
      refine wpAnyV_one (i := 9) (by kernel_rfl) rfl (fun K hK => ?_)
      rw [if_pos (by rfl)]
      refine wp_store_mid _ _ _ rfl gd (sn * 512) (vals .u8 ds[k].2).toArray rfl rfl HTD.out HID.out (all_oneCell_toArray (fun v hv => vals_one v hv)) ?_
      simp only [List.getElem_toArray, List.getElem_cons_succ, List.getElem_cons_zero, List.toList_toArray]
      refine hK.out _ _ (fun h => absurd rfl h) ?_
      clear hK K
      refine wpAnyV_done (by kernel_rfl) ?_
      try simp only [Act.put, List.setIfInBounds_toArray, List.set_cons_zero, List.set_cons_succ]
      obtain ⟨q1, q2⟩ := owns_setCells (vals .u8 ds[k].2) (sn * 512) wb.drew _ HOD.out (by rw [HCL2.out]; exact HFD.out)
      rw [← HST.out] at q1
      have HR2 := (show Hid (World.ownsRow _ 0 91 512 (.slice (some ⟨gd, 0, none⟩) n cd) n (vals .u8 (settleN (keepS ks) dur ds (k + 1)))) from q1)
      have HK2 := (show Hid (Kept (fun b => b = gd) w _) from (HKr.out.trans ((HKB.out.mono (fun _ _ h => h.elim)).drew)).trans (Kept.of_grown q2 (fun k e => (Option.some.inj e).symm)))
      generalize wb.drew.setCells gd (sn * 512) (vals .u8 ds[k].2) = wn at *
      clear q1 q2 hS x1 x2 y1
      go_wp2
      go_roundw
      case rel => exact ⟨k + 1, by omega, by go_num, HR2, HK2⟩
      case measure => simp [intOf]; omega
    · obtain rfl : k = ds.length := by omega
      have HX := (show Hid (FBox wr B (.slice (some ⟨gd, 0, none⟩) n cd) (.slice aq ds.length cq)) from HP.out.box.kept HKr.out (by show ¬ B = gd; omega))
      clear p1 p2 p3 p4
      obtain ⟨p1, p2, p3, p4⟩ := HX.out
      go_wp2
      go_end0
      have hl := settleN_length (keepS ks) dur ds HV.out ds.length (Nat.le_refl _)
      have hk2 : Kept (fun b => b = B) wr (wr.setCell ⟨B, 1, none⟩ (.slice none 0 0)) := Kept.setCell (Kept.refl (fun b => b = B) wr) (p := ⟨B, 1, none⟩) (.inr rfl) _
      refine ⟨rfl, ⟨HX.out.set1 _, ?_, World.ownsRow_nil _ _ _ _, HP.out.a1, by simp [Value.ownBlock], fun b _ hb => by simp [Value.ownBlock] at hb⟩, ?_⟩
      · rw [hl, show dur.length / 512 = n from by have := HN.out; omega]
        exact hk2.owns HRr.out (fun b hb => by have e : b = gd := (Option.some.inj hb).symm; show ¬ b = B; omega)
      · exact (HKr.out.mono (fun b _ e => .inr (by rw [e]; rfl))).trans (hk2.mono (fun b _ e => .inl e))
end Go.Proofs.Ytoibckbgiiggfai
