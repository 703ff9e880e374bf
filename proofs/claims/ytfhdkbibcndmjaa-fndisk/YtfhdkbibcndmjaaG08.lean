import Derived.Test.YtfhdkbibcndmjaaG06
import Derived.Test.YtfhdkbibcndmjaaG01
namespace Go.Proofs.Ytfhdkbibcndmjaa
set_option maxRecDepth 100000
set_option maxHeartbeats 4000000
open Go.RowKit
set_option linter.unusedSimpArgs false
set_option linter.unusedVariables false
def keepS (ks : List Int) (k : Nat) : Bool := decide (k < ks.length) && (ks.getD k 0 != 0)
theorem keep_cell {kd : IntKind} {w : World} {v : Value} {ks : List Int} (h : Rd kd w v ks) {k : Nat} (hk : k < ks.length) : ∃ b o c, v = .slice (some ⟨b, o, none⟩) ks.length c ∧ w.cell? ⟨b, o + k, none⟩ = some (.int kd (ks.getD k 0)) := by
  rcases h.2 with ⟨rfl, _⟩ | ⟨b, o, c, e, _, hc⟩
  · simp at hk
  · exact ⟨b, o, c, e, hc k hk⟩
theorem l1Settle_keep (dv pv : Value) (dur : List Int) (ps : List PW) (kv : Value) (ks : List Int) (w : World) (hd : dur.length ≤ 1099511627776) (hv : RdD w dv pv dur ps) (hval : Valid dur.length (dataP ps)) (hkv : Rd .i64 w kv ks) :
    Calls Try.prog 69 #[.agg #[dv, pv], .bool false, kv] w fun e w' => ∃ a n c, e = .returned (.agg #[.slice a n c, .slice none 0 0]) ∧
      (∀ b, (Value.slice a n c).ownBlock = some b → w.heap.size ≤ b) ∧ Own 0 5 .u8 w' (.slice a n c) (settleN (keepS ks) dur (dataP ps) ps.length) ∧ Same w w' := by
  obtain ⟨sel, hsel⟩ : ∃ sel : Nat → Bool, sel = keepS ks := ⟨_, rfl⟩
  rw [← hsel]
  have HSEL : Hid (sel = keepS ks) := hsel
  clear hsel
  have hsz1 : (Try.prog.info? 5).map (·.size) = some 1 := by kernel_rfl
  obtain ⟨a1, c1, rfl⟩ := hv.dur.form
  obtain ⟨ak, ck, rfl⟩ := hkv.form
  have HKV := (show Hid (Rd .i64 w (.slice ak ks.length ck) ks) from hkv)
  have hkm := hkv.1
  unfold maxLen at hkm
  clear hkv
  obtain ⟨a2, c2, e2⟩ := hv.pend.form
  have HP : Hid (RdP w pv ps) := hv.pend
  have HR : Hid (Rd .u8 w (.slice a1 dur.length c1) dur) := hv.dur
  have HV : Hid (Valid dur.length (dataP ps)) := hval
  subst e2
  have hpl : ps.length ≤ 8192 := by have := hval.1.2.2.2; rwa [dataP_length] at this
  have hdl : 512 ≤ dur.length := by have := hval.1.2.1; omega
  clear hv hval
  go_enter Try.func69, Try.ntmps69
  go_wp2_with fail
  refine (l1Copy_any _ dur _ hd (HR.out.same (((Kept.refl _ _).alloc _).alloc _))).mono ?_
  rintro e w1 ⟨a, n, c, rfl, ho, hf, hk⟩
  simp only [World.size_alloc] at hf
  obtain ⟨g, cap, e3, _, hgw, hcap, _⟩ : ∃ g cap, Value.slice a n c = .slice (some ⟨g, 0, none⟩) dur.length cap ∧ 0 ≤ g ∧ g < w1.heap.size ∧ dur.length ≤ cap ∧ cap ≤ maxLen := by
    rcases ho.form with ⟨_, h⟩ | h
    · simp [h] at hdl
    · exact h
  simp only [Value.slice.injEq] at e3
  obtain ⟨rfl, rfl, rfl⟩ := e3
  have hgf : w.heap.size + 1 < g := by have := hf g rfl; omega
  have b0 := ((FBox.new w (.slice a1 dur.length c1) (.slice a2 ps.length c2) 25).next _).same hk
  have b1 := (FBox.new (w.alloc (.cells #[.slice a1 dur.length c1, .slice a2 ps.length c2] 25)) (.slice none 0 0) (.slice none 0 0) 25).same hk
  simp only [World.size_alloc] at b1
  have HB0 : Hid (FBox w1 w.heap.size (.slice a1 dur.length c1) (.slice a2 ps.length c2)) := b0
  have HB1 : Hid (FBox w1 (w.heap.size + 1) (.slice none 0 0) (.slice none 0 0)) := b1
  have HO := (show Hid (Own 0 5 .u8 w1 (.slice (some ⟨g, 0, none⟩) dur.length c) dur) from ho)
  have HK : Hid (Same w w1) := (((Kept.refl _ _).alloc _).alloc _).trans hk
  have hz1' : w.heap.size + 1 < w1.heap.size := b1.lt
  clear ho hf hk b0 b1
  obtain ⟨cap, rfl⟩ : ∃ cap, cap = c := ⟨_, rfl⟩
  go_wp2
  go_loopw [8] (fun i wr => ∃ (k : Nat), k ≤ ps.length ∧ i = .int .i64 k ∧ Hid (FBox wr w1.heap.size (.slice (some ⟨g, 0, none⟩) dur.length cap) (.slice none 0 0)) ∧
      Hid (Own 0 5 .u8 wr (.slice (some ⟨g, 0, none⟩) dur.length cap) (settleN sel dur (dataP ps) k)) ∧ Hid (Kept (fun b => b = g) w1 wr)) (fun i _ => ps.length - (intOf i).toNat)
  case atStart => exact ⟨0, Nat.zero_le _, rfl, FBox.new _ _ _ _, HO.out.same ((Kept.refl _ _).alloc _), (Kept.refl _ _).alloc _⟩
  case round =>
    obtain ⟨k, hk, rfl, HX, HOr, HKr⟩ := hrel
    obtain ⟨o1, o2, _, _⟩ := HB0.out.kept HKr.out (by omega)
    by_cases hlt : k < ps.length
    · obtain ⟨b, off, rfl, hc⟩ : ∃ b off, a2 = some ⟨b, off, none⟩ ∧ ∀ i (h : i < ps.length), w.cell? ⟨b, off + i * 2, none⟩ = some (.int .i64 ps[i].sec) ∧ w.cell? ⟨b, off + i * 2 + 1, none⟩ = some ps[i].v := by
        rcases HP.out.row with ⟨rfl, _⟩ | ⟨b, off, c, e, hc⟩
        · simp at hlt
        · simp only [Value.slice.injEq, true_and] at e
          obtain ⟨rfl, rfl⟩ := e
          exact ⟨b, off, rfl, hc⟩
      obtain ⟨v1, v2, v3⟩ := HV.out.2 (ps[k].sec, ps[k].bs) (List.mem_map.2 ⟨ps[k], List.getElem_mem hlt, rfl⟩)
      simp only at v1 v2 v3
      obtain ⟨b3, o3, c3, ev, hsrc⟩ : ∃ b3 o3 c3, ps[k].v = .slice (some ⟨b3, o3, none⟩) ps[k].bs.length c3 ∧ ∀ i, i < ps[k].bs.length → w.cell? ⟨b3, o3 + i, none⟩ = some (.int .u8 (ps[k].bs.getD i 0)) := by
        rcases (HP.out.data _ (List.getElem_mem hlt)).2 with ⟨h, _⟩ | ⟨b3, o3, c3, h, _, hc⟩
        · simp [h] at v3
        · exact ⟨b3, o3, c3, h, hc⟩
      have hbw : b < w.heap.size := World.block_lt_of_cell? w _ (hc k hlt).1
      have hkw : Kept (fun b => b = g) w wr := (HK.out.mono (fun _ _ h => h.elim)).trans HKr.out
      have q1 := hkw.cellOf (hc k hlt).1 (by show ¬ b = g; omega)
      have q2 := hkw.cellOf (hc k hlt).2 (by show ¬ b = g; omega)
      rw [ev] at q2
      by_cases hsl : keepS ks k = true
      case neg =>
        have hs0 : sel k = false := by rw [HSEL.out]; simpa using hsl
        have e0 : settleN sel dur (dataP ps) (k + 1) = settleN sel dur (dataP ps) k := by rw [settleN, hs0, if_neg (by simp)]
        have HO9 := (show Hid (Own 0 5 .u8 wr (.slice (some ⟨g, 0, none⟩) dur.length cap) (settleN sel dur (dataP ps) (k + 1))) from (by rw [e0]; exact HOr.out))
        have hki : (k : Int) < (ps.length : Int) := by omega
        have hk0 : (0 : Int) ≤ (k : Int) := by omega
        clear q1 q2 ev hc hsrc v1 v2 v3 e0
        by_cases hkl : k < ks.length
        · obtain ⟨kb, ko, kc, ek, hkc⟩ := keep_cell HKV.out hkl
          simp only [Value.slice.injEq, true_and] at ek
          obtain ⟨rfl, rfl⟩ := ek
          have hkb : kb < w.heap.size := World.block_lt_of_cell? w _ hkc
          have q3 := hkw.cellOf hkc (by show ¬ kb = g; omega)
          have q4 : (ks.getD k 0 != 0) = false := by unfold keepS at hsl; rw [decide_eq_true hkl, Bool.true_and] at hsl; simpa using hsl
          generalize ks.getD k 0 = z at q3 q4
          have hkk : (k : Int) < (ks.length : Int) := by omega
          clear hkc hkw hsl
          go_wp2
          go_roundw
          case rel => exact ⟨k + 1, by omega, by go_num, HX, HO9, HKr⟩
          case measure => simp [intOf]; omega
        · have hkk : ¬ (k : Int) < (ks.length : Int) := by omega
          clear hkw hsl hkl
          go_wp2
          go_roundw
          case rel => exact ⟨k + 1, by omega, by go_num, HX, HO9, HKr⟩
          case measure => simp [intOf]; omega
      have HSL : Hid (sel k = true) := by rw [HSEL.out]; exact hsl
      have hkl : k < ks.length := by unfold keepS at hsl; simp at hsl; exact hsl.1
      obtain ⟨kb, ko, kc, ek, hkc⟩ := keep_cell HKV.out hkl
      simp only [Value.slice.injEq, true_and] at ek
      obtain ⟨rfl, rfl⟩ := ek
      have hkb : kb < w.heap.size := World.block_lt_of_cell? w _ hkc
      have q3 := hkw.cellOf hkc (by show ¬ kb = g; omega)
      have q4 : (ks.getD k 0 != 0) = true := by unfold keepS at hsl; rw [decide_eq_true hkl, Bool.true_and] at hsl; simpa using hsl
      generalize ks.getD k 0 = z at q3 q4
      have hkk : (k : Int) < (ks.length : Int) := by omega
      clear hkc hsl
      obtain ⟨sn, hsn⟩ : ∃ sn : Nat, ps[k].sec = sn := ⟨ps[k].sec.toNat, by omega⟩
      rw [hsn] at q1 v2
      have hgd : (dataP ps).getD k (0, []) = ((sn : Int), ps[k].bs) := by simp [dataP, List.getD, hlt, hsn]
      have hb3 : ∀ i, i < ps[k].bs.length → b3 < w.heap.size := fun i hi => World.block_lt_of_cell? w _ (hsrc i hi)
      have HSRC : Hid (∀ i, i < ps[k].bs.length → wr.drew.cell? ⟨b3, o3 + i, none⟩ = some (.int .u8 (ps[k].bs.getD i 0))) := fun i hi => hkw.drew.cellOf (hsrc i hi) (by have := hb3 i hi; show ¬ b3 = g; omega)
      have HLN : Hid ((settleN sel dur (dataP ps) k).length = dur.length) := settleN_length _ _ _ HV.out _ (by rw [dataP_length]; omega)
      have hs1 : (sn + 1) * 512 ≤ dur.length := by have := HV.out.1.1; omega
      have HFIT : Hid (sn * 512 + ps[k].bs.length ≤ (settleN sel dur (dataP ps) k).length) := by rw [HLN.out, v3]; unfold Hid; omega
      have HST : Hid (settleN sel dur (dataP ps) (k + 1) = putAt (settleN sel dur (dataP ps) k) (sn * 512) ps[k].bs) := by
        unfold Hid
        rw [settleN, HSL.out, if_pos rfl, hgd]
        simp
      have HKW : Hid (Kept (fun b => b = g) w wr) := hkw
      have hsm : (sn : Int) ≤ 1024 := by have := HV.out.1.2.2.1; omega
      have e1 : ((sn : Int) * 512).toNat = sn * 512 := by omega
      have e2 : (sn : Int) * 512 ≤ (dur.length : Int) := by omega
      have e3 : (sn : Int) * 512 ≤ (cap : Int) := by omega
      have e4 : (dur.length : Int) ≤ (cap : Int) := by omega
      have e5 : IntKind.i64.wrap ((sn : Int) * 512) = (sn : Int) * 512 := by rw [IntKind.wrap_i64]; omega
      have e6 : ¬ cap = sn * 512 := by omega
      have e7 : (0 : Int) ≤ (sn : Int) * 512 := by omega
      clear ev hc hsrc hb3 hgd hsn hkw v1 v2 v3
      have hki : (k : Int) < (ps.length : Int) := by omega
      have hk0 : (0 : Int) ≤ (k : Int) := by omega
      obtain ⟨x1, x2, x3, x4⟩ := HX.out
      go_wp2_with fail
      have hS : (fun w' => w'.cell? ⟨w1.heap.size, 0, none⟩ = some (.slice (some ⟨g, 0, none⟩) dur.length cap) ∧ w'.cell? ⟨w.heap.size, 1, none⟩ = some (.slice (some ⟨b, off, none⟩) ps.length c2) ∧ w'.cell? ⟨b, off + k * 2, none⟩ = some (.int .i64 (sn : Int)) ∧ w'.cell? ⟨b, off + k * 2 + 1, none⟩ = some (.slice (some ⟨b3, o3, none⟩) ps[k].bs.length c3)) wr.drew := by go_keep
      refine wp_region_V (fun w' => w'.cell? ⟨w1.heap.size, 0, none⟩ = some (.slice (some ⟨g, 0, none⟩) dur.length cap) ∧ w'.cell? ⟨w.heap.size, 1, none⟩ = some (.slice (some ⟨b, off, none⟩) ps.length c2) ∧ w'.cell? ⟨b, off + k * 2, none⟩ = some (.int .i64 (sn : Int)) ∧ w'.cell? ⟨b, off + k * 2 + 1, none⟩ = some (.slice (some ⟨b3, o3, none⟩) ps[k].bs.length c3)) 99 17 rfl (by kernel_rfl) ?_
      refine tk 0 34 hS ?_
      refine tk 1 35 hS ?_
      refine tk 2 36 hS ?_
      refine tk 3 37 hS ?_
      refine tk 4 38 hS ?_
      refine tk 5 39 hS ?_
      refine tk 6 40 hS ?_
      refine tk 7 41 hS ?_
      refine tk 8 42 hS ?_
      refine tk 9 43 hS ?_
      refine tk 10 44 hS ?_
      refine tk 11 45 hS ?_
      refine tk 12 46 hS ?_
      refine tk 13 47 hS ?_
      refine tk 14 48 hS ?_
      refine tk 15 49 hS ?_
      refine wpAnyV_one (i := 16) (by kernel_rfl) rfl (fun K hK => ?_)
      refine step_copy_own (by rfl) (.tmp 43) (.tmp 49) 22 (by rfl) Try.underlying22 hsz1 g (sn * 512) dur.length cap (cap - sn * 512) b3 o3 c3 (settleN sel dur (dataP ps) k) ps[k].bs (by exact HOr.out.same (Kept.refl _ _).drew) HLN.out.symm (by rfl) (by rfl) (by exact fun i hi => HSRC.out i hi) HFIT.out ?_
      intro w3 ho3 hg3
      have HO3 := (show Hid (Own 0 5 .u8 w3 _ _) from ho3)
      have HG3 := (show Hid (Kept (fun b => b = g) wr w3) from (Kept.refl _ _).drew.trans (Kept.of_grown hg3 (fun k e => (Option.some.inj e).symm)))
      clear ho3 hg3
      have HX3 : Hid (FBox w3 w1.heap.size (.slice (some ⟨g, 0, none⟩) dur.length cap) (.slice none 0 0)) := HX.out.kept HG3.out (by show ¬ w1.heap.size = g; omega)
      have y1 := HX3.out.1
      have y2 := HG3.out.cellOf o2 (by show ¬ w.heap.size = g; omega)
      have y3 := HG3.out.cellOf q1 (by show ¬ b = g; omega)
      have y4 := HG3.out.cellOf q2 (by show ¬ b = g; omega)
      refine hK.out _ _ (fun _ => by go_keep) ?_
      clear hK K
      refine wpAnyV_done (by kernel_rfl) ?_
      try simp only [Act.put, sA, s0, sS]
      rw [← HST.out] at HO3
      have HK3 : Hid (Kept (fun b => b = g) w1 w3) := HKr.out.trans HG3.out
      clear hS x1 x2 x3 x4 q1 q2 o1 o2 y1 y2 y3 y4
      go_wp2
      go_roundw
      case rel => exact ⟨k + 1, by omega, by go_num, HX3, HO3, HK3⟩
      case measure => simp [intOf]; omega
    · obtain ⟨x1, x2, _, _⟩ := HX.out
      obtain ⟨p1, p2, p3, p4⟩ := HB1.out.kept HKr.out (by omega)
      have hrl : w1.heap.size < wr.heap.size := HX.out.lt
      go_wp2
      obtain rfl : k = ps.length := by omega
      refine bodyPost_ret (v := .agg #[.slice (some ⟨g, 0, none⟩) dur.length cap, .slice none 0 0]) (by simp [results, Try.results69, go_sem, p1, p2]) rfl ⟨some ⟨g, 0, none⟩, dur.length, cap, rfl, fun b hb => by simp [Value.ownBlock] at hb; omega, ?_, ?_⟩
      · refine HOr.out.kept (R := fun b => b = w.heap.size + 1) ?_ (fun b hb e => by simp [Value.ownBlock] at hb; omega)
        exact Kept.setTwo (Kept.refl (fun b => b = w.heap.size + 1) _) (.inr rfl) _ _
      · exact Kept.setTwo (HK.out.next HKr.out (fun b hb e => by have e' : b = g := e; omega)) (.inl (by simp)) _ _
theorem crash_any (B : Nat) (dv pv : Value) (dur : List Int) (ds : List (Int × List Int)) (kv : Value) (ks : List Int) (w : World) (hp : Plat w B dv pv dur ds) (hval : Valid dur.length ds) (hkv : Rd .i64 w kv ks) (hsep : ks ≠ [] → ∀ b, looks kv b → dv.ownBlock ≠ some b) :
    Calls Try.prog 56 #[.pointer (some ⟨B, 0, none⟩), kv] w fun e w' => e = .returned (.tuple #[]) ∧ Plat w' B dv (.slice none 0 0) (settleN (keepS ks) dur ds ds.length) [] ∧ Kept (fun b => b = B ∨ dv.ownBlock = some b) w w' := by
  obtain ⟨gd, cd, rfl⟩ : ∃ gd cd, dv = .slice (some ⟨gd, 0, none⟩) (dur.length / 512) cd := by
    rcases hp.dur.2 with ⟨_, h⟩ | ⟨g, cap, _, h, _⟩
    · have := hval.1.2.1; omega
    · exact ⟨g, cap, h⟩
  obtain ⟨aq, cq, rfl⟩ : ∃ aq cq, pv = .slice aq ds.length cq := by
    rcases hp.pend.2 with ⟨rfl, h⟩ | ⟨g, cap, _, h, _⟩
    · exact ⟨none, 0, by rw [h]⟩
    · exact ⟨_, _, h⟩
  have HP : Hid (Plat w B (.slice (some ⟨gd, 0, none⟩) (dur.length / 512) cd) (.slice aq ds.length cq) dur ds) := hp
  have HV : Hid (Valid dur.length ds) := hval
  have hdl : ds.length ≤ 8192 := hval.1.2.2.2
  have hdn : dur.length / 512 ≤ 1024 := hval.1.2.2.1
  obtain ⟨n, hn⟩ : ∃ n, dur.length / 512 = n := ⟨_, rfl⟩
  rw [hn] at HP hdn ⊢
  have HN : Hid (dur.length = n * 512) := by have := hval.1.1; unfold Hid; omega
  have hbd : gd ≠ B := fun e => HP.out.a1 (by rw [e]; rfl)
  obtain ⟨ak, ck, rfl⟩ := hkv.form
  have HKV := (show Hid (Rd .i64 w (.slice ak ks.length ck) ks) from hkv)
  have HSEP := (show Hid (ks ≠ [] → ∀ b, looks (.slice ak ks.length ck) b → (Value.slice (some ⟨gd, 0, none⟩) n cd).ownBlock ≠ some b) from (by rw [← hn]; exact hsep))
  have hkm := hkv.1
  unfold maxLen at hkm
  clear hp hval hn hkv hsep
  have hz93 := zero93
  obtain ⟨p1, p2, p3, p4⟩ := HP.out.box
  go_enter Try.func56, Try.ntmps56
  go_wp2
  go_loopw [11] (fun i wr => ∃ (k : Nat), k ≤ ds.length ∧ i = .int .i64 k ∧ Hid (wr.ownsRow 0 109 512 (.slice (some ⟨gd, 0, none⟩) n cd) n (vals .u8 (settleN (keepS ks) dur ds k))) ∧ Hid (Kept (fun b => b = gd) w wr)) (fun i _ => ds.length - (intOf i).toNat)
  case atStart => exact ⟨0, Nat.zero_le _, rfl, (by have h := HP.out.dur; rw [show dur.length / 512 = n from by have := HN.out; omega] at h; exact h), Kept.refl _ _⟩
  case round =>
    obtain ⟨k, hk, rfl, HRr, HKr⟩ := hrel
    by_cases hlt : k < ds.length
    · obtain ⟨gq, rfl⟩ : ∃ gq, aq = some ⟨gq, 0, none⟩ := by
        rcases HP.out.pend.2 with ⟨h, h0⟩ | ⟨g, cap, _, h, _⟩
        · omega
        · simp only [Value.slice.injEq] at h; exact ⟨g, h.1⟩
      have hgq : gq ≠ gd := fun e => HP.out.a3 gd rfl (by rw [e]; rfl)
      obtain ⟨v1, v2, v3⟩ := HV.out.2 ds[k] (List.getElem_mem hlt)
      have hpr := HKr.out.owns HP.out.pend (fun b hb => by have e : b = gq := (Option.some.inj hb).symm; show ¬ b = gd; omega)
      have hplen : (penCells ds).length = ds.length * 513 := penCells_length ds (fun p hp => (HV.out.2 p hp).2.2)
      have hrange : wr.rangeAt gq (k * 513) (Value.int .i64 ds[k].1 :: vals .u8 ds[k].2) := by
        have h := owns_range hpr (k * 513) 513 (by rw [hplen]; omega)
        rw [penCells_at ds (fun p hp => (HV.out.2 p hp).2.2) k hlt] at h
        have e : (Value.int .i64 ds[k].1 :: (vals .u8 ds[k].2 ++ penCells (ds.drop (k + 1)))).take 513 = Value.int .i64 ds[k].1 :: vals .u8 ds[k].2 := by
          rw [List.take_succ_cons, List.take_append_of_le_length (by rw [vals_length, v3]; exact Nat.le_refl _), List.take_of_length_le (by rw [vals_length, v3]; exact Nat.le_refl _)]
        rw [e] at h
        exact h
      have HRG := (show Hid (wr.rangeAt gq (k * 513) (Value.int .i64 ds[k].1 :: vals .u8 ds[k].2)) from hrange)
      have hcl : (vals .u8 ds[k].2).length = 512 := by rw [vals_length]; exact v3
      have HCL : Hid ((Value.int .i64 ds[k].1 :: vals .u8 ds[k].2).length = 513) := by unfold Hid; rw [List.length_cons, hcl]
      have HI93 : Hid ((Try.prog.info? 111).map (·.size) = some (Value.int .i64 ds[k].1 :: vals .u8 ds[k].2).length) := by
        obtain ⟨i0, hi, hz0, hz1, hz2⟩ := info_parts Try.info93
        unfold Hid; rw [HCL.out, hi]; simp [hz1]
      obtain ⟨cs, hcs⟩ : ∃ cs, cs = Value.int .i64 ds[k].1 :: vals .u8 ds[k].2 := ⟨_, rfl⟩
      rw [← hcs] at HRG HCL HI93
      have HCS : Hid (cs = Value.int .i64 ds[k].1 :: vals .u8 ds[k].2) := hcs
      have HONE : Hid (∀ u ∈ cs, u.oneCell' = true) := fun u hu => by
        rw [hcs] at hu
        rcases List.mem_cons.1 hu with rfl | hu
        · rfl
        · exact vals_one u hu
      have hzs : zeros93.size = 513 := by kernel_rfl
      have HTH : Hid ((wr.alloc (.cells zeros93 111)).there wr.heap.size 0 cs.toArray.size) := fun j hj => by
        rw [List.size_toArray, HCL.out] at hj
        refine ⟨?_, ?_⟩
        · rw [cell_of_row _ wr.heap.size (0 + j) zeros93 111 (0, 0) (heap_alloc_new wr _)]
          simp [hzs, hj]
        · exact frozen_of_row _ _ _ zeros93 111 (heap_alloc_new wr _)
      have HI93' : Hid ((Try.prog.info? 111).map (·.size) = some cs.toArray.size) := by rw [List.size_toArray]; exact HI93
      obtain ⟨wb, hwb⟩ : ∃ wb, wb = (wr.alloc (.cells zeros93 111)).setCells wr.heap.size 0 cs := ⟨_, rfl⟩
      have HRB : Hid (wb.rangeAt wr.heap.size 0 cs) := by rw [hwb]; exact World.rangeAt_setCells_same _ _ _ _ (by have h := HTH.out; rwa [List.size_toArray] at h)
      have HKB : Hid (Same wr wb) := by
        obtain ⟨_, hgr⟩ := owns_setCellsP (base := 0) (e := 111) (size := 513) (g := wr.heap.size) (n := 1) (cap := 1) cs 0 (wr.alloc (.cells zeros93 111)) zeros93.toList (World.ownsRow_lit wr zeros93 1 (Nat.zero_le _) (by unfold maxLen; omega) (by rw [hzs])) (by rw [HCL.out, Array.length_toList, hzs]; exact Nat.le_refl _)
        rw [hwb]
        exact ((Kept.refl _ _).alloc _).grown hgr (fun k e => .inl (by have : wr.heap.size = k := Option.some.inj e; omega))
      have HWB : Hid (wb = (wr.alloc (.cells zeros93 111)).setCells wr.heap.size 0 cs) := hwb
      clear hcs hwb
      have hki : (k : Int) < (ds.length : Int) := by omega
      have hk0 : (0 : Int) ≤ (k : Int) := by omega
      clear hpr hplen hrange p1 p2 p3 p4
      have hst : ∀ k, k ≤ ds.length → (settleN (keepS ks) dur ds k).length = dur.length := fun k hk => settleN_length _ _ _ HV.out k hk
      obtain ⟨sn, hsn⟩ : ∃ sn : Nat, ds[k].1 = sn := ⟨ds[k].1.toNat, by omega⟩
      have hnn := HN.out
      have hsn1 : sn < n := by have := v2; omega
      have x1 := ((HP.out.box.kept HKr.out (by show ¬ B = gd; omega)).same HKB.out).1
      have x2 := ((HP.out.box.kept HKr.out (by show ¬ B = gd; omega)).same HKB.out).2.1
      have y1 : wb.cell? ⟨wr.heap.size, 0, none⟩ = some (.int .i64 (sn : Int)) := by have h := HRB.out 0 (.int .i64 ds[k].1) (by rw [HCS.out]; rfl); rw [hsn] at h; exact h
      have RG : Hid (wb.drew.rangeAt wr.heap.size 1 (vals .u8 ds[k].2)) := fun j v hj => by
        have h := HRB.out (j + 1) v (by rw [HCS.out, List.getElem?_cons_succ]; exact hj)
        show wb.cell? _ = _
        rw [← h]
        congr 2
        omega
      have HI91 : Hid ((Try.prog.info? 109).map (·.size) = some (vals .u8 ds[k].2).length) := by
        obtain ⟨j0, hj, hy0, hy1, hy2⟩ := info_parts Try.info91
        unfold Hid; rw [hcl, hj]; simp [hy1]
      have HID : Hid ((Try.prog.info? 109).map (·.size) = some (vals .u8 ds[k].2).toArray.size) := by rw [List.size_toArray]; exact HI91
      have HOD := (show Hid (wb.drew.ownsRow 0 109 512 (.slice (some ⟨gd, 0, none⟩) n cd) n (vals .u8 (settleN (keepS ks) dur ds k))) from (HKB.out.owns HRr.out (fun _ _ => id)).drew)
      have HFD : Hid (sn * 512 + 512 ≤ (vals .u8 (settleN (keepS ks) dur ds k)).length) := by unfold Hid; rw [vals_length, hst k (by omega)]; omega
      have HTD : Hid (wb.drew.there gd (sn * 512) (vals .u8 ds[k].2).toArray.size) := by rw [List.size_toArray, hcl]; exact owns_there HOD.out (sn * 512) 512 HFD.out
      have g1 : (sn : Int) < (n : Int) := by omega
      have g2 : (0 : Int) ≤ (sn : Int) := by omega
      have HSN : Hid (ds[k].1 = sn) := hsn
      have HCL2 : Hid ((vals .u8 ds[k].2).length = 512) := hcl
      clear hst hnn v1 v2 v3 hcl hzs
      by_cases hsl : keepS ks k = true
      case neg =>
        have hs0 : keepS ks k = false := by simpa using hsl
        have e0 : settleN (keepS ks) dur ds (k + 1) = settleN (keepS ks) dur ds k := by rw [settleN, hs0, if_neg (by simp)]
        have HR9 := (show Hid (wb.ownsRow 0 109 512 (.slice (some ⟨gd, 0, none⟩) n cd) n (vals .u8 (settleN (keepS ks) dur ds (k + 1)))) from (by rw [e0]; exact HKB.out.owns HRr.out (fun _ _ => id)))
        have HK9 := (show Hid (Kept (fun b => b = gd) w wb) from HKr.out.trans (HKB.out.mono (fun _ _ h => h.elim)))
        clear e0
        by_cases hkl : k < ks.length
        · obtain ⟨kb, ko, kc, ek, hkc⟩ := keep_cell HKV.out hkl
          simp only [Value.slice.injEq, true_and] at ek
          obtain ⟨rfl, rfl⟩ := ek
          have hkb : kb ≠ gd := fun e => HSEP.out (fun e0 => by simp [e0] at hkl) kb ⟨_, _, _, rfl⟩ (by rw [e]; rfl)
          have q3 := HK9.out.cellOf hkc (by show ¬ kb = gd; omega)
          have q4 : (ks.getD k 0 != 0) = false := by unfold keepS at hsl; rw [decide_eq_true hkl, Bool.true_and] at hsl; simpa using hsl
          generalize ks.getD k 0 = z at q3 q4
          have hkk : (k : Int) < (ks.length : Int) := by omega
          clear hkc hsl x1 x2 y1
          go_wp2_with (first | (refine wpList_load_mid rfl 111 _ rfl gq (k * 513) rfl cs _ HRG.out Try.underlying111 rfl HI93.out ?_) | (refine wpList_store_mid rfl 111 _ _ rfl wr.heap.size 0 cs.toArray rfl rfl HTH.out HI93'.out (all_oneCell_toArray HONE.out) ?_; rw [List.toList_toArray, ← HWB.out]))
          go_wp2
          go_roundw
          case rel => exact ⟨k + 1, by omega, by go_num, HR9, HK9⟩
          case measure => simp [intOf]; omega
        · have hkk : ¬ (k : Int) < (ks.length : Int) := by omega
          clear hsl hkl x1 x2 y1
          go_wp2_with (first | (refine wpList_load_mid rfl 111 _ rfl gq (k * 513) rfl cs _ HRG.out Try.underlying111 rfl HI93.out ?_) | (refine wpList_store_mid rfl 111 _ _ rfl wr.heap.size 0 cs.toArray rfl rfl HTH.out HI93'.out (all_oneCell_toArray HONE.out) ?_; rw [List.toList_toArray, ← HWB.out]))
          go_wp2
          go_roundw
          case rel => exact ⟨k + 1, by omega, by go_num, HR9, HK9⟩
          case measure => simp [intOf]; omega
      have HSL : Hid (keepS ks k = true) := hsl
      have hkl : k < ks.length := by unfold keepS at hsl; simp at hsl; exact hsl.1
      obtain ⟨kb, ko, kc, ek, hkc⟩ := keep_cell HKV.out hkl
      simp only [Value.slice.injEq, true_and] at ek
      obtain ⟨rfl, rfl⟩ := ek
      have hkb : kb ≠ gd := fun e => HSEP.out (fun e0 => by simp [e0] at hkl) kb ⟨_, _, _, rfl⟩ (by rw [e]; rfl)
      have q3 := (HKr.out.trans (HKB.out.mono (fun _ _ h => h.elim))).cellOf hkc (by show ¬ kb = gd; omega)
      have q4 : (ks.getD k 0 != 0) = true := by unfold keepS at hsl; rw [decide_eq_true hkl, Bool.true_and] at hsl; simpa using hsl
      generalize ks.getD k 0 = z at q3 q4
      have hkk : (k : Int) < (ks.length : Int) := by omega
      clear hkc hsl
      have HST : Hid (vals .u8 (settleN (keepS ks) dur ds (k + 1)) = lay (vals .u8 (settleN (keepS ks) dur ds k)) (sn * 512) (vals .u8 ds[k].2)) := by
        unfold Hid
        have e : ds.getD k (0, []) = ds[k] := by simp [List.getD, hlt]
        rw [settleN, if_pos HSL.out, e, hsn, Int.toNat_natCast]
        simp [vals, putAt, lay]
      clear hsn
      go_wp2_with (first | (refine wpList_load_mid rfl 111 _ rfl gq (k * 513) rfl cs _ HRG.out Try.underlying111 rfl HI93.out ?_) | (refine wpList_store_mid rfl 111 _ _ rfl wr.heap.size 0 cs.toArray rfl rfl HTH.out HI93'.out (all_oneCell_toArray HONE.out) ?_; rw [List.toList_toArray, ← HWB.out]))
      have hS : (fun w' => w'.cell? ⟨B, 0, none⟩ = some (.slice (some ⟨gd, 0, none⟩) n cd) ∧ w'.cell? ⟨wr.heap.size, 0, none⟩ = some (.int .i64 (sn : Int)) ∧ w'.rangeAt wr.heap.size 1 (vals .u8 ds[k].2)) wb.drew := by exact ⟨x1, y1, RG.out⟩
      refine wp_region_V (fun w' => w'.cell? ⟨B, 0, none⟩ = some (.slice (some ⟨gd, 0, none⟩) n cd) ∧ w'.cell? ⟨wr.heap.size, 0, none⟩ = some (.int .i64 (sn : Int)) ∧ w'.rangeAt wr.heap.size 1 (vals .u8 ds[k].2)) 9 10 rfl (by kernel_rfl) ?_
      refine tk 0 27 hS ?_
      refine tk 1 28 hS ?_
      refine tk 2 29 hS ?_
      refine tk 3 30 hS ?_
      refine tk 4 31 hS ?_
      refine tk 5 32 hS ?_
      refine tk 6 33 hS ?_
      refine wpAnyV_take (i := 7) (v := .agg (vals .u8 ds[k].2).toArray) (some 34) rfl rfl (by kernel_rfl) (by kernel_rfl) (by kernel_rfl) (by kernel_rfl) (fun _ _ _ h => h) (yieldsIf_load_mid (by rfl) _ _ rfl _ _ rfl _ _ (fun w hSw => by (try dsimp only at hSw); exact hSw.2.2) Try.underlying109 rfl HI91.out) hS ?_
      try simp only [Act.put, sA, s0, sS]
      refine tk 8 35 hS ?_
      refine wpAnyV_one (i := 9) (by kernel_rfl) rfl (fun K hK => ?_)
      rw [if_pos (by rfl)]
      refine wp_store_mid _ _ _ rfl gd (sn * 512) (vals .u8 ds[k].2).toArray rfl rfl HTD.out HID.out (all_oneCell_toArray (fun v hv => vals_one v hv)) ?_
      simp only [List.getElem_toArray, List.getElem_cons_succ, List.getElem_cons_zero, List.toList_toArray]
      refine hK.out _ _ (fun h => absurd rfl h) ?_
      clear hK K
      refine wpAnyV_done (by kernel_rfl) ?_
      try simp only [Act.put, sA, s0, sS]
      obtain ⟨q1, q2⟩ := owns_setCellsP (vals .u8 ds[k].2) (sn * 512) wb.drew _ HOD.out (by rw [HCL2.out]; exact HFD.out)
      rw [← HST.out] at q1
      have HR2 := (show Hid (World.ownsRow _ 0 109 512 (.slice (some ⟨gd, 0, none⟩) n cd) n (vals .u8 (settleN (keepS ks) dur ds (k + 1)))) from q1)
      have HK2 := (show Hid (Kept (fun b => b = gd) w _) from (HKr.out.trans ((HKB.out.mono (fun _ _ h => h.elim)).drew)).trans (Kept.of_grown q2 (fun k e => (Option.some.inj e).symm)))
      generalize wb.drew.setCells gd (sn * 512) (vals .u8 ds[k].2) = wn at *
      clear q1 q2 hS x1 x2 y1
      go_wp2
      go_roundw
      case rel => exact ⟨k + 1, by omega, by go_num, HR2, HK2⟩
      case measure => simp [intOf]; omega
    · obtain rfl : k = ds.length := by omega
      have HX := (show Hid (FBox wr B (.slice (some ⟨gd, 0, none⟩) n cd) (.slice aq ds.length cq)) from HP.out.box.kept HKr.out (by show ¬ B = gd; omega))
      clear p1 p2 p3 p4
      obtain ⟨p1, p2, p3, p4⟩ := HX.out
      go_wp2
      go_end0
      have hl := settleN_length (keepS ks) dur ds HV.out ds.length (Nat.le_refl _)
      have hk2 : Kept (fun b => b = B) wr (wr.setCell ⟨B, 1, none⟩ (.slice none 0 0)) := Kept.setCell (Kept.refl (fun b => b = B) wr) (p := ⟨B, 1, none⟩) (.inr rfl) _
      refine ⟨rfl, ⟨HX.out.set1 _, ?_, World.ownsRow_nil _ _ _ _, HP.out.a1, by simp [Value.ownBlock], fun b _ hb => by simp [Value.ownBlock] at hb⟩, ?_⟩
      · rw [hl, show dur.length / 512 = n from by have := HN.out; omega]
        exact hk2.owns HRr.out (fun b hb => by have e : b = gd := (Option.some.inj hb).symm; show ¬ b = B; omega)
      · exact (HKr.out.mono (fun b _ e => .inr (by rw [e]; rfl))).trans (hk2.mono (fun b _ e => .inl e))
end Go.Proofs.Ytfhdkbibcndmjaa

namespace Go.Proofs.Ytfhdkbibcndmjaa
set_option maxHeartbeats 4000000
open Go.RowKit
set_option linter.unusedSimpArgs false
set_option linter.unusedVariables false
abbrev IsCrash (ks : List Int) (dur : List Int) (ds : List (Int × List Int)) (r : List Int) (rs : List (Int × List Int)) : Prop := Ans (Valid dur.length ds) (settleN (keepS ks) dur ds ds.length) [] dur ds r rs
theorem specCrash_any (dv pv : Value) (dur : List Int) (ps : List PW) (kv : Value) (ks : List Int) (w : World) (hd : dur.length ≤ 1099511627776) (hn : ps.length ≤ 1073741824) (hs : ∀ p ∈ ps, p.bs.length ≤ 1099511627776) (hv : RdD w dv pv dur ps) (hkl : ks.length ≤ 1099511627776) (hkv : Rd .i64 w kv ks) :
    Calls Try.prog 29 #[.agg #[dv, pv], kv] w fun e w' => ∃ a n c a' n' c' r qs, e = .returned (.agg #[.slice a n c, .slice a' n' c']) ∧ IsCrash ks dur (dataP ps) r (dataP qs) ∧
      (∀ b, footD (.slice a n c) (.slice a' n' c') qs b → w.heap.size ≤ b) ∧ OwnD 0 40 5 w' (.slice a n c) (.slice a' n' c') r qs ∧ Same w w' := by
  obtain ⟨a1, c1, rfl⟩ := hv.dur.form
  obtain ⟨a2, c2, rfl⟩ := hv.pend.form
  have HV := (show Hid (RdD w (.slice a1 dur.length c1) (.slice a2 ps.length c2) dur ps) from hv)
  obtain ⟨ak, ck, rfl⟩ := hkv.form
  have HKV := (show Hid (Rd .i64 w (.slice ak ks.length ck) ks) from hkv)
  have HS : Hid (∀ p ∈ ps, p.bs.length ≤ 1099511627776) := hs
  clear hv hs hkv
  go_enter Try.func29, Try.ntmps29
  go_wp2_with fail
  refine (specValid_any _ _ dur ps _ (HV.out.same (((Kept.refl _ _).alloc _).alloc _))).mono ?_
  rintro e w1 ⟨⟨B, rfl, hB⟩, hk1⟩
  have HB1 : Hid (Box w1 w.heap.size (.slice a1 dur.length c1) (.slice a2 ps.length c2)) := (Box.new _ _ _ _).same (((Kept.refl _ _).alloc _).trans hk1)
  have HX1 : Hid (FBox w1 (w.heap.size + 1) (.slice none 0 0) (.slice none 0 0)) := by have h := FBox.new (w.alloc (.cells #[.slice a1 dur.length c1, .slice a2 ps.length c2] 25)) (.slice none 0 0) (.slice none 0 0) 25; rw [World.size_alloc] at h; exact h.same hk1
  have HK1 : Hid (Same w w1) := (((Kept.refl _ _).alloc _).alloc _).trans hk1
  clear hk1
  obtain ⟨p1, p2⟩ := HB1.out
  have hl1 := HX1.out.lt
  cases B with
  | false =>
    have HN : Hid (¬ Valid dur.length (dataP ps)) := fun h => by have := hB.2 h; simp at this
    clear hB
    go_wp2_with fail
    refine (copyDisk_any _ _ dur ps _ hd hn HS.out (HV.out.same HK1.out)).mono ?_
    rintro e w2 ⟨a, n, c, a', n', c', qs, rfl, hq, hf, ho, hk⟩
    have HQ : Hid (dataP qs = dataP ps) := hq
    have HF := (show Hid (∀ b, footD (.slice a n c) (.slice a' n' c') qs b → w.heap.size + 1 < b) from fun b hb => by have h1 := hf b hb; omega)
    have HO := (show Hid (OwnD 0 40 5 w2 (.slice a n c) (.slice a' n' c') dur qs) from ho)
    have HK : Hid (Same w w2) := HK1.out.trans hk
    obtain ⟨x1, x2, x3, x4⟩ := HX1.out.same hk
    clear hq hf ho hk p1 p2
    go_wp2
    exact agg_ret (by simp [results, Try.results29, go_sem, x1, x2]) rfl (A := IsCrash ks dur (dataP ps)) (.inr ⟨HN.out, rfl, HQ.out⟩) (Nat.le_succ _) HF.out HO.out HK.out
  | true =>
    have HY : Hid (Valid dur.length (dataP ps)) := hB.1 rfl
    clear hB
    go_wp2_with fail
    refine (l1Settle_keep _ _ dur ps _ ks _ hd (HV.out.same HK1.out) HY.out (HKV.out.same HK1.out)).mono ?_
    rintro e w2 ⟨a, n, c, rfl, hf, ho, hk⟩
    rw [← dataP_length ps] at ho
    have HF := (show Hid (∀ b, (Value.slice a n c).ownBlock = some b → w.heap.size + 1 < b) from fun b hb => by have h1 := hf b hb; omega)
    have HO := (show Hid (Own 0 5 .u8 w2 (.slice a n c) (settleN (keepS ks) dur (dataP ps) (dataP ps).length)) from ho)
    have HK : Hid (Same w w2) := HK1.out.trans hk
    obtain ⟨x1, x2, x3, x4⟩ := HX1.out.same hk
    clear hf ho hk p1 p2
    go_wp2
    exact agg_ret (by simp [results, Try.results29, go_sem, x1, x2]) rfl (A := IsCrash ks dur (dataP ps)) (.inl ⟨HY.out, rfl, rfl⟩) (Nat.le_succ _) (fun b hb => HF.out b (footD_dur hb)) (.ofDur HO.out) HK.out
theorem implCrash_any (dv pv : Value) (dur : List Int) (ps : List PW) (kv : Value) (ks : List Int) (w : World) (hd : dur.length ≤ 1099511627776) (hn : ps.length ≤ 1073741824) (hs : ∀ p ∈ ps, p.bs.length ≤ 1099511627776) (hv : RdD w dv pv dur ps) (hkl : ks.length ≤ 1099511627776) (hkv : Rd .i64 w kv ks) :
    Calls Try.prog 15 #[.agg #[dv, pv], kv] w fun e w' => ∃ a n c a' n' c' r qs, e = .returned (.agg #[.slice a n c, .slice a' n' c']) ∧ IsCrash ks dur (dataP ps) r (dataP qs) ∧
      (∀ b, footD (.slice a n c) (.slice a' n' c') qs b → w.heap.size ≤ b) ∧ OwnD 0 40 5 w' (.slice a n c) (.slice a' n' c') r qs ∧ Same w w' := by
  obtain ⟨a1, c1, rfl⟩ := hv.dur.form
  obtain ⟨a2, c2, rfl⟩ := hv.pend.form
  have HV := (show Hid (RdD w (.slice a1 dur.length c1) (.slice a2 ps.length c2) dur ps) from hv)
  obtain ⟨ak, ck, rfl⟩ := hkv.form
  have HKV := (show Hid (Rd .i64 w (.slice ak ks.length ck) ks) from hkv)
  have HS : Hid (∀ p ∈ ps, p.bs.length ≤ 1099511627776) := hs
  clear hv hs hkv
  go_enter Try.func15, Try.ntmps15
  go_wp2_with fail
  refine (implValid_any _ _ dur ps _ (HV.out.same (((Kept.refl _ _).alloc _).alloc _))).mono ?_
  rintro e w1 ⟨⟨B, rfl, hB⟩, hk1⟩
  have HB1 : Hid (Box w1 w.heap.size (.slice a1 dur.length c1) (.slice a2 ps.length c2)) := (Box.new _ _ _ _).same (((Kept.refl _ _).alloc _).trans hk1)
  have HX1 : Hid (FBox w1 (w.heap.size + 1) (.slice none 0 0) (.slice none 0 0)) := by have h := FBox.new (w.alloc (.cells #[.slice a1 dur.length c1, .slice a2 ps.length c2] 25)) (.slice none 0 0) (.slice none 0 0) 25; rw [World.size_alloc] at h; exact h.same hk1
  have HK1 : Hid (Same w w1) := (((Kept.refl _ _).alloc _).alloc _).trans hk1
  clear hk1
  obtain ⟨p1, p2⟩ := HB1.out
  have hl1 := HX1.out.lt
  cases B with
  | false =>
    have HN : Hid (¬ Valid dur.length (dataP ps)) := fun h => by have := hB.2 h; simp at this
    clear hB
    go_wp2_with fail
    refine (cloneDisk_any _ _ dur ps _ hd hn HS.out (HV.out.same HK1.out)).mono ?_
    rintro e w2 ⟨a, n, c, a', n', c', qs, rfl, hq, hf, ho, hk⟩
    have HQ : Hid (dataP qs = dataP ps) := hq
    have HF := (show Hid (∀ b, footD (.slice a n c) (.slice a' n' c') qs b → w.heap.size + 1 < b) from fun b hb => by have h1 := hf b hb; omega)
    have HO := (show Hid (OwnD 0 40 5 w2 (.slice a n c) (.slice a' n' c') dur qs) from ho)
    have HK : Hid (Same w w2) := HK1.out.trans hk
    obtain ⟨x1, x2, x3, x4⟩ := HX1.out.same hk
    clear hq hf ho hk p1 p2
    go_wp2
    exact agg_ret (by simp [results, Try.results15, go_sem, x1, x2]) rfl (A := IsCrash ks dur (dataP ps)) (.inr ⟨HN.out, rfl, HQ.out⟩) (Nat.le_succ _) HF.out HO.out HK.out
  | true =>
    have HY : Hid (Valid dur.length (dataP ps)) := hB.1 rfl
    clear hB
    go_wp2_with fail
    refine (openDisk_any _ _ dur ps _ (HV.out.same HK1.out) HY.out).mono ?_
    rintro e w2 ⟨B, dv', pv', rfl, hpl, ⟨hf1, hf2, hf3⟩, hk2⟩
    have HPL := (show Hid (Plat w2 B dv' pv' dur (dataP ps)) from hpl)
    have HF := (show Hid (w1.heap.size ≤ B ∧ ∀ b, dv'.ownBlock = some b → w1.heap.size ≤ b) from ⟨hf1, hf2⟩)
    have HK2 : Hid (Same w w2) := HK1.out.trans hk2
    have HX2 : Hid (FBox w2 (w.heap.size + 1) (.slice none 0 0) (.slice none 0 0)) := HX1.out.same hk2
    have hs2 := hk2.size
    clear hpl hf1 hf2 hf3 hk2 p1 p2
    go_wp2_with fail
    refine (crash_any B dv' pv' dur (dataP ps) _ ks _ HPL.out HY.out (HKV.out.same HK2.out) (fun h0 b hb => ?sep)).mono ?_
    case sep =>
      have hbw : b < w.heap.size := HKV.out.looks_lt h0 hb
      exact fun e => by have := HF.out.2 b e; omega
    rintro e w3 ⟨rfl, hpl, hk3⟩
    have HPL3 := (show Hid (Plat w3 B dv' (.slice none 0 0) (settleN (keepS ks) dur (dataP ps) (dataP ps).length) []) from hpl)
    have HK3 : Hid (Same w w3) := HK2.out.next hk3 (fun b hb e => by
      rcases e with rfl | e
      · have := HF.out.1; omega
      · have := HF.out.2 b e; omega)
    have HX3 : Hid (FBox w3 (w.heap.size + 1) (.slice none 0 0) (.slice none 0 0)) := HX2.out.kept hk3 (fun e => by
      rcases e with e | e
      · have := HF.out.1; omega
      · have := HF.out.2 _ e; omega)
    have hs3 := hk3.size
    clear hpl hk3
    go_wp2_with fail
    refine (disk_any B dv' (.slice none 0 0) (settleN (keepS ks) dur (dataP ps) (dataP ps).length) [] _ HPL3.out (by rw [settleN_length _ _ _ HY.out _ (Nat.le_refl _)]; exact ⟨⟨HY.out.1.1, HY.out.1.2.1, HY.out.1.2.2.1, Nat.zero_le _⟩, fun p hp => by simp at hp⟩)).mono ?_
    rintro e w4 ⟨a, n, c, a', n', c', qs, rfl, hq, hf, ho, hk⟩
    have HQ : Hid (dataP qs = []) := hq
    have HF4 := (show Hid (∀ b, footD (.slice a n c) (.slice a' n' c') qs b → w.heap.size + 1 < b) from fun b hb => by have h1 := hf b hb; omega)
    have HO := (show Hid (OwnD 0 40 5 w4 (.slice a n c) (.slice a' n' c') (settleN (keepS ks) dur (dataP ps) (dataP ps).length) qs) from ho)
    have HK : Hid (Same w w4) := HK3.out.trans hk
    obtain ⟨x1, x2, x3, x4⟩ := HX3.out.same hk
    clear hq hf ho hk
    go_wp2
    exact agg_ret (by simp [results, Try.results15, go_sem, x1, x2]) rfl (A := IsCrash ks dur (dataP ps)) (.inl ⟨HY.out, rfl, HQ.out⟩) (Nat.le_succ _) HF4.out HO.out HK.out
end Go.Proofs.Ytfhdkbibcndmjaa

namespace Go.Proofs.Ytfhdkbibcndmjaa
set_option maxHeartbeats 400000
open Go.RowKit
theorem Try.infoI64 : (Try.prog.info? 2).map (fun i => (i.zero, i.size, i.bytes)) = some (some (.int .i64 0), 1, 8) := by kernel_rfl
def marksZ (k : Int) (n : Nat) : List Int := (List.range n).map fun (i : Nat) => k + (i : Int)
theorem marksZ_length (k : Int) (n : Nat) : (marksZ k n).length = n := by simp [marksZ]
def partZ (k : Int) (bs : List Int) (j : Nat) : List Int := marksZ k j ++ bs.drop j
theorem partZ_length (k : Int) (bs : List Int) (j : Nat) (h : j ≤ bs.length) : (partZ k bs j).length = bs.length := by simp [partZ, marksZ_length]; omega
theorem partZ_zero (k : Int) (bs : List Int) : partZ k bs 0 = bs := by simp [partZ, marksZ]
theorem partZ_all (k : Int) (bs : List Int) : partZ k bs bs.length = marksZ k bs.length := by simp [partZ]
theorem partZ_step (k : Int) (bs : List Int) (j : Nat) (h : j < bs.length) : (partZ k bs j).set j (k + j) = partZ k bs (j + 1) := by
  unfold partZ
  rw [List.set_append_right (h := by simp [marksZ_length]), marksZ_length, Nat.sub_self]
  have e : bs.drop j = bs[j] :: bs.drop (j + 1) := by rw [List.drop_eq_getElem_cons h]
  rw [e, List.set_cons_zero]
  simp [marksZ, List.range_succ]
theorem eqInt64S_own {ea eb : TypeId} (base : Nat) (va vb : Value) (bs : List Int) (w : World) (hn : bs.length ≤ 1125899906842624)
    (ha : Own base ea .i64 w va bs) (hb : Own base eb .i64 w vb bs) :
    Calls Try.prog 31 #[va, vb] w fun e w' => e = .returned (.bool true) ∧ ∃ n, w' = w.drewN n := by
  by_cases h0 : bs.length = 0
  · obtain rfl : bs = [] := List.length_eq_zero_iff.1 h0
    obtain ⟨aa, ca, rfl⟩ : ∃ aa ca, va = .slice aa 0 ca := by rcases ha.form with ⟨rfl, _⟩ | ⟨g, cap, rfl, _⟩ <;> exact ⟨_, _, rfl⟩
    obtain ⟨ab, cb, rfl⟩ : ∃ aa ca, vb = .slice aa 0 ca := by rcases hb.form with ⟨rfl, _⟩ | ⟨g, cap, rfl, _⟩ <;> exact ⟨_, _, rfl⟩
    clear ha hb hn h0
    go_enter Try.func31, Try.ntmps31
    go_wp2
    refine wp_loop_rounds 1 ?_
    rw [rounds_succ]
    go_wp2
    go_ret
    exact ⟨rfl, 0, rfl⟩
  · obtain ⟨ga, ca, rfl, _, _, _, _⟩ : ∃ g cap, va = .slice (some ⟨g, 0, none⟩) bs.length cap ∧ base ≤ g ∧ g < w.heap.size ∧ bs.length ≤ cap ∧ cap ≤ maxLen := by
      rcases ha.form with ⟨_, rfl⟩ | h
      · simp at h0
      · exact h
    obtain ⟨gb, cb, rfl, _, _, _, _⟩ : ∃ g cap, vb = .slice (some ⟨g, 0, none⟩) bs.length cap ∧ base ≤ g ∧ g < w.heap.size ∧ bs.length ≤ cap ∧ cap ≤ maxLen := by
      rcases hb.form with ⟨_, rfl⟩ | h
      · simp at h0
      · exact h
    have hca : ∀ j, j < bs.length → w.cell? ⟨ga, j, none⟩ = some (.int .i64 (bs.getD j 0)) := fun j hj => ha.cell rfl j hj
    have hcb : ∀ j, j < bs.length → w.cell? ⟨gb, j, none⟩ = some (.int .i64 (bs.getD j 0)) := fun j hj => hb.cell rfl j hj
    clear ha hb
    generalize hl : bs.length = len at *
    go_enter Try.func31, Try.ntmps31
    go_wp2
    go_loopw [5] (fun i wr => ∃ k n : Nat, k ≤ len ∧ i = .int .i64 k ∧ wr = w.drewN n) (fun i _ => len - (intOf i).toNat)
    case atStart => exact ⟨0, 0, Nat.zero_le _, rfl, rfl⟩
    case round =>
      obtain ⟨k, n, hk, rfl, rfl⟩ := hrel
      by_cases hlt : k < len
      · have h1 := hca k hlt
        have h2 := hcb k hlt
        clear hca hcb
        go_wp2
        go_quiet (fail)
        go_wp2
        go_roundw
        case rel => exact ⟨k + 1, _, by omega, by go_num, rfl⟩
        case measure => simp [intOf]; omega
      · go_wp2
        go_ret
        exact ⟨rfl, _, rfl⟩
theorem markInt64S_own (base : Nat) (va : Value) (bs : List Int) (k0 : Int) (w : World) (hn : bs.length ≤ 1125899906842624) (h0 : 0 ≤ k0) (h1 : k0 ≤ 1125899906842624)
    (ha : Own base 2 .i64 w va bs) :
    Calls Try.prog 32 #[va, .int .i64 k0] w fun e w' => e = .returned (.int .i64 (k0 + bs.length)) ∧ Own base 2 .i64 w' va (marksZ k0 bs.length) ∧ Kept (fun b => va.ownBlock = some b) w w' := by
  by_cases hz : bs.length = 0
  · obtain rfl : bs = [] := List.length_eq_zero_iff.1 hz
    obtain ⟨aa, ca, rfl⟩ : ∃ aa ca, va = .slice aa 0 ca := by rcases ha.form with ⟨rfl, _⟩ | ⟨g, cap, rfl, _⟩ <;> exact ⟨_, _, rfl⟩
    have HA : Hid (Own base 2 .i64 w (.slice aa 0 ca) []) := ha
    clear ha hn hz
    go_enter Try.func32, Try.ntmps32
    go_wp2
    refine wp_loop_rounds 1 ?_
    rw [rounds_succ]
    go_wp2
    go_ret
    exact ⟨by simp, by simpa [marksZ] using HA.out, Kept.refl _ _⟩
  · obtain ⟨g, cap, rfl, hb, hlt, _, _⟩ : ∃ g cap, va = .slice (some ⟨g, 0, none⟩) bs.length cap ∧ base ≤ g ∧ g < w.heap.size ∧ bs.length ≤ cap ∧ cap ≤ maxLen := by
      rcases ha.form with ⟨_, rfl⟩ | h
      · simp at hz
      · exact h
    generalize hl : bs.length = len at *
    have HL : Hid (bs.length = len) := hl
    clear hl
    go_enter Try.func32, Try.ntmps32
    go_wp2
    go_loopw [1, 5] (fun v i wr => ∃ k : Nat, k ≤ len ∧ i = .int .i64 k ∧ v = .int .i64 (k0 + k) ∧ Hid (Own base 2 .i64 wr (.slice (some ⟨g, 0, none⟩) len cap) (partZ k0 bs k)) ∧ Hid (Kept (fun b => b = g) w wr)) (fun _ i _ => len - (intOf i).toNat)
    case atStart => exact ⟨0, Nat.zero_le _, rfl, by simp, by rw [partZ_zero]; exact ha, Kept.refl _ _⟩
    case round =>
      obtain ⟨k, hk, rfl, rfl, HO, HK⟩ := hrel
      by_cases hlt : k < len
      · have hf := HO.out.frozen (by rw [partZ_length _ _ _ (by have := HL.out; omega)]; exact HL.out.symm) k
        have hc := HO.out.cell (by rw [partZ_length _ _ _ (by have := HL.out; omega)]; exact HL.out.symm) k hlt
        clear ha
        go_wp2
        go_roundw
        case rel =>
          have hl := HL.out
          refine ⟨k + 1, by omega, by go_num, by go_num, ?_, HK.out.setCell (.inr rfl) _⟩
          have := HO.out.stored (by rw [partZ_length _ _ _ (by omega)]; omega) k (k0 + k)
          rwa [partZ_step _ _ _ (by omega)] at this
        case measure => simp [intOf]; omega
      · go_wp2
        go_ret
        obtain rfl : k = len := by omega
        have hl := HL.out
        refine ⟨rfl, ?_, HK.out.mono (fun b _ e => by simp [Value.ownBlock, e])⟩
        have := HO.out
        rw [← hl, partZ_all, hl] at this
        exact this
theorem toInt64S_any (v : Value) (bs : List Int) (w : World) (hn : bs.length ≤ 1099511627776) (hv : Rd .i64 w v bs) :
    Calls Try.prog 30 #[v] w fun e w' => ∃ g, e = .returned (.slice (some ⟨g, 0, none⟩) bs.length bs.length) ∧ w.heap.size ≤ g ∧ Own 0 2 .i64 w' (.slice (some ⟨g, 0, none⟩) bs.length bs.length) bs ∧ Same w w' := by
  obtain ⟨i0, hi, hz0, hz1, hz2⟩ := info_parts Try.infoI64
  rcases hv.2 with ⟨rfl, a, c, rfl, _⟩ | ⟨b, off, c, rfl, _, hc⟩
  · clear hv hn
    go_enter Try.func30, Try.ntmps30
    go_wp2_with (at_make; refine wpList_make_full _ rfl (.tmp 6) (.tmp 6) 35 rfl 0 2 i0 (.int .i64 0) 1 Try.underlying35 hi hz0 hz1 .i64 .i64 _ _ 0 rfl rfl (by simp) (by simp) (by simp) (by simp) (Nat.zero_le _) ?_; intro w1 hown1 hgrow1; have HO : Hid (Own 0 2 .i64 w1 (.slice (some ⟨w.heap.size, 0, none⟩) 0 0) []) := own_made (n := 0) (by simpa using hown1); have HK : Hid (Same w w1) := Kept.of_grown hgrow1 (fun k e => by cases e); clear hown1 hgrow1)
    refine wp_loop_rounds 1 ?_
    rw [rounds_succ]
    go_wp2
    go_ret
    exact ⟨w.heap.size, rfl, Nat.le_refl _, HO.out, HK.out⟩
  · have HC : Hid (∀ i, i < bs.length → w.cell? ⟨b, off + i, none⟩ = some (.int .i64 (bs.getD i 0))) := hc
    clear hc hv
    generalize hl : bs.length = len at hn ⊢
    have HL : Hid (bs.length = len) := hl
    clear hl
    go_enter Try.func30, Try.ntmps30
    go_wp2_with (at_make; refine wpList_make_full _ rfl (.tmp 6) (.tmp 6) 35 rfl 0 2 i0 (.int .i64 0) 1 Try.underlying35 hi hz0 hz1 .i64 .i64 _ _ len rfl rfl (by simp) (by simp) (by rw [hz2]; omega) (by unfold maxLen; omega) (Nat.zero_le _) ?_; intro w1 hown1 hgrow1; have HO : Hid (Own 0 2 .i64 w1 (.slice (some ⟨w.heap.size, 0, none⟩) len len) (List.replicate len 0)) := own_made (by simpa using hown1); have HK : Hid (Same w w1) := Kept.of_grown hgrow1 (fun k e => by cases e); clear hown1 hgrow1)
    go_loopw [4] (fun i wr => ∃ (k : Nat), k ≤ len ∧ i = .int .i64 k ∧ Hid (Own 0 2 .i64 wr (.slice (some ⟨w.heap.size, 0, none⟩) len len) (fillUp bs k)) ∧ Hid (Same w wr)) (fun i _ => len - (intOf i).toNat)
    case atStart => exact ⟨0, Nat.zero_le _, rfl, by rw [fillUp_zero, HL.out]; exact HO, HK⟩
    case round =>
      obtain ⟨k, hk, rfl, HOr, HKr⟩ := hrel
      by_cases hlt : k < len
      · have hlp : k < bs.length := by rw [HL.out]; exact hlt
        have q1 := HKr.out.cellOf (HC.out k hlp) id
        have q2 := HOr.out.frozen (by rw [fillUp_length _ _ (by have := HL.out; omega)]; exact HL.out.symm) k
        have q3 := HOr.out.cell (by rw [fillUp_length _ _ (by have := HL.out; omega)]; exact HL.out.symm) k hlt
        go_wp2
        go_roundw
        case rel =>
          have h := HOr.out.stored (by rw [fillUp_length _ _ (by have := HL.out; omega)]; exact HL.out.symm) k (bs.getD k 0)
          rw [fillUp_step _ _ hlp] at h
          refine ⟨k + 1, by omega, by go_num, ?_, ?_⟩
          · simpa [hlp, List.getD, Hid] using h
          · exact HKr.out.setCell (.inl (Nat.le_refl _)) _
        case measure => simp [intOf]; omega
      · go_wp2
        go_ret
        obtain rfl : k = len := by omega
        have h := HOr.out
        have h2 := HL.out
        rw [← h2, fillUp_all, h2] at h
        exact ⟨w.heap.size, rfl, Nat.le_refl _, h, HKr.out⟩
end Go.Proofs.Ytfhdkbibcndmjaa
