import Derived.Test.YtlmcaodiiadlkaaG01
namespace Go.Proofs.Ytlmcaodiiadlkaa
set_option maxHeartbeats 1000000
open Go.RowKit
theorem toSectorWrite_any (sec : Int) (v : Value) (bs : List Int) (w : World) (hn : bs.length ≤ 1099511627776) (hv : Rd .u8 w v bs) :
  Calls Try.prog 54 #[.agg #[.int .i64 sec, v]] w fun e w' => ∃ g, e = .returned (.agg #[.int .i64 sec, .slice (some ⟨g, 0, none⟩) bs.length bs.length]) ∧ w.heap.size ≤ g ∧ Own 0 5 .u8 w' (.slice (some ⟨g, 0, none⟩) bs.length bs.length) bs ∧ Same w w' := by
 obtain ⟨a, c, rfl⟩ := hv.form
 have HV := (show Hid (Rd .u8 w _ bs) from hv)
 clear hv
 go_enter Try.func54, Try.ntmps54
 go_wp2_with fail
 refine (toByteS_any _ bs _ hn (HV.out.same ((((Kept.refl _ _).alloc _).alloc _).alloc _))).mono ?_
 rintro e w1 ⟨g, rfl, hg, ho, hk⟩
 simp only [World.size_alloc] at hg
 have b1 := ((FBox.new (w.alloc (.cells #[.int .i64 sec, .slice a bs.length c] 84)) (.int .i64 0) (.slice none 0 0) 89).next _).same hk
 have b2 := (FBox.new ((w.alloc (.cells #[.int .i64 sec, .slice a bs.length c] 84)).alloc (.cells #[.int .i64 0, .slice none 0 0] 89)) (.int .i64 sec) (.slice none 0 0) 89).same hk
 simp only [World.size_alloc] at b1 b2
 have HO := (show Hid (Own 0 5 .u8 w1 _ bs) from ho)
 have HK : Hid (Same w w1) := ((((Kept.refl _ _).alloc _).alloc _).alloc _).trans hk
 have hz1 : w.heap.size + 1 + 1 < w1.heap.size := b2.lt
 obtain ⟨p1, p2, p3, p4⟩ := b1
 obtain ⟨q1, q2, q3, q4⟩ := b2
 clear ho hk
 go_wp2
 refine bodyPost_ret (v := .agg #[.int .i64 sec, .slice (some ⟨g, 0, none⟩) bs.length bs.length]) (by simp [results, Try.results54, go_sem, p1, p2]) rfl ⟨g, rfl, by omega, ?_, ?_⟩
 ·refine HO.out.kept (R := fun b => b = w.heap.size + 1 ∨ b = w.heap.size + 1 + 1) ?_ (fun b hb e => by simp [Value.ownBlock] at hb; omega)
  exact ((((Kept.refl _ _).setCell (.inr (.inr rfl)) _).setTwo (.inr (.inl rfl)) _ _))
 ·exact (HK.out.setCell (.inl (by simp; omega)) _).setTwo (.inl (by simp)) _ _
theorem toSectorWriteS_any (v : Value) (ps : List PW) (w : World) (hn : ps.length ≤ 1073741824) (hs : ∀ p ∈ ps, p.bs.length ≤ 1099511627776) (hv : RdP w v ps) :
  Calls Try.prog 32 #[v] w fun e w' => ∃ g qs, e = .returned (.slice (some ⟨g, 0, none⟩) ps.length ps.length) ∧ dataP qs = dataP ps ∧ (∀ b, footP (.slice (some ⟨g, 0, none⟩) ps.length ps.length) qs b → w.heap.size ≤ b) ∧
   OwnP 0 89 5 w' (.slice (some ⟨g, 0, none⟩) ps.length ps.length) qs ∧ Same w w' := by
 obtain ⟨i0, hi, hz0, hz1, hz2⟩ := info_parts Try.infoSW
 rcases hv.row with ⟨rfl, a, c, rfl⟩ | ⟨b, off, c, rfl, hc⟩
 ·clear hv hn hs
  go_enter Try.func32, Try.ntmps32
  go_wp2_with (at_make; refine wpList_make_full _ rfl (.tmp 6) (.tmp 6) 30 rfl 0 89 i0 (.agg #[.int .i64 0, .slice none 0 0]) 2 Try.underlying30 hi hz0 hz1 .i64 .i64 _ _ 0 rfl rfl (by simp) (by simp) (by simp) (by simp) (Nat.zero_le _) ?_; intro w1 hown1 hgrow1; have HO : Hid (OwnP 0 89 5 w1 (.slice (some ⟨w.heap.size, 0, none⟩) 0 0) []) := own_madeP (n := 0) (by simpa using hown1); have HK : Hid (Same w w1) := Kept.of_grown hgrow1 (fun k e => by cases e); clear hown1 hgrow1)
  refine wp_loop_rounds 1 ?_
  rw [rounds_succ]
  go_wp2
  go_ret
  refine ⟨w.heap.size, [], rfl, rfl, fun b hb => ?_, HO.out, HK.out⟩
  rcases hb with hb | ⟨p, hp, _⟩
  ·simp [Value.ownBlock] at hb; omega
  ·simp at hp
 ·have HP : Hid (RdP w (.slice (some ⟨b, off, none⟩) ps.length c) ps) := hv
  have HC : Hid (∀ i (h : i < ps.length), w.cell? ⟨b, off + i * 2, none⟩ = some (.int .i64 ps[i].sec) ∧ w.cell? ⟨b, off + i * 2 + 1, none⟩ = some ps[i].v) := hc
  have HS : Hid (∀ p ∈ ps, p.bs.length ≤ 1099511627776) := hs
  clear hc hv hs
  generalize hl : ps.length = len at hn HP ⊢
  have HL : Hid (ps.length = len) := hl
  clear hl
  go_enter Try.func32, Try.ntmps32
  go_wp2_with (at_make; refine wpList_make_full _ rfl (.tmp 6) (.tmp 6) 30 rfl 0 89 i0 (.agg #[.int .i64 0, .slice none 0 0]) 2 Try.underlying30 hi hz0 hz1 .i64 .i64 _ _ len rfl rfl (by simp) (by simp) (by rw [hz2]; omega) (by unfold maxLen; omega) (Nat.zero_le _) ?_; intro w1 hown1 hgrow1; have HO : Hid (OwnP 0 89 5 w1 (.slice (some ⟨w.heap.size, 0, none⟩) len len) (List.replicate len zeroPW)) := own_madeP (by simpa using hown1); have HK : Hid (Same w w1) := Kept.of_grown hgrow1 (fun k e => by cases e); clear hown1 hgrow1)
  go_loopw [4] (fun i wr => ∃ (k : Nat) (qs : List PW), k ≤ len ∧ i = .int .i64 k ∧ qs.length = k ∧ Hid (dataP qs = dataP (ps.take k)) ∧ Hid (∀ b, (∃ p ∈ qs, p.v.ownBlock = some b) → w.heap.size ≤ b) ∧ Hid (OwnP 0 89 5 wr (.slice (some ⟨w.heap.size, 0, none⟩) len len) (qs ++ List.replicate (len - k) zeroPW)) ∧ Hid (Same w wr)) (fun i _ => len - (intOf i).toNat)
  case atStart => exact ⟨0, [], Nat.zero_le _, rfl, rfl, rfl, fun b ⟨p, hp, _⟩ => by simp at hp, by simpa using HO, HK⟩
  case round =>
   obtain ⟨k, qs, hk, rfl, hql, HQ, HF, HOr, HKr⟩ := hrel
   have HQL : Hid (qs.length = k) := hql
   clear hql
   by_cases hlt : k < len
   ·have hlp : k < ps.length := by rw [HL.out]; exact hlt
    have hrep : List.replicate (len - k) zeroPW = zeroPW :: List.replicate (len - (k + 1)) zeroPW := by rw [show len - k = len - (k + 1) + 1 from by omega, List.replicate_succ]
    obtain ⟨a1, c1, e1⟩ := (HP.out.data _ (List.getElem_mem hlp)).form
    have hd := (HP.out.data _ (List.getElem_mem hlp)).same HKr.out
    have hm1 := HS.out _ (List.getElem_mem hlp)
    have q1 := HKr.out.cellOf (HC.out k hlp).1 id
    have q2 := HKr.out.cellOf (HC.out k hlp).2 id
    rw [e1] at q2 hd
    have HD := (show Hid (Rd .u8 wr _ ps[k].bs) from hd)
    have hlen : len = (qs ++ List.replicate (len - k) zeroPW).length := by simp [HQL.out]; omega
    have HLN := (show Hid (len = (qs ++ List.replicate (len - k) zeroPW).length) from hlen)
    clear e1 hd hlen
    go_wp2_with fail
    refine (toSectorWrite_any _ _ ps[k].bs _ hm1 HD.out).mono ?_
    rintro e w2 ⟨g, rfl, hg, ho, hk2⟩
    have HO2 := (show Hid (OwnP 0 89 5 w2 _ _) from HOr.out.same hk2)
    have r1 := HO2.out.sec HLN.out k (by have := HLN.out; omega)
    have r2 := HO2.out.val HLN.out k (by have := HLN.out; omega)
    have r3 := HO2.out.frozen HLN.out (k * 2)
    have r4 := HO2.out.frozen HLN.out (k * 2 + 1)
    have HK2 : Hid (Same w w2) := HKr.out.trans hk2
    have HO3 := (show Hid (Own 0 5 .u8 w2 _ ps[k].bs) from ho)
    have hg0 : w.heap.size ≤ g := Nat.le_trans HKr.out.size hg
    have HG : Hid (wr.heap.size ≤ g) := hg
    clear ho hk2 hg q1 q2
    go_wp2
    go_roundw
    case rel =>
     have ho := HO2.out
     rw [hrep] at ho
     have hq := HQL.out
     have hfin := ho.setBoth (by simp [hq]; omega) ps[k].sec _ ps[k].bs (k * 2) (by rw [hq]) HO3.out (fun b hb hf => by
      have h1 : b = g := by simpa [Value.ownBlock] using hb.symm
      have h2 : footP (.slice (some ⟨w.heap.size, 0, none⟩) len len) (qs ++ List.replicate (len - k) zeroPW) b := by rw [hrep]; exact hf
      have h3 := (HOr.out.lt b h2).2
      have h4 := HG.out
      omega)
     refine ⟨k + 1, qs ++ [⟨ps[k].sec, .slice (some ⟨g, 0, none⟩) ps[k].bs.length ps[k].bs.length, ps[k].bs⟩], by omega, by go_num, by simp [hq], ?_, ?_, ?_, ?_⟩
     ·have h1 := HQ.out
      unfold Hid
      rw [List.take_succ_eq_append_getElem hlp]
      simp only [dataP, List.map_append] at h1 ⊢
      rw [h1]; rfl
     ·rintro b ⟨p, hp, hb⟩
      rcases List.mem_append.1 hp with hp | hp
      ·exact HF.out b ⟨p, hp, hb⟩
      ·simp at hp
       subst hp
       simp [Value.ownBlock] at hb
       omega
     ·rw [List.append_assoc]
      exact hfin
     ·exact Kept.setCell (p := ⟨w.heap.size, k * 2 + 1, none⟩) (Kept.setCell (p := ⟨w.heap.size, k * 2, none⟩) HK2.out (.inl (Nat.le_refl _)) _) (.inl (Nat.le_refl _)) _
    case measure => simp [intOf]; omega
   ·go_wp2
    go_ret
    obtain rfl : k = len := by omega
    have h := HOr.out
    have h2 := HL.out
    have h3 := HQ.out
    rw [Nat.sub_self, List.replicate_zero, List.append_nil] at h
    rw [← h2, List.take_length] at h3
    refine ⟨w.heap.size, qs, rfl, h3, fun b hb => ?_, h, HKr.out⟩
    rcases hb with hb | hb
    ·simp [Value.ownBlock] at hb; omega
    ·exact HF.out b hb
theorem toDisk_any (dv pv : Value) (dur : List Int) (ps : List PW) (w : World) (hd : dur.length ≤ 1099511627776) (hn : ps.length ≤ 1073741824) (hs : ∀ p ∈ ps, p.bs.length ≤ 1099511627776) (hv : RdD w dv pv dur ps) :
  Calls Try.prog 8 #[.agg #[dv, pv]] w fun e w' => ∃ g g' qs, e = .returned (.agg #[.slice (some ⟨g, 0, none⟩) dur.length dur.length, .slice (some ⟨g', 0, none⟩) ps.length ps.length]) ∧ dataP qs = dataP ps ∧
   (∀ b, footD (.slice (some ⟨g, 0, none⟩) dur.length dur.length) (.slice (some ⟨g', 0, none⟩) ps.length ps.length) qs b → w.heap.size ≤ b) ∧
   OwnD 0 89 5 w' (.slice (some ⟨g, 0, none⟩) dur.length dur.length) (.slice (some ⟨g', 0, none⟩) ps.length ps.length) dur qs ∧ Same w w' := by
 obtain ⟨a1, c1, rfl⟩ := hv.dur.form
 obtain ⟨a2, c2, rfl⟩ := hv.pend.form
 have HV := (show Hid (RdD w _ _ dur ps) from hv)
 have HS : Hid (∀ p ∈ ps, p.bs.length ≤ 1099511627776) := hs
 clear hv hs
 go_enter Try.func8, Try.ntmps8
 go_wp2_with fail
 refine (toByteS_any _ dur _ hd (HV.out.dur.same ((((Kept.refl _ _).alloc _).alloc _).alloc _))).mono ?_
 rintro e w1 ⟨g, rfl, hg, ho, hk⟩
 simp only [World.size_alloc] at hg
 have b0 := (((FBox.new w (.slice a1 dur.length c1) (.slice a2 ps.length c2) 25).next _).next _).same hk
 have b1 := ((FBox.new (w.alloc (.cells #[.slice a1 dur.length c1, .slice a2 ps.length c2] 25)) (.slice none 0 0) (.slice none 0 0) 32).next _).same hk
 have b2 := (FBox.new ((w.alloc (.cells #[.slice a1 dur.length c1, .slice a2 ps.length c2] 25)).alloc (.cells #[.slice none 0 0, .slice none 0 0] 32)) (.slice none 0 0) (.slice none 0 0) 32).same hk
 simp only [World.size_alloc] at b1 b2
 have HO := (show Hid (Own 0 5 .u8 w1 _ dur) from ho)
 have HK : Hid (Same w w1) := ((((Kept.refl _ _).alloc _).alloc _).alloc _).trans hk
 have hz1 : w.heap.size + 1 + 1 < w1.heap.size := b2.lt
 have HB1 : Hid (FBox w1 (w.heap.size + 1) (.slice none 0 0) (.slice none 0 0)) := b1
 have HB2 : Hid (FBox w1 (w.heap.size + 1 + 1) (.slice none 0 0) (.slice none 0 0)) := b2
 obtain ⟨o1, o2, _, _⟩ := b0
 obtain ⟨p1, p2, p3, p4⟩ := b1
 obtain ⟨q1, q2, q3, q4⟩ := b2
 clear ho hk
 go_wp2_with fail
 have hkS : Same w (w1.setCell ⟨w.heap.size + 1 + 1, 0, none⟩ (.slice (some ⟨g, 0, none⟩) dur.length dur.length)) := HK.out.setCell (.inl (by simp; omega)) _
 refine (toSectorWriteS_any _ ps _ hn HS.out (HV.out.pend.same hkS)).mono ?_
 rintro e w2 ⟨g', qs, rfl, hq, hf, hop, hk2⟩
 have b1 := (HB1.out.other ⟨w.heap.size + 1 + 1, 0, none⟩ (by simp) (.slice (some ⟨g, 0, none⟩) dur.length dur.length)).same hk2
 have b2 := (HB2.out.set0 (.slice (some ⟨g, 0, none⟩) dur.length dur.length)).same hk2
 have ho2 := (HO.out.kept (Kept.setCell (Kept.refl (fun b => b = w.heap.size + 1 + 1) w1) (p := ⟨w.heap.size + 1 + 1, 0, none⟩) (.inr rfl) (.slice (some ⟨g, 0, none⟩) dur.length dur.length)) (fun b hb e => by simp [Value.ownBlock] at hb; omega)).same hk2
 have hlt := (HO.out.lt g rfl).2
 have HD2 : Hid (OwnD 0 89 5 w2 (.slice (some ⟨g, 0, none⟩) dur.length dur.length) (.slice (some ⟨g', 0, none⟩) ps.length ps.length) dur qs) :=
  ⟨ho2, hop, fun b hb e => by have h1 := hf b hb; simp [Value.ownBlock] at e; simp [World.setCell] at h1; omega⟩
 have HF : Hid (∀ b, footD (.slice (some ⟨g, 0, none⟩) dur.length dur.length) (.slice (some ⟨g', 0, none⟩) ps.length ps.length) qs b → w.heap.size + 1 + 1 < b) := fun b hb => by
  rcases hb with hb | hb
  ·simp [Value.ownBlock] at hb; omega
  ·have h1 := hf b hb; simp [World.setCell] at h1; omega
 have HQ : Hid (dataP qs = dataP ps) := hq
 have HK2 : Hid (Same w w2) := hkS.trans hk2
 clear p1 p2 p3 p4 q1 q2 q3 q4 o1 o2 ho2 hop hf hq hk2 hkS hlt
 obtain ⟨p1, p2, p3, p4⟩ := b1
 obtain ⟨q1, q2, q3, q4⟩ := b2
 go_wp2
 refine bodyPost_ret (v := .agg #[.slice (some ⟨g, 0, none⟩) dur.length dur.length, .slice (some ⟨g', 0, none⟩) ps.length ps.length]) (by simp [results, Try.results8, go_sem, p1, p2]) rfl ⟨g, g', qs, rfl, HQ.out, fun b hb => by have := HF.out b hb; omega, ?_, ?_⟩
 ·refine HD2.out.kept (R := fun b => b = w.heap.size + 1 ∨ b = w.heap.size + 1 + 1) ?_ (fun b hb e => by have := HF.out b hb; omega)
  exact (Kept.setTwo (Kept.setCell (Kept.refl _ _) (p := ⟨w.heap.size + 1 + 1, 1, none⟩) (.inr (.inr rfl)) _) (.inr (.inl rfl)) _ _)
 ·exact (HK2.out.setCell (p := ⟨w.heap.size + 1 + 1, 1, none⟩) (.inl (by simp; omega)) _).setTwo (.inl (by simp)) _ _
end Go.Proofs.Ytlmcaodiiadlkaa
