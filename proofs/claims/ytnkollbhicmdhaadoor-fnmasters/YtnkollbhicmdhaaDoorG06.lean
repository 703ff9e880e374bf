import Derived.Test.YtnkollbhicmdhaaDoorG03
import Derived.Test.YtnkollbhicmdhaaDoorG05
import Derived.Test.YtnkollbhicmdhaaDoorG04
import Derived.Test.YtnkollbhicmdhaaDoorG00
namespace Go.Proofs.YtnkollbhicmdhaaDoor
set_option maxHeartbeats 8000000
set_option linter.unusedVariables false
set_option linter.unusedSimpArgs false
set_option maxRecDepth 100000
open Go.RowKit Go
def lastP (s : Int) : List (Int × List Int) → Option (List Int)
 | [] => none
 | p :: ps => match lastP s ps with
  | some bs => some bs
  | none => if p.1 = s then some p.2 else none
theorem lastP_none (s : Int) (ds : List (Int × List Int)) (h : ∀ p ∈ ds, p.1 ≠ s) : lastP s ds = none := by
 induction ds with
 | nil => rfl
 | cons p ds ih => simp [lastP, ih (fun q hq => h q (List.mem_cons_of_mem _ hq)), h p (List.mem_cons_self ..)]
theorem lastP_append_none (s : Int) (ds es : List (Int × List Int)) (h : ∀ p ∈ es, p.1 ≠ s) : lastP s (ds ++ es) = lastP s ds := by
 induction ds with
 | nil => simpa [lastP] using lastP_none s es h
 | cons p ds ih => simp [lastP, ih]
theorem lastP_snoc (s : Int) (ds : List (Int × List Int)) (bs : List Int) : lastP s (ds ++ [(s, bs)]) = some bs := by
 induction ds with
 | nil => simp [lastP]
 | cons p ds ih => simp [lastP, ih]
def seeD (s : Int) (dur : List Int) (ds : List (Int × List Int)) : List Int := (lastP s ds).getD ((dur.drop (s.toNat * 512)).take 512)
theorem seeD_at {s : Int} {dur : List Int} {ps : List PW} {k : Nat} (hk : k < ps.length) (hs : ps[k].sec = s) (h : ∀ j (hj : j < ps.length), k < j → ps[j].sec ≠ s) : seeD s dur (dataP ps) = ps[k].bs := by
 have e : dataP ps = (dataP (ps.take k) ++ [(s, ps[k].bs)]) ++ dataP (ps.drop (k + 1)) := by
  have e1 : ps = ps.take k ++ (ps[k] :: ps.drop (k + 1)) := by rw [← List.drop_eq_getElem_cons hk, List.take_append_drop]
  have e2 : dataP ps = dataP (ps.take k ++ (ps[k] :: ps.drop (k + 1))) := congrArg dataP e1
  have e3 : dataP (ps.take k ++ (ps[k] :: ps.drop (k + 1))) = dataP (ps.take k) ++ ((ps[k].sec, ps[k].bs) :: dataP (ps.drop (k + 1))) := by
   unfold dataP
   rw [List.map_append, List.map_cons]
  rw [e2, e3, hs, List.append_assoc]
  rfl
 unfold seeD
 rw [e, lastP_append_none, lastP_snoc]
 ·rfl
 ·intro p hp
  obtain ⟨q, hq, rfl⟩ := List.mem_map.1 hp
  obtain ⟨j, hj, rfl⟩ := List.getElem_of_mem hq
  simp only [List.length_drop] at hj
  rw [List.getElem_drop]
  exact h _ (by omega) (by omega)
theorem seeD_none {s : Int} {dur : List Int} {ps : List PW} (h : ∀ j (hj : j < ps.length), ps[j].sec ≠ s) : seeD s dur (dataP ps) = (dur.drop (s.toNat * 512)).take 512 := by
 unfold seeD
 rw [lastP_none]
 ·rfl
 ·intro p hp
  obtain ⟨q, hq, rfl⟩ := List.mem_map.1 hp
  obtain ⟨j, hj, rfl⟩ := List.getElem_of_mem hq
  exact h j hj
theorem l1See_any (dv pv : Value) (dur : List Int) (ps : List PW) (s : Int) (w : World) (h0 : 0 ≤ s) (h1 : s ≤ 1048576) (h2 : (s.toNat + 1) * 512 ≤ dur.length) (hd : dur.length ≤ 1099511627776) (hs : ∀ p ∈ ps, p.bs.length ≤ 1099511627776) (hv : RdD w dv pv dur ps) :
  Calls Tryd.prog 71 #[.agg #[dv, pv], .int .i64 s] w fun e w' => ∃ a n c, e = .returned (.slice a n c) ∧ Own 0 5 .u8 w' (.slice a n c) (seeD s dur (dataP ps)) ∧ (∀ b, (Value.slice a n c).ownBlock = some b → w.heap.size ≤ b) ∧ Same w w' := by
 have hn2 := hv.pend.len
 unfold maxLen at hn2
 obtain ⟨sn, rfl⟩ : ∃ sn : Nat, s = sn := ⟨s.toNat, by omega⟩
 simp only [Int.toNat_natCast] at h2
 obtain ⟨b0, o0, c0, rfl, hl0, hc0⟩ : ∃ b off c, dv = .slice (some ⟨b, off, none⟩) dur.length c ∧ dur.length ≤ c ∧ ∀ i, i < dur.length → w.cell? ⟨b, off + i, none⟩ = some (.int .u8 (dur.getD i 0)) := by
  rcases hv.dur.2 with ⟨rfl, _⟩ | h
  ·simp at h2
  ·exact h
 have e1 : ((sn : Int) * 512).toNat = sn * 512 := by omega
 have e2 : (((sn : Int) + 1) * 512).toNat = sn * 512 + 512 := by omega
 have g1 : ((sn : Int) + 1) * 512 ≤ (c0 : Int) := by omega
 have g2 : 0 ≤ ((sn : Int) + 1) * 512 := by omega
 have g3 : (sn : Int) * 512 ≤ ((sn : Int) + 1) * 512 := by omega
 have HC0 : Hid (∀ i, i < dur.length → w.cell? ⟨b0, o0 + i, none⟩ = some (.int .u8 (dur.getD i 0))) := hc0
 have HD : Hid (∀ wx, Same w wx → ∀ c, 512 ≤ c → Rd .u8 wx (.slice (some ⟨b0, o0 + sn * 512, none⟩) 512 c) ((dur.drop (sn * 512)).take 512)) := fun wx hk c h512 =>
  Rd.part (fun i hi => hk.cellOf (hc0 i hi) id) (sn * 512) 512 (by omega) rfl h512 (by simp [maxLen])
 clear hc0
 rcases hv.pend.row with ⟨rfl, a2, c2, rfl⟩ | ⟨b, off, c2, rfl, hc⟩
 ·clear hv hn2 hs
  go_enter Tryd.func71, Tryd.ntmps71
  go_wp2
  refine wp_loop_rounds 1 ?_
  rw [rounds_succ]
  go_wp2_with fail
  refine (l1Copy_any _ _ _ (by simp; omega) (HD.out _ ((Kept.refl _ _).alloc _) (c0 - sn * 512) (by omega))).mono ?_
  rintro e w1 ⟨a, n, c, rfl, ho, hf, hk⟩
  have HO := (show Hid (Own 0 5 .u8 w1 (.slice a n c) ((dur.drop (sn * 512)).take 512)) from ho)
  have HF : Hid (∀ b, (Value.slice a n c).ownBlock = some b → w.heap.size ≤ b) := fun b hb => by have := hf b hb; simp at this; omega
  have HK : Hid (Same w w1) := ((Kept.refl _ _).alloc _).trans hk
  clear ho hf hk
  go_wp2
  go_ret
  exact ⟨a, n, c, rfl, HO.out, HF.out, HK.out⟩
 ·have HP : Hid (RdP w (.slice (some ⟨b, off, none⟩) ps.length c2) ps) := hv.pend
  have HC : Hid (∀ i (h : i < ps.length), w.cell? ⟨b, off + i * 2, none⟩ = some (.int .i64 ps[i].sec) ∧ w.cell? ⟨b, off + i * 2 + 1, none⟩ = some ps[i].v) := hc
  have HS : Hid (∀ p ∈ ps, p.bs.length ≤ 1099511627776) := hs
  clear hv hc hs
  generalize hl : ps.length = len at hn2 HP ⊢
  have HL : Hid (ps.length = len) := hl
  clear hl
  by_cases hz : len = 0
  ·subst hz
   have HN : Hid (seeD sn dur (dataP ps) = (dur.drop (sn * 512)).take 512) := by
    have h := seeD_none (s := sn) (dur := dur) (ps := ps) (fun j hj => by have := HL.out; omega)
    simpa [Hid] using h
   go_enter Tryd.func71, Tryd.ntmps71
   go_wp2
   refine wp_loop_rounds 1 ?_
   rw [rounds_succ]
   go_wp2_with fail
   refine (l1Copy_any _ _ _ (by simp; omega) (HD.out _ ((Kept.refl _ _).alloc _) (c0 - sn * 512) (by omega))).mono ?_
   rintro e w1 ⟨a, n, c, rfl, ho, hf, hk⟩
   rw [← HN.out] at ho
   have HO := (show Hid (Own 0 5 .u8 w1 (.slice a n c) (seeD sn dur (dataP ps))) from ho)
   have HF : Hid (∀ b, (Value.slice a n c).ownBlock = some b → w.heap.size ≤ b) := fun b hb => by have := hf b hb; simp at this; omega
   have HK : Hid (Same w w1) := ((Kept.refl _ _).alloc _).trans hk
   clear ho hf hk HN
   go_wp2
   go_ret
   exact ⟨a, n, c, rfl, HO.out, HF.out, HK.out⟩
  ·go_enter Tryd.func71, Tryd.ntmps71
   go_wp2
   go_loop [5] (fun i => (∃ k : Nat, k < len ∧ i = .int .i64 k ∧ Hid (∀ j (hj : j < ps.length), k < j → ps[j].sec ≠ sn)) ∨ (i = .int .i64 (-1) ∧ Hid (∀ j (hj : j < ps.length), ps[j].sec ≠ sn))) (fun i => (intOf i + 1).toNat)
   case atStart => exact .inl ⟨len - 1, by omega, by congr 1; omega, fun j hj h => by have := HL.out; omega⟩
   case round =>
    rcases hrel with ⟨k, hlt, rfl, HV⟩ | ⟨rfl, HV⟩
    ·have hlp : k < ps.length := by rw [HL.out]; exact hlt
     obtain ⟨a1, c1, ev1⟩ := (HP.out.data _ (List.getElem_mem hlp)).form
     have hrd := (HP.out.data _ (List.getElem_mem hlp)).same (w' := w.alloc (.cells #[.slice (some ⟨b0, o0, none⟩) dur.length c0, .slice (some ⟨b, off, none⟩) len c2] 25)) ((Kept.refl _ _).alloc _)
     have hm1 := HS.out _ (List.getElem_mem hlp)
     have hbw : b < w.heap.size := World.block_lt_of_cell? w ⟨b, off + k * 2, none⟩ (HC.out k hlp).1
     have q1 := (HC.out k hlp).1
     have q2 := (HC.out k hlp).2
     rw [ev1] at q2 hrd
     have HRD := (show Hid (Rd .u8 (w.alloc (.cells #[.slice (some ⟨b0, o0, none⟩) dur.length c0, .slice (some ⟨b, off, none⟩) len c2] 25)) (.slice a1 ps[k].bs.length c1) ps[k].bs) from hrd)
     clear ev1 hrd
     by_cases hs : ps[k].sec = sn
     ·have HE : Hid (seeD sn dur (dataP ps) = ps[k].bs) := seeD_at hlp hs HV.out
      rw [hs] at q1
      clear hs
      go_wp2_with fail
      refine (l1Copy_any _ ps[k].bs _ hm1 HRD.out).mono ?_
      rintro e w1 ⟨a, n, c, rfl, ho, hf, hk⟩
      rw [← HE.out] at ho
      have HO := (show Hid (Own 0 5 .u8 w1 (.slice a n c) (seeD sn dur (dataP ps))) from ho)
      have HF : Hid (∀ b, (Value.slice a n c).ownBlock = some b → w.heap.size ≤ b) := fun b hb => by have := hf b hb; simp at this; omega
      have HK : Hid (Same w w1) := ((Kept.refl _ _).alloc _).trans hk
      clear ho hf hk HE
      go_wp2
      go_ret
      exact ⟨a, n, c, rfl, HO.out, HF.out, HK.out⟩
     ·have hs' : (ps[k].sec == (sn : Int)) = false := by simpa using hs
      have HSS : Hid (ps[k].sec ≠ sn) := hs
      generalize ps[k].sec = sec at q1 hs'
      clear hs HRD hm1
      go_wp2
      go_round
      case rel =>
       by_cases hk0 : k = 0
       ·refine .inr ⟨by congr 1; omega, fun j hj => ?_⟩
        by_cases e : j = k
        ·subst e; exact HSS.out
        ·exact HV.out j hj (by omega)
       ·refine .inl ⟨k - 1, by omega, by congr 1; omega, fun j hj h => ?_⟩
        by_cases e : j = k
        ·subst e; exact HSS.out
        ·exact HV.out j hj (by omega)
      case measure => simp [intOf]
    ·have HN : Hid (seeD sn dur (dataP ps) = (dur.drop (sn * 512)).take 512) := by
      have h := seeD_none (s := sn) (dur := dur) (ps := ps) HV.out
      simpa [Hid] using h
     go_wp2_with fail
     refine (l1Copy_any _ _ _ (by simp; omega) (HD.out _ ((Kept.refl _ _).alloc _) (c0 - sn * 512) (by omega))).mono ?_
     rintro e w1 ⟨a, n, c, rfl, ho, hf, hk⟩
     rw [← HN.out] at ho
     have HO := (show Hid (Own 0 5 .u8 w1 (.slice a n c) (seeD sn dur (dataP ps))) from ho)
     have HF : Hid (∀ b, (Value.slice a n c).ownBlock = some b → w.heap.size ≤ b) := fun b hb => by have := hf b hb; simp at this; omega
     have HK : Hid (Same w w1) := ((Kept.refl _ _).alloc _).trans hk
     clear ho hf hk HN
     go_wp2
     go_ret
     exact ⟨a, n, c, rfl, HO.out, HF.out, HK.out⟩
def IsRead (s : Int) (dur : List Int) (ds : List (Int × List Int)) (bs : List Int) : Prop :=
 (Valid dur.length ds ∧ 0 ≤ s ∧ s < (dur.length / 512 : Nat) ∧ bs = seeD s dur ds) ∨ (¬ (Valid dur.length ds ∧ 0 ≤ s ∧ s < (dur.length / 512 : Nat)) ∧ bs = [])
theorem IsRead.one {s : Int} {dur : List Int} {ds : List (Int × List Int)} {bs cs : List Int} (h : IsRead s dur ds bs) (k : IsRead s dur ds cs) : bs = cs := by
 rcases h with ⟨h1, h2, h3, rfl⟩ | ⟨h, rfl⟩ <;> rcases k with ⟨k1, k2, k3, rfl⟩ | ⟨k, rfl⟩
 ·rfl
 ·exact absurd ⟨h1, h2, h3⟩ k
 ·exact absurd ⟨k1, k2, k3⟩ h
 ·rfl
theorem lastP_mem (s : Int) (ds : List (Int × List Int)) (bs : List Int) (h : lastP s ds = some bs) : ∃ p ∈ ds, p.2 = bs := by
 induction ds with
 | nil => simp [lastP] at h
 | cons p ds ih =>
  unfold lastP at h
  split at h
  ·next cs hc =>
   obtain ⟨q, hq, e⟩ := ih (by rw [hc, ← h])
   exact ⟨q, List.mem_cons_of_mem _ hq, e⟩
  ·split at h
   ·simp at h
    exact ⟨p, List.mem_cons_self .., h⟩
   ·simp at h
theorem IsRead.len {s : Int} {dur : List Int} {ds : List (Int × List Int)} {bs : List Int} (h : IsRead s dur ds bs) : bs.length ≤ 512 := by
 rcases h with ⟨hv, _, _, rfl⟩ | ⟨_, rfl⟩
 ·unfold seeD
  cases hl : lastP s ds with
  | none => simp; omega
  | some cs =>
   obtain ⟨p, hp, rfl⟩ := lastP_mem s ds cs hl
   have := (hv.2 p hp).2.2
   simp [this]
 ·simp
theorem specRead_any (dv pv : Value) (dur : List Int) (ps : List PW) (s : Int) (w : World) (hd : dur.length ≤ 1099511627776) (hs : ∀ p ∈ ps, p.bs.length ≤ 1099511627776) (hv : RdD w dv pv dur ps) :
  Calls Tryd.prog 43 #[.agg #[dv, pv], .int .i64 s] w fun e w' => ∃ a n c bs, e = .returned (.slice a n c) ∧ IsRead s dur (dataP ps) bs ∧ Own 0 5 .u8 w' (.slice a n c) bs ∧ (∀ b, (Value.slice a n c).ownBlock = some b → w.heap.size ≤ b) ∧ Same w w' := by
 obtain ⟨a1, c1, rfl⟩ := hv.dur.form
 obtain ⟨a2, c2, rfl⟩ := hv.pend.form
 have hm := hv.dur.1
 have HV := (show Hid (RdD w (.slice a1 dur.length c1) (.slice a2 ps.length c2) dur ps) from hv)
 have HS : Hid (∀ p ∈ ps, p.bs.length ≤ 1099511627776) := hs
 clear hv hs
 go_enter Tryd.func43, Tryd.ntmps43
 go_wp2_with fail
 refine (specValid_any _ _ dur ps _ (HV.out.same ((Kept.refl _ _).alloc _))).mono ?_
 rintro e w1 ⟨⟨B, rfl, hB⟩, hk1⟩
 have HB1 : Hid (Box w1 w.heap.size (.slice a1 dur.length c1) (.slice a2 ps.length c2)) := (Box.new _ _ _ _).same hk1
 have HK1 : Hid (Same w w1) := ((Kept.refl _ _).alloc _).trans hk1
 clear hk1
 obtain ⟨p1, p2⟩ := HB1.out
 have hl1 := HB1.out.lt
 cases B with
 | false =>
  have HN : Hid (¬ Valid dur.length (dataP ps)) := fun h => by have := hB.2 h; simp at this
  clear hB
  go_wp2
  go_ret
  exact ⟨_, _, _, [], rfl, .inr ⟨fun h => HN.out h.1, rfl⟩, World.ownsRow_made w1 #[] 0 (Nat.zero_le _) (by simp) (by simp), fun b hb => by simp [Value.ownBlock] at hb; have := HK1.out.size; omega, HK1.out.alloc _⟩
 | true =>
  have HY : Hid (Valid dur.length (dataP ps)) := hB.1 rfl
  clear hB
  by_cases s1 : s < 0
  ·go_wp2
   go_ret
   exact ⟨_, _, _, [], rfl, .inr ⟨fun h => by omega, rfl⟩, World.ownsRow_made w1 #[] 0 (Nat.zero_le _) (by simp) (by simp), fun b hb => by simp [Value.ownBlock] at hb; have := HK1.out.size; omega, HK1.out.alloc _⟩
  ·by_cases s2 : (dur.length : Int) / 512 ≤ s
   ·go_wp2_with (go_at_call 70; refine (l1Sectors_any _ _ _ _ _ _ _ hm).mono ?_; rintro e w' ⟨rfl, rfl⟩)
    go_ret
    exact ⟨_, _, _, [], rfl, .inr ⟨fun h => by omega, rfl⟩, (by have h := World.ownsRow_made (base := 0) (e := 5) (size := 1) (w1.alloc (.cells #[.slice a1 dur.length c1, .slice a2 ps.length c2] 25)) #[] 0 (Nat.zero_le _) (by simp) (by simp); rw [World.size_alloc] at h; exact h), fun b hb => by simp [Value.ownBlock] at hb; have := HK1.out.size; omega, (HK1.out.alloc _).alloc _⟩
   ·have s3 : ((dur.length / 512 : Nat) : Int) ≤ 1024 := by have := HY.out.1.2.2.1; omega
    go_wp2_with (go_at_call 70; refine (l1Sectors_any _ _ _ _ _ _ _ hm).mono ?_; rintro e w' ⟨rfl, rfl⟩)
    refine (l1See_any _ _ dur ps s _ (by omega) (by omega) (by omega) hd HS.out (HV.out.same (HK1.out.alloc _))).mono ?_
    rintro e w2 ⟨a, n, c, rfl, ho, hf, hk⟩
    have HO := (show Hid (Own 0 5 .u8 w2 (.slice a n c) (seeD s dur (dataP ps))) from ho)
    have HF : Hid (∀ b, (Value.slice a n c).ownBlock = some b → w.heap.size ≤ b) := fun b hb => by have h1 := hf b hb; have h2 := HK1.out.size; simp at h1; omega
    have HK : Hid (Same w w2) := (HK1.out.alloc _).trans hk
    clear ho hf hk p1 p2
    go_wp2
    go_ret
    exact ⟨a, n, c, _, rfl, .inl ⟨HY.out, by omega, by omega, rfl⟩, HO.out, HF.out, HK.out⟩
theorem implRead_any (dv pv : Value) (dur : List Int) (ps : List PW) (s : Int) (w : World) (hd : dur.length ≤ 1099511627776) (hs : ∀ p ∈ ps, p.bs.length ≤ 1099511627776) (hv : RdD w dv pv dur ps) :
  Calls Tryd.prog 42 #[.agg #[dv, pv], .int .i64 s] w fun e w' => ∃ a n c bs, e = .returned (.slice a n c) ∧ IsRead s dur (dataP ps) bs ∧ Own 0 5 .u8 w' (.slice a n c) bs ∧ (∀ b, (Value.slice a n c).ownBlock = some b → w.heap.size ≤ b) ∧ Same w w' := by
 have hn2 := hv.pend.len
 unfold maxLen at hn2
 obtain ⟨a1, c1, e1⟩ := hv.dur.form
 obtain ⟨a2, c2, e2⟩ := hv.pend.form
 have hm := hv.dur.1
 have HP : Hid (RdP w pv ps) := hv.pend
 have HV0 : Hid (Rd .u8 w dv dur) := hv.dur
 subst e1 e2
 have HV := (show Hid (RdD w (.slice a1 dur.length c1) (.slice a2 ps.length c2) dur ps) from hv)
 have HS : Hid (∀ p ∈ ps, p.bs.length ≤ 1099511627776) := hs
 clear hv hs
 go_enter Tryd.func42, Tryd.ntmps42
 go_wp2_with fail
 refine (implValid_any _ _ dur ps _ (HV.out.same ((Kept.refl _ _).alloc _))).mono ?_
 rintro e w1 ⟨⟨B, rfl, hB⟩, hk1⟩
 have HB1 : Hid (Box w1 w.heap.size (.slice a1 dur.length c1) (.slice a2 ps.length c2)) := (Box.new _ _ _ _).same hk1
 have HK1 : Hid (Same w w1) := ((Kept.refl _ _).alloc _).trans hk1
 clear hk1
 obtain ⟨p1, p2⟩ := HB1.out
 have hl1 := HB1.out.lt
 cases B with
 | false =>
  have HN : Hid (¬ Valid dur.length (dataP ps)) := fun h => by have := hB.2 h; simp at this
  clear hB
  go_wp2
  go_ret
  exact ⟨_, _, _, [], rfl, .inr ⟨fun h => HN.out h.1, rfl⟩, Own.nil _ _ _ _, fun b hb => by simp [Value.ownBlock] at hb, HK1.out⟩
 | true =>
  have HY : Hid (Valid dur.length (dataP ps)) := hB.1 rfl
  clear hB
  by_cases s1 : s < 0
  ·go_wp2
   go_ret
   exact ⟨_, _, _, [], rfl, .inr ⟨fun h => by omega, rfl⟩, Own.nil _ _ _ _, fun b hb => by simp [Value.ownBlock] at hb, HK1.out⟩
  ·by_cases s2 : (dur.length : Int) / 512 ≤ s
   ·go_wp2_with (go_at_call 67; refine (countSectors_any _ _ _ _ _ _ _ hm).mono ?_; rintro e w' ⟨rfl, rfl⟩)
    go_ret
    exact ⟨_, _, _, [], rfl, .inr ⟨fun h => by omega, rfl⟩, Own.nil _ _ _ _, fun b hb => by simp [Value.ownBlock] at hb, HK1.out.alloc _⟩
   ·have s3 : ((dur.length / 512 : Nat) : Int) ≤ 1024 := by have := HY.out.1.2.2.1; omega
    obtain ⟨sn, rfl⟩ : ∃ sn : Nat, s = sn := ⟨s.toNat, by omega⟩
    have h2 : (sn + 1) * 512 ≤ dur.length := by omega
    obtain ⟨b0, o0, hl0, rfl, hc0⟩ : ∃ b off, dur.length ≤ c1 ∧ a1 = some ⟨b, off, none⟩ ∧ ∀ i, i < dur.length → w.cell? ⟨b, off + i, none⟩ = some (.int .u8 (dur.getD i 0)) := by
     rcases HV0.out.2 with ⟨rfl, _⟩ | ⟨b, off, c, e, hl, hc⟩
     ·simp at h2
     ·simp only [Value.slice.injEq, true_and] at e
      obtain ⟨rfl, rfl⟩ := e
      exact ⟨b, off, hl, rfl, hc⟩
    have e1 : ((sn : Int) * 512).toNat = sn * 512 := by omega
    have e2 : ((sn : Int) * 512 + 512).toNat = sn * 512 + 512 := by omega
    have g1 : (sn : Int) * 512 + 512 ≤ (c1 : Int) := by omega
    have g2 : 0 ≤ (sn : Int) * 512 + 512 := by omega
    have HD : Hid (∀ wx, Same w1 wx → ∀ c, 512 ≤ c → Rd .u8 wx (.slice (some ⟨b0, o0 + sn * 512, none⟩) 512 c) ((dur.drop (sn * 512)).take 512)) := fun wx hk c h512 =>
     Rd.part (fun i hi => (HK1.out.trans hk).cellOf (hc0 i hi) id) (sn * 512) 512 (by omega) rfl h512 (by simp [maxLen])
    clear hc0 HV0 HV
    by_cases hz : ps.length = 0
    ·have HN : Hid (seeD sn dur (dataP ps) = (dur.drop (sn * 512)).take 512) := by
      have h := seeD_none (s := sn) (dur := dur) (ps := ps) (fun j hj => by omega)
      simpa [Hid] using h
     go_wp2_with (go_at_call 67; refine (countSectors_any _ _ _ _ _ _ _ hm).mono ?_; rintro e w' ⟨rfl, rfl⟩)
     refine wp_loop_rounds 1 ?_
     rw [rounds_succ]
     go_wp2_with fail
     refine (clone_any _ _ _ (by simp; omega) (HD.out _ ((Kept.refl _ _).alloc _) (c1 - sn * 512) (by omega))).mono ?_
     rintro e w2 ⟨a, n, c, rfl, ho, hf, hk⟩
     rw [← HN.out] at ho
     have HO := (show Hid (Own 0 5 .u8 w2 (.slice a n c) (seeD sn dur (dataP ps))) from ho)
     have HF : Hid (∀ b, (Value.slice a n c).ownBlock = some b → w.heap.size ≤ b) := fun b hb => by have h1 := hf b hb; have h2 := HK1.out.size; simp at h1; omega
     have HK : Hid (Same w w2) := (HK1.out.alloc _).trans hk
     clear ho hf hk HN
     go_wp2
     go_ret
     exact ⟨a, n, c, _, rfl, .inl ⟨HY.out, by omega, by omega, rfl⟩, HO.out, HF.out, HK.out⟩
    ·obtain ⟨b, off, rfl, hc⟩ : ∃ b off, a2 = some ⟨b, off, none⟩ ∧ ∀ i (h : i < ps.length), w.cell? ⟨b, off + i * 2, none⟩ = some (.int .i64 ps[i].sec) ∧ w.cell? ⟨b, off + i * 2 + 1, none⟩ = some ps[i].v := by
      rcases HP.out.row with ⟨rfl, _⟩ | ⟨b, off, c, e, hc⟩
      ·simp at hz
      ·simp only [Value.slice.injEq, true_and] at e
       obtain ⟨rfl, rfl⟩ := e
       exact ⟨b, off, rfl, hc⟩
     have HC : Hid (∀ i (h : i < ps.length), w.cell? ⟨b, off + i * 2, none⟩ = some (.int .i64 ps[i].sec) ∧ w.cell? ⟨b, off + i * 2 + 1, none⟩ = some ps[i].v) := hc
     clear hc
     go_wp2_with (go_at_call 67; refine (countSectors_any _ _ _ _ _ _ _ hm).mono ?_; rintro e w' ⟨rfl, rfl⟩)
     go_loop [5] (fun i => (∃ k : Nat, k < ps.length ∧ i = .int .i64 k ∧ Hid (∀ j (hj : j < ps.length), k < j → ps[j].sec ≠ sn)) ∨ (i = .int .i64 (-1) ∧ Hid (∀ j (hj : j < ps.length), ps[j].sec ≠ sn))) (fun i => (intOf i + 1).toNat)
     case atStart => exact .inl ⟨ps.length - 1, by omega, by congr 1; omega, fun j hj h => by omega⟩
     case round =>
      rcases hrel with ⟨k, hlp, rfl, HV⟩ | ⟨rfl, HV⟩
      ·obtain ⟨a3, c3, ev1⟩ := (HP.out.data _ (List.getElem_mem hlp)).form
       have hrd := (HP.out.data _ (List.getElem_mem hlp)).same (w' := w1.alloc (.cells #[.slice (some ⟨b0, o0, none⟩) dur.length c1, .slice (some ⟨b, off, none⟩) ps.length c2] 25)) (HK1.out.alloc _)
       have hm1 := HS.out _ (List.getElem_mem hlp)
       have q1 := HK1.out.cellOf (HC.out k hlp).1 id
       have q2 := HK1.out.cellOf (HC.out k hlp).2 id
       have hbw : b < w1.heap.size := World.block_lt_of_cell? w1 ⟨b, off + k * 2, none⟩ q1
       rw [ev1] at q2 hrd
       have HRD := (show Hid (Rd .u8 (w1.alloc (.cells #[.slice (some ⟨b0, o0, none⟩) dur.length c1, .slice (some ⟨b, off, none⟩) ps.length c2] 25)) (.slice a3 ps[k].bs.length c3) ps[k].bs) from hrd)
       clear ev1 hrd
       by_cases hs : ps[k].sec = sn
       ·have HN : Hid (seeD sn dur (dataP ps) = ps[k].bs) := seeD_at hlp hs HV.out
        rw [hs] at q1
        clear hs
        go_wp2_with fail
        refine (clone_any _ ps[k].bs _ hm1 HRD.out).mono ?_
        rintro e w2 ⟨a, n, c, rfl, ho, hf, hk⟩
        rw [← HN.out] at ho
        have HO := (show Hid (Own 0 5 .u8 w2 (.slice a n c) (seeD sn dur (dataP ps))) from ho)
        have HF : Hid (∀ b, (Value.slice a n c).ownBlock = some b → w.heap.size ≤ b) := fun b hb => by have h1 := hf b hb; have h2 := HK1.out.size; simp at h1; omega
        have HK : Hid (Same w w2) := (HK1.out.alloc _).trans hk
        clear ho hf hk HN
        go_wp2
        go_ret
        exact ⟨a, n, c, _, rfl, .inl ⟨HY.out, by omega, by omega, rfl⟩, HO.out, HF.out, HK.out⟩
       ·have hs' : (ps[k].sec == (sn : Int)) = false := by simpa using hs
        have HSS : Hid (ps[k].sec ≠ sn) := hs
        generalize ps[k].sec = sec at q1 hs'
        clear hs HRD hm1
        go_wp2
        go_round
        case rel =>
         by_cases hk0 : k = 0
         ·refine .inr ⟨by congr 1; omega, fun j hj => ?_⟩
          by_cases e : j = k
          ·subst e; exact HSS.out
          ·exact HV.out j hj (by omega)
         ·refine .inl ⟨k - 1, by omega, by congr 1; omega, fun j hj h => ?_⟩
          by_cases e : j = k
          ·subst e; exact HSS.out
          ·exact HV.out j hj (by omega)
        case measure => simp [intOf]
      ·have HN : Hid (seeD sn dur (dataP ps) = (dur.drop (sn * 512)).take 512) := by
        have h := seeD_none (s := sn) (dur := dur) (ps := ps) HV.out
        simpa [Hid] using h
       go_wp2_with fail
       refine (clone_any _ _ _ (by simp; omega) (HD.out _ ((Kept.refl _ _).alloc _) (c1 - sn * 512) (by omega))).mono ?_
       rintro e w2 ⟨a, n, c, rfl, ho, hf, hk⟩
       rw [← HN.out] at ho
       have HO := (show Hid (Own 0 5 .u8 w2 (.slice a n c) (seeD sn dur (dataP ps))) from ho)
       have HF : Hid (∀ b, (Value.slice a n c).ownBlock = some b → w.heap.size ≤ b) := fun b hb => by have h1 := hf b hb; have h2 := HK1.out.size; simp at h1; omega
       have HK : Hid (Same w w2) := (HK1.out.alloc _).trans hk
       clear ho hf hk HN
       go_wp2
       go_ret
       exact ⟨a, n, c, _, rfl, .inl ⟨HY.out, by omega, by omega, rfl⟩, HO.out, HF.out, HK.out⟩
def DiskB (dur : List Int) (ps : List PW) : Prop := IsB dur ∧ ∀ p ∈ ps, IsB p.bs
theorem lastP_isB {s : Int} {ds : List (Int × List Int)} (h : ∀ x ∈ ds, IsB x.2) : ∀ b, lastP s ds = some b → IsB b := by
 induction ds with
 | nil => intro b hb; simp [lastP] at hb
 | cons p ps ih =>
  intro b hb
  unfold lastP at hb
  cases hl : lastP s ps with
  | some b' =>
   rw [hl] at hb
   obtain rfl := Option.some.inj hb
   exact ih (fun x hx => h x (by simp [hx])) _ hl
  | none =>
   rw [hl] at hb
   dsimp only at hb
   split at hb
   ·obtain rfl := Option.some.inj hb
    exact h p (by simp)
   ·cases hb
theorem read_isB {s : Int} {dur : List Int} {ps : List PW} {bs : List Int} (h : IsRead s dur (dataP ps) bs) (hb : DiskB dur ps) : IsB bs := by
 have hd : ∀ x ∈ dataP ps, IsB x.2 := fun x hx => by
  obtain ⟨p, hp, rfl⟩ := List.mem_map.1 hx
  exact hb.2 p hp
 rcases h with ⟨_, _, _, rfl⟩ | ⟨_, rfl⟩
 ·unfold seeD
  cases hl : lastP s (dataP ps) with
  | none => exact isB_take (isB_drop hb.1 _) _
  | some b => exact lastP_isB hd b hl
 ·intro y hy; cases hy
theorem DiskB.dat {dur : List Int} {ps qs : List PW} (h : DiskB dur ps) (hq : dataP qs = dataP ps) : DiskB dur qs := ⟨h.1, fun p hp => by
 have h1 : (p.sec, p.bs) ∈ dataP ps := by rw [← hq]; exact List.mem_map.2 ⟨p, hp, rfl⟩
 obtain ⟨p', hp', he⟩ := List.mem_map.1 h1
 have : p'.bs = p.bs := congrArg Prod.snd he
 rw [← this]
 exact h.2 p' hp'⟩
structure DecF (b : List Int) (g : Bool) (s e c l : Int) : Prop where
 val : decV b = resV g 0 s e c l
 one : (g = false ∧ s = 0 ∧ e = 0 ∧ c = 0 ∧ l = 0) ∨ (g = true ∧ 1 ≤ s)
theorem decF (b : List Int) : ∃ g s e c l, DecF b g s e c l := by
 cases hg : mGood b with
 | false => exact ⟨_, _, _, _, _, decV_no hg, .inl ⟨rfl, rfl, rfl, rfl, rfl⟩⟩
 | true =>
  refine ⟨_, _, _, _, _, decV_yes hg, .inr ⟨rfl, ?_⟩⟩
  unfold mGood at hg
  simp only [Bool.and_eq_true, decide_eq_true_eq] at hg
  exact (mF_good hg.1).1.1
def pickV (g0 : Bool) (s0 e0 c0 l0 : Int) (g1 : Bool) (s1 e1 c1 l1 : Int) : Value :=
 if g1 = true ∧ (g0 = false ∨ s0 < s1) then resV g1 1 s1 e1 c1 l1 else resV g0 0 s0 e0 c0 l0
def Picked (dur : List Int) (ds : List (Int × List Int)) (v : Value) : Prop :=
 ∃ b0 b1 g0 s0 e0 c0 l0 g1 s1 e1 c1 l1, IsRead 0 dur ds b0 ∧ IsRead 1 dur ds b1 ∧ DecF b0 g0 s0 e0 c0 l0 ∧ DecF b1 g1 s1 e1 c1 l1 ∧ v = pickV g0 s0 e0 c0 l0 g1 s1 e1 c1 l1
theorem DecF.unique {b : List Int} {g g' : Bool} {s s' e e' c c' l l' : Int} (h : DecF b g s e c l) (h' : DecF b g' s' e' c' l') : g = g' ∧ s = s' ∧ e = e' ∧ c = c' ∧ l = l' := by
 have := h.val.symm.trans h'.val
 simpa [resV] using this
theorem Picked.one {dur : List Int} {ds : List (Int × List Int)} {v v' : Value} (h : Picked dur ds v) (h' : Picked dur ds v') : v = v' := by
 obtain ⟨b0, b1, g0, s0, e0, c0, l0, g1, s1, e1, c1, l1, r0, r1, d0, d1, rfl⟩ := h
 obtain ⟨b0', b1', g0', s0', e0', c0', l0', g1', s1', e1', c1', l1', r0', r1', d0', d1', rfl⟩ := h'
 obtain rfl := r0.one r0'
 obtain rfl := r1.one r1'
 obtain ⟨rfl, rfl, rfl, rfl, rfl⟩ := d0.unique d0'
 obtain ⟨rfl, rfl, rfl, rfl, rfl⟩ := d1.unique d1'
 rfl
theorem Picked.form {dur : List Int} {ds : List (Int × List Int)} {v : Value} (h : Picked dur ds v) : ∃ g sl s e c l, v = .agg #[.bool g, .int .i64 sl, .int .i64 s, .int .i64 e, .int .i64 c, .int .i64 l] := by
 obtain ⟨b0, b1, g0, s0, e0, c0, l0, g1, s1, e1, c1, l1, r0, r1, d0, d1, rfl⟩ := h
 unfold pickV
 split
 ·exact ⟨_, _, _, _, _, _, rfl⟩
 ·exact ⟨_, _, _, _, _, _, rfl⟩
theorem specPick_any (dv pv : Value) (dur : List Int) (ps : List PW) (w : World) (hd : dur.length ≤ 1099511627776) (hs : ∀ p ∈ ps, p.bs.length ≤ 1099511627776) (hb : DiskB dur ps) (hv : RdD w dv pv dur ps) :
  Calls Tryd.prog 11 #[.agg #[dv, pv]] w fun ex w' => (∃ v, ex = .returned v ∧ Picked dur (dataP ps) v) ∧ Same w w' := by
 obtain ⟨ad, cd, rfl⟩ := hv.dur.form
 obtain ⟨ap, cp, rfl⟩ := hv.pend.form
 have HV := (show Hid (RdD w (.slice ad dur.length cd) (.slice ap ps.length cp) dur ps) from hv)
 have HB := (show Hid (DiskB dur ps) from hb)
 have HS := (show Hid (∀ p ∈ ps, p.bs.length ≤ 1099511627776) from hs)
 clear hv hb hs
 have HK0 := hid (sameA2 w [.slice ad dur.length cd, .slice ap ps.length cp] 25 [.bool false, .int .i64 0, .int .i64 0, .int .i64 0, .int .i64 0, .int .i64 0] 30)
 have HD0 := (show Hid (Blk ((w.alloc (.cells #[.slice ad dur.length cd, .slice ap ps.length cp] 25)).alloc (.cells #[.bool false, .int .i64 0, .int .i64 0, .int .i64 0, .int .i64 0, .int .i64 0] 30)) w.heap.size 25 [.slice ad dur.length cd, .slice ap ps.length cp]) from (Blk.new w #[.slice ad dur.length cd, .slice ap ps.length cp] 25).same ((Kept.refl _ _).alloc _))
 have HR0 := hid (Blk.newB w [.slice ad dur.length cd, .slice ap ps.length cp] 25 [.bool false, .int .i64 0, .int .i64 0, .int .i64 0, .int .i64 0, .int .i64 0] 30)
 go_enter Tryd.func11, Tryd.ntmps11
 go_wp2_with fail
 refine (specRead_any _ _ dur ps 0 _ hd HS.out (HV.out.same HK0.out)).mono ?_
 rintro ex w1 ⟨x1, n1, y1, b0, rfl, hr0, ho, hf, hk⟩
 have HR1 := hid (HR0.out.same hk)
 have HD1 := hid (HD0.out.same hk)
 have HK1 := hid (HK0.out.trans hk)
 have HQ0 := (show Hid (IsRead 0 dur (dataP ps) b0) from hr0)
 have HO1 := (show Hid (Rd .u8 w1 (.slice x1 n1 y1) b0) from ho.rd)
 clear hr0 ho hf hk HK0 HD0 HR0
 obtain ⟨g0, s0, e0, c0, l0, hf0⟩ := decF b0
 have HF0 := (show Hid (DecF b0 g0 s0 e0 c0 l0) from hf0)
 clear hf0
 go_wp2_with fail
 refine (specDec_any _ b0 _ (read_isB HQ0.out HB.out) (Nat.le_trans HQ0.out.len (by decide)) HO1.out).mono ?_
 rintro ex w2 ⟨rfl, hk⟩
 rw [HF0.out.val]
 unfold resV
 have hkA : Same w1 (w2.alloc (.cells #[.bool g0, .int .i64 0, .int .i64 s0, .int .i64 e0, .int .i64 c0, .int .i64 l0] 30)) := hk.alloc _
 have HR2 := hid (HR1.out.same hkA)
 have HD2 := hid (HD1.out.same hkA)
 have HK2 := hid (HK1.out.trans hkA)
 have HA2 := (show Hid (Blk (w2.alloc (.cells #[.bool g0, .int .i64 0, .int .i64 s0, .int .i64 e0, .int .i64 c0, .int .i64 l0] 30)) w2.heap.size 30 [.bool g0, .int .i64 0, .int .i64 s0, .int .i64 e0, .int .i64 c0, .int .i64 l0]) from Blk.new w2 _ _)
 have hz1 := HR1.out.lt
 have hz2 := hk.size
 clear hk hkA HK1 HD1 HR1 HO1
 obtain ⟨d0, d1⟩ := HD2.out.all2
 go_wp2_with fail
 refine (specRead_any _ _ dur ps 1 _ hd HS.out (HV.out.same HK2.out)).mono ?_
 rintro ex w3 ⟨x3, n3, y3, b1, rfl, hr1, ho, hf, hk⟩
 have HR3 := hid (HR2.out.same hk)
 have HK3 := hid (HK2.out.trans hk)
 have HA3 := hid (HA2.out.same hk)
 have HQ1 := (show Hid (IsRead 1 dur (dataP ps) b1) from hr1)
 have HO3 := (show Hid (Rd .u8 w3 (.slice x3 n3 y3) b1) from ho.rd)
 clear hr1 ho hf hk HK2 HD2 HR2 HA2 d0 d1
 obtain ⟨g1, s1, e1, c1, l1, hf1⟩ := decF b1
 have HF1 := (show Hid (DecF b1 g1 s1 e1 c1 l1) from hf1)
 clear hf1
 go_wp2_with fail
 refine (specDec_any _ b1 _ (read_isB HQ1.out HB.out) (Nat.le_trans HQ1.out.len (by decide)) HO3.out).mono ?_
 rintro ex w4 ⟨rfl, hk⟩
 rw [HF1.out.val]
 unfold resV
 have hkA : Same w3 (w4.alloc (.cells #[.bool g1, .int .i64 0, .int .i64 s1, .int .i64 e1, .int .i64 c1, .int .i64 l1] 30)) := hk.alloc _
 have hr5 : Blk (w4.alloc (.cells #[.bool g1, .int .i64 0, .int .i64 s1, .int .i64 e1, .int .i64 c1, .int .i64 l1] 30)) (w.heap.size + 1) 30 [.bool false, .int .i64 0, .int .i64 0, .int .i64 0, .int .i64 0, .int .i64 0] := HR3.out.same hkA
 have ha5 : Blk (w4.alloc (.cells #[.bool g1, .int .i64 0, .int .i64 s1, .int .i64 e1, .int .i64 c1, .int .i64 l1] 30)) w2.heap.size 30 [.bool g0, .int .i64 0, .int .i64 s0, .int .i64 e0, .int .i64 c0, .int .i64 l0] := HA3.out.same hkA
 have hb5 : Blk (w4.alloc (.cells #[.bool g1, .int .i64 0, .int .i64 s1, .int .i64 e1, .int .i64 c1, .int .i64 l1] 30)) w4.heap.size 30 [.bool g1, .int .i64 0, .int .i64 s1, .int .i64 e1, .int .i64 c1, .int .i64 l1] := Blk.new w4 _ _
 have HK5 := hid (HK3.out.trans hkA)
 have HKq := (show Hid (Same w (w4.alloc (.cells #[.bool g1, .int .i64 1, .int .i64 s1, .int .i64 e1, .int .i64 c1, .int .i64 l1] 30))) from (HK3.out.trans hk).alloc _)
 have hq5 : Blk (w4.alloc (.cells #[.bool g1, .int .i64 1, .int .i64 s1, .int .i64 e1, .int .i64 c1, .int .i64 l1] 30)) (w.heap.size + 1) 30 [.bool false, .int .i64 0, .int .i64 0, .int .i64 0, .int .i64 0, .int .i64 0] := (HR3.out.same hk).same ((Kept.refl _ _).alloc _)
 have hza := HA3.out.lt
 have hzb := hk.size
 clear hk hkA HK3 HR3 HA3 HO3
 have r0 : (w4.alloc (.cells #[.bool g1, .int .i64 0, .int .i64 s1, .int .i64 e1, .int .i64 c1, .int .i64 l1] 30)).cell? ⟨w.heap.size + 1, 0, none⟩ = some (.bool false) := hr5.cell 0
 have r1 : (w4.alloc (.cells #[.bool g1, .int .i64 0, .int .i64 s1, .int .i64 e1, .int .i64 c1, .int .i64 l1] 30)).cell? ⟨w.heap.size + 1, 1, none⟩ = some (.int .i64 0) := hr5.cell 1
 have r2 : (w4.alloc (.cells #[.bool g1, .int .i64 0, .int .i64 s1, .int .i64 e1, .int .i64 c1, .int .i64 l1] 30)).cell? ⟨w.heap.size + 1, 2, none⟩ = some (.int .i64 0) := hr5.cell 2
 have r3 : (w4.alloc (.cells #[.bool g1, .int .i64 0, .int .i64 s1, .int .i64 e1, .int .i64 c1, .int .i64 l1] 30)).cell? ⟨w.heap.size + 1, 3, none⟩ = some (.int .i64 0) := hr5.cell 3
 have r4 : (w4.alloc (.cells #[.bool g1, .int .i64 0, .int .i64 s1, .int .i64 e1, .int .i64 c1, .int .i64 l1] 30)).cell? ⟨w.heap.size + 1, 4, none⟩ = some (.int .i64 0) := hr5.cell 4
 have r5 : (w4.alloc (.cells #[.bool g1, .int .i64 0, .int .i64 s1, .int .i64 e1, .int .i64 c1, .int .i64 l1] 30)).cell? ⟨w.heap.size + 1, 5, none⟩ = some (.int .i64 0) := hr5.cell 5
 have a0 : (w4.alloc (.cells #[.bool g1, .int .i64 0, .int .i64 s1, .int .i64 e1, .int .i64 c1, .int .i64 l1] 30)).cell? ⟨w2.heap.size, 0, none⟩ = some (.bool g0) := ha5.cell 0
 have a1 : (w4.alloc (.cells #[.bool g1, .int .i64 0, .int .i64 s1, .int .i64 e1, .int .i64 c1, .int .i64 l1] 30)).cell? ⟨w2.heap.size, 1, none⟩ = some (.int .i64 0) := ha5.cell 1
 have a2 : (w4.alloc (.cells #[.bool g1, .int .i64 0, .int .i64 s1, .int .i64 e1, .int .i64 c1, .int .i64 l1] 30)).cell? ⟨w2.heap.size, 2, none⟩ = some (.int .i64 s0) := ha5.cell 2
 have a3 : (w4.alloc (.cells #[.bool g1, .int .i64 0, .int .i64 s1, .int .i64 e1, .int .i64 c1, .int .i64 l1] 30)).cell? ⟨w2.heap.size, 3, none⟩ = some (.int .i64 e0) := ha5.cell 3
 have a4 : (w4.alloc (.cells #[.bool g1, .int .i64 0, .int .i64 s1, .int .i64 e1, .int .i64 c1, .int .i64 l1] 30)).cell? ⟨w2.heap.size, 4, none⟩ = some (.int .i64 c0) := ha5.cell 4
 have a5 : (w4.alloc (.cells #[.bool g1, .int .i64 0, .int .i64 s1, .int .i64 e1, .int .i64 c1, .int .i64 l1] 30)).cell? ⟨w2.heap.size, 5, none⟩ = some (.int .i64 l0) := ha5.cell 5
 have fr := hr5.frozen
 have fq := hq5.frozen
 have q0 : (w4.alloc (.cells #[.bool g1, .int .i64 1, .int .i64 s1, .int .i64 e1, .int .i64 c1, .int .i64 l1] 30)).cell? ⟨w.heap.size + 1, 0, none⟩ = some (.bool false) := hq5.cell 0
 have q1 : (w4.alloc (.cells #[.bool g1, .int .i64 1, .int .i64 s1, .int .i64 e1, .int .i64 c1, .int .i64 l1] 30)).cell? ⟨w.heap.size + 1, 1, none⟩ = some (.int .i64 0) := hq5.cell 1
 have q2 : (w4.alloc (.cells #[.bool g1, .int .i64 1, .int .i64 s1, .int .i64 e1, .int .i64 c1, .int .i64 l1] 30)).cell? ⟨w.heap.size + 1, 2, none⟩ = some (.int .i64 0) := hq5.cell 2
 have q3 : (w4.alloc (.cells #[.bool g1, .int .i64 1, .int .i64 s1, .int .i64 e1, .int .i64 c1, .int .i64 l1] 30)).cell? ⟨w.heap.size + 1, 3, none⟩ = some (.int .i64 0) := hq5.cell 3
 have q4 : (w4.alloc (.cells #[.bool g1, .int .i64 1, .int .i64 s1, .int .i64 e1, .int .i64 c1, .int .i64 l1] 30)).cell? ⟨w.heap.size + 1, 4, none⟩ = some (.int .i64 0) := hq5.cell 4
 have q5 : (w4.alloc (.cells #[.bool g1, .int .i64 1, .int .i64 s1, .int .i64 e1, .int .i64 c1, .int .i64 l1] 30)).cell? ⟨w.heap.size + 1, 5, none⟩ = some (.int .i64 0) := hq5.cell 5
 clear hr5 ha5 hb5 hq5
 cases g1 with
 | false =>
  go_wp2
  refine bodyPost_ret (v := resV g0 0 s0 e0 c0 l0) (by simp [results, Tryd.results11, go_sem, resV, r0, r1, r2, r3, r4, r5]) rfl ⟨⟨_, rfl, b0, b1, _, _, _, _, _, _, _, _, _, _, HQ0.out, HQ1.out, HF0.out, HF1.out, by unfold pickV; rw [if_neg (by simp)]⟩, ?_⟩
  (iterate 6 refine Kept.setCell ?_ (.inl (Nat.le_succ _)) _)
  exact HK5.out
 | true =>
  cases g0 with
  | false =>
   go_wp2
   refine bodyPost_ret (v := resV true 1 s1 e1 c1 l1) (by simp [results, Tryd.results11, go_sem, resV, q0, q1, q2, q3, q4, q5]) rfl ⟨⟨_, rfl, b0, b1, _, _, _, _, _, _, _, _, _, _, HQ0.out, HQ1.out, HF0.out, HF1.out, by unfold pickV; rw [if_pos (by simp)]⟩, ?_⟩
   (iterate 6 refine Kept.setCell ?_ (.inl (Nat.le_succ _)) _)
   exact HKq.out
  | true =>
   by_cases hlt : s0 < s1
   ·go_wp2
    refine bodyPost_ret (v := resV true 1 s1 e1 c1 l1) (by simp [results, Tryd.results11, go_sem, resV, q0, q1, q2, q3, q4, q5]) rfl ⟨⟨_, rfl, b0, b1, _, _, _, _, _, _, _, _, _, _, HQ0.out, HQ1.out, HF0.out, HF1.out, by unfold pickV; rw [if_pos (by simp [hlt])]⟩, ?_⟩
    (iterate 6 refine Kept.setCell ?_ (.inl (Nat.le_succ _)) _)
    exact HKq.out
   ·go_wp2
    refine bodyPost_ret (v := resV true 0 s0 e0 c0 l0) (by simp [results, Tryd.results11, go_sem, resV, r0, r1, r2, r3, r4, r5]) rfl ⟨⟨_, rfl, b0, b1, _, _, _, _, _, _, _, _, _, _, HQ0.out, HQ1.out, HF0.out, HF1.out, by unfold pickV; rw [if_neg (by simp [hlt])]⟩, ?_⟩
    (iterate 6 refine Kept.setCell ?_ (.inl (Nat.le_succ _)) _)
    exact HK5.out
structure OW where
 kind : Int
 sec : Int
 v : Value
 bs : List Int
def owCells : List OW → List Value
 | [] => []
 | p :: ps => .int .i64 p.kind :: .int .i64 p.sec :: p.v :: owCells ps
theorem owCells_kind (ps : List OW) (j : Nat) (h : j < ps.length) : (owCells ps)[j * 3]? = some (.int .i64 ps[j].kind) := by
 induction ps generalizing j with
 | nil => simp at h
 | cons p ps ih =>
  cases j with
  | zero => simp [owCells]
  | succ j => have := ih j (by simpa using h); rw [show (j + 1) * 3 = j * 3 + 1 + 1 + 1 from by omega]; simpa [owCells] using this
theorem owCells_sec (ps : List OW) (j : Nat) (h : j < ps.length) : (owCells ps)[j * 3 + 1]? = some (.int .i64 ps[j].sec) := by
 induction ps generalizing j with
 | nil => simp at h
 | cons p ps ih =>
  cases j with
  | zero => simp [owCells]
  | succ j => have := ih j (by simpa using h); rw [show (j + 1) * 3 + 1 = j * 3 + 1 + 1 + 1 + 1 from by omega]; simpa [owCells] using this
theorem owCells_v (ps : List OW) (j : Nat) (h : j < ps.length) : (owCells ps)[j * 3 + 2]? = some ps[j].v := by
 induction ps generalizing j with
 | nil => simp at h
 | cons p ps ih =>
  cases j with
  | zero => simp [owCells]
  | succ j => have := ih j (by simpa using h); rw [show (j + 1) * 3 + 2 = j * 3 + 2 + 1 + 1 + 1 from by omega]; simpa [owCells] using this
structure OwnO (base : Nat) (tw tb : TypeId) (w : World) (v : Value) (ps : List OW) : Prop where
 row : w.ownsRow base tw 3 v ps.length (owCells ps)
 data : ∀ p ∈ ps, Own base tb .u8 w p.v p.bs
 out : ∀ u ∈ ps.map OW.v, Apart v u
 each : (ps.map OW.v).Pairwise Apart
def footO (v : Value) (ps : List OW) (b : Nat) : Prop := v.ownBlock = some b ∨ ∃ p ∈ ps, p.v.ownBlock = some b
theorem OwnO.form {base : Nat} {tw tb : TypeId} {w : World} {v : Value} {ps : List OW} (h : OwnO base tw tb w v ps) :
  (v = .slice none 0 0 ∧ ps = []) ∨ ∃ g cap, v = .slice (some ⟨g, 0, none⟩) ps.length cap ∧ base ≤ g ∧ g < w.heap.size ∧ ps.length ≤ cap ∧ cap ≤ maxLen := by
 rcases h.row.2 with ⟨rfl, hn⟩ | ⟨g, cap, cur, rfl, hb, hgg, hc, hm, _⟩
 ·exact .inl ⟨rfl, List.length_eq_zero_iff.1 hn⟩
 ·exact .inr ⟨g, cap, rfl, hb, (Array.getElem?_eq_some_iff.1 hgg).1, hc, hm⟩
theorem OwnO.lt {base : Nat} {tw tb : TypeId} {w : World} {v : Value} {ps : List OW} (h : OwnO base tw tb w v ps) (b : Nat) (hb : footO v ps b) : base ≤ b ∧ b < w.heap.size := by
 rcases hb with hb | ⟨p, hp, hb⟩
 ·exact World.ownsRow.lt h.row b hb
 ·exact (h.data p hp).lt b hb
theorem OwnO.kind {base : Nat} {tw tb : TypeId} {w : World} {g n cap : Nat} {ps : List OW} (h : OwnO base tw tb w (.slice (some ⟨g, 0, none⟩) n cap) ps) (hn : n = ps.length) (j : Nat) (hj : j < ps.length) :
  w.cell? ⟨g, j * 3, none⟩ = some (.int .i64 ps[j].kind) := by
 subst hn
 rw [World.ownsRow.cellAt h.row (j * 3) (by omega), owCells_kind ps j hj]
theorem OwnO.sec {base : Nat} {tw tb : TypeId} {w : World} {g n cap : Nat} {ps : List OW} (h : OwnO base tw tb w (.slice (some ⟨g, 0, none⟩) n cap) ps) (hn : n = ps.length) (j : Nat) (hj : j < ps.length) :
  w.cell? ⟨g, j * 3 + 1, none⟩ = some (.int .i64 ps[j].sec) := by
 subst hn
 rw [World.ownsRow.cellAt h.row (j * 3 + 1) (by omega), owCells_sec ps j hj]
theorem OwnO.val {base : Nat} {tw tb : TypeId} {w : World} {g n cap : Nat} {ps : List OW} (h : OwnO base tw tb w (.slice (some ⟨g, 0, none⟩) n cap) ps) (hn : n = ps.length) (j : Nat) (hj : j < ps.length) :
  w.cell? ⟨g, j * 3 + 2, none⟩ = some ps[j].v := by
 subst hn
 rw [World.ownsRow.cellAt h.row (j * 3 + 2) (by omega), owCells_v ps j hj]
theorem OwnO.frozen {base : Nat} {tw tb : TypeId} {w : World} {g n cap : Nat} {ps : List OW} (h : OwnO base tw tb w (.slice (some ⟨g, 0, none⟩) n cap) ps) (hn : n = ps.length) (j : Nat) :
  w.frozen? ⟨g, j, none⟩ = false := by
 subst hn
 exact World.ownsRow.frozenAt h.row j
theorem OwnO.kept {R : Nat → Prop} {base : Nat} {tw tb : TypeId} {w w' : World} {v : Value} {ps : List OW} (h : OwnO base tw tb w v ps) (hk : Kept R w w') (hr : ∀ b, footO v ps b → ¬ R b) : OwnO base tw tb w' v ps :=
 ⟨hk.owns h.row (fun b hb => hr b (.inl hb)), fun p hp => (h.data p hp).kept hk (fun b hb => hr b (.inr ⟨p, hp, hb⟩)), h.out, h.each⟩
theorem OwnO.same {base : Nat} {tw tb : TypeId} {w w' : World} {v : Value} {ps : List OW} (h : OwnO base tw tb w v ps) (hk : Same w w') : OwnO base tw tb w' v ps :=
 h.kept hk (fun _ _ => id)
theorem OwnO.nil (base : Nat) (tw tb : TypeId) (w : World) : OwnO base tw tb w (.slice none 0 0) [] :=
 ⟨World.ownsRow_nil _ _ _ _, fun _ h => by simp at h, fun _ h => by simp at h, List.Pairwise.nil⟩
def dataO (ps : List OW) : List (Int × Int × List Int) := ps.map fun p => (p.kind, p.sec, p.bs)
def opsM (sl s e c l : Int) : List (Int × Int × List Int) := if mF s e c l = 0 ∧ 0 ≤ sl ∧ sl ≤ 1 then [(1, 1 - sl, mB s e c l), (2, 0, [])] else []
theorem opsM_yes {sl s e c l : Int} (h : mF s e c l = 0 ∧ 0 ≤ sl ∧ sl ≤ 1) : opsM sl s e c l = [(1, 1 - sl, mB s e c l), (2, 0, [])] := if_pos h
theorem opsM_no {sl s e c l : Int} (h : ¬ (mF s e c l = 0 ∧ 0 ≤ sl ∧ sl ≤ 1)) : opsM sl s e c l = [] := if_neg h
def OpsOut (tb : TypeId) (w w' : World) (ds : List (Int × Int × List Int)) (v : Value) : Prop :=
 ∃ a n cc ps, v = .slice a n cc ∧ dataO ps = ds ∧ OwnO 0 78 tb w' (.slice a n cc) ps ∧ (∀ b, footO (.slice a n cc) ps b → w.heap.size ≤ b) ∧ Same w w'
theorem ops_two {tb : TypeId} {w : World} {g n1 : Nat} {k1 s1 k2 s2 : Int} {a1 : Option Addr} {c1 : Nat} {bs : List Int} (hb : Blk w g 78 [.int .i64 k1, .int .i64 s1, .slice a1 n1 c1, .int .i64 k2, .int .i64 s2, .slice none 0 0]) (ho : Own 0 tb .u8 w (.slice a1 n1 c1) bs) (hg : ∀ b, (Value.slice a1 n1 c1).ownBlock = some b → b ≠ g) :
  OwnO 0 78 tb w (.slice (some ⟨g, 0, none⟩) 2 2) [⟨k1, s1, .slice a1 n1 c1, bs⟩, ⟨k2, s2, .slice none 0 0, []⟩] := by
 refine ⟨⟨rfl, .inr ⟨g, 2, _, rfl, Nat.zero_le _, hb, Nat.le_refl _, by unfold maxLen; decide, rfl, rfl⟩⟩, fun p hp => ?_, fun u hu => ?_, ?_⟩
 ·rcases List.mem_cons.1 hp with rfl | hp
  ·exact ho
  ·obtain rfl := List.mem_singleton.1 hp
   exact Own.nil _ _ _ _
 ·simp only [List.map_cons, List.map_nil, List.mem_cons, List.not_mem_nil, or_false] at hu
  rcases hu with rfl | rfl
  ·intro b hb' hu'
   have : g = b := by simpa [Value.ownBlock] using hb'
   exact hg b hu' this.symm
  ·intro b _ hu'
   simp [Value.ownBlock] at hu'
 ·simp only [List.map_cons, List.map_nil, List.pairwise_cons, List.not_mem_nil, false_imp_iff, implies_true, List.Pairwise.nil, and_true, List.mem_singleton]
  intro u hu
  subst hu
  intro b _ hu'
  simp [Value.ownBlock] at hu'
theorem implMO_any (sl s e c l : Int) (a0 a1 a2 : Addr) (w : World) (hE : Errs w a0 a1 a2) :
  Calls Tryd.prog 15 #[.int .i64 sl, .agg #[.int .i64 s, .int .i64 e, .int .i64 c, .int .i64 l]] w fun ex w' => ∃ v, ex = .returned v ∧ OpsOut 94 w w' (opsM sl s e c l) v := by
 have HK0 := hid (sameA w [.int .i64 s, .int .i64 e, .int .i64 c, .int .i64 l] 28)
 have k3 := implEM_any s e c l a0 a1 a2 _ (hE.same HK0.out)
 clear hE
 by_cases hg : mF s e c l = 0
 ·rw [encM_yes hg, mB_length] at k3
  by_cases hs : 0 ≤ sl ∧ sl ≤ 1
  ·rw [opsM_yes ⟨hg, hs⟩]
   have hw : IntKind.i64.wrap (1 - sl) = 1 - sl := by rw [IntKind.wrap_i64]; omega
   have h1 : ¬ sl < 0 := by omega
   have h2 : ¬ 2 ≤ sl := by omega
   clear hg hs
   go_enter Tryd.func15, Tryd.ntmps15
   go_wp2_with (go_at_call 26; (with_reducible refine k3.mono ?_); rintro ex w3 ⟨a3, c3, rfl, hf, ho, hk⟩; have HK3 := (show Hid (Same w w3) from HK0.out.trans hk); have HO3 := (show Hid (Own 0 94 .u8 w3 (.slice a3 512 c3) (mB s e c l)) from ho); have HF3 := (show Hid (∀ b, (Value.slice a3 512 c3).ownBlock = some b → w.heap.size ≤ b) from fun b hb => Nat.le_trans HK0.out.size (hf b hb)); clear hk ho hf)
   go_ret
   have hb := Blk.new w3 #[.int .i64 1, .int .i64 (1 - sl), .slice a3 512 c3, .int .i64 2, .int .i64 0, .slice none 0 0] 78
   have hlt := HO3.out.lt
   refine ⟨_, rfl, _, _, _, _, rfl, ?_, ops_two hb (HO3.out.same ((Kept.refl _ _).alloc _)) (fun b hb' e => by have := (hlt b hb').2; omega), fun b hb' => ?_, HK3.out.alloc _⟩
   ·rfl
   ·rcases hb' with hb' | ⟨p, hp, hb'⟩
    ·have : w3.heap.size = b := by simpa [Value.ownBlock] using hb'
     have := HK3.out.size
     omega
    ·rcases List.mem_cons.1 hp with rfl | hp
     ·exact HF3.out b hb'
     ·obtain rfl := List.mem_singleton.1 hp
      simp [Value.ownBlock] at hb'
  ·rw [opsM_no (fun h => hs h.2)]
   by_cases h1 : sl < 0
   ·clear hg hs
    go_enter Tryd.func15, Tryd.ntmps15
    go_wp2_with (go_at_call 26; (with_reducible refine k3.mono ?_); rintro ex w3 ⟨a3, c3, rfl, hf, ho, hk⟩; have HK3 := (show Hid (Same w w3) from HK0.out.trans hk); clear hk ho hf)
    go_ret
    refine ⟨_, rfl, none, 0, 0, [], rfl, rfl, OwnO.nil _ _ _ _, fun b hb' => ?_, HK3.out⟩
    rcases hb' with hb' | ⟨p, hp, _⟩
    ·simp [Value.ownBlock] at hb'
    ·simp at hp
   ·have h2 : 2 ≤ sl := by omega
    clear hg hs
    go_enter Tryd.func15, Tryd.ntmps15
    go_wp2_with (go_at_call 26; (with_reducible refine k3.mono ?_); rintro ex w3 ⟨a3, c3, rfl, hf, ho, hk⟩; have HK3 := (show Hid (Same w w3) from HK0.out.trans hk); clear hk ho hf)
    go_ret
    refine ⟨_, rfl, none, 0, 0, [], rfl, rfl, OwnO.nil _ _ _ _, fun b hb' => ?_, HK3.out⟩
    rcases hb' with hb' | ⟨p, hp, _⟩
    ·simp [Value.ownBlock] at hb'
    ·simp at hp
 ·rw [opsM_no (fun h => hg h.1)]
  rw [encM_no hg] at k3
  go_enter Tryd.func15, Tryd.ntmps15
  go_wp2_with (go_at_call 26; (with_reducible refine k3.mono ?_); rintro ex w3 ⟨a3, c3, rfl, hf, ho, hk⟩; have HK3 := (show Hid (Same w w3) from HK0.out.trans hk); clear hk ho hf)
  go_ret
  refine ⟨_, rfl, none, 0, 0, [], rfl, rfl, OwnO.nil _ _ _ _, fun b hb' => ?_, HK3.out⟩
  rcases hb' with hb' | ⟨p, hp, _⟩
  ·simp [Value.ownBlock] at hb'
  ·simp at hp
end Go.Proofs.YtnkollbhicmdhaaDoor
