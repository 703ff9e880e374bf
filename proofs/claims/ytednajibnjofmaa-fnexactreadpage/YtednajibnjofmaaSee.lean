/-
  spec.l1See, spec.DiskRead, impl.DiskRead.
-/
import Derived.Test.YtednajibnjofmaaClone
import Derived.Test.YtednajibnjofmaaValid
import Derived.Test.YtednajibnjofmaaPart
namespace Go.Proofs.Ytednajibnjofmaa
set_option maxHeartbeats 2000000
open Go.RowKit

/-- The bytes of the last write to a sector. -/
def lastP (s : Int) : List (Int × List Int) → Option (List Int)
  | [] => none
  | p :: ps => match lastP s ps with
    | some bs => some bs
    | none => if p.1 = s then some p.2 else none
theorem lastP_none (s : Int) (ds : List (Int × List Int)) (h : ∀ p ∈ ds, p.1 ≠ s) : lastP s ds = none := by
  induction ds with
  | nil => rfl
  | cons p ds ih => simp [lastP, ih (fun q hq => h q (List.mem_cons_of_mem _ hq)), h p (List.mem_cons_self ..)]
theorem lastP_append_none (s : Int) (ds es : List (Int × List Int)) (h : ∀ p ∈ es, p.1 ≠ s) : lastP s (ds ++ es) = lastP s ds := by
  induction ds with
  | nil => simpa [lastP] using lastP_none s es h
  | cons p ds ih => simp [lastP, ih]
theorem lastP_snoc (s : Int) (ds : List (Int × List Int)) (bs : List Int) : lastP s (ds ++ [(s, bs)]) = some bs := by
  induction ds with
  | nil => simp [lastP]
  | cons p ds ih => simp [lastP, ih]
/-- A sector as a reader sees it. -/
def seeD (s : Int) (dur : List Int) (ds : List (Int × List Int)) : List Int := (lastP s ds).getD ((dur.drop (s.toNat * 512)).take 512)
theorem seeD_at {s : Int} {dur : List Int} {ps : List PW} {k : Nat} (hk : k < ps.length) (hs : ps[k].sec = s) (h : ∀ j (hj : j < ps.length), k < j → ps[j].sec ≠ s) : seeD s dur (dataP ps) = ps[k].bs := by
  have e : dataP ps = (dataP (ps.take k) ++ [(s, ps[k].bs)]) ++ dataP (ps.drop (k + 1)) := by
    have e1 : ps = ps.take k ++ (ps[k] :: ps.drop (k + 1)) := by rw [← List.drop_eq_getElem_cons hk, List.take_append_drop]
    have e2 : dataP ps = dataP (ps.take k ++ (ps[k] :: ps.drop (k + 1))) := congrArg dataP e1
    have e3 : dataP (ps.take k ++ (ps[k] :: ps.drop (k + 1))) = dataP (ps.take k) ++ ((ps[k].sec, ps[k].bs) :: dataP (ps.drop (k + 1))) := by
      unfold dataP
      rw [List.map_append, List.map_cons]
    rw [e2, e3, hs, List.append_assoc]
    rfl
  unfold seeD
  rw [e, lastP_append_none, lastP_snoc]
  · rfl
  · intro p hp
    obtain ⟨q, hq, rfl⟩ := List.mem_map.1 hp
    obtain ⟨j, hj, rfl⟩ := List.getElem_of_mem hq
    simp only [List.length_drop] at hj
    rw [List.getElem_drop]
    exact h _ (by omega) (by omega)
theorem seeD_none {s : Int} {dur : List Int} {ps : List PW} (h : ∀ j (hj : j < ps.length), ps[j].sec ≠ s) : seeD s dur (dataP ps) = (dur.drop (s.toNat * 512)).take 512 := by
  unfold seeD
  rw [lastP_none]
  · rfl
  · intro p hp
    obtain ⟨q, hq, rfl⟩ := List.mem_map.1 hp
    obtain ⟨j, hj, rfl⟩ := List.getElem_of_mem hq
    exact h j hj

theorem l1See_any (dv pv : Value) (dur : List Int) (ps : List PW) (s : Int) (w : World) (h0 : 0 ≤ s) (h1 : s ≤ 1048576) (h2 : (s.toNat + 1) * 512 ≤ dur.length) (hd : dur.length ≤ 1099511627776) (hs : ∀ p ∈ ps, p.bs.length ≤ 1099511627776) (hv : RdD w dv pv dur ps) :
    Calls Try.prog 43 #[.agg #[dv, pv], .int .i64 s] w fun e w' => ∃ a n c, e = .returned (.slice a n c) ∧ Own 0 5 .u8 w' (.slice a n c) (seeD s dur (dataP ps)) ∧ (∀ b, (Value.slice a n c).ownBlock = some b → w.heap.size ≤ b) ∧ Same w w' := by
  have hn2 := hv.pend.len
  unfold maxLen at hn2
  obtain ⟨sn, rfl⟩ : ∃ sn : Nat, s = sn := ⟨s.toNat, by omega⟩
  simp only [Int.toNat_natCast] at h2
  obtain ⟨b0, o0, c0, rfl, hl0, hc0⟩ : ∃ b off c, dv = .slice (some ⟨b, off, none⟩) dur.length c ∧ dur.length ≤ c ∧ ∀ i, i < dur.length → w.cell? ⟨b, off + i, none⟩ = some (.int .u8 (dur.getD i 0)) := by
    rcases hv.dur.2 with ⟨rfl, _⟩ | h
    · simp at h2
    · exact h
  have e1 : ((sn : Int) * 512).toNat = sn * 512 := by omega
  have e2 : (((sn : Int) + 1) * 512).toNat = sn * 512 + 512 := by omega
  have g1 : ((sn : Int) + 1) * 512 ≤ (c0 : Int) := by omega
  have g2 : 0 ≤ ((sn : Int) + 1) * 512 := by omega
  have g3 : (sn : Int) * 512 ≤ ((sn : Int) + 1) * 512 := by omega
  have HC0 : Hid (∀ i, i < dur.length → w.cell? ⟨b0, o0 + i, none⟩ = some (.int .u8 (dur.getD i 0))) := hc0
  have HD : Hid (∀ wx, Same w wx → ∀ c, 512 ≤ c → Rd .u8 wx (.slice (some ⟨b0, o0 + sn * 512, none⟩) 512 c) ((dur.drop (sn * 512)).take 512)) := fun wx hk c h512 =>
    Rd.part (fun i hi => hk.cellOf (hc0 i hi) id) (sn * 512) 512 (by omega) rfl h512 (by simp [maxLen])
  clear hc0
  rcases hv.pend.row with ⟨rfl, a2, c2, rfl⟩ | ⟨b, off, c2, rfl, hc⟩
  · clear hv hn2 hs
    go_enter Try.func43, Try.ntmps43
    go_wp2
    refine wp_loop_rounds 1 ?_
    rw [rounds_succ]
    go_wp2_with fail
    refine (l1Copy_any _ _ _ (by simp; omega) (HD.out _ ((Kept.refl _ _).alloc _) (c0 - sn * 512) (by omega))).mono ?_
    rintro e w1 ⟨a, n, c, rfl, ho, hf, hk⟩
    have HO := (show Hid (Own 0 5 .u8 w1 (.slice a n c) ((dur.drop (sn * 512)).take 512)) from ho)
    have HF : Hid (∀ b, (Value.slice a n c).ownBlock = some b → w.heap.size ≤ b) := fun b hb => by have := hf b hb; simp at this; omega
    have HK : Hid (Same w w1) := ((Kept.refl _ _).alloc _).trans hk
    clear ho hf hk
    go_wp2
    go_ret
    exact ⟨a, n, c, rfl, HO.out, HF.out, HK.out⟩
  · have HP : Hid (RdP w (.slice (some ⟨b, off, none⟩) ps.length c2) ps) := hv.pend
    have HC : Hid (∀ i (h : i < ps.length), w.cell? ⟨b, off + i * 2, none⟩ = some (.int .i64 ps[i].sec) ∧ w.cell? ⟨b, off + i * 2 + 1, none⟩ = some ps[i].v) := hc
    have HS : Hid (∀ p ∈ ps, p.bs.length ≤ 1099511627776) := hs
    clear hv hc hs
    generalize hl : ps.length = len at hn2 HP ⊢
    have HL : Hid (ps.length = len) := hl
    clear hl
    by_cases hz : len = 0
    · subst hz
      have HN : Hid (seeD sn dur (dataP ps) = (dur.drop (sn * 512)).take 512) := by
        have h := seeD_none (s := sn) (dur := dur) (ps := ps) (fun j hj => by have := HL.out; omega)
        simpa [Hid] using h
      go_enter Try.func43, Try.ntmps43
      go_wp2
      refine wp_loop_rounds 1 ?_
      rw [rounds_succ]
      go_wp2_with fail
      refine (l1Copy_any _ _ _ (by simp; omega) (HD.out _ ((Kept.refl _ _).alloc _) (c0 - sn * 512) (by omega))).mono ?_
      rintro e w1 ⟨a, n, c, rfl, ho, hf, hk⟩
      rw [← HN.out] at ho
      have HO := (show Hid (Own 0 5 .u8 w1 (.slice a n c) (seeD sn dur (dataP ps))) from ho)
      have HF : Hid (∀ b, (Value.slice a n c).ownBlock = some b → w.heap.size ≤ b) := fun b hb => by have := hf b hb; simp at this; omega
      have HK : Hid (Same w w1) := ((Kept.refl _ _).alloc _).trans hk
      clear ho hf hk HN
      go_wp2
      go_ret
      exact ⟨a, n, c, rfl, HO.out, HF.out, HK.out⟩
    · go_enter Try.func43, Try.ntmps43
      go_wp2
      go_loop [5] (fun i => (∃ k : Nat, k < len ∧ i = .int .i64 k ∧ Hid (∀ j (hj : j < ps.length), k < j → ps[j].sec ≠ sn)) ∨ (i = .int .i64 (-1) ∧ Hid (∀ j (hj : j < ps.length), ps[j].sec ≠ sn))) (fun i => (intOf i + 1).toNat)
      case atStart => exact .inl ⟨len - 1, by omega, by congr 1; omega, fun j hj h => by have := HL.out; omega⟩
      case round =>
        rcases hrel with ⟨k, hlt, rfl, HV⟩ | ⟨rfl, HV⟩
        · have hlp : k < ps.length := by rw [HL.out]; exact hlt
          obtain ⟨a1, c1, ev1⟩ := (HP.out.data _ (List.getElem_mem hlp)).form
          have hrd := (HP.out.data _ (List.getElem_mem hlp)).same (w' := w.alloc (.cells #[.slice (some ⟨b0, o0, none⟩) dur.length c0, .slice (some ⟨b, off, none⟩) len c2] 32)) ((Kept.refl _ _).alloc _)
          have hm1 := HS.out _ (List.getElem_mem hlp)
          have hbw : b < w.heap.size := World.block_lt_of_cell? w ⟨b, off + k * 2, none⟩ (HC.out k hlp).1
          have q1 := (HC.out k hlp).1
          have q2 := (HC.out k hlp).2
          rw [ev1] at q2 hrd
          have HRD := (show Hid (Rd .u8 (w.alloc (.cells #[.slice (some ⟨b0, o0, none⟩) dur.length c0, .slice (some ⟨b, off, none⟩) len c2] 32)) (.slice a1 ps[k].bs.length c1) ps[k].bs) from hrd)
          clear ev1 hrd
          by_cases hs : ps[k].sec = sn
          · have HE : Hid (seeD sn dur (dataP ps) = ps[k].bs) := seeD_at hlp hs HV.out
            rw [hs] at q1
            clear hs
            go_wp2_with fail
            refine (l1Copy_any _ ps[k].bs _ hm1 HRD.out).mono ?_
            rintro e w1 ⟨a, n, c, rfl, ho, hf, hk⟩
            rw [← HE.out] at ho
            have HO := (show Hid (Own 0 5 .u8 w1 (.slice a n c) (seeD sn dur (dataP ps))) from ho)
            have HF : Hid (∀ b, (Value.slice a n c).ownBlock = some b → w.heap.size ≤ b) := fun b hb => by have := hf b hb; simp at this; omega
            have HK : Hid (Same w w1) := ((Kept.refl _ _).alloc _).trans hk
            clear ho hf hk HE
            go_wp2
            go_ret
            exact ⟨a, n, c, rfl, HO.out, HF.out, HK.out⟩
          · have hs' : (ps[k].sec == (sn : Int)) = false := by simpa using hs
            have HSS : Hid (ps[k].sec ≠ sn) := hs
            generalize ps[k].sec = sec at q1 hs'
            clear hs HRD hm1
            go_wp2
            go_round
            case rel =>
              by_cases hk0 : k = 0
              · refine .inr ⟨by congr 1; omega, fun j hj => ?_⟩
                by_cases e : j = k
                · subst e; exact HSS.out
                · exact HV.out j hj (by omega)
              · refine .inl ⟨k - 1, by omega, by congr 1; omega, fun j hj h => ?_⟩
                by_cases e : j = k
                · subst e; exact HSS.out
                · exact HV.out j hj (by omega)
            case measure => simp [intOf]
        · have HN : Hid (seeD sn dur (dataP ps) = (dur.drop (sn * 512)).take 512) := by
            have h := seeD_none (s := sn) (dur := dur) (ps := ps) HV.out
            simpa [Hid] using h
          go_wp2_with fail
          refine (l1Copy_any _ _ _ (by simp; omega) (HD.out _ ((Kept.refl _ _).alloc _) (c0 - sn * 512) (by omega))).mono ?_
          rintro e w1 ⟨a, n, c, rfl, ho, hf, hk⟩
          rw [← HN.out] at ho
          have HO := (show Hid (Own 0 5 .u8 w1 (.slice a n c) (seeD sn dur (dataP ps))) from ho)
          have HF : Hid (∀ b, (Value.slice a n c).ownBlock = some b → w.heap.size ≤ b) := fun b hb => by have := hf b hb; simp at this; omega
          have HK : Hid (Same w w1) := ((Kept.refl _ _).alloc _).trans hk
          clear ho hf hk HN
          go_wp2
          go_ret
          exact ⟨a, n, c, rfl, HO.out, HF.out, HK.out⟩

/-- bs is what a read tells. -/
def IsRead (s : Int) (dur : List Int) (ds : List (Int × List Int)) (bs : List Int) : Prop :=
  (Valid dur.length ds ∧ 0 ≤ s ∧ s < (dur.length / 512 : Nat) ∧ bs = seeD s dur ds) ∨ (¬ (Valid dur.length ds ∧ 0 ≤ s ∧ s < (dur.length / 512 : Nat)) ∧ bs = [])
theorem IsRead.one {s : Int} {dur : List Int} {ds : List (Int × List Int)} {bs cs : List Int} (h : IsRead s dur ds bs) (k : IsRead s dur ds cs) : bs = cs := by
  rcases h with ⟨h1, h2, h3, rfl⟩ | ⟨h, rfl⟩ <;> rcases k with ⟨k1, k2, k3, rfl⟩ | ⟨k, rfl⟩
  · rfl
  · exact absurd ⟨h1, h2, h3⟩ k
  · exact absurd ⟨k1, k2, k3⟩ h
  · rfl

theorem lastP_mem (s : Int) (ds : List (Int × List Int)) (bs : List Int) (h : lastP s ds = some bs) : ∃ p ∈ ds, p.2 = bs := by
  induction ds with
  | nil => simp [lastP] at h
  | cons p ds ih =>
    unfold lastP at h
    split at h
    · next cs hc =>
      obtain ⟨q, hq, e⟩ := ih (by rw [hc, ← h])
      exact ⟨q, List.mem_cons_of_mem _ hq, e⟩
    · split at h
      · simp at h
        exact ⟨p, List.mem_cons_self .., h⟩
      · simp at h
theorem IsRead.len {s : Int} {dur : List Int} {ds : List (Int × List Int)} {bs : List Int} (h : IsRead s dur ds bs) : bs.length ≤ 512 := by
  rcases h with ⟨hv, _, _, rfl⟩ | ⟨_, rfl⟩
  · unfold seeD
    cases hl : lastP s ds with
    | none => simp; omega
    | some cs =>
      obtain ⟨p, hp, rfl⟩ := lastP_mem s ds cs hl
      have := (hv.2 p hp).2.2
      simp [this]
  · simp

end Go.Proofs.Ytednajibnjofmaa
