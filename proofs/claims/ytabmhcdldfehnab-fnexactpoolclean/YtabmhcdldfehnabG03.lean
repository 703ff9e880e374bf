import Derived.Test.YtabmhcdldfehnabG02
import Derived.Test.YtabmhcdldfehnabG00
namespace Go.Proofs.Ytabmhcdldfehnab
set_option maxRecDepth 100000
set_option maxHeartbeats 4000000
open Go.RowKit
set_option linter.unusedVariables false
set_option linter.unusedSimpArgs false
def bad3 (f : EFrame) : Bool := if f.page = -1 then (decide (0 < f.bs.length) || f.pins != 0 || f.dirty || f.rl != 0 || f.rf) else (!inB f.page 0 15 || f.bs.length != 4096 || !inB f.pins 0 2147483647)
def bad4 (f : EFrame) : Bool := (f.dirty && !inB f.rl 1 1099511627776) || (!f.dirty && f.rl != 0)
def dupAt (ps : List EFrame) (i : Nat) : Bool := match ps[i]? with
  | some p => p.page != -1 && (ps.take i).any (fun q => p.page == q.page)
  | none => false
def dup (ps : List EFrame) : Bool := (List.range ps.length).any (dupAt ps)
def poolF (ps : List EFrame) (hand : Int) : Int :=
  if ps.length < 1 ∨ 16 < ps.length then 1 else if hand < 0 ∨ (ps.length : Int) ≤ hand then 2 else if ps.any bad3 then 3 else if ps.any bad4 then 4 else if dup ps then 5 else 0
theorem any_take {ps : List EFrame} {f : EFrame → Bool} {k : Nat} (h : (ps.take k).any f = false) (hk : k < ps.length) (hf : f ps[k] = false) : (ps.take (k + 1)).any f = false := by
  rw [List.take_succ_eq_append_getElem hk, List.any_append, h]
  simp [hf]
theorem any_yes {ps : List EFrame} {f : EFrame → Bool} {k : Nat} (hk : k < ps.length) (hf : f ps[k] = true) : ps.any f = true := List.any_eq_true.2 ⟨_, List.getElem_mem hk, hf⟩
theorem specPoolFault_any (v : Value) (hand : Int) (ps : List EFrame) (w : World) (hv : RdR kFrame w v ps) :
    Calls Try.prog 26 #[.agg #[v, .int .i64 hand]] w fun e w' => e = .returned (.int .i64 (poolF ps hand)) ∧ Same w w' := by
  obtain ⟨a, c, rfl⟩ := hv.form
  have hmax := hv.max
  unfold maxLen at hmax
  have HV := (show Hid (RdR kFrame w (.slice a ps.length c) ps) from hv)
  clear hv
  have HB0 := (show Hid (Blk (w.alloc (.cells #[.slice a ps.length c, .int .i64 hand] 28)) w.heap.size 28 [.slice a ps.length c, .int .i64 hand]) from Blk.newL w [.slice a ps.length c, .int .i64 hand] 28)
  have HK0 := hid (sameA w [.slice a ps.length c, .int .i64 hand] 28)
  obtain ⟨len, hl⟩ : ∃ n, ps.length = n := ⟨_, rfl⟩
  have HL : Hid (ps.length = len) := hl
  obtain ⟨R, hR⟩ : ∃ R, poolF ps hand = R := ⟨_, rfl⟩
  rw [hR]
  unfold poolF at hR
  rw [hl] at HV HB0 HK0 hmax hR ⊢
  clear hl
  by_cases h1 : len < 1 ∨ 16 < len
  · rw [if_pos h1] at hR
    subst hR
    by_cases h1a : len < 1
    · have q : ((len : Int) < 1) := by omega
      clear h1
      go_enter Try.func26, Try.ntmps26
      go_wp2
      go_ret
      exact ⟨rfl, HK0.out⟩
    · have q : ¬ ((len : Int) < 1) := by omega
      have q2 : (16 : Int) < (len : Int) := by omega
      clear h1
      go_enter Try.func26, Try.ntmps26
      go_wp2
      go_ret
      exact ⟨rfl, HK0.out⟩
  rw [if_neg h1] at hR
  have q1 : ¬ ((len : Int) < 1) := by omega
  have q2 : ¬ ((16 : Int) < (len : Int)) := by omega
  have hl16 : len ≤ 16 := by omega
  clear h1
  by_cases h2 : hand < 0 ∨ (len : Int) ≤ hand
  · rw [if_pos h2] at hR
    subst hR
    by_cases h2a : hand < 0
    · clear h2
      go_enter Try.func26, Try.ntmps26
      go_wp2
      go_ret
      exact ⟨rfl, HK0.out⟩
    · have q3 : (len : Int) ≤ hand := by omega
      clear h2
      go_enter Try.func26, Try.ntmps26
      go_wp2
      go_ret
      exact ⟨rfl, HK0.out⟩
  rw [if_neg h2] at hR
  have q3 : ¬ hand < 0 := by omega
  have q4 : ¬ (len : Int) ≤ hand := by omega
  clear h2
  rcases HV.out.row with ⟨hps, _⟩ | ⟨b, off, c', he, hc⟩
  · have := HL.out
    rw [hps] at this
    simp at this
    omega
  injection he with he1 he2 he3
  subst he1 he3
  have HC : Hid (∀ j i, (h : j < ps.length) → i < 6 → w.cell? ⟨b, off + (j * 6 + i), none⟩ = (kFrame.cells ps[j])[i]?) := hc
  have HR : Hid ((if ps.any bad3 then 3 else if ps.any bad4 then 4 else if dup ps then 5 else 0) = R) := hR
  clear hc hR he2
  go_enter Try.func26, Try.ntmps26
  go_wp2_with fail
  go_loopw [3] (fun i wr => ∃ k : Nat, k ≤ len ∧ i = .int .i64 k ∧ Hid ((ps.take k).any bad3 = false) ∧ Hid (Same w wr) ∧ Hid (Blk wr w.heap.size 28 [.slice (some ⟨b, off, none⟩) len c, .int .i64 hand])) (fun i _ => len - (intOf i).toNat)
  case atStart => exact ⟨0, Nat.zero_le _, rfl, by simp [Hid], HK0, HB0⟩
  case round =>
    obtain ⟨k, hk, rfl, HA, HK, HB⟩ := hrel
    obtain ⟨g0, g1⟩ := HB.out.all2
    by_cases hlt : k < len
    · have hlp : k < ps.length := by rw [HL.out]; exact hlt
      obtain ⟨p, hp⟩ : ∃ p, ps[k] = p := ⟨_, rfl⟩
      have hform := (show Rd .u8 w ps[k].v ps[k].bs from HV.out.data _ (List.getElem_mem hlp)).form
      have hm1 := (show Rd .u8 w ps[k].v ps[k].bs from HV.out.data _ (List.getElem_mem hlp)).1
      have hcc : ∀ i, i < 6 → wr.cell? ⟨b, off + (k * 6 + i), none⟩ = (kFrame.cells ps[k])[i]? := fun i hi => by
        have h := HC.out k i hlp hi
        have hlen : (kFrame.cells ps[k]).length = 6 := kFrame.len _
        rw [List.getElem?_eq_getElem (by omega)] at h ⊢
        exact HK.out.cellOf h id
      rw [hp] at hform hm1 hcc
      have HP : Hid (ps[k] = p) := hp
      clear hp
      obtain ⟨pg, pv, fb, pn, dt, rl, rf⟩ := p
      obtain ⟨a1, c1, e1⟩ := hform
      dsimp only at e1 hm1
      subst e1
      obtain ⟨n1, hn1⟩ : ∃ n, fb.length = n := ⟨_, rfl⟩
      have HN : Hid (fb.length = n1) := hn1
      rw [hn1] at hcc hm1
      unfold maxLen at hm1
      have d0 : wr.cell? ⟨b, off + k * 6, none⟩ = some (.int .i64 pg) := by have h := hcc 0 (by decide); exact h
      have d1 : wr.cell? ⟨b, off + k * 6 + 1, none⟩ = some (.slice a1 n1 c1) := by have h := hcc 1 (by decide); rw [← Nat.add_assoc] at h; exact h
      have d2 : wr.cell? ⟨b, off + k * 6 + 2, none⟩ = some (.int .i64 pn) := by have h := hcc 2 (by decide); rw [← Nat.add_assoc] at h; exact h
      have d3 : wr.cell? ⟨b, off + k * 6 + 3, none⟩ = some (.bool dt) := by have h := hcc 3 (by decide); rw [← Nat.add_assoc] at h; exact h
      have d4 : wr.cell? ⟨b, off + k * 6 + 4, none⟩ = some (.int .i64 rl) := by have h := hcc 4 (by decide); rw [← Nat.add_assoc] at h; exact h
      have d5 : wr.cell? ⟨b, off + k * 6 + 5, none⟩ = some (.bool rf) := by have h := hcc 5 (by decide); rw [← Nat.add_assoc] at h; exact h
      have HKa := (show Hid (Same w (wr.alloc (.cells #[.int .i64 pg, .slice a1 n1 c1, .int .i64 pn, .bool dt, .int .i64 rl, .bool rf] 46))) from HK.out.alloc _)
      have HBa := (show Hid (Blk (wr.alloc (.cells #[.int .i64 pg, .slice a1 n1 c1, .int .i64 pn, .bool dt, .int .i64 rl, .bool rf] 46)) w.heap.size 28 [.slice (some ⟨b, off, none⟩) len c, .int .i64 hand]) from HB.out.same ((Kept.refl _ _).alloc _))
      have ba := Blk.newL wr [.int .i64 pg, .slice a1 n1 c1, .int .i64 pn, .bool dt, .int .i64 rl, .bool rf] 46
      clear hcc hn1
      by_cases h1 : pg = -1
      · subst h1
        by_cases e1 : 0 < n1
        · have e1' : (0 : Int) < (n1 : Int) := by omega
          go_wp2
          go_ret
          have hb3 : bad3 ps[k] = true := by rw [HP.out]; simp [bad3, HN.out, e1]
          exact ⟨by have h := HR.out; rw [if_pos (any_yes hlp hb3)] at h; subst h; rfl, HKa.out⟩
        obtain rfl : n1 = 0 := by omega
        by_cases e2 : pn = 0
        · subst e2
          cases dt with
          | true =>
            go_wp2
            go_ret
            have hb3 : bad3 ps[k] = true := by rw [HP.out]; simp [bad3, HN.out, ]
            exact ⟨by have h := HR.out; rw [if_pos (any_yes hlp hb3)] at h; subst h; rfl, HKa.out⟩
          | false =>
            by_cases e3 : rl = 0
            · subst e3
              cases rf with
              | true =>
                go_wp2
                go_ret
                have hb3 : bad3 ps[k] = true := by rw [HP.out]; simp [bad3, HN.out, ]
                exact ⟨by have h := HR.out; rw [if_pos (any_yes hlp hb3)] at h; subst h; rfl, HKa.out⟩
              | false =>
                go_wp2
                go_roundw
                case rel => exact ⟨k + 1, by omega, by go_num, any_take HA.out hlp (by rw [HP.out]; simp [bad3, HN.out, ]), HKa, HBa⟩
                case measure => simp [intOf]; omega
            · go_wp2
              go_ret
              have hb3 : bad3 ps[k] = true := by rw [HP.out]; simp [bad3, HN.out, e3]
              exact ⟨by have h := HR.out; rw [if_pos (any_yes hlp hb3)] at h; subst h; rfl, HKa.out⟩
        · go_wp2
          go_ret
          have hb3 : bad3 ps[k] = true := by rw [HP.out]; simp [bad3, HN.out, e2]
          exact ⟨by have h := HR.out; rw [if_pos (any_yes hlp hb3)] at h; subst h; rfl, HKa.out⟩
      · have k1 := fun wx => l4In_any pg 0 15 wx
        have k2 := fun wx => l4In_any pn 0 2147483647 wx
        cases f1 : inB pg 0 15 with
        | false =>
          rw [f1] at k1
          go_wp2_with fail
          refine (k1 _).mono ?_
          rintro e w1 ⟨rfl, hk1⟩
          have HK1 := (show Hid (Same w w1) from HKa.out.trans hk1)
          go_wp2
          go_ret
          have hb3 : bad3 ps[k] = true := by rw [HP.out]; simp [bad3, HN.out, h1, f1]
          exact ⟨by have h := HR.out; rw [if_pos (any_yes hlp hb3)] at h; subst h; rfl, HK1.out⟩
        | true =>
          rw [f1] at k1
          go_wp2_with fail
          refine (k1 _).mono ?_
          rintro e w1 ⟨rfl, hk1⟩
          have HK1 := (show Hid (Same w w1) from HKa.out.trans hk1)
          have HB1 := hid (HBa.out.same hk1)
          have b1 := ba.same hk1
          obtain ⟨c0, c1', c2, c3, c4, c5⟩ := b1.all6
          clear hk1
          by_cases e1 : n1 = 4096
          · subst e1
            cases f2 : inB pn 0 2147483647 with
            | false =>
              rw [f2] at k2
              go_wp2_with fail
              refine (k2 _).mono ?_
              rintro e w2 ⟨rfl, hk2⟩
              have HK2 := (show Hid (Same w w2) from HK1.out.trans hk2)
              go_wp2
              go_ret
              have hb3 : bad3 ps[k] = true := by rw [HP.out]; simp [bad3, HN.out, h1, f1, f2]
              exact ⟨by have h := HR.out; rw [if_pos (any_yes hlp hb3)] at h; subst h; rfl, HK2.out⟩
            | true =>
              rw [f2] at k2
              go_wp2_with fail
              refine (k2 _).mono ?_
              rintro e w2 ⟨rfl, hk2⟩
              have HK2 := (show Hid (Same w w2) from HK1.out.trans hk2)
              have HB2 := hid (HB1.out.same hk2)
              go_wp2
              go_roundw
              case rel => exact ⟨k + 1, by omega, by go_num, any_take HA.out hlp (by rw [HP.out]; simp [bad3, HN.out, h1, f1, f2]), HK2, HB2⟩
              case measure => simp [intOf]; omega
          · have e1' : ¬ (n1 : Int) = 4096 := by omega
            go_wp2
            go_ret
            have hb3 : bad3 ps[k] = true := by rw [HP.out]; simp [bad3, HN.out, h1, f1, e1]
            exact ⟨by have h := HR.out; rw [if_pos (any_yes hlp hb3)] at h; subst h; rfl, HK1.out⟩
    · obtain rfl : len = k := by omega
      have HA3 : Hid (ps.any bad3 = false) := by have h := HA.out; rw [← HL.out, List.take_length] at h; exact h
      have HR4 : Hid ((if ps.any bad4 then 4 else if dup ps then 5 else 0) = R) := by have h := HR.out; rw [HA3.out] at h; exact h
      clear HA HR HA3
      go_wp2_with fail
      go_loopw [5] (fun i wr2 => ∃ k : Nat, k ≤ len ∧ i = .int .i64 k ∧ Hid ((ps.take k).any bad4 = false) ∧ Hid (Same w wr2) ∧ Hid (Blk wr2 w.heap.size 28 [.slice (some ⟨b, off, none⟩) len c, .int .i64 hand])) (fun i _ => len - (intOf i).toNat)
      case atStart => exact ⟨0, Nat.zero_le _, rfl, by simp [Hid], HK, HB⟩
      case round =>
        obtain ⟨k, hk, rfl, HA, HK2, HB2⟩ := hrel
        obtain ⟨g0, g1⟩ := HB2.out.all2
        by_cases hlt : k < len
        · have hlp : k < ps.length := by rw [HL.out]; exact hlt
          obtain ⟨p, hp⟩ : ∃ p, ps[k] = p := ⟨_, rfl⟩
          have hform := (show Rd .u8 w ps[k].v ps[k].bs from HV.out.data _ (List.getElem_mem hlp)).form
          have hm1 := (show Rd .u8 w ps[k].v ps[k].bs from HV.out.data _ (List.getElem_mem hlp)).1
          have hcc : ∀ i, i < 6 → wr.cell? ⟨b, off + (k * 6 + i), none⟩ = (kFrame.cells ps[k])[i]? := fun i hi => by
            have h := HC.out k i hlp hi
            have hlen : (kFrame.cells ps[k]).length = 6 := kFrame.len _
            rw [List.getElem?_eq_getElem (by omega)] at h ⊢
            exact HK2.out.cellOf h id
          rw [hp] at hform hm1 hcc
          have HP : Hid (ps[k] = p) := hp
          clear hp
          obtain ⟨pg, pv, fb, pn, dt, rl, rf⟩ := p
          obtain ⟨a1, c1, e1⟩ := hform
          dsimp only at e1 hm1
          subst e1
          obtain ⟨n1, hn1⟩ : ∃ n, fb.length = n := ⟨_, rfl⟩
          have HN : Hid (fb.length = n1) := hn1
          rw [hn1] at hcc hm1
          unfold maxLen at hm1
          have d0 : wr.cell? ⟨b, off + k * 6, none⟩ = some (.int .i64 pg) := by have h := hcc 0 (by decide); exact h
          have d1 : wr.cell? ⟨b, off + k * 6 + 1, none⟩ = some (.slice a1 n1 c1) := by have h := hcc 1 (by decide); rw [← Nat.add_assoc] at h; exact h
          have d2 : wr.cell? ⟨b, off + k * 6 + 2, none⟩ = some (.int .i64 pn) := by have h := hcc 2 (by decide); rw [← Nat.add_assoc] at h; exact h
          have d3 : wr.cell? ⟨b, off + k * 6 + 3, none⟩ = some (.bool dt) := by have h := hcc 3 (by decide); rw [← Nat.add_assoc] at h; exact h
          have d4 : wr.cell? ⟨b, off + k * 6 + 4, none⟩ = some (.int .i64 rl) := by have h := hcc 4 (by decide); rw [← Nat.add_assoc] at h; exact h
          have d5 : wr.cell? ⟨b, off + k * 6 + 5, none⟩ = some (.bool rf) := by have h := hcc 5 (by decide); rw [← Nat.add_assoc] at h; exact h
          have HKa := (show Hid (Same w (wr.alloc (.cells #[.int .i64 pg, .slice a1 n1 c1, .int .i64 pn, .bool dt, .int .i64 rl, .bool rf] 46))) from HK2.out.alloc _)
          have HBa := (show Hid (Blk (wr.alloc (.cells #[.int .i64 pg, .slice a1 n1 c1, .int .i64 pn, .bool dt, .int .i64 rl, .bool rf] 46)) w.heap.size 28 [.slice (some ⟨b, off, none⟩) len c, .int .i64 hand]) from HB2.out.same ((Kept.refl _ _).alloc _))
          have ba := Blk.newL wr [.int .i64 pg, .slice a1 n1 c1, .int .i64 pn, .bool dt, .int .i64 rl, .bool rf] 46
          clear hcc hn1
          have k1 := fun wx => l4In_any rl 1 1099511627776 wx
          cases dt with
          | true =>
            cases f1 : inB rl 1 1099511627776 with
            | false =>
              rw [f1] at k1
              go_wp2_with fail
              refine (k1 _).mono ?_
              rintro e w1 ⟨rfl, hk1⟩
              have HK1 := (show Hid (Same w w1) from HKa.out.trans hk1)
              go_wp2
              go_ret
              have hb4 : bad4 ps[k] = true := by rw [HP.out]; simp [bad4, f1]
              exact ⟨by have h := HR4.out; rw [if_pos (any_yes hlp hb4)] at h; subst h; rfl, HK1.out⟩
            | true =>
              rw [f1] at k1
              go_wp2_with fail
              refine (k1 _).mono ?_
              rintro e w1 ⟨rfl, hk1⟩
              have HK1 := (show Hid (Same w w1) from HKa.out.trans hk1)
              have HB1 := hid (HBa.out.same hk1)
              have b1 := ba.same hk1
              obtain ⟨c0, c1', c2, c3, c4, c5⟩ := b1.all6
              clear hk1
              go_wp2
              go_roundw
              case rel => exact ⟨k + 1, by omega, by go_num, any_take HA.out hlp (by rw [HP.out]; simp [bad4, f1]), HK1, HB1⟩
              case measure => simp [intOf]; omega
          | false =>
            by_cases e3 : rl = 0
            · subst e3
              go_wp2
              go_roundw
              case rel => exact ⟨k + 1, by omega, by go_num, any_take HA.out hlp (by rw [HP.out]; simp [bad4, ]), HKa, HBa⟩
              case measure => simp [intOf]; omega
            · go_wp2
              go_ret
              have hb4 : bad4 ps[k] = true := by rw [HP.out]; simp [bad4, e3]
              exact ⟨by have h := HR4.out; rw [if_pos (any_yes hlp hb4)] at h; subst h; rfl, HKa.out⟩
        · obtain rfl : len = k := by omega
          have HA4 : Hid (ps.any bad4 = false) := by have h := HA.out; rw [← HL.out, List.take_length] at h; exact h
          have HR5 : Hid ((if dup ps then 5 else 0) = R) := by have h := HR4.out; rw [HA4.out] at h; exact h
          clear HA HR4 HA4
          go_wp2_with fail
          go_loopw [7] (fun i wr3 => ∃ k : Nat, k ≤ len ∧ i = .int .i64 k ∧ Hid (∀ j, j < k → dupAt ps j = false) ∧ Hid (Same w wr3) ∧ Hid (Blk wr3 w.heap.size 28 [.slice (some ⟨b, off, none⟩) len c, .int .i64 hand])) (fun i _ => len - (intOf i).toNat)
          case atStart => exact ⟨0, Nat.zero_le _, rfl, fun j hj => absurd hj (by omega), HK2, HB2⟩
          case round =>
            obtain ⟨k, hk, rfl, HA, HK3, HB3⟩ := hrel
            obtain ⟨g0, g1⟩ := HB3.out.all2
            by_cases hlt : k < len
            · have hlp : k < ps.length := by rw [HL.out]; exact hlt
              obtain ⟨pg, hpg⟩ : ∃ x, ps[k].page = x := ⟨_, rfl⟩
              have HPG : Hid (ps[k].page = pg) := hpg
              have HCK : Hid (w.cell? ⟨b, off + k * 6, none⟩ = some (.int .i64 pg)) := by have h := HC.out k 0 hlp (by decide); rw [← hpg]; exact h
              clear hpg
              go_wp2_with fail
              go_loopw [8] (fun j wr4 => ∃ m : Nat, m ≤ k ∧ j = .int .i64 m ∧ Hid (pg = -1 ∨ (ps.take m).any (fun q => pg == q.page) = false) ∧ Hid (Same w wr4) ∧ Hid (Blk wr4 w.heap.size 28 [.slice (some ⟨b, off, none⟩) len c, .int .i64 hand])) (fun j _ => k - (intOf j).toNat)
              case atStart => exact ⟨0, Nat.zero_le _, rfl, .inr (by simp), HK3, HB3⟩
              case round =>
                obtain ⟨m, hm, rfl, HM, HK4, HB4⟩ := hrel
                by_cases hmk : m < k
                · have hmp : m < ps.length := by omega
                  obtain ⟨qg, hqg⟩ : ∃ x, ps[m].page = x := ⟨_, rfl⟩
                  have HQG : Hid (ps[m].page = qg) := hqg
                  have HCM : Hid (w.cell? ⟨b, off + m * 6, none⟩ = some (.int .i64 qg)) := by have h := HC.out m 0 hmp (by decide); rw [← hqg]; exact h
                  clear hqg
                  have hki : (k : Int) < (len : Int) := by omega
                  have hmi : (m : Int) < (len : Int) := by omega
                  have hmki : (m : Int) < (k : Int) := by omega
                  go_wp2_with fail
                  have hS : (fun wx : World => wx.cell? ⟨w.heap.size, 0, none⟩ = some (.slice (some ⟨b, off, none⟩) len c) ∧ wx.cell? ⟨b, off + k * 6, none⟩ = some (.int .i64 pg) ∧ wx.cell? ⟨b, off + m * 6, none⟩ = some (.int .i64 qg)) wr.drew := ⟨HB4.out.drew.cell 0, HK4.out.drew.cellOf HCK.out id, HK4.out.drew.cellOf HCM.out id⟩
                  refine wp_region_V (fun wx : World => wx.cell? ⟨w.heap.size, 0, none⟩ = some (.slice (some ⟨b, off, none⟩) len c) ∧ wx.cell? ⟨b, off + k * 6, none⟩ = some (.int .i64 pg) ∧ wx.cell? ⟨b, off + m * 6, none⟩ = some (.int .i64 qg)) 99 22 rfl (by kernel_rfl) ?_
                  refine tk 0 125 hS ?_
                  refine tk 1 126 hS ?_
                  refine tk 2 127 hS ?_
                  refine tkV 3 128 (.pointer (some ⟨b, off + k * 6, none⟩)) hS ?_
                  refine tk 4 129 hS ?_
                  refine tk 5 130 hS ?_
                  by_cases h1 : pg = -1
                  · subst h1
                    refine tk 6 131 hS ?_
                    refine tk 7 132 hS ?_
                    refine tkS 8 133 hS ?_
                    refine tkS 9 134 hS ?_
                    refine tkS 10 135 hS ?_
                    refine tkS 11 136 hS ?_
                    refine tkS 12 137 hS ?_
                    refine tkS 13 138 hS ?_
                    refine tkS 14 139 hS ?_
                    refine tkS 15 140 hS ?_
                    refine tkS 16 141 hS ?_
                    refine tkS 17 142 hS ?_
                    refine tkS 18 143 hS ?_
                    refine tkS 19 144 hS ?_
                    refine tkS 20 145 hS ?_
                    refine tk 21 146 hS ?_
                    refine wpAnyV_done (by kernel_rfl) ?_
                    go_wp2
                    go_roundw
                    case rel => exact ⟨m + 1, by omega, by go_num, show Hid (_ ∨ _) from .inl (by first | rfl | trivial | decide), HK4.out.drew, HB4.out.drew⟩
                    case measure => simp [intOf]; omega
                  · have e1 : (pg != -1) = true := by simp [h1]
                    refine tk 6 131 hS ?_
                    refine tk 7 132 hS ?_
                    refine tk 8 133 hS ?_
                    refine tk 9 134 hS ?_
                    refine tk 10 135 hS ?_
                    refine tkV 11 136 (.pointer (some ⟨b, off + k * 6, none⟩)) hS ?_
                    refine tk 12 137 hS ?_
                    refine tk 13 138 hS ?_
                    refine tk 14 139 hS ?_
                    refine tk 15 140 hS ?_
                    refine tk 16 141 hS ?_
                    refine tkV 17 142 (.pointer (some ⟨b, off + m * 6, none⟩)) hS ?_
                    refine tk 18 143 hS ?_
                    refine tk 19 144 hS ?_
                    refine tk 20 145 hS ?_
                    refine tk 21 146 hS ?_
                    refine wpAnyV_done (by kernel_rfl) ?_
                    by_cases h2 : pg = qg
                    · subst h2
                      have hda : dupAt ps k = true := by
                        unfold dupAt
                        rw [List.getElem?_eq_getElem hlp]
                        dsimp only
                        rw [HPG.out, e1, Bool.true_and]
                        refine List.any_eq_true.2 ⟨ps[m], ?_, by rw [HQG.out]; simp⟩
                        rw [List.mem_take_iff_getElem]
                        exact ⟨m, by omega, rfl⟩
                      have hdu : dup ps = true := List.any_eq_true.2 ⟨k, List.mem_range.2 hlp, hda⟩
                      go_wp2
                      go_ret
                      exact ⟨by have h := HR5.out; rw [if_pos hdu] at h; subst h; rfl, HK4.out.drew⟩
                    · go_wp2
                      go_roundw
                      case rel =>
                        refine ⟨m + 1, by omega, by go_num, .inr ?_, HK4.out.drew, HB4.out.drew⟩
                        have h := HM.out.resolve_left h1
                        rw [List.take_succ_eq_append_getElem hmp, List.any_append, h]
                        simp [HQG.out, h2]
                      case measure => simp [intOf]; omega
                · obtain rfl : k = m := by omega
                  go_wp2
                  go_roundw
                  case rel =>
                    refine ⟨k + 1, by omega, by go_num, fun j hj => ?_, HK4, HB4⟩
                    by_cases hjk : j < k
                    · exact HA.out j hjk
                    · obtain rfl : j = k := by omega
                      unfold dupAt
                      rw [List.getElem?_eq_getElem hlp]
                      dsimp only
                      rw [HPG.out]
                      rcases HM.out with h | h
                      · rw [h]; rfl
                      · rw [h, Bool.and_false]
                  case measure => simp [intOf]; omega
            · obtain rfl : len = k := by omega
              have hd : dup ps = false := by
                unfold dup
                rw [HL.out]
                apply List.any_eq_false.2
                intro j hj
                rw [HA.out j (List.mem_range.1 hj)]
                decide
              go_wp2
              go_ret
              exact ⟨by have h := HR5.out; rw [hd] at h; simp only [Bool.false_eq_true, if_false] at h; subst h; rfl, HK3.out⟩
end Go.Proofs.Ytabmhcdldfehnab

namespace Go.Proofs.Ytabmhcdldfehnab
open Go.RowKit
set_option linter.unusedVariables false
set_option linter.unusedSimpArgs false
def isPageB (x : Int) : Bool := decide (0 ≤ x) && decide (x < 16)
set_option maxRecDepth 100000 in
theorem isPage_eq (x : Int) (w : World) : Calls Try.prog 50 #[.int .i64 x] w fun e w' => e = .returned (.bool (isPageB x)) ∧ w' = w := by
  unfold isPageB
  by_cases h : 0 ≤ x
  · by_cases h2 : x < 16
    · go_enter Try.func50, Try.ntmps50
      go_wp2
      go_ret
      exact ⟨by simp [h, h2], rfl⟩
    · go_enter Try.func50, Try.ntmps50
      go_wp2
      go_ret
      exact ⟨by simp [h]; omega, rfl⟩
  · go_enter Try.func50, Try.ntmps50
    go_wp2
    go_ret
    exact ⟨by rw [show decide (0 ≤ x) = false from by simp; omega]; rfl, rfl⟩
end Go.Proofs.Ytabmhcdldfehnab

namespace Go.Proofs.Ytabmhcdldfehnab
set_option maxRecDepth 100000
set_option maxHeartbeats 4000000
open Go.RowKit
set_option linter.unusedVariables false
set_option linter.unusedSimpArgs false
theorem lsn7_any (x : Int) (w : World) : Calls Try.prog 57 #[.int .i64 x] w fun e w' => e = .returned (.bool (inB x 0 1099511627776)) ∧ w' = w := by
  unfold inB
  by_cases h : 0 ≤ x
  · by_cases h2 : x ≤ 1099511627776
    · go_enter Try.func57, Try.ntmps57
      go_wp2
      go_ret
      exact ⟨by simp [h, h2], rfl⟩
    · go_enter Try.func57, Try.ntmps57
      go_wp2
      go_ret
      exact ⟨by simp [h]; try omega, rfl⟩
  · go_enter Try.func57, Try.ntmps57
    go_wp2
    go_ret
    exact ⟨by rw [show decide (0 ≤ x) = false from by simp; omega]; rfl, rfl⟩
theorem chLSN_any (x : Int) (w : World) : Calls Try.prog 56 #[.int .i64 x] w fun e w' => e = .returned (.bool (inB x 1 1099511627776)) ∧ w' = w := by
  have k0 := lsn7_any x
  have hx : inB x 1 1099511627776 = (inB x 0 1099511627776 && x != 0) := by
    unfold inB
    rw [Bool.eq_iff_iff]
    simp
    omega
  rw [hx]
  cases f : inB x 0 1099511627776 with
  | true =>
    rw [f] at k0
    by_cases h : x = 0
    · subst h
      go_enter Try.func56, Try.ntmps56
      go_wp2_with fail
      refine (k0 _).mono ?_
      rintro e w1 ⟨rfl, rfl⟩
      go_wp2
      go_ret
      exact ⟨rfl, rfl⟩
    · have hb : (x != 0) = true := by simp [h]
      rw [hb]
      go_enter Try.func56, Try.ntmps56
      go_wp2_with fail
      refine (k0 _).mono ?_
      rintro e w1 ⟨rfl, rfl⟩
      go_wp2
      go_ret
      exact ⟨rfl, rfl⟩
  | false =>
    rw [f] at k0
    go_enter Try.func56, Try.ntmps56
    go_wp2_with fail
    refine (k0 _).mono ?_
    rintro e w1 ⟨rfl, rfl⟩
    go_wp2
    go_ret
    exact ⟨rfl, rfl⟩
theorem wrongFrame_any (p : EFrame) (a : Option Addr) (c : Nat) (w : World) (hv : p.v = .slice a p.bs.length c) :
    Calls Try.prog 46 #[.agg #[.int .i64 p.page, p.v, .int .i64 p.pins, .bool p.dirty, .int .i64 p.rl, .bool p.rf]] w fun e w' => e = .returned (.bool (bad3 p)) ∧ Same w w' := by
  obtain ⟨B, hB⟩ : ∃ B, bad3 p = B := ⟨_, rfl⟩
  rw [hB, hv]
  unfold bad3 at hB
  obtain ⟨pg, pv, fb, pn, dt, rl, rf⟩ := p
  dsimp only at hB ⊢
  obtain ⟨n, hn⟩ : ∃ n, fb.length = n := ⟨_, rfl⟩
  rw [hn] at hB ⊢
  clear hn hv
  have HB0 := (show Hid (Blk (w.alloc (.cells #[.int .i64 pg, .slice a n c, .int .i64 pn, .bool dt, .int .i64 rl, .bool rf] 46)) w.heap.size 46 [.int .i64 pg, .slice a n c, .int .i64 pn, .bool dt, .int .i64 rl, .bool rf]) from Blk.newL w [.int .i64 pg, .slice a n c, .int .i64 pn, .bool dt, .int .i64 rl, .bool rf] 46)
  have HK0 := hid (sameA w [.int .i64 pg, .slice a n c, .int .i64 pn, .bool dt, .int .i64 rl, .bool rf] 46)
  obtain ⟨c0, c1, c2, c3, c4, c5⟩ := HB0.out.all6
  by_cases h0 : pg = -1
  · rw [if_pos h0] at hB
    subst h0
    by_cases h1 : n = 0
    · subst h1
      by_cases h2 : pn = 0
      · subst h2
        cases dt with
        | true =>
          subst hB
          go_enter Try.func46, Try.ntmps46
          go_wp2
          go_ret
          exact ⟨by simp, HK0.out⟩
        | false =>
          by_cases h4 : rl = 0
          · subst h4
            cases rf with
            | true =>
              subst hB
              go_enter Try.func46, Try.ntmps46
              go_wp2
              go_ret
              exact ⟨by simp, HK0.out⟩
            | false =>
              subst hB
              go_enter Try.func46, Try.ntmps46
              go_wp2
              go_ret
              exact ⟨by simp, HK0.out⟩
          · have q4 : (rl != 0) = true := by simp [h4]
            subst hB
            go_enter Try.func46, Try.ntmps46
            go_wp2
            go_ret
            exact ⟨by simp [h4], HK0.out⟩
      · have q2 : (pn != 0) = true := by simp [h2]
        subst hB
        go_enter Try.func46, Try.ntmps46
        go_wp2
        go_ret
        exact ⟨by simp [h2], HK0.out⟩
    · have q1 : ¬ (n : Int) = 0 := by omega
      subst hB
      go_enter Try.func46, Try.ntmps46
      go_wp2
      go_ret
      exact ⟨by simp; omega, HK0.out⟩
  · rw [if_neg h0] at hB
    have hpg : isPageB pg = inB pg 0 15 := by
      unfold isPageB inB
      rw [Bool.eq_iff_iff]
      simp
      omega
    have k0 := isPage_eq pg
    rw [hpg] at k0
    cases f : inB pg 0 15 with
    | false =>
      rw [f] at k0 hB
      simp at hB
      subst hB
      go_enter Try.func46, Try.ntmps46
      go_wp2_with fail
      refine (k0 _).mono ?_
      rintro e w1 ⟨rfl, rfl⟩
      go_wp2
      go_ret
      exact ⟨rfl, HK0.out⟩
    | true =>
      rw [f] at k0 hB
      by_cases h1 : n = 4096
      · subst h1
        by_cases h2 : pn < 0
        · have q : inB pn 0 2147483647 = false := by simp [inB]; omega
          rw [q] at hB
          subst hB
          go_enter Try.func46, Try.ntmps46
          go_wp2_with fail
          refine (k0 _).mono ?_
          rintro e w1 ⟨rfl, rfl⟩
          go_wp2
          go_ret
          exact ⟨by simp, HK0.out⟩
        · by_cases h3 : 2147483647 < pn
          · have q : inB pn 0 2147483647 = false := by simp [inB]; omega
            rw [q] at hB
            subst hB
            go_enter Try.func46, Try.ntmps46
            go_wp2_with fail
            refine (k0 _).mono ?_
            rintro e w1 ⟨rfl, rfl⟩
            go_wp2
            go_ret
            exact ⟨by simp, HK0.out⟩
          · have q : inB pn 0 2147483647 = true := by simp [inB]; omega
            rw [q] at hB
            subst hB
            go_enter Try.func46, Try.ntmps46
            go_wp2_with fail
            refine (k0 _).mono ?_
            rintro e w1 ⟨rfl, rfl⟩
            go_wp2
            go_ret
            exact ⟨by simp; omega, HK0.out⟩
      · have q1 : ¬ (n : Int) = 4096 := by omega
        have q2 : (n != 4096) = true := by simp [h1]
        rw [q2] at hB
        subst hB
        go_enter Try.func46, Try.ntmps46
        go_wp2_with fail
        refine (k0 _).mono ?_
        rintro e w1 ⟨rfl, rfl⟩
        go_wp2
        go_ret
        exact ⟨by simp, HK0.out⟩
theorem wrongRecLSN_any (p : EFrame) (a : Option Addr) (c : Nat) (w : World) (hv : p.v = .slice a p.bs.length c) :
    Calls Try.prog 47 #[.agg #[.int .i64 p.page, p.v, .int .i64 p.pins, .bool p.dirty, .int .i64 p.rl, .bool p.rf]] w fun e w' => e = .returned (.bool (bad4 p)) ∧ Same w w' := by
  obtain ⟨B, hB⟩ : ∃ B, bad4 p = B := ⟨_, rfl⟩
  rw [hB, hv]
  unfold bad4 at hB
  obtain ⟨pg, pv, fb, pn, dt, rl, rf⟩ := p
  dsimp only at hB ⊢
  obtain ⟨n, hn⟩ : ∃ n, fb.length = n := ⟨_, rfl⟩
  rw [hn]
  clear hn hv
  have HB0 := (show Hid (Blk (w.alloc (.cells #[.int .i64 pg, .slice a n c, .int .i64 pn, .bool dt, .int .i64 rl, .bool rf] 46)) w.heap.size 46 [.int .i64 pg, .slice a n c, .int .i64 pn, .bool dt, .int .i64 rl, .bool rf]) from Blk.newL w [.int .i64 pg, .slice a n c, .int .i64 pn, .bool dt, .int .i64 rl, .bool rf] 46)
  have HK0 := hid (sameA w [.int .i64 pg, .slice a n c, .int .i64 pn, .bool dt, .int .i64 rl, .bool rf] 46)
  obtain ⟨c0, c1, c2, c3, c4, c5⟩ := HB0.out.all6
  have k0 := chLSN_any rl
  cases dt with
  | true =>
    cases f : inB rl 1 1099511627776 with
    | true =>
      rw [f] at k0 hB
      subst hB
      go_enter Try.func47, Try.ntmps47
      go_wp2_with fail
      refine (k0 _).mono ?_
      rintro e w1 ⟨rfl, rfl⟩
      go_wp2
      go_ret
      exact ⟨rfl, HK0.out⟩
    | false =>
      rw [f] at k0 hB
      subst hB
      go_enter Try.func47, Try.ntmps47
      go_wp2_with fail
      refine (k0 _).mono ?_
      rintro e w1 ⟨rfl, rfl⟩
      go_wp2
      go_ret
      exact ⟨rfl, HK0.out⟩
  | false =>
    by_cases h : rl = 0
    · subst h
      subst hB
      go_enter Try.func47, Try.ntmps47
      go_wp2
      go_ret
      exact ⟨rfl, HK0.out⟩
    · have q : (rl != 0) = true := by simp [h]
      rw [q] at hB
      subst hB
      go_enter Try.func47, Try.ntmps47
      go_wp2
      go_ret
      exact ⟨rfl, HK0.out⟩
end Go.Proofs.Ytabmhcdldfehnab

namespace Go.Proofs.Ytabmhcdldfehnab
set_option maxRecDepth 100000
set_option maxHeartbeats 4000000
open Go.RowKit
set_option linter.unusedVariables false
set_option linter.unusedSimpArgs false
def idxFrom (f : EFrame → Bool) : Nat → List EFrame → Int
  | _, [] => -1
  | k, p :: ps => if f p = true then (k : Int) else idxFrom f (k + 1) ps
theorem idxFrom_at {f : EFrame → Bool} {ps : List EFrame} {k : Nat} (hk : k < ps.length) :
    idxFrom f k (ps.drop k) = if f ps[k] = true then (k : Int) else idxFrom f (k + 1) (ps.drop (k + 1)) := by
  rw [List.drop_eq_getElem_cons hk]
  rfl
theorem idxFrom_end {f : EFrame → Bool} {ps : List EFrame} : idxFrom f ps.length (ps.drop ps.length) = -1 := by
  rw [List.drop_length]
  rfl
theorem idxFrom_any (f : EFrame → Bool) (ps : List EFrame) (k : Nat) : decide (0 ≤ idxFrom f k ps) = ps.any f := by
  induction ps generalizing k with
  | nil => rfl
  | cons p ps ih =>
    rw [List.any_cons]
    by_cases h : f p = true
    · have e : idxFrom f k (p :: ps) = k := if_pos h
      rw [e, h]; simp
    · have e : idxFrom f k (p :: ps) = idxFrom f (k + 1) ps := if_neg h
      rw [e, ih (k + 1), show f p = false from by simpa using h]; simp
def Enters (fid : FuncId) : Prop := ∀ (args : Array Value) (wx : World), (callFunc fid args).run Try.prog wx = .ok (.enter fid args) wx
def Asks0 (fid : FuncId) (f : EFrame → Bool) (w : World) (ps : List EFrame) : Prop :=
  ∀ (p : EFrame) (wx : World) (a : Option Addr) (c : Nat), p ∈ ps → p.v = .slice a p.bs.length c → Same w wx → Calls Try.prog fid #[.agg #[.int .i64 p.page, p.v, .int .i64 p.pins, .bool p.dirty, .int .i64 p.rl, .bool p.rf]] wx fun e w' => e = .returned (.bool (f p)) ∧ Same wx w'
theorem indexF0_any (fid : FuncId) (f : EFrame → Bool) (v : Value) (ps : List EFrame) (w : World) (hv : RdR kFrame w v ps) (hent : Enters fid) (hf : Asks0 fid f w ps) :
    Calls Try.prog 55 #[v, .func (.func fid) #[] #[]] w fun e w' => e = .returned (.int .i64 (idxFrom f 0 ps)) ∧ Same w w' := by
  have hmax := hv.max
  unfold maxLen at hmax
  rcases hv.row with ⟨rfl, a, c, rfl⟩ | ⟨b, off, c, rfl, hc⟩
  · clear hv hmax hf
    go_enter Try.func55, Try.ntmps55
    go_wp2
    refine wp_loop_rounds 1 ?_
    rw [rounds_succ]
    go_wp2
    go_ret
    exact ⟨rfl, Kept.refl _ _⟩
  · have HV := (show Hid (RdR kFrame w (.slice (some ⟨b, off, none⟩) ps.length c) ps) from hv)
    have HC : Hid (∀ j i, (h : j < ps.length) → i < 6 → w.cell? ⟨b, off + (j * 6 + i), none⟩ = (kFrame.cells ps[j])[i]?) := hc
    have HF : Hid (Asks0 fid f w ps) := hf
    obtain ⟨R, hR⟩ : ∃ R, idxFrom f 0 ps = R := ⟨_, rfl⟩
    have HR : Hid (idxFrom f 0 (ps.drop 0) = R) := by rw [List.drop_zero]; exact hR
    rw [hR]
    clear hv hc hf hR
    have hent' : ∀ (args : Array Value) (wx : World), (callFunc fid args).run Try.prog wx = .ok (.enter fid args) wx := hent
    clear hent
    generalize hl : ps.length = len at hmax HV ⊢
    have HL : Hid (ps.length = len) := hl
    clear hl
    go_enter Try.func55, Try.ntmps55
    go_wp2
    go_loopw [8] (fun i wr => ∃ k : Nat, k ≤ len ∧ i = .int .i64 k ∧ Hid (idxFrom f k (ps.drop k) = R) ∧ Hid (Same w wr)) (fun i _ => len - (intOf i).toNat)
    case atStart => exact ⟨0, Nat.zero_le _, rfl, HR, Kept.refl _ _⟩
    case round =>
      obtain ⟨k, hk, rfl, HA, HK⟩ := hrel
      by_cases hlt : k < len
      · have hlp : k < ps.length := by rw [HL.out]; exact hlt
        obtain ⟨a1, c1, e1⟩ := (show Rd .u8 w ps[k].v ps[k].bs from HV.out.data _ (List.getElem_mem hlp)).form
        have d0 : wr.cell? ⟨b, off + k * 6, none⟩ = some (.int .i64 ps[k].page) := HK.out.cellOf (p := ⟨b, off + k * 6, none⟩) (by have h := HC.out k 0 hlp (by decide); exact h) id
        have d1 : wr.cell? ⟨b, off + k * 6 + 1, none⟩ = some (ps[k].v) := HK.out.cellOf (p := ⟨b, off + k * 6 + 1, none⟩) (by have h := HC.out k 1 hlp (by decide); rw [← Nat.add_assoc] at h; exact h) id
        have d2 : wr.cell? ⟨b, off + k * 6 + 2, none⟩ = some (.int .i64 ps[k].pins) := HK.out.cellOf (p := ⟨b, off + k * 6 + 2, none⟩) (by have h := HC.out k 2 hlp (by decide); rw [← Nat.add_assoc] at h; exact h) id
        have d3 : wr.cell? ⟨b, off + k * 6 + 3, none⟩ = some (.bool ps[k].dirty) := HK.out.cellOf (p := ⟨b, off + k * 6 + 3, none⟩) (by have h := HC.out k 3 hlp (by decide); rw [← Nat.add_assoc] at h; exact h) id
        have d4 : wr.cell? ⟨b, off + k * 6 + 4, none⟩ = some (.int .i64 ps[k].rl) := HK.out.cellOf (p := ⟨b, off + k * 6 + 4, none⟩) (by have h := HC.out k 4 hlp (by decide); rw [← Nat.add_assoc] at h; exact h) id
        have d5 : wr.cell? ⟨b, off + k * 6 + 5, none⟩ = some (.bool ps[k].rf) := HK.out.cellOf (p := ⟨b, off + k * 6 + 5, none⟩) (by have h := HC.out k 5 hlp (by decide); rw [← Nat.add_assoc] at h; exact h) id
        have HA2 : Hid ((if f ps[k] = true then (k : Int) else idxFrom f (k + 1) (ps.drop (k + 1))) = R) := by have h := HA.out; rw [idxFrom_at hlp] at h; exact h
        have kf := HF.out ps[k] wr a1 c1 (List.getElem_mem hlp) e1 HK.out
        rw [e1] at d1 kf
        cases hb : f ps[k] with
        | true =>
          have HE : Hid ((k : Int) = R) := by have h := HA2.out; rw [if_pos hb] at h; exact h
          rw [hb] at kf
          clear HA2 HA e1 hb
          go_wp2_with fail
          refine kf.mono ?_
          rintro e w1 ⟨rfl, hk1⟩
          have HK1 := (show Hid (Same w w1) from HK.out.trans hk1)
          clear d0 d1 d2 d3 d4 d5 kf hk1
          go_wp2
          go_ret
          exact ⟨by rw [← HE.out]; rfl, HK1.out⟩
        | false =>
          have HE : Hid (idxFrom f (k + 1) (ps.drop (k + 1)) = R) := by have h := HA2.out; rw [if_neg (by simp [hb])] at h; exact h
          rw [hb] at kf
          clear HA2 HA e1 hb
          go_wp2_with fail
          refine kf.mono ?_
          rintro e w1 ⟨rfl, hk1⟩
          have HK1 := (show Hid (Same w w1) from HK.out.trans hk1)
          clear d0 d1 d2 d3 d4 d5 kf hk1
          go_wp2
          go_roundw
          case rel => exact ⟨k + 1, by omega, by go_num, HE, HK1⟩
          case measure => simp [intOf]; omega
      · obtain rfl : len = k := by omega
        have he : (-1 : Int) = R := by have h := HA.out; rw [← HL.out, idxFrom_end] at h; exact h
        go_wp2
        go_ret
        exact ⟨by rw [← he]; rfl, HK.out⟩
theorem containsF0_any (fid : FuncId) (f : EFrame → Bool) (v : Value) (ps : List EFrame) (w : World) (hv : RdR kFrame w v ps) (hent : Enters fid) (hf : Asks0 fid f w ps) :
    Calls Try.prog 45 #[v, .func (.func fid) #[] #[]] w fun e w' => e = .returned (.bool (ps.any f)) ∧ Same w w' := by
  have k0 := indexF0_any fid f v ps w hv hent hf
  have hx := idxFrom_any f ps 0
  obtain ⟨a, c, rfl⟩ := hv.form
  generalize idxFrom f 0 ps = r at k0 hx
  rw [← hx]
  clear hx hv hf hent
  go_enter Try.func45, Try.ntmps45
  go_wp2_with fail
  refine k0.mono ?_
  rintro e w1 ⟨rfl, hk1⟩
  go_wp2
  go_ret
  exact ⟨rfl, hk1⟩
theorem enters_wf : Enters 46 := fun args wx => by simp [callFunc, go_sem, Try.func46, Try.f46]
end Go.Proofs.Ytabmhcdldfehnab

namespace Go.Proofs.Ytabmhcdldfehnab
set_option maxRecDepth 100000
set_option maxHeartbeats 4000000
open Go.RowKit
set_option linter.unusedVariables false
set_option linter.unusedSimpArgs false
def heldV (ps : List EFrame) (k : Nat) : List Value := (List.range 16).map fun (x : Nat) => .bool ((ps.take k).any fun q => q.page == (x : Int))
theorem heldV_length (ps : List EFrame) (k : Nat) : (heldV ps k).length = 16 := by simp [heldV]
theorem heldV_at (ps : List EFrame) (k x : Nat) (h : x < 16) : (heldV ps k)[x]? = some (.bool ((ps.take k).any fun q => q.page == (x : Int))) := by simp [heldV, h]
theorem heldV_zero (ps : List EFrame) : heldV ps 0 = [.bool false, .bool false, .bool false, .bool false, .bool false, .bool false, .bool false, .bool false, .bool false, .bool false, .bool false, .bool false, .bool false, .bool false, .bool false, .bool false] := rfl
theorem heldV_skip {ps : List EFrame} {k : Nat} (hk : k < ps.length) (h : ps[k].page = -1) : heldV ps (k + 1) = heldV ps k := by
  unfold heldV
  rw [List.take_succ_eq_append_getElem hk]
  apply List.map_congr_left
  intro x _
  have : (ps[k].page == (x : Int)) = false := by rw [h]; simp
  rw [List.any_append]
  simp [this]
theorem heldV_step {ps : List EFrame} {k x : Nat} (hk : k < ps.length) (hx : x < 16) (h : ps[k].page = (x : Int)) : (heldV ps k).set x (.bool true) = heldV ps (k + 1) := by
  apply List.ext_getElem?
  intro i
  by_cases hi : i < 16
  · rw [heldV_at ps (k + 1) i hi, List.take_succ_eq_append_getElem hk, List.any_append]
    by_cases he : i = x
    · subst he
      rw [List.getElem?_set_self (by rw [heldV_length]; exact hi)]
      simp [h]
    · rw [List.getElem?_set_ne (by omega), heldV_at ps k i hi]
      have : (ps[k].page == (i : Int)) = false := by rw [h]; simp; omega
      simp [this]
  · rw [List.getElem?_eq_none (by rw [List.length_set, heldV_length]; omega), List.getElem?_eq_none (by rw [heldV_length]; omega)]
def PageOK (p : EFrame) : Prop := p.page = -1 ∨ ∃ x : Nat, p.page = (x : Int) ∧ x < 16
theorem pageOK_of {p : EFrame} (h : bad3 p = false) : PageOK p := by
  unfold bad3 at h
  by_cases hm : p.page = -1
  · exact .inl hm
  · rw [if_neg hm] at h
    simp [inB] at h
    exact .inr ⟨p.page.toNat, by omega, by omega⟩
theorem any_range_step {f : Nat → Bool} {k : Nat} (h : (List.range k).any f = false) (hk : f k = false) : (List.range (k + 1)).any f = false := by
  rw [List.range_succ, List.any_append, h]
  simp [hk]
theorem pageTwice_any (v : Value) (ps : List EFrame) (w : World) (hv : RdR kFrame w v ps) (hp : ∀ p ∈ ps, PageOK p) :
    Calls Try.prog 48 #[v] w fun e w' => e = .returned (.bool (dup ps)) ∧ Same w w' := by
  have hmax := hv.max
  unfold maxLen at hmax
  rcases hv.row with ⟨rfl, a, c, rfl⟩ | ⟨b, off, c, rfl, hc⟩
  · clear hv hmax hp
    go_enter Try.func48, Try.ntmps48
    go_wp2
    refine wp_loop_rounds 1 ?_
    rw [rounds_succ]
    go_wp2
    go_ret
    exact ⟨rfl, (Kept.refl _ _).alloc _⟩
  · have HV := (show Hid (RdR kFrame w (.slice (some ⟨b, off, none⟩) ps.length c) ps) from hv)
    have HC : Hid (∀ j i, (h : j < ps.length) → i < 6 → w.cell? ⟨b, off + (j * 6 + i), none⟩ = (kFrame.cells ps[j])[i]?) := hc
    have HP : Hid (∀ p ∈ ps, PageOK p) := hp
    obtain ⟨R, hR⟩ : ∃ R, dup ps = R := ⟨_, rfl⟩
    have HR : Hid (dup ps = R) := hR
    rw [hR]
    clear hv hc hp hR
    generalize hl : ps.length = len at hmax HV ⊢
    have HL : Hid (ps.length = len) := hl
    clear hl
    have HB0 := (show Hid (Blk (w.alloc (.cells #[.bool false, .bool false, .bool false, .bool false, .bool false, .bool false, .bool false, .bool false, .bool false, .bool false, .bool false, .bool false, .bool false, .bool false, .bool false, .bool false] 84)) w.heap.size 84 (heldV ps 0)) from by rw [heldV_zero]; exact Blk.newL w [.bool false, .bool false, .bool false, .bool false, .bool false, .bool false, .bool false, .bool false, .bool false, .bool false, .bool false, .bool false, .bool false, .bool false, .bool false, .bool false] 84)
    go_enter Try.func48, Try.ntmps48
    go_wp2
    go_loopw [8] (fun i wr => ∃ k : Nat, k ≤ len ∧ i = .int .i64 k ∧ Hid ((List.range k).any (dupAt ps) = false) ∧ Hid (Blk wr w.heap.size 84 (heldV ps k)) ∧ Hid (Same w wr)) (fun i _ => len - (intOf i).toNat)
    case atStart => exact ⟨0, Nat.zero_le _, rfl, rfl, HB0, (Kept.refl _ _).alloc _⟩
    case round =>
      obtain ⟨k, hk, rfl, HA, HB, HK⟩ := hrel
      by_cases hlt : k < len
      · have hlp : k < ps.length := by rw [HL.out]; exact hlt
        obtain ⟨a1, c1, e1⟩ := (show Rd .u8 w ps[k].v ps[k].bs from HV.out.data _ (List.getElem_mem hlp)).form
        have hpk := HP.out ps[k] (List.getElem_mem hlp)
        have hda : dupAt ps k = (ps[k].page != -1 && (ps.take k).any (fun q => ps[k].page == q.page)) := by unfold dupAt; rw [List.getElem?_eq_getElem hlp]
        have d0 : wr.cell? ⟨b, off + k * 6, none⟩ = some (.int .i64 ps[k].page) := HK.out.cellOf (p := ⟨b, off + k * 6, none⟩) (by have h := HC.out k 0 hlp (by decide); exact h) id
        have d1 : wr.cell? ⟨b, off + k * 6 + 1, none⟩ = some (ps[k].v) := HK.out.cellOf (p := ⟨b, off + k * 6 + 1, none⟩) (by have h := HC.out k 1 hlp (by decide); rw [← Nat.add_assoc] at h; exact h) id
        have d2 : wr.cell? ⟨b, off + k * 6 + 2, none⟩ = some (.int .i64 ps[k].pins) := HK.out.cellOf (p := ⟨b, off + k * 6 + 2, none⟩) (by have h := HC.out k 2 hlp (by decide); rw [← Nat.add_assoc] at h; exact h) id
        have d3 : wr.cell? ⟨b, off + k * 6 + 3, none⟩ = some (.bool ps[k].dirty) := HK.out.cellOf (p := ⟨b, off + k * 6 + 3, none⟩) (by have h := HC.out k 3 hlp (by decide); rw [← Nat.add_assoc] at h; exact h) id
        have d4 : wr.cell? ⟨b, off + k * 6 + 4, none⟩ = some (.int .i64 ps[k].rl) := HK.out.cellOf (p := ⟨b, off + k * 6 + 4, none⟩) (by have h := HC.out k 4 hlp (by decide); rw [← Nat.add_assoc] at h; exact h) id
        have d5 : wr.cell? ⟨b, off + k * 6 + 5, none⟩ = some (.bool ps[k].rf) := HK.out.cellOf (p := ⟨b, off + k * 6 + 5, none⟩) (by have h := HC.out k 5 hlp (by decide); rw [← Nat.add_assoc] at h; exact h) id
        rw [e1] at d1
        obtain ⟨pg, hpg⟩ : ∃ x, ps[k].page = x := ⟨_, rfl⟩
        unfold PageOK at hpk
        rw [hpg] at hpk d0 hda
        have HPG : Hid (ps[k].page = pg) := hpg
        have hwl : w.heap.size < wr.heap.size := HB.out.lt
        have hki : (k : Int) < (len : Int) := by omega
        clear hpg e1
        rcases hpk with rfl | ⟨x, rfl, hx⟩
        · have HD : Hid (dupAt ps k = false) := by rw [hda]; rfl
          clear hda
          go_wp2
          go_roundw
          case rel => exact ⟨k + 1, by omega, by go_num, any_range_step HA.out HD.out, by rw [heldV_skip hlp HPG.out]; exact HB.out.same ((Kept.refl _ _).alloc _), HK.out.alloc _⟩
          case measure => simp [intOf]; omega
        · have hcx := HB.out.cell x
          rw [heldV_at ps k x hx] at hcx
          have fz := HB.out.frozen
          have hsame : ((ps.take k).any fun q => (x : Int) == q.page) = (ps.take k).any fun q => q.page == (x : Int) := by
            congr 1
            funext q
            rw [Bool.eq_iff_iff]
            simp
            omega
          rw [hsame, show ((x : Int) != -1) = true from by simp, Bool.true_and] at hda
          cases hb : (ps.take k).any fun q => q.page == (x : Int) with
          | true =>
            rw [hb] at hcx hda
            have HD : Hid (dupAt ps k = true) := hda
            clear hda hb hsame
            go_wp2
            go_ret
            refine ⟨?_, HK.out.alloc _⟩
            rw [← HR.out, show dup ps = true from List.any_eq_true.2 ⟨k, by simpa using hlp, HD.out⟩]
            rfl
          | false =>
            rw [hb] at hcx hda
            have HD : Hid (dupAt ps k = false) := hda
            clear hda hb hsame
            go_wp2
            go_roundw
            case rel =>
              refine ⟨k + 1, by omega, by go_num, any_range_step HA.out HD.out, ?_, ?_⟩
              · rw [← heldV_step hlp hx HPG.out]
                exact (HB.out.stored x (.bool true)).alloc _
              · exact (Kept.setCell HK.out (p := ⟨w.heap.size, x, none⟩) (.inl (Nat.le_refl _)) _).alloc _
            case measure => simp [intOf]; omega
      · obtain rfl : len = k := by omega
        go_wp2
        go_ret
        refine ⟨?_, HK.out⟩
        have h := HA.out
        rw [← HL.out] at h
        rw [← HR.out, show dup ps = false from h]
        rfl
end Go.Proofs.Ytabmhcdldfehnab

namespace Go.Proofs.Ytabmhcdldfehnab
set_option maxRecDepth 100000
set_option maxHeartbeats 4000000
open Go.RowKit
set_option linter.unusedVariables false
set_option linter.unusedSimpArgs false
theorem enters_wr : Enters 47 := fun args wx => by simp [callFunc, go_sem, Try.func47, Try.f47]
theorem implPoolFault_any (v : Value) (hand : Int) (ps : List EFrame) (w : World) (hv : RdR kFrame w v ps) :
    Calls Try.prog 33 #[.agg #[v, .int .i64 hand]] w fun e w' => e = .returned (.int .i64 (poolF ps hand)) ∧ Same w w' := by
  obtain ⟨a, c, rfl⟩ := hv.form
  have hmax := hv.max
  unfold maxLen at hmax
  have HV := (show Hid (RdR kFrame w (.slice a ps.length c) ps) from hv)
  clear hv
  have HB0 := (show Hid (Blk (w.alloc (.cells #[.slice a ps.length c, .int .i64 hand] 28)) w.heap.size 28 [.slice a ps.length c, .int .i64 hand]) from Blk.newL w [.slice a ps.length c, .int .i64 hand] 28)
  have HK0 := hid (sameA w [.slice a ps.length c, .int .i64 hand] 28)
  have k3 := fun (wx : World) (h : Same w wx) => containsF0_any 46 bad3 (.slice a ps.length c) ps wx (HV.out.same h) enters_wf (fun p wy a1 c1 hp he hk => wrongFrame_any p a1 c1 wy he)
  have k4 := fun (wx : World) (h : Same w wx) => containsF0_any 47 bad4 (.slice a ps.length c) ps wx (HV.out.same h) enters_wr (fun p wy a1 c1 hp he hk => wrongRecLSN_any p a1 c1 wy he)
  obtain ⟨len, hl⟩ : ∃ n, ps.length = n := ⟨_, rfl⟩
  have HL : Hid (ps.length = len) := hl
  obtain ⟨R, hR⟩ : ∃ R, poolF ps hand = R := ⟨_, rfl⟩
  rw [hR]
  unfold poolF at hR
  rw [hl] at HV HB0 HK0 hmax hR k3 k4 ⊢
  clear hl
  by_cases h1 : len < 1 ∨ 16 < len
  · rw [if_pos h1] at hR
    subst hR
    by_cases h1a : len < 1
    · have q : ((len : Int) < 1) := by omega
      clear h1
      go_enter Try.func33, Try.ntmps33
      go_wp2
      go_ret
      exact ⟨rfl, HK0.out⟩
    · have q : ¬ ((len : Int) < 1) := by omega
      have q2 : (16 : Int) < (len : Int) := by omega
      clear h1
      go_enter Try.func33, Try.ntmps33
      go_wp2
      go_ret
      exact ⟨rfl, HK0.out⟩
  rw [if_neg h1] at hR
  have q1 : ¬ ((len : Int) < 1) := by omega
  have q2 : ¬ ((16 : Int) < (len : Int)) := by omega
  have hl16 : len ≤ 16 := by omega
  clear h1
  by_cases h2 : hand < 0 ∨ (len : Int) ≤ hand
  · rw [if_pos h2] at hR
    subst hR
    by_cases h2a : hand < 0
    · clear h2
      go_enter Try.func33, Try.ntmps33
      go_wp2
      go_ret
      exact ⟨rfl, HK0.out⟩
    · have q3 : (len : Int) ≤ hand := by omega
      clear h2
      go_enter Try.func33, Try.ntmps33
      go_wp2
      go_ret
      exact ⟨rfl, HK0.out⟩
  rw [if_neg h2] at hR
  have q3 : ¬ hand < 0 := by omega
  have q4 : ¬ (len : Int) ≤ hand := by omega
  clear h2
  cases f3 : ps.any bad3 with
  | true =>
    rw [f3] at k3 hR
    rw [if_pos rfl] at hR
    subst hR
    go_enter Try.func33, Try.ntmps33
    go_wp2_with fail
    refine (k3 _ HK0.out).mono ?_
    rintro e w1 ⟨rfl, hk1⟩
    have HK1 := (show Hid (Same w w1) from (HK0.out).trans hk1)
    obtain ⟨g1, g1'⟩ := (HB0.out.same hk1).all2
    have HB1 := hid (HB0.out.same hk1)
    clear hk1
    go_wp2
    go_ret
    exact ⟨rfl, HK1.out⟩
  | false =>
    have hpo : ∀ p ∈ ps, PageOK p := fun p hp => pageOK_of (by
      cases hx : bad3 p with
      | false => rfl
      | true => rw [List.any_eq_true.2 ⟨p, hp, hx⟩] at f3; cases f3)
    have k5 := fun (wx : World) (h : Same w wx) => pageTwice_any (.slice a len c) ps wx (HV.out.same h) hpo
    rw [f3] at k3 hR
    rw [if_neg (by simp)] at hR
    cases f4 : ps.any bad4 with
    | true =>
      rw [f4] at k4 hR
      rw [if_pos rfl] at hR
      subst hR
      go_enter Try.func33, Try.ntmps33
      go_wp2_with fail
      refine (k3 _ HK0.out).mono ?_
      rintro e w1 ⟨rfl, hk1⟩
      have HK1 := (show Hid (Same w w1) from (HK0.out).trans hk1)
      obtain ⟨g1, g1'⟩ := (HB0.out.same hk1).all2
      have HB1 := hid (HB0.out.same hk1)
      clear hk1
      go_wp2_with fail
      refine (k4 _ HK1.out).mono ?_
      rintro e w2 ⟨rfl, hk2⟩
      have HK2 := (show Hid (Same w w2) from (HK1.out).trans hk2)
      obtain ⟨g2, g2'⟩ := (HB1.out.same hk2).all2
      have HB2 := hid (HB1.out.same hk2)
      clear hk2
      go_wp2
      go_ret
      exact ⟨rfl, HK2.out⟩
    | false =>
      rw [f4] at k4 hR
      rw [if_neg (by simp)] at hR
      cases f5 : dup ps with
      | true =>
        rw [f5] at k5 hR
        rw [if_pos rfl] at hR
        subst hR
        go_enter Try.func33, Try.ntmps33
        go_wp2_with fail
        refine (k3 _ HK0.out).mono ?_
        rintro e w1 ⟨rfl, hk1⟩
        have HK1 := (show Hid (Same w w1) from (HK0.out).trans hk1)
        obtain ⟨g1, g1'⟩ := (HB0.out.same hk1).all2
        have HB1 := hid (HB0.out.same hk1)
        clear hk1
        go_wp2_with fail
        refine (k4 _ HK1.out).mono ?_
        rintro e w2 ⟨rfl, hk2⟩
        have HK2 := (show Hid (Same w w2) from (HK1.out).trans hk2)
        obtain ⟨g2, g2'⟩ := (HB1.out.same hk2).all2
        have HB2 := hid (HB1.out.same hk2)
        clear hk2
        go_wp2_with fail
        refine (k5 _ HK2.out).mono ?_
        rintro e w3 ⟨rfl, hk3⟩
        have HK3 := (show Hid (Same w w3) from (HK2.out).trans hk3)
        obtain ⟨g3, g3'⟩ := (HB2.out.same hk3).all2
        have HB3 := hid (HB2.out.same hk3)
        clear hk3
        go_wp2
        go_ret
        exact ⟨rfl, HK3.out⟩
      | false =>
        rw [f5] at k5 hR
        rw [if_neg (by simp)] at hR
        subst hR
        go_enter Try.func33, Try.ntmps33
        go_wp2_with fail
        refine (k3 _ HK0.out).mono ?_
        rintro e w1 ⟨rfl, hk1⟩
        have HK1 := (show Hid (Same w w1) from (HK0.out).trans hk1)
        obtain ⟨g1, g1'⟩ := (HB0.out.same hk1).all2
        have HB1 := hid (HB0.out.same hk1)
        clear hk1
        go_wp2_with fail
        refine (k4 _ HK1.out).mono ?_
        rintro e w2 ⟨rfl, hk2⟩
        have HK2 := (show Hid (Same w w2) from (HK1.out).trans hk2)
        obtain ⟨g2, g2'⟩ := (HB1.out.same hk2).all2
        have HB2 := hid (HB1.out.same hk2)
        clear hk2
        go_wp2_with fail
        refine (k5 _ HK2.out).mono ?_
        rintro e w3 ⟨rfl, hk3⟩
        have HK3 := (show Hid (Same w w3) from (HK2.out).trans hk3)
        obtain ⟨g3, g3'⟩ := (HB2.out.same hk3).all2
        have HB3 := hid (HB2.out.same hk3)
        clear hk3
        go_wp2
        go_ret
        exact ⟨rfl, HK3.out⟩
end Go.Proofs.Ytabmhcdldfehnab
