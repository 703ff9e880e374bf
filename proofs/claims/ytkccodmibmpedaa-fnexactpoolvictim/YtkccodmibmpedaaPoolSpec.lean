import Derived.Test.YtkccodmibmpedaaG03
namespace Go.Proofs.Ytkccodmibmpedaa
set_option maxRecDepth 100000
set_option maxHeartbeats 4000000
open Go.RowKit
set_option linter.unusedVariables false
set_option linter.unusedSimpArgs false
def bad3 (f : EFrame) : Bool := if f.page = -1 then (decide (0 < f.bs.length) || f.pins != 0 || f.dirty || f.rl != 0 || f.rf) else (!inB f.page 0 15 || f.bs.length != 4096 || !inB f.pins 0 2147483647)
def bad4 (f : EFrame) : Bool := (f.dirty && !inB f.rl 1 1099511627776) || (!f.dirty && f.rl != 0)
def dupAt (ps : List EFrame) (i : Nat) : Bool := match ps[i]? with
  | some p => p.page != -1 && (ps.take i).any (fun q => p.page == q.page)
  | none => false
def dup (ps : List EFrame) : Bool := (List.range ps.length).any (dupAt ps)
def poolF (ps : List EFrame) (hand : Int) : Int :=
  if ps.length < 1 ∨ 16 < ps.length then 1 else if hand < 0 ∨ (ps.length : Int) ≤ hand then 2 else if ps.any bad3 then 3 else if ps.any bad4 then 4 else if dup ps then 5 else 0
theorem any_take {ps : List EFrame} {f : EFrame → Bool} {k : Nat} (h : (ps.take k).any f = false) (hk : k < ps.length) (hf : f ps[k] = false) : (ps.take (k + 1)).any f = false := by
  rw [List.take_succ_eq_append_getElem hk, List.any_append, h]
  simp [hf]
theorem any_yes {ps : List EFrame} {f : EFrame → Bool} {k : Nat} (hk : k < ps.length) (hf : f ps[k] = true) : ps.any f = true := List.any_eq_true.2 ⟨_, List.getElem_mem hk, hf⟩
theorem specPoolFault_any (v : Value) (hand : Int) (ps : List EFrame) (w : World) (hv : RdR kFrame w v ps) :
    Calls Try.prog 64 #[.agg #[v, .int .i64 hand]] w fun e w' => e = .returned (.int .i64 (poolF ps hand)) ∧ Same w w' := by
  obtain ⟨a, c, rfl⟩ := hv.form
  have hmax := hv.max
  unfold maxLen at hmax
  have HV := (show Hid (RdR kFrame w (.slice a ps.length c) ps) from hv)
  clear hv
  have HB0 := (show Hid (Blk (w.alloc (.cells #[.slice a ps.length c, .int .i64 hand] 28)) w.heap.size 28 [.slice a ps.length c, .int .i64 hand]) from Blk.newL w [.slice a ps.length c, .int .i64 hand] 28)
  have HK0 := (show Hid (Same w (w.alloc (.cells #[.slice a ps.length c, .int .i64 hand] 28))) from (Kept.refl _ _).alloc _)
  obtain ⟨len, hl⟩ : ∃ n, ps.length = n := ⟨_, rfl⟩
  have HL : Hid (ps.length = len) := hl
  obtain ⟨R, hR⟩ : ∃ R, poolF ps hand = R := ⟨_, rfl⟩
  rw [hR]
  unfold poolF at hR
  rw [hl] at HV HB0 HK0 hmax hR ⊢
  clear hl
  by_cases h1 : len < 1 ∨ 16 < len
  · rw [if_pos h1] at hR
    subst hR
    by_cases h1a : len < 1
    · have q : ((len : Int) < 1) := by omega
      clear h1
      go_enter Try.func64, Try.ntmps64
      go_wp2
      go_ret
      exact ⟨rfl, HK0.out⟩
    · have q : ¬ ((len : Int) < 1) := by omega
      have q2 : (16 : Int) < (len : Int) := by omega
      clear h1
      go_enter Try.func64, Try.ntmps64
      go_wp2
      go_ret
      exact ⟨rfl, HK0.out⟩
  rw [if_neg h1] at hR
  have q1 : ¬ ((len : Int) < 1) := by omega
  have q2 : ¬ ((16 : Int) < (len : Int)) := by omega
  have hl16 : len ≤ 16 := by omega
  clear h1
  by_cases h2 : hand < 0 ∨ (len : Int) ≤ hand
  · rw [if_pos h2] at hR
    subst hR
    by_cases h2a : hand < 0
    · clear h2
      go_enter Try.func64, Try.ntmps64
      go_wp2
      go_ret
      exact ⟨rfl, HK0.out⟩
    · have q3 : (len : Int) ≤ hand := by omega
      clear h2
      go_enter Try.func64, Try.ntmps64
      go_wp2
      go_ret
      exact ⟨rfl, HK0.out⟩
  rw [if_neg h2] at hR
  have q3 : ¬ hand < 0 := by omega
  have q4 : ¬ (len : Int) ≤ hand := by omega
  clear h2
  rcases HV.out.row with ⟨hps, _⟩ | ⟨b, off, c', he, hc⟩
  · have := HL.out
    rw [hps] at this
    simp at this
    omega
  injection he with he1 he2 he3
  subst he1 he3
  have HC : Hid (∀ j i, (h : j < ps.length) → i < 6 → w.cell? ⟨b, off + (j * 6 + i), none⟩ = (kFrame.cells ps[j])[i]?) := hc
  have HR : Hid ((if ps.any bad3 then 3 else if ps.any bad4 then 4 else if dup ps then 5 else 0) = R) := hR
  clear hc hR he2
  go_enter Try.func64, Try.ntmps64
  go_wp2_with fail
  go_loopw [3] (fun i wr => ∃ k : Nat, k ≤ len ∧ i = .int .i64 k ∧ Hid ((ps.take k).any bad3 = false) ∧ Hid (Same w wr) ∧ Hid (Blk wr w.heap.size 28 [.slice (some ⟨b, off, none⟩) len c, .int .i64 hand])) (fun i _ => len - (intOf i).toNat)
  case atStart => exact ⟨0, Nat.zero_le _, rfl, by simp [Hid], HK0, HB0⟩
  case round =>
    obtain ⟨k, hk, rfl, HA, HK, HB⟩ := hrel
    obtain ⟨g0, g1⟩ := HB.out.all2
    by_cases hlt : k < len
    · have hlp : k < ps.length := by rw [HL.out]; exact hlt
      obtain ⟨p, hp⟩ : ∃ p, ps[k] = p := ⟨_, rfl⟩
      have hform := (show Rd .u8 w ps[k].v ps[k].bs from HV.out.data _ (List.getElem_mem hlp)).form
      have hm1 := (show Rd .u8 w ps[k].v ps[k].bs from HV.out.data _ (List.getElem_mem hlp)).1
      have hcc : ∀ i, i < 6 → wr.cell? ⟨b, off + (k * 6 + i), none⟩ = (kFrame.cells ps[k])[i]? := fun i hi => by
        have h := HC.out k i hlp hi
        have hlen : (kFrame.cells ps[k]).length = 6 := kFrame.len _
        rw [List.getElem?_eq_getElem (by omega)] at h ⊢
        exact HK.out.cellOf h id
      rw [hp] at hform hm1 hcc
      have HP : Hid (ps[k] = p) := hp
      clear hp
      obtain ⟨pg, pv, fb, pn, dt, rl, rf⟩ := p
      obtain ⟨a1, c1, e1⟩ := hform
      dsimp only at e1 hm1
      subst e1
      obtain ⟨n1, hn1⟩ : ∃ n, fb.length = n := ⟨_, rfl⟩
      have HN : Hid (fb.length = n1) := hn1
      rw [hn1] at hcc hm1
      unfold maxLen at hm1
      have d0 : wr.cell? ⟨b, off + k * 6, none⟩ = some (.int .i64 pg) := by have h := hcc 0 (by decide); exact h
      have d1 : wr.cell? ⟨b, off + k * 6 + 1, none⟩ = some (.slice a1 n1 c1) := by have h := hcc 1 (by decide); rw [← Nat.add_assoc] at h; exact h
      have d2 : wr.cell? ⟨b, off + k * 6 + 2, none⟩ = some (.int .i64 pn) := by have h := hcc 2 (by decide); rw [← Nat.add_assoc] at h; exact h
      have d3 : wr.cell? ⟨b, off + k * 6 + 3, none⟩ = some (.bool dt) := by have h := hcc 3 (by decide); rw [← Nat.add_assoc] at h; exact h
      have d4 : wr.cell? ⟨b, off + k * 6 + 4, none⟩ = some (.int .i64 rl) := by have h := hcc 4 (by decide); rw [← Nat.add_assoc] at h; exact h
      have d5 : wr.cell? ⟨b, off + k * 6 + 5, none⟩ = some (.bool rf) := by have h := hcc 5 (by decide); rw [← Nat.add_assoc] at h; exact h
      have HKa := (show Hid (Same w (wr.alloc (.cells #[.int .i64 pg, .slice a1 n1 c1, .int .i64 pn, .bool dt, .int .i64 rl, .bool rf] 46))) from HK.out.alloc _)
      have HBa := (show Hid (Blk (wr.alloc (.cells #[.int .i64 pg, .slice a1 n1 c1, .int .i64 pn, .bool dt, .int .i64 rl, .bool rf] 46)) w.heap.size 28 [.slice (some ⟨b, off, none⟩) len c, .int .i64 hand]) from HB.out.same ((Kept.refl _ _).alloc _))
      have ba := Blk.newL wr [.int .i64 pg, .slice a1 n1 c1, .int .i64 pn, .bool dt, .int .i64 rl, .bool rf] 46
      clear hcc hn1
      by_cases h1 : pg = -1
      · subst h1
        by_cases e1 : 0 < n1
        · have e1' : (0 : Int) < (n1 : Int) := by omega
          go_wp2
          go_ret
          have hb3 : bad3 ps[k] = true := by rw [HP.out]; simp [bad3, HN.out, e1]
          exact ⟨by have h := HR.out; rw [if_pos (any_yes hlp hb3)] at h; subst h; rfl, HKa.out⟩
        obtain rfl : n1 = 0 := by omega
        by_cases e2 : pn = 0
        · subst e2
          cases dt with
          | true =>
            go_wp2
            go_ret
            have hb3 : bad3 ps[k] = true := by rw [HP.out]; simp [bad3, HN.out, ]
            exact ⟨by have h := HR.out; rw [if_pos (any_yes hlp hb3)] at h; subst h; rfl, HKa.out⟩
          | false =>
            by_cases e3 : rl = 0
            · subst e3
              cases rf with
              | true =>
                go_wp2
                go_ret
                have hb3 : bad3 ps[k] = true := by rw [HP.out]; simp [bad3, HN.out, ]
                exact ⟨by have h := HR.out; rw [if_pos (any_yes hlp hb3)] at h; subst h; rfl, HKa.out⟩
              | false =>
                go_wp2
                go_roundw
                case rel => exact ⟨k + 1, by omega, by go_num, any_take HA.out hlp (by rw [HP.out]; simp [bad3, HN.out, ]), HKa, HBa⟩
                case measure => simp [intOf]; omega
            · go_wp2
              go_ret
              have hb3 : bad3 ps[k] = true := by rw [HP.out]; simp [bad3, HN.out, e3]
              exact ⟨by have h := HR.out; rw [if_pos (any_yes hlp hb3)] at h; subst h; rfl, HKa.out⟩
        · go_wp2
          go_ret
          have hb3 : bad3 ps[k] = true := by rw [HP.out]; simp [bad3, HN.out, e2]
          exact ⟨by have h := HR.out; rw [if_pos (any_yes hlp hb3)] at h; subst h; rfl, HKa.out⟩
      · have k1 := fun wx => l4In_any pg 0 15 wx
        have k2 := fun wx => l4In_any pn 0 2147483647 wx
        cases f1 : inB pg 0 15 with
        | false =>
          rw [f1] at k1
          go_wp2_with fail
          refine (k1 _).mono ?_
          rintro e w1 ⟨rfl, hk1⟩
          have HK1 := (show Hid (Same w w1) from HKa.out.trans hk1)
          go_wp2
          go_ret
          have hb3 : bad3 ps[k] = true := by rw [HP.out]; simp [bad3, HN.out, h1, f1]
          exact ⟨by have h := HR.out; rw [if_pos (any_yes hlp hb3)] at h; subst h; rfl, HK1.out⟩
        | true =>
          rw [f1] at k1
          go_wp2_with fail
          refine (k1 _).mono ?_
          rintro e w1 ⟨rfl, hk1⟩
          have HK1 := (show Hid (Same w w1) from HKa.out.trans hk1)
          have HB1 := (show Hid (Blk w1 w.heap.size 28 [.slice (some ⟨b, off, none⟩) len c, .int .i64 hand]) from HBa.out.same hk1)
          have b1 := ba.same hk1
          obtain ⟨c0, c1', c2, c3, c4, c5⟩ := b1.all6
          clear hk1
          by_cases e1 : n1 = 4096
          · subst e1
            cases f2 : inB pn 0 2147483647 with
            | false =>
              rw [f2] at k2
              go_wp2_with fail
              refine (k2 _).mono ?_
              rintro e w2 ⟨rfl, hk2⟩
              have HK2 := (show Hid (Same w w2) from HK1.out.trans hk2)
              go_wp2
              go_ret
              have hb3 : bad3 ps[k] = true := by rw [HP.out]; simp [bad3, HN.out, h1, f1, f2]
              exact ⟨by have h := HR.out; rw [if_pos (any_yes hlp hb3)] at h; subst h; rfl, HK2.out⟩
            | true =>
              rw [f2] at k2
              go_wp2_with fail
              refine (k2 _).mono ?_
              rintro e w2 ⟨rfl, hk2⟩
              have HK2 := (show Hid (Same w w2) from HK1.out.trans hk2)
              have HB2 := (show Hid (Blk w2 w.heap.size 28 [.slice (some ⟨b, off, none⟩) len c, .int .i64 hand]) from HB1.out.same hk2)
              go_wp2
              go_roundw
              case rel => exact ⟨k + 1, by omega, by go_num, any_take HA.out hlp (by rw [HP.out]; simp [bad3, HN.out, h1, f1, f2]), HK2, HB2⟩
              case measure => simp [intOf]; omega
          · have e1' : ¬ (n1 : Int) = 4096 := by omega
            go_wp2
            go_ret
            have hb3 : bad3 ps[k] = true := by rw [HP.out]; simp [bad3, HN.out, h1, f1, e1]
            exact ⟨by have h := HR.out; rw [if_pos (any_yes hlp hb3)] at h; subst h; rfl, HK1.out⟩
    · obtain rfl : len = k := by omega
      have HA3 : Hid (ps.any bad3 = false) := by have h := HA.out; rw [← HL.out, List.take_length] at h; exact h
      have HR4 : Hid ((if ps.any bad4 then 4 else if dup ps then 5 else 0) = R) := by have h := HR.out; rw [HA3.out] at h; exact h
      clear HA HR HA3
      go_wp2_with fail
      go_loopw [5] (fun i wr2 => ∃ k : Nat, k ≤ len ∧ i = .int .i64 k ∧ Hid ((ps.take k).any bad4 = false) ∧ Hid (Same w wr2) ∧ Hid (Blk wr2 w.heap.size 28 [.slice (some ⟨b, off, none⟩) len c, .int .i64 hand])) (fun i _ => len - (intOf i).toNat)
      case atStart => exact ⟨0, Nat.zero_le _, rfl, by simp [Hid], HK, HB⟩
      case round =>
        obtain ⟨k, hk, rfl, HA, HK2, HB2⟩ := hrel
        obtain ⟨g0, g1⟩ := HB2.out.all2
        by_cases hlt : k < len
        · have hlp : k < ps.length := by rw [HL.out]; exact hlt
          obtain ⟨p, hp⟩ : ∃ p, ps[k] = p := ⟨_, rfl⟩
          have hform := (show Rd .u8 w ps[k].v ps[k].bs from HV.out.data _ (List.getElem_mem hlp)).form
          have hm1 := (show Rd .u8 w ps[k].v ps[k].bs from HV.out.data _ (List.getElem_mem hlp)).1
          have hcc : ∀ i, i < 6 → wr.cell? ⟨b, off + (k * 6 + i), none⟩ = (kFrame.cells ps[k])[i]? := fun i hi => by
            have h := HC.out k i hlp hi
            have hlen : (kFrame.cells ps[k]).length = 6 := kFrame.len _
            rw [List.getElem?_eq_getElem (by omega)] at h ⊢
            exact HK2.out.cellOf h id
          rw [hp] at hform hm1 hcc
          have HP : Hid (ps[k] = p) := hp
          clear hp
          obtain ⟨pg, pv, fb, pn, dt, rl, rf⟩ := p
          obtain ⟨a1, c1, e1⟩ := hform
          dsimp only at e1 hm1
          subst e1
          obtain ⟨n1, hn1⟩ : ∃ n, fb.length = n := ⟨_, rfl⟩
          have HN : Hid (fb.length = n1) := hn1
          rw [hn1] at hcc hm1
          unfold maxLen at hm1
          have d0 : wr.cell? ⟨b, off + k * 6, none⟩ = some (.int .i64 pg) := by have h := hcc 0 (by decide); exact h
          have d1 : wr.cell? ⟨b, off + k * 6 + 1, none⟩ = some (.slice a1 n1 c1) := by have h := hcc 1 (by decide); rw [← Nat.add_assoc] at h; exact h
          have d2 : wr.cell? ⟨b, off + k * 6 + 2, none⟩ = some (.int .i64 pn) := by have h := hcc 2 (by decide); rw [← Nat.add_assoc] at h; exact h
          have d3 : wr.cell? ⟨b, off + k * 6 + 3, none⟩ = some (.bool dt) := by have h := hcc 3 (by decide); rw [← Nat.add_assoc] at h; exact h
          have d4 : wr.cell? ⟨b, off + k * 6 + 4, none⟩ = some (.int .i64 rl) := by have h := hcc 4 (by decide); rw [← Nat.add_assoc] at h; exact h
          have d5 : wr.cell? ⟨b, off + k * 6 + 5, none⟩ = some (.bool rf) := by have h := hcc 5 (by decide); rw [← Nat.add_assoc] at h; exact h
          have HKa := (show Hid (Same w (wr.alloc (.cells #[.int .i64 pg, .slice a1 n1 c1, .int .i64 pn, .bool dt, .int .i64 rl, .bool rf] 46))) from HK2.out.alloc _)
          have HBa := (show Hid (Blk (wr.alloc (.cells #[.int .i64 pg, .slice a1 n1 c1, .int .i64 pn, .bool dt, .int .i64 rl, .bool rf] 46)) w.heap.size 28 [.slice (some ⟨b, off, none⟩) len c, .int .i64 hand]) from HB2.out.same ((Kept.refl _ _).alloc _))
          have ba := Blk.newL wr [.int .i64 pg, .slice a1 n1 c1, .int .i64 pn, .bool dt, .int .i64 rl, .bool rf] 46
          clear hcc hn1
          have k1 := fun wx => l4In_any rl 1 1099511627776 wx
          cases dt with
          | true =>
            cases f1 : inB rl 1 1099511627776 with
            | false =>
              rw [f1] at k1
              go_wp2_with fail
              refine (k1 _).mono ?_
              rintro e w1 ⟨rfl, hk1⟩
              have HK1 := (show Hid (Same w w1) from HKa.out.trans hk1)
              go_wp2
              go_ret
              have hb4 : bad4 ps[k] = true := by rw [HP.out]; simp [bad4, f1]
              exact ⟨by have h := HR4.out; rw [if_pos (any_yes hlp hb4)] at h; subst h; rfl, HK1.out⟩
            | true =>
              rw [f1] at k1
              go_wp2_with fail
              refine (k1 _).mono ?_
              rintro e w1 ⟨rfl, hk1⟩
              have HK1 := (show Hid (Same w w1) from HKa.out.trans hk1)
              have HB1 := (show Hid (Blk w1 w.heap.size 28 [.slice (some ⟨b, off, none⟩) len c, .int .i64 hand]) from HBa.out.same hk1)
              have b1 := ba.same hk1
              obtain ⟨c0, c1', c2, c3, c4, c5⟩ := b1.all6
              clear hk1
              go_wp2
              go_roundw
              case rel => exact ⟨k + 1, by omega, by go_num, any_take HA.out hlp (by rw [HP.out]; simp [bad4, f1]), HK1, HB1⟩
              case measure => simp [intOf]; omega
          | false =>
            by_cases e3 : rl = 0
            · subst e3
              go_wp2
              go_roundw
              case rel => exact ⟨k + 1, by omega, by go_num, any_take HA.out hlp (by rw [HP.out]; simp [bad4, ]), HKa, HBa⟩
              case measure => simp [intOf]; omega
            · go_wp2
              go_ret
              have hb4 : bad4 ps[k] = true := by rw [HP.out]; simp [bad4, e3]
              exact ⟨by have h := HR4.out; rw [if_pos (any_yes hlp hb4)] at h; subst h; rfl, HKa.out⟩
        · obtain rfl : len = k := by omega
          have HA4 : Hid (ps.any bad4 = false) := by have h := HA.out; rw [← HL.out, List.take_length] at h; exact h
          have HR5 : Hid ((if dup ps then 5 else 0) = R) := by have h := HR4.out; rw [HA4.out] at h; exact h
          clear HA HR4 HA4
          go_wp2_with fail
          go_loopw [7] (fun i wr3 => ∃ k : Nat, k ≤ len ∧ i = .int .i64 k ∧ Hid (∀ j, j < k → dupAt ps j = false) ∧ Hid (Same w wr3) ∧ Hid (Blk wr3 w.heap.size 28 [.slice (some ⟨b, off, none⟩) len c, .int .i64 hand])) (fun i _ => len - (intOf i).toNat)
          case atStart => exact ⟨0, Nat.zero_le _, rfl, fun j hj => absurd hj (by omega), HK2, HB2⟩
          case round =>
            obtain ⟨k, hk, rfl, HA, HK3, HB3⟩ := hrel
            obtain ⟨g0, g1⟩ := HB3.out.all2
            by_cases hlt : k < len
            · have hlp : k < ps.length := by rw [HL.out]; exact hlt
              obtain ⟨pg, hpg⟩ : ∃ x, ps[k].page = x := ⟨_, rfl⟩
              have HPG : Hid (ps[k].page = pg) := hpg
              have HCK : Hid (w.cell? ⟨b, off + k * 6, none⟩ = some (.int .i64 pg)) := by have h := HC.out k 0 hlp (by decide); rw [← hpg]; exact h
              clear hpg
              go_wp2_with fail
              go_loopw [8] (fun j wr4 => ∃ m : Nat, m ≤ k ∧ j = .int .i64 m ∧ Hid (pg = -1 ∨ (ps.take m).any (fun q => pg == q.page) = false) ∧ Hid (Same w wr4) ∧ Hid (Blk wr4 w.heap.size 28 [.slice (some ⟨b, off, none⟩) len c, .int .i64 hand])) (fun j _ => k - (intOf j).toNat)
              case atStart => exact ⟨0, Nat.zero_le _, rfl, .inr (by simp), HK3, HB3⟩
              case round =>
                obtain ⟨m, hm, rfl, HM, HK4, HB4⟩ := hrel
                by_cases hmk : m < k
                · have hmp : m < ps.length := by omega
                  obtain ⟨qg, hqg⟩ : ∃ x, ps[m].page = x := ⟨_, rfl⟩
                  have HQG : Hid (ps[m].page = qg) := hqg
                  have HCM : Hid (w.cell? ⟨b, off + m * 6, none⟩ = some (.int .i64 qg)) := by have h := HC.out m 0 hmp (by decide); rw [← hqg]; exact h
                  clear hqg
                  have hki : (k : Int) < (len : Int) := by omega
                  have hmi : (m : Int) < (len : Int) := by omega
                  have hmki : (m : Int) < (k : Int) := by omega
                  go_wp2_with fail
                  have hS : (fun wx : World => wx.cell? ⟨w.heap.size, 0, none⟩ = some (.slice (some ⟨b, off, none⟩) len c) ∧ wx.cell? ⟨b, off + k * 6, none⟩ = some (.int .i64 pg) ∧ wx.cell? ⟨b, off + m * 6, none⟩ = some (.int .i64 qg)) wr.drew := ⟨HB4.out.drew.cell 0, HK4.out.drew.cellOf HCK.out id, HK4.out.drew.cellOf HCM.out id⟩
                  refine wp_region_V (fun wx : World => wx.cell? ⟨w.heap.size, 0, none⟩ = some (.slice (some ⟨b, off, none⟩) len c) ∧ wx.cell? ⟨b, off + k * 6, none⟩ = some (.int .i64 pg) ∧ wx.cell? ⟨b, off + m * 6, none⟩ = some (.int .i64 qg)) 99 22 rfl (by kernel_rfl) ?_
                  refine tk 0 125 hS ?_
                  refine tk 1 126 hS ?_
                  refine tk 2 127 hS ?_
                  refine tkV 3 128 (.pointer (some ⟨b, off + k * 6, none⟩)) hS ?_
                  refine tk 4 129 hS ?_
                  refine tk 5 130 hS ?_
                  by_cases h1 : pg = -1
                  · subst h1
                    refine tk 6 131 hS ?_
                    refine tk 7 132 hS ?_
                    refine tkS 8 133 hS ?_
                    refine tkS 9 134 hS ?_
                    refine tkS 10 135 hS ?_
                    refine tkS 11 136 hS ?_
                    refine tkS 12 137 hS ?_
                    refine tkS 13 138 hS ?_
                    refine tkS 14 139 hS ?_
                    refine tkS 15 140 hS ?_
                    refine tkS 16 141 hS ?_
                    refine tkS 17 142 hS ?_
                    refine tkS 18 143 hS ?_
                    refine tkS 19 144 hS ?_
                    refine tkS 20 145 hS ?_
                    refine tk 21 146 hS ?_
                    refine wpAnyV_done (by kernel_rfl) ?_
                    go_wp2
                    go_roundw
                    case rel => exact ⟨m + 1, by omega, by go_num, show Hid (_ ∨ _) from .inl (by first | rfl | trivial | decide), HK4.out.drew, HB4.out.drew⟩
                    case measure => simp [intOf]; omega
                  · have e1 : (pg != -1) = true := by simp [h1]
                    refine tk 6 131 hS ?_
                    refine tk 7 132 hS ?_
                    refine tk 8 133 hS ?_
                    refine tk 9 134 hS ?_
                    refine tk 10 135 hS ?_
                    refine tkV 11 136 (.pointer (some ⟨b, off + k * 6, none⟩)) hS ?_
                    refine tk 12 137 hS ?_
                    refine tk 13 138 hS ?_
                    refine tk 14 139 hS ?_
                    refine tk 15 140 hS ?_
                    refine tk 16 141 hS ?_
                    refine tkV 17 142 (.pointer (some ⟨b, off + m * 6, none⟩)) hS ?_
                    refine tk 18 143 hS ?_
                    refine tk 19 144 hS ?_
                    refine tk 20 145 hS ?_
                    refine tk 21 146 hS ?_
                    refine wpAnyV_done (by kernel_rfl) ?_
                    by_cases h2 : pg = qg
                    · subst h2
                      have hda : dupAt ps k = true := by
                        unfold dupAt
                        rw [List.getElem?_eq_getElem hlp]
                        dsimp only
                        rw [HPG.out, e1, Bool.true_and]
                        refine List.any_eq_true.2 ⟨ps[m], ?_, by rw [HQG.out]; simp⟩
                        rw [List.mem_take_iff_getElem]
                        exact ⟨m, by omega, rfl⟩
                      have hdu : dup ps = true := List.any_eq_true.2 ⟨k, List.mem_range.2 hlp, hda⟩
                      go_wp2
                      go_ret
                      exact ⟨by have h := HR5.out; rw [if_pos hdu] at h; subst h; rfl, HK4.out.drew⟩
                    · go_wp2
                      go_roundw
                      case rel =>
                        refine ⟨m + 1, by omega, by go_num, .inr ?_, HK4.out.drew, HB4.out.drew⟩
                        have h := HM.out.resolve_left h1
                        rw [List.take_succ_eq_append_getElem hmp, List.any_append, h]
                        simp [HQG.out, h2]
                      case measure => simp [intOf]; omega
                · obtain rfl : k = m := by omega
                  go_wp2
                  go_roundw
                  case rel =>
                    refine ⟨k + 1, by omega, by go_num, fun j hj => ?_, HK4, HB4⟩
                    by_cases hjk : j < k
                    · exact HA.out j hjk
                    · obtain rfl : j = k := by omega
                      unfold dupAt
                      rw [List.getElem?_eq_getElem hlp]
                      dsimp only
                      rw [HPG.out]
                      rcases HM.out with h | h
                      · rw [h]; rfl
                      · rw [h, Bool.and_false]
                  case measure => simp [intOf]; omega
            · obtain rfl : len = k := by omega
              have hd : dup ps = false := by
                unfold dup
                rw [HL.out]
                apply List.any_eq_false.2
                intro j hj
                rw [HA.out j (List.mem_range.1 hj)]
                decide
              go_wp2
              go_ret
              exact ⟨by have h := HR5.out; rw [hd] at h; simp only [Bool.false_eq_true, if_false] at h; subst h; rfl, HK3.out⟩
end Go.Proofs.Ytkccodmibmpedaa
