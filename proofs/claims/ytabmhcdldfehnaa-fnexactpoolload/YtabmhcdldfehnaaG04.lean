import Derived.Test.YtabmhcdldfehnaaG03
namespace Go.Proofs.Ytabmhcdldfehnaa
set_option maxRecDepth 100000
set_option maxHeartbeats 4000000
open Go.RowKit
set_option linter.unusedVariables false
set_option linter.unusedSimpArgs false
theorem lsn7_any (x : Int) (w : World) : Calls Try.prog 67 #[.int .i64 x] w fun e w' => e = .returned (.bool (inB x 0 1099511627776)) ∧ w' = w := by
  unfold inB
  by_cases h : 0 ≤ x
  · by_cases h2 : x ≤ 1099511627776
    · go_enter Try.func67, Try.ntmps67
      go_wp2
      go_ret
      exact ⟨by simp [h, h2], rfl⟩
    · go_enter Try.func67, Try.ntmps67
      go_wp2
      go_ret
      exact ⟨by simp [h]; try omega, rfl⟩
  · go_enter Try.func67, Try.ntmps67
    go_wp2
    go_ret
    exact ⟨by rw [show decide (0 ≤ x) = false from by simp; omega]; rfl, rfl⟩
theorem chLSN_any (x : Int) (w : World) : Calls Try.prog 59 #[.int .i64 x] w fun e w' => e = .returned (.bool (inB x 1 1099511627776)) ∧ w' = w := by
  have k0 := lsn7_any x
  have hx : inB x 1 1099511627776 = (inB x 0 1099511627776 && x != 0) := by
    unfold inB
    rw [Bool.eq_iff_iff]
    simp
    omega
  rw [hx]
  cases f : inB x 0 1099511627776 with
  | true =>
    rw [f] at k0
    by_cases h : x = 0
    · subst h
      go_enter Try.func59, Try.ntmps59
      go_wp2_with fail
      refine (k0 _).mono ?_
      rintro e w1 ⟨rfl, rfl⟩
      go_wp2
      go_ret
      exact ⟨rfl, rfl⟩
    · have hb : (x != 0) = true := by simp [h]
      rw [hb]
      go_enter Try.func59, Try.ntmps59
      go_wp2_with fail
      refine (k0 _).mono ?_
      rintro e w1 ⟨rfl, rfl⟩
      go_wp2
      go_ret
      exact ⟨rfl, rfl⟩
  | false =>
    rw [f] at k0
    go_enter Try.func59, Try.ntmps59
    go_wp2_with fail
    refine (k0 _).mono ?_
    rintro e w1 ⟨rfl, rfl⟩
    go_wp2
    go_ret
    exact ⟨rfl, rfl⟩
theorem wrongFrame_any (p : EFrame) (a : Option Addr) (c : Nat) (w : World) (hv : p.v = .slice a p.bs.length c) :
    Calls Try.prog 35 #[.agg #[.int .i64 p.page, p.v, .int .i64 p.pins, .bool p.dirty, .int .i64 p.rl, .bool p.rf]] w fun e w' => e = .returned (.bool (bad3 p)) ∧ Same w w' := by
  obtain ⟨B, hB⟩ : ∃ B, bad3 p = B := ⟨_, rfl⟩
  rw [hB, hv]
  unfold bad3 at hB
  obtain ⟨pg, pv, fb, pn, dt, rl, rf⟩ := p
  dsimp only at hB ⊢
  obtain ⟨n, hn⟩ : ∃ n, fb.length = n := ⟨_, rfl⟩
  rw [hn] at hB ⊢
  clear hn hv
  have HB0 := (show Hid (Blk (w.alloc (.cells #[.int .i64 pg, .slice a n c, .int .i64 pn, .bool dt, .int .i64 rl, .bool rf] 51)) w.heap.size 51 [.int .i64 pg, .slice a n c, .int .i64 pn, .bool dt, .int .i64 rl, .bool rf]) from Blk.newL w [.int .i64 pg, .slice a n c, .int .i64 pn, .bool dt, .int .i64 rl, .bool rf] 51)
  have HK0 := hid (sameA w [.int .i64 pg, .slice a n c, .int .i64 pn, .bool dt, .int .i64 rl, .bool rf] 51)
  obtain ⟨c0, c1, c2, c3, c4, c5⟩ := HB0.out.all6
  by_cases h0 : pg = -1
  · rw [if_pos h0] at hB
    subst h0
    by_cases h1 : n = 0
    · subst h1
      by_cases h2 : pn = 0
      · subst h2
        cases dt with
        | true =>
          subst hB
          go_enter Try.func35, Try.ntmps35
          go_wp2
          go_ret
          exact ⟨by simp, HK0.out⟩
        | false =>
          by_cases h4 : rl = 0
          · subst h4
            cases rf with
            | true =>
              subst hB
              go_enter Try.func35, Try.ntmps35
              go_wp2
              go_ret
              exact ⟨by simp, HK0.out⟩
            | false =>
              subst hB
              go_enter Try.func35, Try.ntmps35
              go_wp2
              go_ret
              exact ⟨by simp, HK0.out⟩
          · have q4 : (rl != 0) = true := by simp [h4]
            subst hB
            go_enter Try.func35, Try.ntmps35
            go_wp2
            go_ret
            exact ⟨by simp [h4], HK0.out⟩
      · have q2 : (pn != 0) = true := by simp [h2]
        subst hB
        go_enter Try.func35, Try.ntmps35
        go_wp2
        go_ret
        exact ⟨by simp [h2], HK0.out⟩
    · have q1 : ¬ (n : Int) = 0 := by omega
      subst hB
      go_enter Try.func35, Try.ntmps35
      go_wp2
      go_ret
      exact ⟨by simp; omega, HK0.out⟩
  · rw [if_neg h0] at hB
    have hpg : isPageB pg = inB pg 0 15 := by
      unfold isPageB inB
      rw [Bool.eq_iff_iff]
      simp
      omega
    have k0 := isPage_eq pg
    rw [hpg] at k0
    cases f : inB pg 0 15 with
    | false =>
      rw [f] at k0 hB
      simp at hB
      subst hB
      go_enter Try.func35, Try.ntmps35
      go_wp2_with fail
      refine (k0 _).mono ?_
      rintro e w1 ⟨rfl, rfl⟩
      go_wp2
      go_ret
      exact ⟨rfl, HK0.out⟩
    | true =>
      rw [f] at k0 hB
      by_cases h1 : n = 4096
      · subst h1
        by_cases h2 : pn < 0
        · have q : inB pn 0 2147483647 = false := by simp [inB]; omega
          rw [q] at hB
          subst hB
          go_enter Try.func35, Try.ntmps35
          go_wp2_with fail
          refine (k0 _).mono ?_
          rintro e w1 ⟨rfl, rfl⟩
          go_wp2
          go_ret
          exact ⟨by simp, HK0.out⟩
        · by_cases h3 : 2147483647 < pn
          · have q : inB pn 0 2147483647 = false := by simp [inB]; omega
            rw [q] at hB
            subst hB
            go_enter Try.func35, Try.ntmps35
            go_wp2_with fail
            refine (k0 _).mono ?_
            rintro e w1 ⟨rfl, rfl⟩
            go_wp2
            go_ret
            exact ⟨by simp, HK0.out⟩
          · have q : inB pn 0 2147483647 = true := by simp [inB]; omega
            rw [q] at hB
            subst hB
            go_enter Try.func35, Try.ntmps35
            go_wp2_with fail
            refine (k0 _).mono ?_
            rintro e w1 ⟨rfl, rfl⟩
            go_wp2
            go_ret
            exact ⟨by simp; omega, HK0.out⟩
      · have q1 : ¬ (n : Int) = 4096 := by omega
        have q2 : (n != 4096) = true := by simp [h1]
        rw [q2] at hB
        subst hB
        go_enter Try.func35, Try.ntmps35
        go_wp2_with fail
        refine (k0 _).mono ?_
        rintro e w1 ⟨rfl, rfl⟩
        go_wp2
        go_ret
        exact ⟨by simp, HK0.out⟩
theorem wrongRecLSN_any (p : EFrame) (a : Option Addr) (c : Nat) (w : World) (hv : p.v = .slice a p.bs.length c) :
    Calls Try.prog 36 #[.agg #[.int .i64 p.page, p.v, .int .i64 p.pins, .bool p.dirty, .int .i64 p.rl, .bool p.rf]] w fun e w' => e = .returned (.bool (bad4 p)) ∧ Same w w' := by
  obtain ⟨B, hB⟩ : ∃ B, bad4 p = B := ⟨_, rfl⟩
  rw [hB, hv]
  unfold bad4 at hB
  obtain ⟨pg, pv, fb, pn, dt, rl, rf⟩ := p
  dsimp only at hB ⊢
  obtain ⟨n, hn⟩ : ∃ n, fb.length = n := ⟨_, rfl⟩
  rw [hn]
  clear hn hv
  have HB0 := (show Hid (Blk (w.alloc (.cells #[.int .i64 pg, .slice a n c, .int .i64 pn, .bool dt, .int .i64 rl, .bool rf] 51)) w.heap.size 51 [.int .i64 pg, .slice a n c, .int .i64 pn, .bool dt, .int .i64 rl, .bool rf]) from Blk.newL w [.int .i64 pg, .slice a n c, .int .i64 pn, .bool dt, .int .i64 rl, .bool rf] 51)
  have HK0 := hid (sameA w [.int .i64 pg, .slice a n c, .int .i64 pn, .bool dt, .int .i64 rl, .bool rf] 51)
  obtain ⟨c0, c1, c2, c3, c4, c5⟩ := HB0.out.all6
  have k0 := chLSN_any rl
  cases dt with
  | true =>
    cases f : inB rl 1 1099511627776 with
    | true =>
      rw [f] at k0 hB
      subst hB
      go_enter Try.func36, Try.ntmps36
      go_wp2_with fail
      refine (k0 _).mono ?_
      rintro e w1 ⟨rfl, rfl⟩
      go_wp2
      go_ret
      exact ⟨rfl, HK0.out⟩
    | false =>
      rw [f] at k0 hB
      subst hB
      go_enter Try.func36, Try.ntmps36
      go_wp2_with fail
      refine (k0 _).mono ?_
      rintro e w1 ⟨rfl, rfl⟩
      go_wp2
      go_ret
      exact ⟨rfl, HK0.out⟩
  | false =>
    by_cases h : rl = 0
    · subst h
      subst hB
      go_enter Try.func36, Try.ntmps36
      go_wp2
      go_ret
      exact ⟨rfl, HK0.out⟩
    · have q : (rl != 0) = true := by simp [h]
      rw [q] at hB
      subst hB
      go_enter Try.func36, Try.ntmps36
      go_wp2
      go_ret
      exact ⟨rfl, HK0.out⟩
end Go.Proofs.Ytabmhcdldfehnaa

namespace Go.Proofs.Ytabmhcdldfehnaa
set_option maxRecDepth 100000
set_option maxHeartbeats 4000000
open Go.RowKit
set_option linter.unusedVariables false
set_option linter.unusedSimpArgs false
def idxFrom (f : EFrame → Bool) : Nat → List EFrame → Int
  | _, [] => -1
  | k, p :: ps => if f p = true then (k : Int) else idxFrom f (k + 1) ps
theorem idxFrom_at {f : EFrame → Bool} {ps : List EFrame} {k : Nat} (hk : k < ps.length) :
    idxFrom f k (ps.drop k) = if f ps[k] = true then (k : Int) else idxFrom f (k + 1) (ps.drop (k + 1)) := by
  rw [List.drop_eq_getElem_cons hk]
  rfl
theorem idxFrom_end {f : EFrame → Bool} {ps : List EFrame} : idxFrom f ps.length (ps.drop ps.length) = -1 := by
  rw [List.drop_length]
  rfl
theorem idxFrom_any (f : EFrame → Bool) (ps : List EFrame) (k : Nat) : decide (0 ≤ idxFrom f k ps) = ps.any f := by
  induction ps generalizing k with
  | nil => rfl
  | cons p ps ih =>
    rw [List.any_cons]
    by_cases h : f p = true
    · have e : idxFrom f k (p :: ps) = k := if_pos h
      rw [e, h]; simp
    · have e : idxFrom f k (p :: ps) = idxFrom f (k + 1) ps := if_neg h
      rw [e, ih (k + 1), show f p = false from by simpa using h]; simp
def Enters (fid : FuncId) : Prop := ∀ (args : Array Value) (wx : World), (callFunc fid args).run Try.prog wx = .ok (.enter fid args) wx
def Asks0 (fid : FuncId) (f : EFrame → Bool) (w : World) (ps : List EFrame) : Prop :=
  ∀ (p : EFrame) (wx : World) (a : Option Addr) (c : Nat), p ∈ ps → p.v = .slice a p.bs.length c → Same w wx → Calls Try.prog fid #[.agg #[.int .i64 p.page, p.v, .int .i64 p.pins, .bool p.dirty, .int .i64 p.rl, .bool p.rf]] wx fun e w' => e = .returned (.bool (f p)) ∧ Same wx w'
theorem indexF0_any (fid : FuncId) (f : EFrame → Bool) (v : Value) (ps : List EFrame) (w : World) (hv : RdR kFrame w v ps) (hent : Enters fid) (hf : Asks0 fid f w ps) :
    Calls Try.prog 40 #[v, .func (.func fid) #[] #[]] w fun e w' => e = .returned (.int .i64 (idxFrom f 0 ps)) ∧ Same w w' := by
  have hmax := hv.max
  unfold maxLen at hmax
  rcases hv.row with ⟨rfl, a, c, rfl⟩ | ⟨b, off, c, rfl, hc⟩
  · clear hv hmax hf
    go_enter Try.func40, Try.ntmps40
    go_wp2
    refine wp_loop_rounds 1 ?_
    rw [rounds_succ]
    go_wp2
    go_ret
    exact ⟨rfl, Kept.refl _ _⟩
  · have HV := (show Hid (RdR kFrame w (.slice (some ⟨b, off, none⟩) ps.length c) ps) from hv)
    have HC : Hid (∀ j i, (h : j < ps.length) → i < 6 → w.cell? ⟨b, off + (j * 6 + i), none⟩ = (kFrame.cells ps[j])[i]?) := hc
    have HF : Hid (Asks0 fid f w ps) := hf
    obtain ⟨R, hR⟩ : ∃ R, idxFrom f 0 ps = R := ⟨_, rfl⟩
    have HR : Hid (idxFrom f 0 (ps.drop 0) = R) := by rw [List.drop_zero]; exact hR
    rw [hR]
    clear hv hc hf hR
    have hent' : ∀ (args : Array Value) (wx : World), (callFunc fid args).run Try.prog wx = .ok (.enter fid args) wx := hent
    clear hent
    generalize hl : ps.length = len at hmax HV ⊢
    have HL : Hid (ps.length = len) := hl
    clear hl
    go_enter Try.func40, Try.ntmps40
    go_wp2
    go_loopw [8] (fun i wr => ∃ k : Nat, k ≤ len ∧ i = .int .i64 k ∧ Hid (idxFrom f k (ps.drop k) = R) ∧ Hid (Same w wr)) (fun i _ => len - (intOf i).toNat)
    case atStart => exact ⟨0, Nat.zero_le _, rfl, HR, Kept.refl _ _⟩
    case round =>
      obtain ⟨k, hk, rfl, HA, HK⟩ := hrel
      by_cases hlt : k < len
      · have hlp : k < ps.length := by rw [HL.out]; exact hlt
        obtain ⟨a1, c1, e1⟩ := (show Rd .u8 w ps[k].v ps[k].bs from HV.out.data _ (List.getElem_mem hlp)).form
        have d0 : wr.cell? ⟨b, off + k * 6, none⟩ = some (.int .i64 ps[k].page) := HK.out.cellOf (p := ⟨b, off + k * 6, none⟩) (by have h := HC.out k 0 hlp (by decide); exact h) id
        have d1 : wr.cell? ⟨b, off + k * 6 + 1, none⟩ = some (ps[k].v) := HK.out.cellOf (p := ⟨b, off + k * 6 + 1, none⟩) (by have h := HC.out k 1 hlp (by decide); rw [← Nat.add_assoc] at h; exact h) id
        have d2 : wr.cell? ⟨b, off + k * 6 + 2, none⟩ = some (.int .i64 ps[k].pins) := HK.out.cellOf (p := ⟨b, off + k * 6 + 2, none⟩) (by have h := HC.out k 2 hlp (by decide); rw [← Nat.add_assoc] at h; exact h) id
        have d3 : wr.cell? ⟨b, off + k * 6 + 3, none⟩ = some (.bool ps[k].dirty) := HK.out.cellOf (p := ⟨b, off + k * 6 + 3, none⟩) (by have h := HC.out k 3 hlp (by decide); rw [← Nat.add_assoc] at h; exact h) id
        have d4 : wr.cell? ⟨b, off + k * 6 + 4, none⟩ = some (.int .i64 ps[k].rl) := HK.out.cellOf (p := ⟨b, off + k * 6 + 4, none⟩) (by have h := HC.out k 4 hlp (by decide); rw [← Nat.add_assoc] at h; exact h) id
        have d5 : wr.cell? ⟨b, off + k * 6 + 5, none⟩ = some (.bool ps[k].rf) := HK.out.cellOf (p := ⟨b, off + k * 6 + 5, none⟩) (by have h := HC.out k 5 hlp (by decide); rw [← Nat.add_assoc] at h; exact h) id
        have HA2 : Hid ((if f ps[k] = true then (k : Int) else idxFrom f (k + 1) (ps.drop (k + 1))) = R) := by have h := HA.out; rw [idxFrom_at hlp] at h; exact h
        have kf := HF.out ps[k] wr a1 c1 (List.getElem_mem hlp) e1 HK.out
        rw [e1] at d1 kf
        cases hb : f ps[k] with
        | true =>
          have HE : Hid ((k : Int) = R) := by have h := HA2.out; rw [if_pos hb] at h; exact h
          rw [hb] at kf
          clear HA2 HA e1 hb
          go_wp2_with fail
          refine kf.mono ?_
          rintro e w1 ⟨rfl, hk1⟩
          have HK1 := (show Hid (Same w w1) from HK.out.trans hk1)
          clear d0 d1 d2 d3 d4 d5 kf hk1
          go_wp2
          go_ret
          exact ⟨by rw [← HE.out]; rfl, HK1.out⟩
        | false =>
          have HE : Hid (idxFrom f (k + 1) (ps.drop (k + 1)) = R) := by have h := HA2.out; rw [if_neg (by simp [hb])] at h; exact h
          rw [hb] at kf
          clear HA2 HA e1 hb
          go_wp2_with fail
          refine kf.mono ?_
          rintro e w1 ⟨rfl, hk1⟩
          have HK1 := (show Hid (Same w w1) from HK.out.trans hk1)
          clear d0 d1 d2 d3 d4 d5 kf hk1
          go_wp2
          go_roundw
          case rel => exact ⟨k + 1, by omega, by go_num, HE, HK1⟩
          case measure => simp [intOf]; omega
      · obtain rfl : len = k := by omega
        have he : (-1 : Int) = R := by have h := HA.out; rw [← HL.out, idxFrom_end] at h; exact h
        go_wp2
        go_ret
        exact ⟨by rw [← he]; rfl, HK.out⟩
theorem containsF0_any (fid : FuncId) (f : EFrame → Bool) (v : Value) (ps : List EFrame) (w : World) (hv : RdR kFrame w v ps) (hent : Enters fid) (hf : Asks0 fid f w ps) :
    Calls Try.prog 34 #[v, .func (.func fid) #[] #[]] w fun e w' => e = .returned (.bool (ps.any f)) ∧ Same w w' := by
  have k0 := indexF0_any fid f v ps w hv hent hf
  have hx := idxFrom_any f ps 0
  obtain ⟨a, c, rfl⟩ := hv.form
  generalize idxFrom f 0 ps = r at k0 hx
  rw [← hx]
  clear hx hv hf hent
  go_enter Try.func34, Try.ntmps34
  go_wp2_with fail
  refine k0.mono ?_
  rintro e w1 ⟨rfl, hk1⟩
  go_wp2
  go_ret
  exact ⟨rfl, hk1⟩
def Asks1 (fid : FuncId) (x : Value) (f : EFrame → Bool) (w : World) (ps : List EFrame) : Prop :=
  ∀ (p : EFrame) (wx : World) (a : Option Addr) (c : Nat), p ∈ ps → p.v = .slice a p.bs.length c → Same w wx → Calls Try.prog fid #[.agg #[.int .i64 p.page, p.v, .int .i64 p.pins, .bool p.dirty, .int .i64 p.rl, .bool p.rf], x] wx fun e w' => e = .returned (.bool (f p)) ∧ Same wx w'
theorem indexF1_any (fid : FuncId) (x : Value) (f : EFrame → Bool) (v : Value) (ps : List EFrame) (w : World) (hv : RdR kFrame w v ps) (hent : Enters fid) (hf : Asks1 fid x f w ps) :
    Calls Try.prog 40 #[v, .func (.func fid) #[] #[x]] w fun e w' => e = .returned (.int .i64 (idxFrom f 0 ps)) ∧ Same w w' := by
  have hmax := hv.max
  unfold maxLen at hmax
  rcases hv.row with ⟨rfl, a, c, rfl⟩ | ⟨b, off, c, rfl, hc⟩
  · clear hv hmax hf
    go_enter Try.func40, Try.ntmps40
    go_wp2
    refine wp_loop_rounds 1 ?_
    rw [rounds_succ]
    go_wp2
    go_ret
    exact ⟨rfl, Kept.refl _ _⟩
  · have HV := (show Hid (RdR kFrame w (.slice (some ⟨b, off, none⟩) ps.length c) ps) from hv)
    have HC : Hid (∀ j i, (h : j < ps.length) → i < 6 → w.cell? ⟨b, off + (j * 6 + i), none⟩ = (kFrame.cells ps[j])[i]?) := hc
    have HF : Hid (Asks1 fid x f w ps) := hf
    obtain ⟨R, hR⟩ : ∃ R, idxFrom f 0 ps = R := ⟨_, rfl⟩
    have HR : Hid (idxFrom f 0 (ps.drop 0) = R) := by rw [List.drop_zero]; exact hR
    rw [hR]
    clear hv hc hf hR
    have hent' : ∀ (args : Array Value) (wx : World), (callFunc fid args).run Try.prog wx = .ok (.enter fid args) wx := hent
    clear hent
    generalize hl : ps.length = len at hmax HV ⊢
    have HL : Hid (ps.length = len) := hl
    clear hl
    go_enter Try.func40, Try.ntmps40
    go_wp2
    go_loopw [8] (fun i wr => ∃ k : Nat, k ≤ len ∧ i = .int .i64 k ∧ Hid (idxFrom f k (ps.drop k) = R) ∧ Hid (Same w wr)) (fun i _ => len - (intOf i).toNat)
    case atStart => exact ⟨0, Nat.zero_le _, rfl, HR, Kept.refl _ _⟩
    case round =>
      obtain ⟨k, hk, rfl, HA, HK⟩ := hrel
      by_cases hlt : k < len
      · have hlp : k < ps.length := by rw [HL.out]; exact hlt
        obtain ⟨a1, c1, e1⟩ := (show Rd .u8 w ps[k].v ps[k].bs from HV.out.data _ (List.getElem_mem hlp)).form
        have d0 : wr.cell? ⟨b, off + k * 6, none⟩ = some (.int .i64 ps[k].page) := HK.out.cellOf (p := ⟨b, off + k * 6, none⟩) (by have h := HC.out k 0 hlp (by decide); exact h) id
        have d1 : wr.cell? ⟨b, off + k * 6 + 1, none⟩ = some (ps[k].v) := HK.out.cellOf (p := ⟨b, off + k * 6 + 1, none⟩) (by have h := HC.out k 1 hlp (by decide); rw [← Nat.add_assoc] at h; exact h) id
        have d2 : wr.cell? ⟨b, off + k * 6 + 2, none⟩ = some (.int .i64 ps[k].pins) := HK.out.cellOf (p := ⟨b, off + k * 6 + 2, none⟩) (by have h := HC.out k 2 hlp (by decide); rw [← Nat.add_assoc] at h; exact h) id
        have d3 : wr.cell? ⟨b, off + k * 6 + 3, none⟩ = some (.bool ps[k].dirty) := HK.out.cellOf (p := ⟨b, off + k * 6 + 3, none⟩) (by have h := HC.out k 3 hlp (by decide); rw [← Nat.add_assoc] at h; exact h) id
        have d4 : wr.cell? ⟨b, off + k * 6 + 4, none⟩ = some (.int .i64 ps[k].rl) := HK.out.cellOf (p := ⟨b, off + k * 6 + 4, none⟩) (by have h := HC.out k 4 hlp (by decide); rw [← Nat.add_assoc] at h; exact h) id
        have d5 : wr.cell? ⟨b, off + k * 6 + 5, none⟩ = some (.bool ps[k].rf) := HK.out.cellOf (p := ⟨b, off + k * 6 + 5, none⟩) (by have h := HC.out k 5 hlp (by decide); rw [← Nat.add_assoc] at h; exact h) id
        have HA2 : Hid ((if f ps[k] = true then (k : Int) else idxFrom f (k + 1) (ps.drop (k + 1))) = R) := by have h := HA.out; rw [idxFrom_at hlp] at h; exact h
        have kf := HF.out ps[k] wr a1 c1 (List.getElem_mem hlp) e1 HK.out
        rw [e1] at d1 kf
        cases hb : f ps[k] with
        | true =>
          have HE : Hid ((k : Int) = R) := by have h := HA2.out; rw [if_pos hb] at h; exact h
          rw [hb] at kf
          clear HA2 HA e1 hb
          go_wp2_with fail
          refine kf.mono ?_
          rintro e w1 ⟨rfl, hk1⟩
          have HK1 := (show Hid (Same w w1) from HK.out.trans hk1)
          clear d0 d1 d2 d3 d4 d5 kf hk1
          go_wp2
          go_ret
          exact ⟨by rw [← HE.out]; rfl, HK1.out⟩
        | false =>
          have HE : Hid (idxFrom f (k + 1) (ps.drop (k + 1)) = R) := by have h := HA2.out; rw [if_neg (by simp [hb])] at h; exact h
          rw [hb] at kf
          clear HA2 HA e1 hb
          go_wp2_with fail
          refine kf.mono ?_
          rintro e w1 ⟨rfl, hk1⟩
          have HK1 := (show Hid (Same w w1) from HK.out.trans hk1)
          clear d0 d1 d2 d3 d4 d5 kf hk1
          go_wp2
          go_roundw
          case rel => exact ⟨k + 1, by omega, by go_num, HE, HK1⟩
          case measure => simp [intOf]; omega
      · obtain rfl : len = k := by omega
        have he : (-1 : Int) = R := by have h := HA.out; rw [← HL.out, idxFrom_end] at h; exact h
        go_wp2
        go_ret
        exact ⟨by rw [← he]; rfl, HK.out⟩
theorem enters_wf : Enters 35 := fun args wx => by simp [callFunc, go_sem, Try.func35, Try.f35]
end Go.Proofs.Ytabmhcdldfehnaa

namespace Go.Proofs.Ytabmhcdldfehnaa
set_option maxRecDepth 100000
set_option maxHeartbeats 4000000
open Go.RowKit
set_option linter.unusedVariables false
set_option linter.unusedSimpArgs false
def heldV (ps : List EFrame) (k : Nat) : List Value := (List.range 16).map fun (x : Nat) => .bool ((ps.take k).any fun q => q.page == (x : Int))
theorem heldV_length (ps : List EFrame) (k : Nat) : (heldV ps k).length = 16 := by simp [heldV]
theorem heldV_at (ps : List EFrame) (k x : Nat) (h : x < 16) : (heldV ps k)[x]? = some (.bool ((ps.take k).any fun q => q.page == (x : Int))) := by simp [heldV, h]
theorem heldV_zero (ps : List EFrame) : heldV ps 0 = [.bool false, .bool false, .bool false, .bool false, .bool false, .bool false, .bool false, .bool false, .bool false, .bool false, .bool false, .bool false, .bool false, .bool false, .bool false, .bool false] := rfl
theorem heldV_skip {ps : List EFrame} {k : Nat} (hk : k < ps.length) (h : ps[k].page = -1) : heldV ps (k + 1) = heldV ps k := by
  unfold heldV
  rw [List.take_succ_eq_append_getElem hk]
  apply List.map_congr_left
  intro x _
  have : (ps[k].page == (x : Int)) = false := by rw [h]; simp
  rw [List.any_append]
  simp [this]
theorem heldV_step {ps : List EFrame} {k x : Nat} (hk : k < ps.length) (hx : x < 16) (h : ps[k].page = (x : Int)) : (heldV ps k).set x (.bool true) = heldV ps (k + 1) := by
  apply List.ext_getElem?
  intro i
  by_cases hi : i < 16
  · rw [heldV_at ps (k + 1) i hi, List.take_succ_eq_append_getElem hk, List.any_append]
    by_cases he : i = x
    · subst he
      rw [List.getElem?_set_self (by rw [heldV_length]; exact hi)]
      simp [h]
    · rw [List.getElem?_set_ne (by omega), heldV_at ps k i hi]
      have : (ps[k].page == (i : Int)) = false := by rw [h]; simp; omega
      simp [this]
  · rw [List.getElem?_eq_none (by rw [List.length_set, heldV_length]; omega), List.getElem?_eq_none (by rw [heldV_length]; omega)]
def PageOK (p : EFrame) : Prop := p.page = -1 ∨ ∃ x : Nat, p.page = (x : Int) ∧ x < 16
theorem pageOK_of {p : EFrame} (h : bad3 p = false) : PageOK p := by
  unfold bad3 at h
  by_cases hm : p.page = -1
  · exact .inl hm
  · rw [if_neg hm] at h
    simp [inB] at h
    exact .inr ⟨p.page.toNat, by omega, by omega⟩
theorem any_range_step {f : Nat → Bool} {k : Nat} (h : (List.range k).any f = false) (hk : f k = false) : (List.range (k + 1)).any f = false := by
  rw [List.range_succ, List.any_append, h]
  simp [hk]
theorem pageTwice_any (v : Value) (ps : List EFrame) (w : World) (hv : RdR kFrame w v ps) (hp : ∀ p ∈ ps, PageOK p) :
    Calls Try.prog 37 #[v] w fun e w' => e = .returned (.bool (dup ps)) ∧ Same w w' := by
  have hmax := hv.max
  unfold maxLen at hmax
  rcases hv.row with ⟨rfl, a, c, rfl⟩ | ⟨b, off, c, rfl, hc⟩
  · clear hv hmax hp
    go_enter Try.func37, Try.ntmps37
    go_wp2
    refine wp_loop_rounds 1 ?_
    rw [rounds_succ]
    go_wp2
    go_ret
    exact ⟨rfl, (Kept.refl _ _).alloc _⟩
  · have HV := (show Hid (RdR kFrame w (.slice (some ⟨b, off, none⟩) ps.length c) ps) from hv)
    have HC : Hid (∀ j i, (h : j < ps.length) → i < 6 → w.cell? ⟨b, off + (j * 6 + i), none⟩ = (kFrame.cells ps[j])[i]?) := hc
    have HP : Hid (∀ p ∈ ps, PageOK p) := hp
    obtain ⟨R, hR⟩ : ∃ R, dup ps = R := ⟨_, rfl⟩
    have HR : Hid (dup ps = R) := hR
    rw [hR]
    clear hv hc hp hR
    generalize hl : ps.length = len at hmax HV ⊢
    have HL : Hid (ps.length = len) := hl
    clear hl
    have HB0 := (show Hid (Blk (w.alloc (.cells #[.bool false, .bool false, .bool false, .bool false, .bool false, .bool false, .bool false, .bool false, .bool false, .bool false, .bool false, .bool false, .bool false, .bool false, .bool false, .bool false] 74)) w.heap.size 74 (heldV ps 0)) from by rw [heldV_zero]; exact Blk.newL w [.bool false, .bool false, .bool false, .bool false, .bool false, .bool false, .bool false, .bool false, .bool false, .bool false, .bool false, .bool false, .bool false, .bool false, .bool false, .bool false] 74)
    go_enter Try.func37, Try.ntmps37
    go_wp2
    go_loopw [8] (fun i wr => ∃ k : Nat, k ≤ len ∧ i = .int .i64 k ∧ Hid ((List.range k).any (dupAt ps) = false) ∧ Hid (Blk wr w.heap.size 74 (heldV ps k)) ∧ Hid (Same w wr)) (fun i _ => len - (intOf i).toNat)
    case atStart => exact ⟨0, Nat.zero_le _, rfl, rfl, HB0, (Kept.refl _ _).alloc _⟩
    case round =>
      obtain ⟨k, hk, rfl, HA, HB, HK⟩ := hrel
      by_cases hlt : k < len
      · have hlp : k < ps.length := by rw [HL.out]; exact hlt
        obtain ⟨a1, c1, e1⟩ := (show Rd .u8 w ps[k].v ps[k].bs from HV.out.data _ (List.getElem_mem hlp)).form
        have hpk := HP.out ps[k] (List.getElem_mem hlp)
        have hda : dupAt ps k = (ps[k].page != -1 && (ps.take k).any (fun q => ps[k].page == q.page)) := by unfold dupAt; rw [List.getElem?_eq_getElem hlp]
        have d0 : wr.cell? ⟨b, off + k * 6, none⟩ = some (.int .i64 ps[k].page) := HK.out.cellOf (p := ⟨b, off + k * 6, none⟩) (by have h := HC.out k 0 hlp (by decide); exact h) id
        have d1 : wr.cell? ⟨b, off + k * 6 + 1, none⟩ = some (ps[k].v) := HK.out.cellOf (p := ⟨b, off + k * 6 + 1, none⟩) (by have h := HC.out k 1 hlp (by decide); rw [← Nat.add_assoc] at h; exact h) id
        have d2 : wr.cell? ⟨b, off + k * 6 + 2, none⟩ = some (.int .i64 ps[k].pins) := HK.out.cellOf (p := ⟨b, off + k * 6 + 2, none⟩) (by have h := HC.out k 2 hlp (by decide); rw [← Nat.add_assoc] at h; exact h) id
        have d3 : wr.cell? ⟨b, off + k * 6 + 3, none⟩ = some (.bool ps[k].dirty) := HK.out.cellOf (p := ⟨b, off + k * 6 + 3, none⟩) (by have h := HC.out k 3 hlp (by decide); rw [← Nat.add_assoc] at h; exact h) id
        have d4 : wr.cell? ⟨b, off + k * 6 + 4, none⟩ = some (.int .i64 ps[k].rl) := HK.out.cellOf (p := ⟨b, off + k * 6 + 4, none⟩) (by have h := HC.out k 4 hlp (by decide); rw [← Nat.add_assoc] at h; exact h) id
        have d5 : wr.cell? ⟨b, off + k * 6 + 5, none⟩ = some (.bool ps[k].rf) := HK.out.cellOf (p := ⟨b, off + k * 6 + 5, none⟩) (by have h := HC.out k 5 hlp (by decide); rw [← Nat.add_assoc] at h; exact h) id
        rw [e1] at d1
        obtain ⟨pg, hpg⟩ : ∃ x, ps[k].page = x := ⟨_, rfl⟩
        unfold PageOK at hpk
        rw [hpg] at hpk d0 hda
        have HPG : Hid (ps[k].page = pg) := hpg
        have hwl : w.heap.size < wr.heap.size := HB.out.lt
        have hki : (k : Int) < (len : Int) := by omega
        clear hpg e1
        rcases hpk with rfl | ⟨x, rfl, hx⟩
        · have HD : Hid (dupAt ps k = false) := by rw [hda]; rfl
          clear hda
          go_wp2
          go_roundw
          case rel => exact ⟨k + 1, by omega, by go_num, any_range_step HA.out HD.out, by rw [heldV_skip hlp HPG.out]; exact HB.out.same ((Kept.refl _ _).alloc _), HK.out.alloc _⟩
          case measure => simp [intOf]; omega
        · have hcx := HB.out.cell x
          rw [heldV_at ps k x hx] at hcx
          have fz := HB.out.frozen
          have hsame : ((ps.take k).any fun q => (x : Int) == q.page) = (ps.take k).any fun q => q.page == (x : Int) := by
            congr 1
            funext q
            rw [Bool.eq_iff_iff]
            simp
            omega
          rw [hsame, show ((x : Int) != -1) = true from by simp, Bool.true_and] at hda
          cases hb : (ps.take k).any fun q => q.page == (x : Int) with
          | true =>
            rw [hb] at hcx hda
            have HD : Hid (dupAt ps k = true) := hda
            clear hda hb hsame
            go_wp2
            go_ret
            refine ⟨?_, HK.out.alloc _⟩
            rw [← HR.out, show dup ps = true from List.any_eq_true.2 ⟨k, by simpa using hlp, HD.out⟩]
            rfl
          | false =>
            rw [hb] at hcx hda
            have HD : Hid (dupAt ps k = false) := hda
            clear hda hb hsame
            go_wp2
            go_roundw
            case rel =>
              refine ⟨k + 1, by omega, by go_num, any_range_step HA.out HD.out, ?_, ?_⟩
              · rw [← heldV_step hlp hx HPG.out]
                exact (HB.out.stored x (.bool true)).alloc _
              · exact (Kept.setCell HK.out (p := ⟨w.heap.size, x, none⟩) (.inl (Nat.le_refl _)) _).alloc _
            case measure => simp [intOf]; omega
      · obtain rfl : len = k := by omega
        go_wp2
        go_ret
        refine ⟨?_, HK.out⟩
        have h := HA.out
        rw [← HL.out] at h
        rw [← HR.out, show dup ps = false from h]
        rfl
end Go.Proofs.Ytabmhcdldfehnaa

namespace Go.Proofs.Ytabmhcdldfehnaa
set_option maxRecDepth 100000
set_option maxHeartbeats 4000000
open Go.RowKit
set_option linter.unusedVariables false
set_option linter.unusedSimpArgs false
theorem enters_wr : Enters 36 := fun args wx => by simp [callFunc, go_sem, Try.func36, Try.f36]
theorem implPoolFault_any (v : Value) (hand : Int) (ps : List EFrame) (w : World) (hv : RdR kFrame w v ps) :
    Calls Try.prog 12 #[.agg #[v, .int .i64 hand]] w fun e w' => e = .returned (.int .i64 (poolF ps hand)) ∧ Same w w' := by
  obtain ⟨a, c, rfl⟩ := hv.form
  have hmax := hv.max
  unfold maxLen at hmax
  have HV := (show Hid (RdR kFrame w (.slice a ps.length c) ps) from hv)
  clear hv
  have HB0 := (show Hid (Blk (w.alloc (.cells #[.slice a ps.length c, .int .i64 hand] 29)) w.heap.size 29 [.slice a ps.length c, .int .i64 hand]) from Blk.newL w [.slice a ps.length c, .int .i64 hand] 29)
  have HK0 := hid (sameA w [.slice a ps.length c, .int .i64 hand] 29)
  have k3 := fun (wx : World) (h : Same w wx) => containsF0_any 35 bad3 (.slice a ps.length c) ps wx (HV.out.same h) enters_wf (fun p wy a1 c1 hp he hk => wrongFrame_any p a1 c1 wy he)
  have k4 := fun (wx : World) (h : Same w wx) => containsF0_any 36 bad4 (.slice a ps.length c) ps wx (HV.out.same h) enters_wr (fun p wy a1 c1 hp he hk => wrongRecLSN_any p a1 c1 wy he)
  obtain ⟨len, hl⟩ : ∃ n, ps.length = n := ⟨_, rfl⟩
  have HL : Hid (ps.length = len) := hl
  obtain ⟨R, hR⟩ : ∃ R, poolF ps hand = R := ⟨_, rfl⟩
  rw [hR]
  unfold poolF at hR
  rw [hl] at HV HB0 HK0 hmax hR k3 k4 ⊢
  clear hl
  by_cases h1 : len < 1 ∨ 16 < len
  · rw [if_pos h1] at hR
    subst hR
    by_cases h1a : len < 1
    · have q : ((len : Int) < 1) := by omega
      clear h1
      go_enter Try.func12, Try.ntmps12
      go_wp2
      go_ret
      exact ⟨rfl, HK0.out⟩
    · have q : ¬ ((len : Int) < 1) := by omega
      have q2 : (16 : Int) < (len : Int) := by omega
      clear h1
      go_enter Try.func12, Try.ntmps12
      go_wp2
      go_ret
      exact ⟨rfl, HK0.out⟩
  rw [if_neg h1] at hR
  have q1 : ¬ ((len : Int) < 1) := by omega
  have q2 : ¬ ((16 : Int) < (len : Int)) := by omega
  have hl16 : len ≤ 16 := by omega
  clear h1
  by_cases h2 : hand < 0 ∨ (len : Int) ≤ hand
  · rw [if_pos h2] at hR
    subst hR
    by_cases h2a : hand < 0
    · clear h2
      go_enter Try.func12, Try.ntmps12
      go_wp2
      go_ret
      exact ⟨rfl, HK0.out⟩
    · have q3 : (len : Int) ≤ hand := by omega
      clear h2
      go_enter Try.func12, Try.ntmps12
      go_wp2
      go_ret
      exact ⟨rfl, HK0.out⟩
  rw [if_neg h2] at hR
  have q3 : ¬ hand < 0 := by omega
  have q4 : ¬ (len : Int) ≤ hand := by omega
  clear h2
  cases f3 : ps.any bad3 with
  | true =>
    rw [f3] at k3 hR
    rw [if_pos rfl] at hR
    subst hR
    go_enter Try.func12, Try.ntmps12
    go_wp2_with fail
    refine (k3 _ HK0.out).mono ?_
    rintro e w1 ⟨rfl, hk1⟩
    have HK1 := (show Hid (Same w w1) from (HK0.out).trans hk1)
    obtain ⟨g1, g1'⟩ := (HB0.out.same hk1).all2
    have HB1 := hid (HB0.out.same hk1)
    clear hk1
    go_wp2
    go_ret
    exact ⟨rfl, HK1.out⟩
  | false =>
    have hpo : ∀ p ∈ ps, PageOK p := fun p hp => pageOK_of (by
      cases hx : bad3 p with
      | false => rfl
      | true => rw [List.any_eq_true.2 ⟨p, hp, hx⟩] at f3; cases f3)
    have k5 := fun (wx : World) (h : Same w wx) => pageTwice_any (.slice a len c) ps wx (HV.out.same h) hpo
    rw [f3] at k3 hR
    rw [if_neg (by simp)] at hR
    cases f4 : ps.any bad4 with
    | true =>
      rw [f4] at k4 hR
      rw [if_pos rfl] at hR
      subst hR
      go_enter Try.func12, Try.ntmps12
      go_wp2_with fail
      refine (k3 _ HK0.out).mono ?_
      rintro e w1 ⟨rfl, hk1⟩
      have HK1 := (show Hid (Same w w1) from (HK0.out).trans hk1)
      obtain ⟨g1, g1'⟩ := (HB0.out.same hk1).all2
      have HB1 := hid (HB0.out.same hk1)
      clear hk1
      go_wp2_with fail
      refine (k4 _ HK1.out).mono ?_
      rintro e w2 ⟨rfl, hk2⟩
      have HK2 := (show Hid (Same w w2) from (HK1.out).trans hk2)
      obtain ⟨g2, g2'⟩ := (HB1.out.same hk2).all2
      have HB2 := hid (HB1.out.same hk2)
      clear hk2
      go_wp2
      go_ret
      exact ⟨rfl, HK2.out⟩
    | false =>
      rw [f4] at k4 hR
      rw [if_neg (by simp)] at hR
      cases f5 : dup ps with
      | true =>
        rw [f5] at k5 hR
        rw [if_pos rfl] at hR
        subst hR
        go_enter Try.func12, Try.ntmps12
        go_wp2_with fail
        refine (k3 _ HK0.out).mono ?_
        rintro e w1 ⟨rfl, hk1⟩
        have HK1 := (show Hid (Same w w1) from (HK0.out).trans hk1)
        obtain ⟨g1, g1'⟩ := (HB0.out.same hk1).all2
        have HB1 := hid (HB0.out.same hk1)
        clear hk1
        go_wp2_with fail
        refine (k4 _ HK1.out).mono ?_
        rintro e w2 ⟨rfl, hk2⟩
        have HK2 := (show Hid (Same w w2) from (HK1.out).trans hk2)
        obtain ⟨g2, g2'⟩ := (HB1.out.same hk2).all2
        have HB2 := hid (HB1.out.same hk2)
        clear hk2
        go_wp2_with fail
        refine (k5 _ HK2.out).mono ?_
        rintro e w3 ⟨rfl, hk3⟩
        have HK3 := (show Hid (Same w w3) from (HK2.out).trans hk3)
        obtain ⟨g3, g3'⟩ := (HB2.out.same hk3).all2
        have HB3 := hid (HB2.out.same hk3)
        clear hk3
        go_wp2
        go_ret
        exact ⟨rfl, HK3.out⟩
      | false =>
        rw [f5] at k5 hR
        rw [if_neg (by simp)] at hR
        subst hR
        go_enter Try.func12, Try.ntmps12
        go_wp2_with fail
        refine (k3 _ HK0.out).mono ?_
        rintro e w1 ⟨rfl, hk1⟩
        have HK1 := (show Hid (Same w w1) from (HK0.out).trans hk1)
        obtain ⟨g1, g1'⟩ := (HB0.out.same hk1).all2
        have HB1 := hid (HB0.out.same hk1)
        clear hk1
        go_wp2_with fail
        refine (k4 _ HK1.out).mono ?_
        rintro e w2 ⟨rfl, hk2⟩
        have HK2 := (show Hid (Same w w2) from (HK1.out).trans hk2)
        obtain ⟨g2, g2'⟩ := (HB1.out.same hk2).all2
        have HB2 := hid (HB1.out.same hk2)
        clear hk2
        go_wp2_with fail
        refine (k5 _ HK2.out).mono ?_
        rintro e w3 ⟨rfl, hk3⟩
        have HK3 := (show Hid (Same w w3) from (HK2.out).trans hk3)
        obtain ⟨g3, g3'⟩ := (HB2.out.same hk3).all2
        have HB3 := hid (HB2.out.same hk3)
        clear hk3
        go_wp2
        go_ret
        exact ⟨rfl, HK3.out⟩
end Go.Proofs.Ytabmhcdldfehnaa

namespace Go.Proofs.Ytabmhcdldfehnaa
set_option maxRecDepth 100000
set_option maxHeartbeats 4000000
open Go.RowKit
set_option linter.unusedVariables false
set_option linter.unusedSimpArgs false
def findFrom (page : Int) : Nat → List EFrame → Int
  | _, [] => -1
  | k, p :: ps => if p.page = page then (k : Int) else findFrom page (k + 1) ps
def findP (ps : List EFrame) (hand page : Int) : Int := if poolF ps hand ≠ 0 ∨ page = -1 then -1 else findFrom page 0 ps
theorem findFrom_at {page : Int} {ps : List EFrame} {k : Nat} (hk : k < ps.length) :
    findFrom page k (ps.drop k) = if ps[k].page = page then (k : Int) else findFrom page (k + 1) (ps.drop (k + 1)) := by
  rw [List.drop_eq_getElem_cons hk]
  rfl
theorem findFrom_end {page : Int} {ps : List EFrame} : findFrom page ps.length (ps.drop ps.length) = -1 := by
  rw [List.drop_length]
  rfl
theorem poolF_len {ps : List EFrame} {hand : Int} (h : poolF ps hand = 0) : 1 ≤ ps.length ∧ ps.length ≤ 16 ∧ 0 ≤ hand ∧ hand < (ps.length : Int) := by
  unfold poolF at h
  by_cases h1 : ps.length < 1 ∨ 16 < ps.length
  · rw [if_pos h1] at h; cases h
  rw [if_neg h1] at h
  by_cases h2 : hand < 0 ∨ (ps.length : Int) ≤ hand
  · rw [if_pos h2] at h; cases h
  omega
theorem specPoolFind_any (v : Value) (hand page : Int) (ps : List EFrame) (w : World) (hv : RdR kFrame w v ps) :
    Calls Try.prog 14 #[.agg #[v, .int .i64 hand], .int .i64 page] w fun e w' => e = .returned (.int .i64 (findP ps hand page)) ∧ Same w w' := by
  obtain ⟨a, c, rfl⟩ := hv.form
  have hmax := hv.max
  unfold maxLen at hmax
  have HV := (show Hid (RdR kFrame w (.slice a ps.length c) ps) from hv)
  clear hv
  have HB0 := (show Hid (Blk (w.alloc (.cells #[.slice a ps.length c, .int .i64 hand] 29)) w.heap.size 29 [.slice a ps.length c, .int .i64 hand]) from Blk.newL w [.slice a ps.length c, .int .i64 hand] 29)
  have HK0 := hid (sameA w [.slice a ps.length c, .int .i64 hand] 29)
  have k0 := specPoolFault_any (.slice a ps.length c) hand ps (w.alloc (.cells #[.slice a ps.length c, .int .i64 hand] 29)) (HV.out.same HK0.out)
  obtain ⟨len, hl⟩ : ∃ n, ps.length = n := ⟨_, rfl⟩
  have HL : Hid (ps.length = len) := hl
  obtain ⟨R, hR⟩ : ∃ R, findP ps hand page = R := ⟨_, rfl⟩
  rw [hR]
  unfold findP at hR
  obtain ⟨q, hq⟩ : ∃ q, poolF ps hand = q := ⟨_, rfl⟩
  rw [hq] at hR k0
  rw [hl] at HV HB0 HK0 hmax k0 ⊢
  by_cases h0 : q = 0
  · have hlen := poolF_len (hq.trans h0)
    rw [hl] at hlen
    obtain ⟨hl1, hl16, hh0, hh1⟩ := hlen
    clear hl hq
    subst h0
    by_cases h1 : page = -1
    · rw [if_pos (.inr h1)] at hR
      subst hR
      subst h1
      go_enter Try.func14, Try.ntmps14
      go_wp2_with fail
      refine k0.mono ?_
      rintro e w1 ⟨rfl, hk1⟩
      have HK1 := (show Hid (Same w w1) from HK0.out.trans hk1)
      go_wp2
      go_ret
      exact ⟨rfl, HK1.out⟩
    · rw [if_neg (by simp [h1])] at hR
      have HR : Hid (findFrom page 0 (ps.drop 0) = R) := by rw [List.drop_zero]; exact hR
      clear hR
      rcases HV.out.row with ⟨hps, _⟩ | ⟨b, off, c', he, hc⟩
      · have := HL.out
        rw [hps] at this
        simp at this
        omega
      injection he with he1 he2 he3
      subst he1 he3
      have HC : Hid (∀ j i, (h : j < ps.length) → i < 6 → w.cell? ⟨b, off + (j * 6 + i), none⟩ = (kFrame.cells ps[j])[i]?) := hc
      clear hc he2
      go_enter Try.func14, Try.ntmps14
      go_wp2_with fail
      refine k0.mono ?_
      rintro e w1 ⟨rfl, hk1⟩
      have HK1 := (show Hid (Same w w1) from HK0.out.trans hk1)
      have HB1 := hid (HB0.out.same hk1)
      clear hk1 k0
      go_wp2_with fail
      go_loopw [5] (fun i wr => ∃ k : Nat, k ≤ len ∧ i = .int .i64 k ∧ Hid (findFrom page k (ps.drop k) = R) ∧ Hid (Same w wr) ∧ Hid (Blk wr w.heap.size 29 [.slice (some ⟨b, off, none⟩) len c, .int .i64 hand])) (fun i _ => len - (intOf i).toNat)
      case atStart => exact ⟨0, Nat.zero_le _, rfl, HR, HK1, HB1⟩
      case round =>
        obtain ⟨k, hk, rfl, HA, HK, HB⟩ := hrel
        obtain ⟨g0, g1⟩ := HB.out.all2
        by_cases hlt : k < len
        · have hlp : k < ps.length := by rw [HL.out]; exact hlt
          obtain ⟨pg, hpg⟩ : ∃ x, ps[k].page = x := ⟨_, rfl⟩
          have HPG : Hid (ps[k].page = pg) := hpg
          have d0 : wr.cell? ⟨b, off + k * 6, none⟩ = some (.int .i64 pg) := by have h := HC.out k 0 hlp (by decide); rw [← hpg]; exact HK.out.cellOf h id
          clear hpg
          have HA2 : Hid ((if pg = page then (k : Int) else findFrom page (k + 1) (ps.drop (k + 1))) = R) := by have h := HA.out; rw [findFrom_at hlp, HPG.out] at h; exact h
          by_cases h2 : pg = page
          · have HE : Hid ((k : Int) = R) := by have h := HA2.out; rw [if_pos h2] at h; exact h
            clear HA2 HA
            subst h2
            go_wp2
            go_ret
            exact ⟨by rw [← HE.out]; rfl, HK.out⟩
          · go_wp2
            go_roundw
            case rel => exact ⟨k + 1, by omega, by go_num, by have h := HA2.out; rw [if_neg h2] at h; exact h, HK, HB⟩
            case measure => simp [intOf]; omega
        · obtain rfl : len = k := by omega
          have he : (-1 : Int) = R := by have h := HA.out; rw [← HL.out, findFrom_end] at h; exact h
          go_wp2
          go_ret
          exact ⟨by rw [← he]; rfl, HK.out⟩
  · rw [if_pos (.inl h0)] at hR
    subst hR
    go_enter Try.func14, Try.ntmps14
    go_wp2_with fail
    refine k0.mono ?_
    rintro e w1 ⟨rfl, hk1⟩
    have HK1 := (show Hid (Same w w1) from HK0.out.trans hk1)
    go_wp2
    go_ret
    exact ⟨rfl, HK1.out⟩
end Go.Proofs.Ytabmhcdldfehnaa

namespace Go.Proofs.Ytabmhcdldfehnaa
set_option maxRecDepth 100000
open Go.RowKit
set_option linter.unusedVariables false
set_option linter.unusedSimpArgs false
theorem any_dat {ps qs : List EFrame} (h : datFrameS qs = datFrameS ps) (f : EFrame → Bool) (hf : ∀ p q : EFrame, p.dat = q.dat → f p = f q) : qs.any f = ps.any f := by
  induction qs generalizing ps with
  | nil =>
    cases ps with
    | nil => rfl
    | cons p ps => simp [datFrameS] at h
  | cons q qs ih =>
    cases ps with
    | nil => simp [datFrameS] at h
    | cons p ps =>
      simp only [datFrameS, List.map_cons, List.cons.injEq] at h
      rw [List.any_cons, List.any_cons, hf q p h.1, ih h.2]
theorem dat_take {ps qs : List EFrame} (h : datFrameS qs = datFrameS ps) (k : Nat) : datFrameS (qs.take k) = datFrameS (ps.take k) := by
  unfold datFrameS at h ⊢
  rw [List.map_take, List.map_take, h]
theorem EFrame.dat_eq {p q : EFrame} (h : p.dat = q.dat) : p.page = q.page ∧ p.bs = q.bs ∧ p.pins = q.pins ∧ p.dirty = q.dirty ∧ p.rl = q.rl ∧ p.rf = q.rf := by
  simp only [EFrame.dat, Prod.mk.injEq] at h
  exact h
theorem dat_len {ps qs : List EFrame} (h : datFrameS qs = datFrameS ps) : qs.length = ps.length := by rw [← datFrameS_length, h, datFrameS_length]
theorem dupAt_dat {ps qs : List EFrame} (h : datFrameS qs = datFrameS ps) (i : Nat) : dupAt qs i = dupAt ps i := by
  have hl := dat_len h
  unfold dupAt
  by_cases hi : i < ps.length
  · have hi' : i < qs.length := by omega
    rw [List.getElem?_eq_getElem hi, List.getElem?_eq_getElem hi']
    dsimp only
    rw [(EFrame.dat_eq (datFrameS_at h i hi' hi)).1]
    rw [any_dat (dat_take h i) (fun q => ps[i].page == q.page) (fun p q e => by rw [(EFrame.dat_eq e).1])]
  · rw [List.getElem?_eq_none (by omega), List.getElem?_eq_none (by omega)]
theorem poolF_dat {ps qs : List EFrame} {hand : Int} (h : datFrameS qs = datFrameS ps) : poolF qs hand = poolF ps hand := by
  have hl := dat_len h
  unfold poolF
  rw [hl]
  rw [any_dat h bad3 (fun p q e => by obtain ⟨e1, e2, e3, e4, e5, e6⟩ := EFrame.dat_eq e; unfold bad3; rw [e1, e2, e3, e4, e5, e6])]
  rw [any_dat h bad4 (fun p q e => by obtain ⟨e1, e2, e3, e4, e5, e6⟩ := EFrame.dat_eq e; unfold bad4; rw [e4, e5])]
  have hd : dup qs = dup ps := by
    unfold dup
    rw [hl]
    congr 1
    funext i
    exact dupAt_dat h i
  rw [hd]
theorem findFrom_dat {page : Int} {ps qs : List EFrame} (h : datFrameS qs = datFrameS ps) (k : Nat) : findFrom page k qs = findFrom page k ps := by
  induction qs generalizing ps k with
  | nil =>
    cases ps with
    | nil => rfl
    | cons p ps => simp [datFrameS] at h
  | cons q qs ih =>
    cases ps with
    | nil => simp [datFrameS] at h
    | cons p ps =>
      simp only [datFrameS, List.map_cons, List.cons.injEq] at h
      simp only [findFrom]
      rw [(EFrame.dat_eq h.1).1, ih h.2]
theorem findP_dat {ps qs : List EFrame} {hand page : Int} (h : datFrameS qs = datFrameS ps) : findP qs hand page = findP ps hand page := by
  unfold findP
  rw [poolF_dat h, findFrom_dat h]
end Go.Proofs.Ytabmhcdldfehnaa
