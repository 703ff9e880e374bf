import Derived.Test.YtabmhcdldfehnaaG04
namespace Go.Proofs.Ytabmhcdldfehnaa
set_option maxRecDepth 100000
set_option maxHeartbeats 4000000
open Go.RowKit
set_option linter.unusedVariables false
set_option linter.unusedSimpArgs false
theorem idx_find (page : Int) (ps : List EFrame) (k : Nat) : idxFrom (fun p => p.page == page) k ps = findFrom page k ps := by
  induction ps generalizing k with
  | nil => rfl
  | cons p ps ih =>
    by_cases h : p.page = page
    · rw [show idxFrom (fun p => p.page == page) k (p :: ps) = k from if_pos (by simpa using h), show findFrom page k (p :: ps) = k from if_pos h]
    · rw [show idxFrom (fun p => p.page == page) k (p :: ps) = idxFrom (fun p => p.page == page) (k + 1) ps from if_neg (by simpa using h), show findFrom page k (p :: ps) = findFrom page (k + 1) ps from if_neg h]
      exact ih (k + 1)
theorem findFrom_none {page : Int} {ps : List EFrame} (k : Nat) (h : ∀ p ∈ ps, p.page ≠ page) : findFrom page k ps = -1 := by
  induction ps generalizing k with
  | nil => rfl
  | cons p ps ih =>
    rw [show findFrom page k (p :: ps) = findFrom page (k + 1) ps from if_neg (h p (by simp))]
    exact ih (k + 1) (fun q hq => h q (by simp [hq]))
theorem poolF_any3 {ps : List EFrame} {hand : Int} (h : poolF ps hand = 0) : ∀ p ∈ ps, bad3 p = false := by
  obtain ⟨h1, h2, h3, h4⟩ := poolF_len h
  unfold poolF at h
  rw [if_neg (by omega), if_neg (by omega)] at h
  have hb : ps.any bad3 = false := by
    cases hx : ps.any bad3 with
    | false => rfl
    | true => rw [hx] at h; simp at h
  intro p hp
  cases hx : bad3 p with
  | false => rfl
  | true => rw [List.any_eq_true.2 ⟨p, hp, hx⟩] at hb; cases hb
theorem findP_eq (ps : List EFrame) (hand page : Int) : findP ps hand page = if poolF ps hand ≠ 0 ∨ isPageB page = false then -1 else findFrom page 0 ps := by
  unfold findP
  by_cases h0 : poolF ps hand ≠ 0
  · rw [if_pos (.inl h0), if_pos (.inl h0)]
  · have h1 : poolF ps hand = 0 := Classical.not_not.1 h0
    by_cases hp : page = -1
    · rw [if_pos (.inr hp), if_pos (.inr (by rw [hp]; rfl))]
    · rw [if_neg (by simp [h1, hp])]
      by_cases h2 : isPageB page = false
      · rw [if_pos (.inr h2)]
        refine findFrom_none 0 (fun p hpm e => ?_)
        unfold isPageB at h2
        rcases pageOK_of (poolF_any3 h1 p hpm) with h | ⟨x, h, hx⟩
        · omega
        · have h3 : page = (x : Int) := by omega
          rw [h3] at h2
          simp at h2
          omega
      · rw [if_neg (by simp [h1, h2])]
theorem find1_any (page : Int) (P : Nat) (p : EFrame) (a : Option Addr) (c : Nat) (w : World) (hv : p.v = .slice a p.bs.length c) (hb : Blk w P 2 [.int .i64 page]) :
    Calls Try.prog 41 #[.agg #[.int .i64 p.page, p.v, .int .i64 p.pins, .bool p.dirty, .int .i64 p.rl, .bool p.rf], .pointer (some ⟨P, 0, none⟩)] w fun e w' => e = .returned (.bool (p.page == page)) ∧ Same w w' := by
  rw [hv]
  have hc := hb.c0
  have hl := hb.lt
  clear hb
  go_enter Try.func41, Try.ntmps41
  go_wp2
  go_ret
  exact ⟨rfl, (Kept.refl _ _).alloc _⟩
theorem enters_f1 : Enters 41 := fun args wx => by simp [callFunc, go_sem, Try.func41, Try.f41]
theorem implPoolFind_any (v : Value) (hand page : Int) (ps : List EFrame) (w : World) (hv : RdR kFrame w v ps) :
    Calls Try.prog 15 #[.agg #[v, .int .i64 hand], .int .i64 page] w fun e w' => e = .returned (.int .i64 (findP ps hand page)) ∧ Same w w' := by
  obtain ⟨a, c, rfl⟩ := hv.form
  have HV := (show Hid (RdR kFrame w (.slice a ps.length c) ps) from hv)
  clear hv
  have hk0 : Same w ((w.alloc (.cells #[.slice a ps.length c, .int .i64 hand] 29)).alloc (.cells #[.int .i64 page] 2)) := ((Kept.refl _ _).alloc _).alloc _
  have HB0 := (show Hid (Blk ((w.alloc (.cells #[.slice a ps.length c, .int .i64 hand] 29)).alloc (.cells #[.int .i64 page] 2)) w.heap.size 29 [.slice a ps.length c, .int .i64 hand]) from Blk.newA w [.slice a ps.length c, .int .i64 hand] 29 [.int .i64 page] 2)
  have HB1 := (show Hid (Blk ((w.alloc (.cells #[.slice a ps.length c, .int .i64 hand] 29)).alloc (.cells #[.int .i64 page] 2)) (w.heap.size + 1) 2 [.int .i64 page]) from Blk.newB w [.slice a ps.length c, .int .i64 hand] 29 [.int .i64 page] 2)
  have k0 := implPoolFault_any (.slice a ps.length c) hand ps _ (HV.out.same hk0)
  have HK0 := (show Hid (Same w _) from hk0)
  have kp := isPage_eq page
  have ki := fun (wx : World) (h : Same w wx) (hb : Blk wx (w.heap.size + 1) 2 [.int .i64 page]) => indexF1_any 41 (.pointer (some ⟨w.heap.size + 1, 0, none⟩)) (fun p => p.page == page) (.slice a ps.length c) ps wx (HV.out.same h) enters_f1 (fun p wy a1 c1 hp he hk => find1_any page (w.heap.size + 1) p a1 c1 wy he (hb.same hk))
  rw [idx_find] at ki
  have hmf : ∀ (fn : Fn) (first cap : Array Value) (w : World), (Instr.makeFunc fn first cap).run Try.prog w = .ok (.func fn first cap) w := fun _ _ _ _ => rfl
  obtain ⟨R, hR⟩ : ∃ R, findP ps hand page = R := ⟨_, rfl⟩
  rw [hR]
  rw [findP_eq] at hR
  obtain ⟨q, hq⟩ : ∃ q, poolF ps hand = q := ⟨_, rfl⟩
  rw [hq] at hR k0
  clear hq hk0
  by_cases h0 : q = 0
  · subst h0
    cases hp : isPageB page with
    | false =>
      rw [hp] at kp hR
      rw [if_pos (.inr rfl)] at hR
      subst hR
      go_enter Try.func15, Try.ntmps15
      go_wp2_with fail
      refine k0.mono ?_
      rintro e w1 ⟨rfl, hk1⟩
      have HK1 := (show Hid (Same w w1) from HK0.out.trans hk1)
      have g1 := (HB1.out.same hk1).c0
      go_wp2_with fail
      refine (kp _).mono ?_
      rintro e w2 ⟨rfl, rfl⟩
      go_wp2
      go_ret
      exact ⟨rfl, HK1.out⟩
    | true =>
      rw [hp] at kp hR
      rw [if_neg (by simp)] at hR
      rw [hR] at ki
      clear hR
      go_enter Try.func15, Try.ntmps15
      go_wp2_with fail
      refine k0.mono ?_
      rintro e w1 ⟨rfl, hk1⟩
      have HK1 := (show Hid (Same w w1) from HK0.out.trans hk1)
      have HB11 := (show Hid (Blk w1 (w.heap.size + 1) 2 [.int .i64 page]) from HB1.out.same hk1)
      have g1 := (HB1.out.same hk1).c0
      obtain ⟨g2, g3⟩ := (HB0.out.same hk1).all2
      clear hk1
      go_wp2_with fail
      refine (kp _).mono ?_
      rintro e w2 ⟨rfl, rfl⟩
      go_wp2_with fail
      refine (ki _ HK1.out HB11.out).mono ?_
      rintro e w3 ⟨rfl, hk3⟩
      go_wp2
      go_ret
      exact ⟨rfl, HK1.out.trans hk3⟩
  · rw [if_pos (.inl h0)] at hR
    subst hR
    go_enter Try.func15, Try.ntmps15
    go_wp2_with fail
    refine k0.mono ?_
    rintro e w1 ⟨rfl, hk1⟩
    have HK1 := (show Hid (Same w w1) from HK0.out.trans hk1)
    go_wp2
    go_ret
    exact ⟨rfl, HK1.out⟩
end Go.Proofs.Ytabmhcdldfehnaa
