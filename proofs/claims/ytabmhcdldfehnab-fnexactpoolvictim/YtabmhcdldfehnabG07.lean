import Derived.Test.YtabmhcdldfehnabG03
import Derived.Test.YtabmhcdldfehnabG04
import Derived.Test.YtabmhcdldfehnabG05
namespace Go.Proofs.Ytabmhcdldfehnab
open Go.RowKit
set_option linter.unusedVariables false
set_option linter.unusedSimpArgs false
abbrev FD := Int × List Int × Int × Bool × Int × Bool
def unref (d : FD) : FD := (d.1, d.2.1, d.2.2.1, d.2.2.2.1, d.2.2.2.2.1, false)
def clk : Nat → List FD → Nat → Option (Nat × Nat × List FD)
  | 0, _, _ => none
  | f + 1, fs, h => match fs[h]? with
    | none => none
    | some d => if 0 < d.2.2.1 then clk f fs ((h + 1) % fs.length) else if d.2.2.2.2.2 = false then some (h, (h + 1) % fs.length, fs) else clk f (fs.set h (unref d)) ((h + 1) % fs.length)
section
variable {f h : Nat} {fs : List FD} {d : FD}
theorem clk_pinned (hd : fs[h]? = some d) (hp : 0 < d.2.2.1) : clk (f + 1) fs h = clk f fs ((h + 1) % fs.length) := by
  simp only [clk, hd]
  rw [if_pos hp]
theorem clk_found (hd : fs[h]? = some d) (hp : ¬ 0 < d.2.2.1) (hr : d.2.2.2.2.2 = false) : clk (f + 1) fs h = some (h, (h + 1) % fs.length, fs) := by
  simp only [clk, hd]
  rw [if_neg hp, if_pos hr]
theorem clk_ref (hd : fs[h]? = some d) (hp : ¬ 0 < d.2.2.1) (hr : d.2.2.2.2.2 = true) : clk (f + 1) fs h = clk f (fs.set h (unref d)) ((h + 1) % fs.length) := by
  simp only [clk, hd]
  rw [if_neg hp, if_neg (by rw [hr]; simp)]
end
theorem next_at {n h i : Nat} (hi : 0 < i) : ((h + 1) % n + (i - 1)) % n = (h + i) % n := by
  rw [Nat.mod_add_mod, show h + 1 + (i - 1) = h + i from by omega]
theorem clk_second (m : Nat) : ∀ (fs : List FD) (h i : Nat) (d : FD), h < fs.length → i < m → fs[(h + i) % fs.length]? = some d → ¬ 0 < d.2.2.1 → d.2.2.2.2.2 = false → clk m fs h ≠ none := by
  induction m with
  | zero => intro fs h i d _ hi; omega
  | succ m ih =>
    intro fs h i d hh hi hd hp hr
    have hn : (h + 1) % fs.length < fs.length := Nat.mod_lt _ (by omega)
    obtain ⟨x, hx⟩ : ∃ x, fs[h]? = some x := ⟨_, List.getElem?_eq_getElem hh⟩
    by_cases hxp : 0 < x.2.2.1
    · rw [clk_pinned hx hxp]
      have hi0 : 0 < i := by
        rcases Nat.eq_zero_or_pos i with rfl | h0
        · rw [Nat.add_zero, Nat.mod_eq_of_lt hh, hx] at hd
          obtain rfl := Option.some.inj hd
          exact absurd hxp hp
        · exact h0
      exact ih fs _ (i - 1) d hn (by omega) (by rw [next_at hi0]; exact hd) hp hr
    · cases hxr : x.2.2.2.2.2 with
      | false => rw [clk_found hx hxp hxr]; simp
      | true =>
        rw [clk_ref hx hxp hxr]
        have hi0 : 0 < i := by
          rcases Nat.eq_zero_or_pos i with rfl | h0
          · rw [Nat.add_zero, Nat.mod_eq_of_lt hh, hx] at hd
            obtain rfl := Option.some.inj hd
            rw [hxr] at hr
            cases hr
          · exact h0
        by_cases he : (h + i) % fs.length = h
        · have := ih (fs.set h (unref x)) ((h + 1) % fs.length) (i - 1) (unref x) (by rw [List.length_set]; exact hn) (by omega) (by rw [List.length_set, next_at hi0, he, List.getElem?_set_self hh]) hxp rfl
          exact this
        · exact ih (fs.set h (unref x)) ((h + 1) % fs.length) (i - 1) d (by rw [List.length_set]; exact hn) (by omega) (by rw [List.length_set, next_at hi0, List.getElem?_set_ne (fun e => he e.symm)]; exact hd) hp hr
theorem clk_first (j : Nat) : ∀ (fs : List FD) (h i : Nat) (d : FD), h < fs.length → i < j → fs[(h + i) % fs.length]? = some d → ¬ 0 < d.2.2.1 → clk (j + fs.length) fs h ≠ none := by
  induction j with
  | zero => intro fs h i d _ hi; omega
  | succ j ih =>
    intro fs h i d hh hi hd hp
    have hn : (h + 1) % fs.length < fs.length := Nat.mod_lt _ (by omega)
    obtain ⟨x, hx⟩ : ∃ x, fs[h]? = some x := ⟨_, List.getElem?_eq_getElem hh⟩
    rw [show j + 1 + fs.length = (j + fs.length) + 1 from by omega]
    by_cases hxp : 0 < x.2.2.1
    · rw [clk_pinned hx hxp]
      have hi0 : 0 < i := by
        rcases Nat.eq_zero_or_pos i with rfl | h0
        · rw [Nat.add_zero, Nat.mod_eq_of_lt hh, hx] at hd
          obtain rfl := Option.some.inj hd
          exact absurd hxp hp
        · exact h0
      exact ih fs _ (i - 1) d hn (by omega) (by rw [next_at hi0]; exact hd) hp
    · cases hxr : x.2.2.2.2.2 with
      | false => rw [clk_found hx hxp hxr]; simp
      | true =>
        rw [clk_ref hx hxp hxr]
        refine clk_second _ (fs.set h (unref x)) ((h + 1) % fs.length) (fs.length - 1) (unref x) (by rw [List.length_set]; exact hn) (by omega) ?_ hxp rfl
        rw [List.length_set, Nat.mod_add_mod, show h + 1 + (fs.length - 1) = h + fs.length from by omega, Nat.add_mod_right, Nat.mod_eq_of_lt hh, List.getElem?_set_self hh]
theorem clk_some {fs : List FD} {h k : Nat} {d : FD} (hh : h < fs.length) (hk : fs[k]? = some d) (hp : ¬ 0 < d.2.2.1) : clk (fs.length + fs.length) fs h ≠ none := by
  have hkl : k < fs.length := (List.getElem?_eq_some_iff.1 hk).1
  refine clk_first fs.length fs h ((k + (fs.length - h)) % fs.length) d hh (Nat.mod_lt _ (by omega)) ?_ hp
  rw [Nat.add_mod_mod, show h + (k + (fs.length - h)) = k + fs.length from by omega, Nat.add_mod_right, Nat.mod_eq_of_lt hkl]
  exact hk
theorem clk_none (f : Nat) : ∀ (fs : List FD) (h : Nat), (∀ d ∈ fs, 0 < d.2.2.1) → clk f fs h = none := by
  induction f with
  | zero => intro fs h _; rfl
  | succ f ih =>
    intro fs h hp
    cases hd : fs[h]? with
    | none => simp only [clk, hd]
    | some d => rw [clk_pinned hd (hp d (List.mem_of_getElem? hd))]; exact ih fs _ hp
def stp : Nat → List FD → Nat → Nat
  | 0, _, _ => 0
  | f + 1, fs, h => match fs[h]? with
    | none => 0
    | some d => if 0 < d.2.2.1 then 1 + stp f fs ((h + 1) % fs.length) else if d.2.2.2.2.2 = false then 0 else 1 + stp f (fs.set h (unref d)) ((h + 1) % fs.length)
section
variable {f h : Nat} {fs : List FD} {d : FD}
theorem stp_pinned (hd : fs[h]? = some d) (hp : 0 < d.2.2.1) : stp (f + 1) fs h = 1 + stp f fs ((h + 1) % fs.length) := by
  simp only [stp, hd]
  rw [if_pos hp]
theorem stp_found (hd : fs[h]? = some d) (hp : ¬ 0 < d.2.2.1) (hr : d.2.2.2.2.2 = false) : stp (f + 1) fs h = 0 := by
  simp only [stp, hd]
  rw [if_neg hp, if_pos hr]
theorem stp_ref (hd : fs[h]? = some d) (hp : ¬ 0 < d.2.2.1) (hr : d.2.2.2.2.2 = true) : stp (f + 1) fs h = 1 + stp f (fs.set h (unref d)) ((h + 1) % fs.length) := by
  simp only [stp, hd]
  rw [if_neg hp, if_neg (by rw [hr]; simp)]
end
theorem stp_mono (f : Nat) : ∀ (fs : List FD) (h : Nat), clk f fs h ≠ none → ∀ F, f ≤ F → stp F fs h = stp f fs h := by
  induction f with
  | zero => intro fs h hc; exact absurd rfl hc
  | succ f ih =>
    intro fs h hc F hF
    obtain ⟨G, rfl⟩ : ∃ G, F = G + 1 := ⟨F - 1, by omega⟩
    cases hd : fs[h]? with
    | none => simp only [clk, hd] at hc; exact absurd rfl hc
    | some d =>
      by_cases hp : 0 < d.2.2.1
      · rw [clk_pinned hd hp] at hc
        rw [stp_pinned hd hp, stp_pinned hd hp, ih fs _ hc G (by omega)]
      · cases hr : d.2.2.2.2.2 with
        | false => rw [stp_found hd hp hr, stp_found hd hp hr]
        | true =>
          rw [clk_ref hd hp hr] at hc
          rw [stp_ref hd hp hr, stp_ref hd hp hr, ih _ _ hc G (by omega)]
def red (d : FD) : Int × Bool := (d.2.2.1, d.2.2.2.2.2)
theorem stp_red (f : Nat) : ∀ (fs gs : List FD) (h : Nat), fs.map red = gs.map red → stp f fs h = stp f gs h := by
  induction f with
  | zero => intro fs gs h _; rfl
  | succ f ih =>
    intro fs gs h he
    have hl : fs.length = gs.length := by have := congrArg List.length he; simpa using this
    have ha : fs[h]?.map red = gs[h]?.map red := by have := congrArg (fun l => l[h]?) he; simpa using this
    cases hd : fs[h]? with
    | none =>
      rw [hd] at ha
      cases hg : gs[h]? with
      | none => simp only [stp, hd, hg]
      | some x => rw [hg] at ha; cases ha
    | some d =>
      rw [hd] at ha
      cases hg : gs[h]? with
      | none => rw [hg] at ha; cases ha
      | some x =>
        rw [hg] at ha
        have hx : red d = red x := Option.some.inj ha
        simp only [red, Prod.mk.injEq] at hx
        obtain ⟨e1, e2⟩ := hx
        by_cases hp : 0 < d.2.2.1
        · rw [stp_pinned hd hp, stp_pinned hg (by rw [← e1]; exact hp), ih fs gs _ he, hl]
        · cases hr : d.2.2.2.2.2 with
          | false => rw [stp_found hd hp hr, stp_found hg (by rw [← e1]; exact hp) (by rw [← e2]; exact hr)]
          | true =>
            rw [stp_ref hd hp hr, stp_ref hg (by rw [← e1]; exact hp) (by rw [← e2]; exact hr), hl]
            rw [ih (fs.set h (unref d)) (gs.set h (unref x)) _ ?_]
            rw [List.map_set, List.map_set, he]
            congr 1
            simp [red, unref, e1]
end Go.Proofs.Ytabmhcdldfehnab

namespace Go.Proofs.Ytabmhcdldfehnab
set_option maxRecDepth 100000
set_option maxHeartbeats 8000000
open Go.RowKit
set_option linter.unusedVariables false
set_option linter.unusedSimpArgs false
def vicR : Option (Nat × Nat × List FD) → Int × Int × Int × List FD
  | none => (2, 0, 0, [])
  | some R => (0, (R.1 : Int), (R.2.1 : Int), R.2.2)
def victimP (ps : List EFrame) (hand : Int) : Int × Int × Int × List FD :=
  if poolF ps hand ≠ 0 then (1, 0, 0, []) else
  if findFrom (-1) 0 ps ≠ -1 then (0, findFrom (-1) 0 ps, hand, datFrameS ps) else
  vicR (clk (ps.length + ps.length) (datFrameS ps) hand.toNat)
theorem victimP_dat {ps qs : List EFrame} {hand : Int} (h : datFrameS qs = datFrameS ps) : victimP qs hand = victimP ps hand := by
  unfold victimP
  rw [poolF_dat h, findFrom_dat h, h, dat_len h]
theorem clk_keeps (f : Nat) : ∀ (fs : List FD) (h : Nat) (R : Nat × Nat × List FD), clk f fs h = some R → R.2.2.map (fun d => d.2.1) = fs.map (fun d => d.2.1) := by
  induction f with
  | zero => intro fs h R e; cases e
  | succ f ih =>
    intro fs h R e
    cases hd : fs[h]? with
    | none => simp only [clk, hd] at e; cases e
    | some d =>
      by_cases hp : 0 < d.2.2.1
      · rw [clk_pinned hd hp] at e; exact ih fs _ R e
      · cases hr : d.2.2.2.2.2 with
        | false => rw [clk_found hd hp hr] at e; cases e; rfl
        | true =>
          rw [clk_ref hd hp hr] at e
          rw [ih _ _ R e, List.map_set]
          have hl := (List.getElem?_eq_some_iff.1 hd)
          obtain ⟨h1, h2⟩ := hl
          apply List.ext_getElem?
          intro i
          by_cases hi : i = h
          · subst hi
            rw [List.getElem?_set_self (by simpa using h1), List.getElem?_map, hd]
            rfl
          · rw [List.getElem?_set_ne (by omega)]
theorem victimP_small {ps qs : List EFrame} {hand a b c : Int} (h : (a, b, c, datFrameS qs) = victimP ps hand) : SmallF (datFrameS qs) := by
  have none_small : SmallF [] := ⟨by simp, fun x hx => by simp at hx⟩
  unfold victimP at h
  by_cases h0 : poolF ps hand ≠ 0
  · rw [if_pos h0] at h
    simp only [Prod.mk.injEq] at h
    rw [h.2.2.2]; exact none_small
  rw [if_neg h0] at h
  have h1 : poolF ps hand = 0 := Classical.not_not.1 h0
  have hl := (poolF_len h1).2.1
  have hsm : SmallF (datFrameS ps) := ⟨by rw [datFrameS_length]; omega, fun x hx => by
    obtain ⟨p, hp, rfl⟩ := List.mem_map.1 hx
    have := (frame_of h1 p hp).2
    exact Nat.le_trans this (by omega)⟩
  by_cases h2 : findFrom (-1) 0 ps ≠ -1
  · rw [if_pos h2] at h
    simp only [Prod.mk.injEq] at h
    rw [h.2.2.2]; exact hsm
  rw [if_neg h2] at h
  cases hc : clk (ps.length + ps.length) (datFrameS ps) hand.toNat with
  | none =>
    rw [hc] at h
    simp only [vicR, Prod.mk.injEq] at h
    rw [h.2.2.2]; exact none_small
  | some R =>
    rw [hc] at h
    simp only [vicR, Prod.mk.injEq] at h
    rw [h.2.2.2]
    have hk := clk_keeps _ _ _ R hc
    refine ⟨?_, fun x hx => ?_⟩
    · have := congrArg List.length hk
      simp only [List.length_map] at this
      rw [this]; exact hsm.1
    · have : x.2.1 ∈ (datFrameS ps).map (fun d => d.2.1) := by rw [← hk]; exact List.mem_map_of_mem (f := fun d : FD => d.2.1) hx
      obtain ⟨y, hy, he⟩ := List.mem_map.1 this
      rw [← he]; exact hsm.2 y hy
def rdP (w : World) (g k : Nat) : Int := match w.cell? ⟨g, k * 6 + 2, none⟩ with
  | some (.int _ x) => x
  | _ => 0
def rdB (w : World) (g k : Nat) : Bool := match w.cell? ⟨g, k * 6 + 5, none⟩ with
  | some (.bool b) => b
  | _ => false
def rdF (w : World) (g n : Nat) : List FD := (List.range n).map fun k => (0, [], rdP w g k, false, 0, rdB w g k)
def rdH (w : World) (V : Nat) : Nat := match w.cell? ⟨V, 1, none⟩ with
  | some (.int _ x) => x.toNat
  | _ => 0
theorem rdF_red {base : Nat} {tw tb : TypeId} {w : World} {g n cap : Nat} {qs : List EFrame} (ho : OwnR kFrame base tw tb w (.slice (some ⟨g, 0, none⟩) n cap) qs) (hn : n = qs.length) : (rdF w g n).map red = (datFrameS qs).map red := by
  apply List.ext_getElem?
  intro k
  unfold rdF datFrameS
  rw [List.map_map, List.map_map, List.getElem?_map, List.getElem?_map]
  by_cases hk : k < n
  · have hq : k < qs.length := by omega
    rw [List.getElem?_range hk, List.getElem?_eq_getElem hq]
    have h2 : w.cell? ⟨g, k * 6 + 2, none⟩ = some (.int .i64 qs[k].pins) := ho.cell hn k 2 hq (by decide)
    have h5 : w.cell? ⟨g, k * 6 + 5, none⟩ = some (.bool qs[k].rf) := ho.cell hn k 5 hq (by decide)
    simp [red, rdP, rdB, h2, h5, EFrame.dat]
  · rw [List.getElem?_eq_none (by simpa using hk), List.getElem?_eq_none (by omega)]
    rfl
theorem rdH_at {w : World} {V h : Nat} {t : TypeId} {v : Value} (hb : Blk w V t [v, .int .i64 (h : Int)]) : rdH w V = h := by
  have hc := hb.c1
  simp [rdH, hc]
theorem rem_nat (h n : Nat) (hn : 0 < n) : ((h : Int) + 1).tmod (n : Int) = (((h + 1) % n : Nat) : Int) := by
  rw [show (h : Int) + 1 = ((h + 1 : Nat) : Int) from by omega]
  rfl
theorem specPoolVictim_any (v : Value) (hand : Int) (ps : List EFrame) (w : World) (hv : RdR kFrame w v ps) :
    Calls Try.prog 14 #[.agg #[v, .int .i64 hand]] w fun e w' => ∃ cd fr a n c hd qs, e = .returned (.agg #[.int .i64 cd, .int .i64 fr, .slice a n c, .int .i64 hd]) ∧ (cd, fr, hd, datFrameS qs) = victimP ps hand ∧ (∀ b, footR kFrame (.slice a n c) qs b → w.heap.size ≤ b) ∧ OwnR kFrame 0 46 5 w' (.slice a n c) qs ∧ Same w w' := by
  obtain ⟨a, c, rfl⟩ := hv.form
  have HV := (show Hid (RdR kFrame w (.slice a ps.length c) ps) from hv)
  clear hv
  have hk0 : Same w ((w.alloc (.cells #[.slice a ps.length c, .int .i64 hand] 28)).alloc (.cells #[.int .i64 0, .int .i64 0, .slice none 0 0, .int .i64 0] 30)) := ((Kept.refl _ _).alloc _).alloc _
  have k0 := specPoolFault_any (.slice a ps.length c) hand ps _ (HV.out.same hk0)
  have b0 := Blk.newA w [.slice a ps.length c, .int .i64 hand] 28 [.int .i64 0, .int .i64 0, .slice none 0 0, .int .i64 0] 30
  have b1 := Blk.newB w [.slice a ps.length c, .int .i64 hand] 28 [.int .i64 0, .int .i64 0, .slice none 0 0, .int .i64 0] 30
  obtain ⟨q, hq⟩ : ∃ q, poolF ps hand = q := ⟨_, rfl⟩
  have HQ : Hid (poolF ps hand = q) := hq
  rw [hq] at k0
  go_enter Try.func14, Try.ntmps14
  go_wp2_with fail
  refine k0.mono ?_
  rintro e w1 ⟨rfl, hk1⟩
  have HK1 := (show Hid (Same w w1) from hk0.trans hk1)
  have HB0 := hid (b0.same hk1)
  have HB1 := hid (b1.same hk1)
  clear hk0 hk1 b0 b1 k0
  obtain ⟨g0, g1⟩ := HB0.out.all2
  obtain ⟨z0, z1, z2, z3⟩ := HB1.out.all4
  have fz := HB1.out.frozen
  have lz := HB1.out.lt
  by_cases h0 : q = 0
  case neg =>
    have HT0 : Hid (victimP ps hand = (1, 0, 0, [])) := if_pos (by rw [HQ.out]; exact h0)
    clear hq
    go_wp2
    refine bodyPost_ret (v := .agg #[.int .i64 1, .int .i64 0, .slice none 0 0, .int .i64 0]) (by simp [results, Try.results14, go_sem, z0, z1, z2, z3]) rfl ⟨1, 0, none, 0, 0, 0, [], rfl, ?_, fun b hb => absurd hb (footR_nil b), OwnR.nil _ _ _ _ _, ?_⟩
    · rw [HT0.out]
      rfl
    · (iterate 4 refine Kept.setCell ?_ (.inl (Nat.le_succ _)) _)
      exact HK1.out
  subst h0
  obtain ⟨hl1, hl16, hh0, hh1⟩ := poolF_len hq
  have hfr := frame_of hq
  have HM : Hid (∀ p ∈ ps, p.bs.length ≤ 1099511627776) := fun p hp => Nat.le_trans (hfr p hp).2 (by omega)
  have HPN : Hid (∀ p ∈ ps, 0 ≤ p.pins) := fun p hp => (hfr p hp).1.1
  have HVP : Hid (victimP ps hand = if findFrom (-1) 0 ps ≠ -1 then (0, findFrom (-1) 0 ps, hand, datFrameS ps) else vicR (clk (ps.length + ps.length) (datFrameS ps) hand.toNat)) := if_neg (by rw [HQ.out]; simp)
  obtain ⟨b, off, rfl, hc⟩ : ∃ b off, a = some ⟨b, off, none⟩ ∧ ∀ j i, (h : j < ps.length) → i < 6 → w.cell? ⟨b, off + (j * 6 + i), none⟩ = (kFrame.cells ps[j])[i]? := by
    rcases HV.out.row with ⟨hps, _⟩ | ⟨b, off, c', he, hc⟩
    · rw [hps] at hl1; simp at hl1
    · injection he with he1 he2 he3
      exact ⟨b, off, he1, hc⟩
  have HC : Hid (∀ j i, (h : j < ps.length) → i < 6 → w.cell? ⟨b, off + (j * 6 + i), none⟩ = (kFrame.cells ps[j])[i]?) := hc
  obtain ⟨len, hl⟩ : ∃ n, ps.length = n := ⟨_, rfl⟩
  have HL : Hid (ps.length = len) := hl
  obtain ⟨hn, rfl⟩ : ∃ hn : Nat, hand = (hn : Int) := ⟨hand.toNat, by omega⟩
  rw [hl] at HV HB0 g0 hl1 hl16 hh1
  rw [hl, Int.toNat_natCast] at HVP
  clear hc hfr hq hl hh0
  go_wp2_with fail
  go_loopw [4, 5] (fun u i wr => ∃ (k : Nat), k ≤ len ∧ i = .int .i64 k ∧ u = .bool ((ps.take k).any fun p => p.pins == 0) ∧ Hid (findFrom (-1) 0 ps = findFrom (-1) k (ps.drop k)) ∧ wr = w1) (fun _ i _ => len - (intOf i).toNat)
  case atStart => exact ⟨0, Nat.zero_le _, rfl, rfl, rfl, rfl⟩
  case round =>
    obtain ⟨k, hk, rfl, rfl, HFF, rfl⟩ := hrel
    by_cases hlt : k < len
    · have hlp : k < ps.length := by rw [HL.out]; exact hlt
      have hki : (k : Int) < (len : Int) := by omega
      obtain ⟨p, hp⟩ : ∃ p, ps[k] = p := ⟨_, rfl⟩
      have d0 : wr.cell? ⟨b, off + k * 6, none⟩ = some (.int .i64 p.page) := HK1.out.cellOf (p := ⟨b, off + k * 6, none⟩) (by have h := HC.out k 0 hlp (by decide); rw [hp] at h; exact h) id
      have d2 : wr.cell? ⟨b, off + k * 6 + 2, none⟩ = some (.int .i64 p.pins) := HK1.out.cellOf (p := ⟨b, off + k * 6 + 2, none⟩) (by have h := HC.out k 2 hlp (by decide); rw [← Nat.add_assoc, hp] at h; exact h) id
      have HF2 : Hid (findFrom (-1) 0 ps = if p.page = -1 then (k : Int) else findFrom (-1) (k + 1) (ps.drop (k + 1))) := by have h := HFF.out; rw [findFrom_at hlp, hp] at h; exact h
      have HAN : Hid (((ps.take (k + 1)).any fun p => p.pins == 0) = (((ps.take k).any fun p => p.pins == 0) || p.pins == 0)) := by
        unfold Hid
        rw [List.take_succ_eq_append_getElem hlp, List.any_append, hp]
        simp
      obtain ⟨pg, hpg⟩ : ∃ x, p.page = x := ⟨_, rfl⟩
      rw [hpg] at d0 HF2
      clear hpg hp
      by_cases h1 : pg = -1
      · subst h1
        have HF3 : Hid (findFrom (-1) 0 ps = (k : Int)) := HF2.out.trans (if_pos rfl)
        have HT0 : Hid (victimP ps (hn : Int) = (0, (k : Int), (hn : Int), datFrameS ps)) := HVP.out.trans ((if_pos (by rw [HF3.out]; omega)).trans (by rw [HF3.out]))
        clear z0 z1 z2 z3 fz lz
        go_wp2_with fail
        refine (l7Copy_any (.slice (some ⟨b, off, none⟩) len c) (hn : Int) ps _ (by have := HL.out; omega) HM.out (HV.out.same HK1.out)).mono ?_
        rintro e w3 ⟨a3, n3, c3, qs, rfl, hd3, hf3, ho3, hk3⟩
        have HK3 := (show Hid (Same w w3) from HK1.out.trans hk3)
        have HO3 := hid ho3
        have hz1 := HB1.out.lt
        have HF3' : Hid (∀ b, footR kFrame (.slice a3 n3 c3) qs b → w.heap.size + 1 < b) := fun b hb => by have := hf3 b hb; omega
        have HD3 := hid hd3
        have HB13 := hid (HB1.out.same hk3)
        clear hd3 hf3 ho3 hk3 g0 g1 d0 d2
        obtain ⟨z0, z1, z2, z3⟩ := HB13.out.all4
        have fz := HB13.out.frozen
        have lz := HB13.out.lt
        go_wp2
        refine bodyPost_ret (v := .agg #[.int .i64 0, .int .i64 k, .slice a3 n3 c3, .int .i64 hn]) (by simp [results, Try.results14, go_sem, z0, z1, z2, z3]) rfl ?_
        refine ⟨0, (k : Int), a3, n3, c3, (hn : Int), qs, rfl, by rw [HT0.out, HD3.out], fun b hb => by have := HF3'.out b hb; omega, HO3.out.kept (R := fun b => b = w.heap.size + 1) ?_ (fun b hb e => by have := HF3'.out b hb; omega), ?_⟩
        · (iterate 4 refine Kept.setCell (R := fun b => b = w.heap.size + 1) ?_ (.inr rfl) _)
          exact Kept.refl _ _
        · (iterate 4 refine Kept.setCell ?_ (.inl (Nat.le_succ _)) _)
          exact HK3.out
      · have HF3 : Hid (findFrom (-1) 0 ps = findFrom (-1) (k + 1) (ps.drop (k + 1))) := HF2.out.trans (if_neg h1)
        cases hu : (ps.take k).any fun p => p.pins == 0 with
        | true =>
          rw [hu] at HAN
          go_wp2
          go_roundw
          case rel => exact ⟨k + 1, by omega, by go_num, by rw [HAN.out]; rfl, HF3, by first | rfl | trivial⟩
          case measure => simp [intOf]; omega
        | false =>
          rw [hu] at HAN
          go_wp2
          go_roundw
          case rel => exact ⟨k + 1, by omega, by go_num, by rw [HAN.out]; rfl, HF3, by first | rfl | trivial⟩
          case measure => simp [intOf]; omega
    · obtain rfl : len = k := by omega
      have HF3 : Hid (findFrom (-1) 0 ps = -1) := by have h := HFF.out; rw [← HL.out, findFrom_end] at h; exact h
      have hany : ((ps.take len).any fun p => p.pins == 0) = ps.any fun p => p.pins == 0 := by rw [← HL.out, List.take_length]
      rw [hany]
      have HVQ := (show Hid (victimP ps (hn : Int) = vicR (clk (len + len) (datFrameS ps) hn)) from HVP.out.trans (if_neg (by rw [HF3.out]; simp)))
      have hhn : hn < len := by omega
      cases hu : ps.any fun p => p.pins == 0 with
      | false =>
        have HT0 : Hid (victimP ps (hn : Int) = (2, 0, 0, [])) := by
          unfold Hid
          rw [HVQ.out, clk_none]
          · rfl
          intro d hd
          obtain ⟨p, hp, rfl⟩ := List.mem_map.1 hd
          have h1 := HPN.out p hp
          have h2 : ¬ p.pins = 0 := fun e => by
            have ha : (ps.any fun p => p.pins == 0) = true := List.any_eq_true.2 ⟨p, hp, by simp [e]⟩
            rw [hu] at ha
            cases ha
          show 0 < p.pins
          omega
        go_wp2
        refine bodyPost_ret (v := .agg #[.int .i64 2, .int .i64 0, .slice none 0 0, .int .i64 0]) (by simp [results, Try.results14, go_sem, z0, z1, z2, z3]) rfl ?_
        refine ⟨2, 0, none, 0, 0, 0, [], rfl, ?_, fun b hb => absurd hb (footR_nil b), OwnR.nil _ _ _ _ _, ?_⟩
        · rw [HT0.out]
          rfl
        · (iterate 4 refine Kept.setCell ?_ (.inl (Nat.le_succ _)) _)
          exact HK1.out
      | true =>
        have hcs : clk (len + len) (datFrameS ps) hn ≠ none := by
          obtain ⟨p, hp, he⟩ := List.any_eq_true.1 hu
          obtain ⟨j, hj⟩ := List.getElem?_of_mem hp
          have hp0 : ¬ 0 < p.dat.2.2.1 := by
            have he' : p.pins = 0 := by simpa using he
            show ¬ 0 < p.pins
            omega
          have h := clk_some (fs := datFrameS ps) (h := hn) (k := j) (d := p.dat) (by rw [datFrameS_length, HL.out]; exact hhn) (by unfold datFrameS; rw [List.getElem?_map, hj]; rfl) hp0
          rw [datFrameS_length, HL.out] at h
          exact h
        obtain ⟨R, hR⟩ := Option.ne_none_iff_exists'.1 hcs
        have HT0 : Hid (victimP ps (hn : Int) = (0, (R.1 : Int), (R.2.1 : Int), R.2.2)) := by
          unfold Hid
          rw [HVQ.out, hR]; rfl
        have HR := hid hR
        clear hcs hR z0 z1 z2 z3 fz lz
        go_wp2_with fail
        refine (l7Copy_any (.slice (some ⟨b, off, none⟩) len c) (hn : Int) ps _ (by have := HL.out; omega) HM.out (HV.out.same HK1.out)).mono ?_
        rintro e w3 ⟨a3, n3, c3, qs, rfl, hd3, hf3, ho3, hk3⟩
        have hql : qs.length = len := by rw [← HL.out]; exact dat_len hd3
        obtain ⟨g, e3⟩ : ∃ g, (Value.slice a3 n3 c3) = .slice (some ⟨g, 0, none⟩) len c3 := by
          rcases ho3.form with ⟨_, hps⟩ | ⟨g, cap, e, _⟩
          · rw [hps] at hql; simp at hql; omega
          · rw [hql] at e
            injection e with e1 e2 e3
            exact ⟨g, by rw [e1, e2]⟩
        injection e3 with e31 e32
        subst e31 e32
        have HK3 := (show Hid (Same w w3) from HK1.out.trans hk3)
        have HO3 := hid ho3
        have hz1 := HB1.out.lt
        have HF4 : Hid (∀ b, footR kFrame (.slice (some ⟨g, 0, none⟩) n3 c3) qs b → w.heap.size + 1 < b ∧ b < w3.heap.size) := fun b hb => ⟨by have := hf3 b hb; omega, (ho3.lt b hb).2⟩
        have HD3 := hid hd3
        have HQL := hid hql
        have HB13 := hid (HB1.out.same hk3)
        have HX3 := (show Hid (Blk (w3.alloc (.cells #[.slice (some ⟨g, 0, none⟩) n3 c3, .int .i64 hn] 28)) w3.heap.size 28 [.slice (some ⟨g, 0, none⟩) n3 c3, .int .i64 hn]) from Blk.newL w3 [.slice (some ⟨g, 0, none⟩) n3 c3, .int .i64 hn] 28)
        have hgl : w.heap.size + 1 < g ∧ g < w3.heap.size := HF4.out g (.inl rfl)
        obtain ⟨hgl1, hgl2⟩ := hgl
        clear hd3 hf3 ho3 hk3 g0 g1 hql
        go_wp2_with fail
        go_loopw [7] (fun u wr => ∃ (h f : Nat) (rs : List EFrame), h < n3 ∧ f ≤ n3 + n3 ∧ Hid (rs.length = n3) ∧ Hid (clk f (datFrameS rs) h = some R) ∧ Hid (Blk wr w3.heap.size 28 [.slice (some ⟨g, 0, none⟩) n3 c3, .int .i64 h]) ∧ Hid (OwnR kFrame 0 46 5 wr (.slice (some ⟨g, 0, none⟩) n3 c3) rs) ∧ Hid (∀ b, footR kFrame (.slice (some ⟨g, 0, none⟩) n3 c3) rs b → w.heap.size + 1 < b ∧ b < w3.heap.size) ∧ Hid (Blk wr (w.heap.size + 1) 30 [.int .i64 0, .int .i64 0, .slice none 0 0, .int .i64 0]) ∧ Hid (Same w wr)) (fun _ wr => stp (n3 + n3) (rdF wr g n3) (rdH wr w3.heap.size))
        case atStart => exact ⟨hn, n3 + n3, qs, hhn, Nat.le_refl _, HQL, by unfold Hid; rw [HD3.out]; exact HR.out, HX3, HO3.out.same ((Kept.refl _ _).alloc _), HF4, HB13.out.alloc _, HK3.out.alloc _⟩
        case round =>
          obtain ⟨h, f, rs, hh, hf, HRL, HCK, HX, HO, HFT, HZ, HK⟩ := hrel
          obtain ⟨f, rfl⟩ : ∃ f', f = f' + 1 := ⟨f - 1, by
            rcases Nat.eq_zero_or_pos f with rfl | h0
            · have := HCK.out; cases this
            · omega⟩
          have hlr : h < rs.length := by rw [HRL.out]; exact hh
          obtain ⟨p, hp⟩ : ∃ p, rs[h] = p := ⟨_, rfl⟩
          have HPE := hid hp
          have hda : (datFrameS rs)[h]? = some p.dat := by unfold datFrameS; rw [List.getElem?_map, List.getElem?_eq_getElem hlr, hp]; rfl
          have hdl : (datFrameS rs).length = n3 := by rw [datFrameS_length]; exact HRL.out
          have y2 : wr.cell? ⟨g, h * 6 + 2, none⟩ = some (.int .i64 p.pins) := by have hx := HO.out.cell HRL.out.symm h 2 hlr (by decide); rw [hp] at hx; exact hx
          have y5 : wr.cell? ⟨g, h * 6 + 5, none⟩ = some (.bool p.rf) := by have hx := HO.out.cell HRL.out.symm h 5 hlr (by decide); rw [hp] at hx; exact hx
          have fg := HO.out.frozen HRL.out.symm
          obtain ⟨x0, x1⟩ := HX.out.all2
          have fx := HX.out.frozen
          have lx := HX.out.lt
          have HMS : Hid (stp (n3 + n3) (rdF wr g n3) (rdH wr w3.heap.size) = stp (f + 1) (datFrameS rs) h) := by
            unfold Hid
            rw [rdH_at HX.out, stp_red _ _ _ _ (rdF_red HO.out HRL.out.symm)]
            exact stp_mono (f + 1) _ _ (by rw [HCK.out]; simp) _ hf
          have hrm := rem_nat h n3 (by omega)
          have hwh : IntKind.i64.wrap ((h : Int) + 1) = (h : Int) + 1 := by rw [IntKind.wrap_i64]; omega
          have hwr : IntKind.i64.wrap ((((h + 1) % n3 : Nat)) : Int) = (((h + 1) % n3 : Nat) : Int) := by
            have := Nat.mod_lt (h + 1) (show 0 < n3 from by omega)
            rw [IntKind.wrap_i64]; omega
          have hn0 : ¬ (n3 : Int) = 0 := by omega
          have hhi : (h : Int) < (n3 : Int) := by omega
          have hnx : (h + 1) % n3 < n3 := Nat.mod_lt _ (by omega)
          obtain ⟨nx, hnx'⟩ : ∃ x, (h + 1) % n3 = x := ⟨_, rfl⟩
          rw [hnx'] at hrm hwr hnx
          have HN := hid hnx'
          have HCK1 := HCK
          have hgv : ¬ g = w3.heap.size := by omega
          clear hp
          by_cases hpp : 0 < p.pins
          · have HC2 : Hid (clk f (datFrameS rs) nx = some R) := by
              have hx := HCK.out
              rw [clk_pinned hda hpp, hdl, HN.out] at hx
              exact hx
            have HM2 : Hid (stp (n3 + n3) (rdF wr g n3) (rdH wr w3.heap.size) = 1 + stp f (datFrameS rs) nx) := by
              unfold Hid
              rw [HMS.out, stp_pinned hda hpp, hdl, HN.out]
            clear hnx'
            have HST := (show Hid (Kept (fun b => b = w3.heap.size) wr (wr.setCell ⟨w3.heap.size, 1, none⟩ (.int .i64 nx))) from Kept.setCell (R := fun b => b = w3.heap.size) (Kept.refl _ _) (p := ⟨w3.heap.size, 1, none⟩) (.inr rfl) _)
            have HXN := (show Hid (Blk (wr.setCell ⟨w3.heap.size, 1, none⟩ (.int .i64 nx)) w3.heap.size 28 [.slice (some ⟨g, 0, none⟩) n3 c3, .int .i64 nx]) from HX.out.stored 1 _)
            have HON := (show Hid (OwnR kFrame 0 46 5 (wr.setCell ⟨w3.heap.size, 1, none⟩ (.int .i64 nx)) (.slice (some ⟨g, 0, none⟩) n3 c3) rs) from HO.out.kept HST.out (fun b hb e => by have := (HFT.out b hb).2; omega))
            go_wp2
            go_roundw
            case rel => exact ⟨nx, f, rs, hnx, by omega, HRL, HC2, HXN, HON, HFT, HZ.out.kept HST.out (by intro e; omega), HK.out.next HST.out (fun i hi e => by omega)⟩
            case measure =>
              rw [HM2.out, rdH_at HXN.out, stp_red _ _ _ _ (rdF_red HON.out HRL.out.symm), stp_mono f _ _ (by rw [HC2.out]; simp) _ (by omega)]
              omega
          · cases hrf : p.rf with
            | false =>
              rw [hrf] at y5
              have HC2 : Hid (R = (h, nx, datFrameS rs)) := by
                have hx := HCK.out
                rw [clk_found hda hpp hrf, hdl, HN.out] at hx
                exact (Option.some.inj hx).symm
              obtain ⟨z0, z1, z2, z3⟩ := HZ.out.all4
              have fz := HZ.out.frozen
              have lz := HZ.out.lt
              clear hnx'
              have HST := (show Hid (Kept (fun b => b = w3.heap.size) wr (wr.setCell ⟨w3.heap.size, 1, none⟩ (.int .i64 nx))) from Kept.setCell (R := fun b => b = w3.heap.size) (Kept.refl _ _) (p := ⟨w3.heap.size, 1, none⟩) (.inr rfl) _)
              have HON := (show Hid (OwnR kFrame 0 46 5 (wr.setCell ⟨w3.heap.size, 1, none⟩ (.int .i64 nx)) (.slice (some ⟨g, 0, none⟩) n3 c3) rs) from HO.out.kept HST.out (fun b hb e => by have := (HFT.out b hb).2; omega))
              have HZN := (show Hid (Blk (wr.setCell ⟨w3.heap.size, 1, none⟩ (.int .i64 nx)) (w.heap.size + 1) 30 [.int .i64 0, .int .i64 0, .slice none 0 0, .int .i64 0]) from HZ.out.kept HST.out (by intro e; omega))
              go_wp2
              have hbf := (((HZN.out.stored 0 (.int .i64 0)).stored 1 (.int .i64 h)).stored 2 (.slice (some ⟨g, 0, none⟩) n3 c3)).stored 3 (.int .i64 nx)
              obtain ⟨f0, f1, f2, f3⟩ := hbf.all4
              refine bodyPost_ret (v := .agg #[.int .i64 0, .int .i64 h, .slice (some ⟨g, 0, none⟩) n3 c3, .int .i64 nx]) (by simp [results, Try.results14, go_sem, f0, f1, f2, f3]) rfl ?_
              refine ⟨0, (h : Int), some ⟨g, 0, none⟩, n3, c3, (nx : Int), rfl, rs, by rw [HT0.out, HC2.out], fun b hb => by have := HFT.out b hb; omega, HON.out.kept (R := fun b => b = w.heap.size + 1) ?_ (fun b hb e => by have := HFT.out b hb; omega), ?_⟩
              · (iterate 4 refine Kept.setCell (R := fun b => b = w.heap.size + 1) ?_ (.inr rfl) _)
                exact Kept.refl _ _
              · (iterate 4 refine Kept.setCell ?_ (.inl (Nat.le_succ _)) _)
                exact HK.out.next HST.out (fun i hi e => by omega)
            | true =>
              rw [hrf] at y5
              have HRE : Hid (datFrameS (rs.set h (⟨p.page, p.v, p.bs, p.pins, p.dirty, p.rl, false⟩ : EFrame)) = (datFrameS rs).set h (unref p.dat)) := by
                unfold Hid datFrameS
                rw [List.map_set]
                rfl
              have HC2 : Hid (clk f (datFrameS (rs.set h (⟨p.page, p.v, p.bs, p.pins, p.dirty, p.rl, false⟩ : EFrame))) nx = some R) := by
                have hx := HCK.out
                rw [clk_ref hda hpp hrf, hdl, HN.out, ← HRE.out] at hx
                exact hx
              have HM2 : Hid (stp (n3 + n3) (rdF wr g n3) (rdH wr w3.heap.size) = 1 + stp f (datFrameS (rs.set h (⟨p.page, p.v, p.bs, p.pins, p.dirty, p.rl, false⟩ : EFrame))) nx) := by
                unfold Hid
                rw [HMS.out, stp_ref hda hpp hrf, hdl, HN.out, HRE.out]
              clear hnx'
              have HST := (show Hid (Kept (fun b => b = w3.heap.size) wr (wr.setCell ⟨w3.heap.size, 1, none⟩ (.int .i64 nx))) from Kept.setCell (R := fun b => b = w3.heap.size) (Kept.refl _ _) (p := ⟨w3.heap.size, 1, none⟩) (.inr rfl) _)
              have HON := (show Hid (OwnR kFrame 0 46 5 (wr.setCell ⟨w3.heap.size, 1, none⟩ (.int .i64 nx)) (.slice (some ⟨g, 0, none⟩) n3 c3) rs) from HO.out.kept HST.out (fun b hb e => by have := (HFT.out b hb).2; omega))
              have HST2 := (show Hid (Kept (fun b => b = g) (wr.setCell ⟨w3.heap.size, 1, none⟩ (.int .i64 nx)) ((wr.setCell ⟨w3.heap.size, 1, none⟩ (.int .i64 nx)).setCell ⟨g, h * 6 + 5, none⟩ (.bool false))) from Kept.setCell (R := fun b => b = g) (Kept.refl _ _) (p := ⟨g, h * 6 + 5, none⟩) (.inr rfl) _)
              have HO2 := (show Hid (OwnR kFrame 0 46 5 ((wr.setCell ⟨w3.heap.size, 1, none⟩ (.int .i64 nx)).setCell ⟨g, h * 6 + 5, none⟩ (.bool false)) (.slice (some ⟨g, 0, none⟩) n3 c3) (rs.set h (⟨p.page, p.v, p.bs, p.pins, p.dirty, p.rl, false⟩ : EFrame))) from
                OwnR.setAt (p' := (⟨p.page, p.v, p.bs, p.pins, p.dirty, p.rl, false⟩ : EFrame)) HON.out HRL.out.symm hlr 5 (.bool false) (by decide) (by rw [HPE.out]; rfl) (by rw [HPE.out]; rfl) (by rw [HPE.out]; rfl) _ rfl)
              have HXN := (show Hid (Blk ((wr.setCell ⟨w3.heap.size, 1, none⟩ (.int .i64 nx)).setCell ⟨g, h * 6 + 5, none⟩ (.bool false)) w3.heap.size 28 [.slice (some ⟨g, 0, none⟩) n3 c3, .int .i64 nx]) from (HX.out.stored 1 _).kept HST2.out (by intro e; omega))
              have HZN := (show Hid (Blk ((wr.setCell ⟨w3.heap.size, 1, none⟩ (.int .i64 nx)).setCell ⟨g, h * 6 + 5, none⟩ (.bool false)) (w.heap.size + 1) 30 [.int .i64 0, .int .i64 0, .slice none 0 0, .int .i64 0]) from (HZ.out.kept HST.out (by intro e; omega)).kept HST2.out (by intro e; omega))
              have HKN := (show Hid (Same w ((wr.setCell ⟨w3.heap.size, 1, none⟩ (.int .i64 nx)).setCell ⟨g, h * 6 + 5, none⟩ (.bool false))) from (HK.out.next HST.out (fun i hi e => by omega)).next HST2.out (fun i hi e => by omega))
              have HFN : Hid (∀ b, footR kFrame (.slice (some ⟨g, 0, none⟩) n3 c3) (rs.set h (⟨p.page, p.v, p.bs, p.pins, p.dirty, p.rl, false⟩ : EFrame)) b → w.heap.size + 1 < b ∧ b < w3.heap.size) := fun b hb => HFT.out b (footR_set hlr (by rw [HPE.out]; rfl) b hb)
              have HRN : Hid ((rs.set h (⟨p.page, p.v, p.bs, p.pins, p.dirty, p.rl, false⟩ : EFrame)).length = n3) := by unfold Hid; rw [List.length_set]; exact HRL.out
              go_wp2
              go_roundw
              case rel => exact ⟨nx, f, _, hnx, by omega, HRN, HC2, HXN, HO2, HFN, HZN, HKN⟩
              case measure =>
                rw [HM2.out, rdH_at HXN.out, stp_red _ _ _ _ (rdF_red HO2.out HRN.out.symm), stp_mono f _ _ (by rw [HC2.out]; simp) _ (by omega)]
                omega
end Go.Proofs.Ytabmhcdldfehnab

namespace Go.Proofs.Ytabmhcdldfehnab
set_option maxRecDepth 100000
set_option maxHeartbeats 8000000
open Go.RowKit
set_option linter.unusedVariables false
set_option linter.unusedSimpArgs false
section
variable {w : World} {P : Nat} {hand : Int} {g n cap : Nat} {bl : List Nat} {ps : List EFrame}
theorem FP.setHand (h : FP w P hand g n cap bl ps) (x : Int) : FP (w.setCell ⟨P, 1, none⟩ (.int .i64 x)) P x g n cap bl ps := by
  have hk : Kept (fun b => b = P) w (w.setCell ⟨P, 1, none⟩ (.int .i64 x)) := Kept.setCell (R := fun b => b = P) (Kept.refl _ _) (p := ⟨P, 1, none⟩) (.inr rfl) _
  exact ⟨h.top.stored 1 _, h.len, hk.owns h.row (fun b hb e => h.pg (by simp [Value.ownBlock] at hb; rw [hb, e])), h.ptr.kept hk (fun b hb e => h.outP (e ▸ hb)), h.pg, h.outP, h.outg⟩
end
theorem pass_any (P hn g n cap : Nat) (bl : List Nat) (ps : List EFrame) (w : World) (h : FP w P (hn : Int) g n cap bl ps) (hh : hn < n) (h16 : n ≤ 16) :
    Calls Try.prog 42 #[.pointer (some ⟨P, 0, none⟩)] w fun e w' => ∃ b, bl[hn]? = some b ∧ e = .returned (.tuple #[.int .i64 hn, .pointer (some ⟨b, 0, none⟩)]) ∧ FP w' P (((hn + 1) % n : Nat) : Int) g n cap bl ps ∧ Kept (fun b => b = P) w w' := by
  obtain ⟨b, p, hb, hp, hc, _⟩ := h.at hn hh
  have HB := hid hb
  obtain ⟨x0, x1⟩ := h.top.all2
  have fx := h.top.frozen
  have HF := hid (h.setHand (((hn + 1) % n : Nat) : Int))
  have HK := (show Hid (Kept (fun b => b = P) w (w.setCell ⟨P, 1, none⟩ (.int .i64 (((hn + 1) % n : Nat) : Int)))) from Kept.setCell (R := fun b => b = P) (Kept.refl _ _) (p := ⟨P, 1, none⟩) (.inr rfl) _)
  have hpg := h.pg
  have hgp : ¬ g = P := fun e => hpg e.symm
  have hrm := rem_nat hn n (by omega)
  have hnx : (hn + 1) % n < n := Nat.mod_lt _ (by omega)
  obtain ⟨nx, hnx'⟩ : ∃ x, (hn + 1) % n = x := ⟨_, rfl⟩
  rw [hnx'] at hrm hnx HF HK ⊢
  have hwh : IntKind.i64.wrap ((hn : Int) + 1) = (hn : Int) + 1 := by rw [IntKind.wrap_i64]; omega
  have hwr : IntKind.i64.wrap (nx : Int) = (nx : Int) := by rw [IntKind.wrap_i64]; omega
  have hn0 : ¬ (n : Int) = 0 := by omega
  have hhi : (hn : Int) < (n : Int) := by omega
  clear h hb hp hnx'
  go_enter Try.func42, Try.ntmps42
  go_wp2_with fail
  have hS : (fun wx : World => wx.cell? ⟨P, 0, none⟩ = some (.slice (some ⟨g, 0, none⟩) n cap) ∧ wx.cell? ⟨g, hn, none⟩ = some (.pointer (some ⟨b, 0, none⟩))) (w.setCell ⟨P, 1, none⟩ (.int .i64 nx)).drew := ⟨HF.out.top.cell 0, by
    obtain ⟨b', p', hb', _, hc', _⟩ := HF.out.at hn hh
    rw [HB.out] at hb'
    obtain rfl := Option.some.inj hb'
    exact hc'⟩
  refine wp_region_V (fun wx : World => wx.cell? ⟨P, 0, none⟩ = some (.slice (some ⟨g, 0, none⟩) n cap) ∧ wx.cell? ⟨g, hn, none⟩ = some (.pointer (some ⟨b, 0, none⟩))) 9 10 rfl (by kernel_rfl) ?_
  refine tk 0 20 hS ?_
  refine tk 1 21 hS ?_
  refine tk 2 22 hS ?_
  refine tk 3 23 hS ?_
  refine tk 4 24 hS ?_
  refine tk 5 25 hS ?_
  refine tk 6 26 hS ?_
  refine tk 7 27 hS ?_
  refine tk 8 2 hS ?_
  refine wpAnyV_one (i := 9) (by kernel_rfl) rfl (fun K hK => ?_)
  go_simp
  refine hK.out _ _ (fun h => absurd rfl h) ?_
  clear hK K
  refine wpAnyV_done (by kernel_rfl) ?_
  try simp only [Act.put, sA, s0, sS]
  go_wp2
  go_ret2
  exact ⟨b, HB.out, rfl, HF.out.same (Kept.refl _ _).drew, HK.out.drew⟩
theorem victim_any (P hn g n cap : Nat) (bl : List Nat) (ps : List EFrame) (w : World) (h : FP w P (hn : Int) g n cap bl ps) (hh : hn < n) (h16 : n ≤ 16) :
    Calls Try.prog 28 #[.pointer (some ⟨P, 0, none⟩)] w fun e w' => ∃ (r cd hd : Int) (qs : List EFrame), e = .returned (.tuple #[.int .i64 r, .int .i64 cd]) ∧ FP w' P hd g n cap bl qs ∧ (∀ b, footS kFrame bl qs b → footS kFrame bl ps b) ∧ Kept (footFP P g bl ps) w w' ∧
      ((findFrom (-1) 0 ps ≠ -1 ∧ cd = 0 ∧ r = findFrom (-1) 0 ps ∧ hd = hn ∧ datFrameS qs = datFrameS ps) ∨ (findFrom (-1) 0 ps = -1 ∧ ((clk (n + n) (datFrameS ps) hn = none ∧ cd = 2) ∨ ∃ R, clk (n + n) (datFrameS ps) hn = some R ∧ cd = 0 ∧ r = (R.1 : Int) ∧ hd = (R.2.1 : Int) ∧ datFrameS qs = R.2.2))) := by
  have k0 := first_any (-1) P (hn : Int) g n cap bl ps w h h16
  have HF := (show Hid (FP w P (hn : Int) g n cap bl ps) from h)
  obtain ⟨ff, hff⟩ : ∃ x, findFrom (-1) 0 ps = x := ⟨_, rfl⟩
  rw [hff] at k0 ⊢
  clear h hff
  by_cases h1 : ff = -1
  case neg =>
    have hb1 : (ff != -1) = true := by simp [h1]
    have H1 := hid h1
    clear h1
    go_enter Try.func28, Try.ntmps28
    go_wp2_with fail
    refine k0.mono ?_
    rintro e w1 ⟨rfl, hk1⟩
    have HK1 := hid hk1
    clear hk1
    go_wp2
    go_ret2
    exact ⟨ff, 0, (hn : Int), ps, rfl, HF.out.same HK1.out, fun b hb => hb, HK1.out.mono (fun _ _ e => e.elim), .inl ⟨H1.out, rfl, rfl, rfl, rfl⟩⟩
  subst h1
  obtain ⟨O, hO⟩ : ∃ x, clk (n + n) (datFrameS ps) hn = x := ⟨_, rfl⟩
  rw [hO]
  have HO := hid hO
  clear hO
  have hw2 : IntKind.i64.wrap (2 * (n : Int)) = 2 * (n : Int) := by rw [IntKind.wrap_i64]; omega
  go_enter Try.func28, Try.ntmps28
  go_wp2_with fail
  refine k0.mono ?_
  rintro e w1 ⟨rfl, hk1⟩
  have HK1 := hid hk1
  obtain ⟨x0, x1⟩ := (HF.out.same hk1).top.all2
  clear hk1 k0
  go_wp2_with fail
  go_loopw [19] (fun i wr => ∃ (k h : Nat) (qs : List EFrame), k ≤ n + n ∧ i = .int .i64 k ∧ h < n ∧ Hid (clk (n + n - k) (datFrameS qs) h = O) ∧ Hid (FP wr P (h : Int) g n cap bl qs) ∧ Hid (∀ b, footS kFrame bl qs b → footS kFrame bl ps b) ∧ Hid (Kept (footFP P g bl ps) w wr)) (fun i _ => n + n - (intOf i).toNat)
  case atStart => exact ⟨0, hn, ps, Nat.zero_le _, rfl, hh, HO, HF.out.same HK1.out, fun b hb => hb, HK1.out.mono (fun _ _ e => e.elim)⟩
  case round =>
    obtain ⟨k, h, qs, hk, rfl, hh', HC, HFr, HFT, HK⟩ := hrel
    clear x0 x1
    by_cases hlt : k < n + n
    · have hki : (k : Int) < 2 * (n : Int) := by omega
      obtain ⟨x0, x1⟩ := HFr.out.top.all2
      have HPP : Hid (footFP P g bl ps P) := .inl rfl
      go_wp2_with fail
      refine (pass_any P h g n cap bl qs _ HFr.out hh' h16).mono ?_
      rintro e w2 ⟨b, hb, rfl, hf2, hk2⟩
      have HF2 := hid hf2
      have HK2 := (show Hid (Kept (footFP P g bl ps) w w2) from HK.out.next hk2 (fun i hi e => by rw [e]; exact HPP.out))
      obtain ⟨b', p, hb', hp, _, hblk⟩ := hf2.at h hh'
      rw [hb] at hb'
      obtain rfl := Option.some.inj hb'
      have HB := hid hb
      have HP := hid hp
      have hlq : h < qs.length := (List.getElem?_eq_some_iff.1 hp).1
      have hda : (datFrameS qs)[h]? = some p.dat := dat_at hp
      have hdl : (datFrameS qs).length = n := by rw [datFrameS_length]; exact hf2.len.symm
      have c2 := hblk.c2
      have c5 := hblk.c5
      have fb := hblk.frozen
      have hstep : n + n - k = (n + n - (k + 1)) + 1 := by omega
      have HIN : Hid (footFP P g bl ps b) := .inr (.inr (.inl (List.mem_of_getElem? hb)))
      have hnx : (h + 1) % n < n := Nat.mod_lt _ (by omega)
      have HNX := hid hnx
      clear hf2 hk2 hblk hb hp x0 x1 hnx
      by_cases hpp : 0 < p.pins
      · have HC2 : Hid (clk (n + n - (k + 1)) (datFrameS qs) ((h + 1) % n) = O) := by
          have hx := HC.out
          rw [hstep, clk_pinned hda hpp, hdl] at hx
          exact hx
        clear hda hdl hstep
        go_wp2
        go_roundw
        case rel => exact ⟨k + 1, (h + 1) % n, qs, by omega, by go_num, HNX.out, HC2, HF2, HFT, HK2⟩
        case measure => simp [intOf]; omega
      · cases hrf : p.rf with
        | false =>
          rw [hrf] at c5
          have HC2 : Hid (O = some (h, (h + 1) % n, datFrameS qs)) := by
            have hx := HC.out
            rw [hstep, clk_found hda hpp hrf, hdl] at hx
            exact hx.symm
          clear hda hdl hstep
          go_wp2
          go_ret2
          first | exact ⟨(h : Int), 0, _, qs, rfl, HF2.out, HFT.out, HK2.out, .inr ⟨rfl, .inr ⟨_, HC2.out, rfl, rfl, rfl, rfl⟩⟩⟩ | exact ⟨(h : Int), 0, _, qs, rfl, HF2.out, HFT.out, HK2.out, .inr ⟨by trivial, .inr ⟨_, HC2.out, rfl, rfl, rfl, rfl⟩⟩⟩ | exact ⟨(h : Int), 0, _, qs, rfl, HF2.out, HFT.out, HK2.out, .inr (.inr ⟨_, HC2.out, rfl, rfl, rfl, rfl⟩)⟩
        | true =>
          rw [hrf] at c5
          have HRE : Hid (datFrameS (qs.set h (⟨p.page, p.v, p.bs, p.pins, p.dirty, p.rl, false⟩ : EFrame)) = (datFrameS qs).set h (unref p.dat)) := by
            unfold Hid
            rw [dat_set]
            rfl
          have HC2 : Hid (clk (n + n - (k + 1)) (datFrameS (qs.set h (⟨p.page, p.v, p.bs, p.pins, p.dirty, p.rl, false⟩ : EFrame))) ((h + 1) % n) = O) := by
            have hx := HC.out
            rw [hstep, clk_ref hda hpp hrf, hdl, ← HRE.out] at hx
            exact hx
          have HF3 := (show Hid (FP (w2.setCell ⟨b, 5, none⟩ (.bool false)) P (((h + 1) % n : Nat) : Int) g n cap bl (qs.set h (⟨p.page, p.v, p.bs, p.pins, p.dirty, p.rl, false⟩ : EFrame))) from FP.storeOwn (i := 5) (u := .bool false) (p' := (⟨p.page, p.v, p.bs, p.pins, p.dirty, p.rl, false⟩ : EFrame)) HF2.out HB.out HP.out rfl rfl rfl)
          have HFT3 : Hid (∀ b, footS kFrame bl (qs.set h (⟨p.page, p.v, p.bs, p.pins, p.dirty, p.rl, false⟩ : EFrame)) b → footS kFrame bl ps b) := fun b hb => HFT.out b (footS_set (p' := (⟨p.page, p.v, p.bs, p.pins, p.dirty, p.rl, false⟩ : EFrame)) HP.out rfl b hb)
          have HK3 := (show Hid (Kept (footFP P g bl ps) w (w2.setCell ⟨b, 5, none⟩ (.bool false))) from HK2.out.next (R' := fun x => x = b) (Kept.setCell (R := fun x => x = b) (Kept.refl _ _) (p := ⟨b, 5, none⟩) (.inr rfl) _) (fun i hi e => by rw [e]; exact HIN.out))
          clear hda hdl hstep
          go_wp2
          go_roundw
          case rel => exact ⟨k + 1, (h + 1) % n, _, by omega, by go_num, HNX.out, HC2, HF3, HFT3, HK3⟩
          case measure => simp [intOf]; omega
    · obtain rfl : k = n + n := by omega
      have HC2 : Hid (O = none) := by
        have hx := HC.out
        rw [Nat.sub_self] at hx
        exact hx.symm
      go_wp2
      go_ret2
      first | exact ⟨0, 2, _, qs, rfl, HFr.out, HFT.out, HK.out, .inr ⟨rfl, .inl ⟨HC2.out, rfl⟩⟩⟩ | exact ⟨0, 2, _, qs, rfl, HFr.out, HFT.out, HK.out, .inr ⟨by trivial, .inl ⟨HC2.out, by first | rfl | trivial⟩⟩⟩ | exact ⟨0, 2, _, qs, rfl, HFr.out, HFT.out, HK.out, .inl ⟨HC2.out, rfl⟩⟩
end Go.Proofs.Ytabmhcdldfehnab

namespace Go.Proofs.Ytabmhcdldfehnab
set_option maxRecDepth 100000
set_option maxHeartbeats 4000000
open Go.RowKit
set_option linter.unusedVariables false
set_option linter.unusedSimpArgs false
def TurnsH (fid : FuncId) (xs : Array Value) (hand : Int) (ps : List EFrame) (T : Int × Int × Int × List (Int × List Int × Int × Bool × Int × Bool)) (w : World) : Prop :=
  ∀ (wx : World) (P g n cap : Nat) (bl : List Nat) (qs : List EFrame), FP wx P hand g n cap bl qs → n ≤ 16 → datFrameS qs = datFrameS ps → poolF ps hand = 0 → Same w wx → (∀ b, footFP P g bl qs b → w.heap.size ≤ b) →
    Calls Try.prog fid (#[.pointer (some ⟨P, 0, none⟩)] ++ xs) wx fun e w' => ∃ fr cd hd bl' qs', e = .returned (.tuple #[.int .i64 fr, .int .i64 cd]) ∧ FP w' P hd g n cap bl' qs' ∧ ((cd ≠ 0 ∧ T.1 = cd) ∨ (cd = 0 ∧ T = (0, fr, hd, datFrameS qs'))) ∧ (∀ b, footS kFrame bl' qs' b → footS kFrame bl qs b ∨ wx.heap.size ≤ b) ∧ Kept (footFP P g bl qs) wx w'
def turnHP (T : Int × Int × Int × List (Int × List Int × Int × Bool × Int × Bool)) (ps : List EFrame) (hand : Int) : Int × Int × Int × List (Int × List Int × Int × Bool × Int × Bool) :=
  if poolF ps hand ≠ 0 then (1, 0, 0, []) else if T.1 ≠ 0 then (T.1, 0, 0, []) else T
theorem turnedH_any (fid : FuncId) (xs : Array Value) (v : Value) (hand : Int) (ps : List EFrame) (T : Int × Int × Int × List (Int × List Int × Int × Bool × Int × Bool)) (w : World) (hv : RdR kFrame w v ps) (hent : Enters fid) (hT : TurnsH fid xs hand ps T w) :
    Calls Try.prog 20 #[.agg #[v, .int .i64 hand], .func (.func fid) #[] xs] w fun e w' => ∃ cd fr a n c hd qs, e = .returned (.agg #[.int .i64 cd, .int .i64 fr, .slice a n c, .int .i64 hd]) ∧ (cd, fr, hd, datFrameS qs) = turnHP T ps hand ∧ (∀ b, footR kFrame (.slice a n c) qs b → w.heap.size ≤ b) ∧ OwnR kFrame 0 46 5 w' (.slice a n c) qs ∧ Same w w' := by
  obtain ⟨a, c, rfl⟩ := hv.form
  have hk0 : Same w ((w.alloc (.cells #[.slice a ps.length c, .int .i64 hand] 28)).alloc (.cells #[.int .i64 0, .int .i64 0, .slice none 0 0, .int .i64 0] 30)) := ((Kept.refl _ _).alloc _).alloc _
  have b0 := Blk.newA w [.slice a ps.length c, .int .i64 hand] 28 [.int .i64 0, .int .i64 0, .slice none 0 0, .int .i64 0] 30
  have b1 := Blk.newB w [.slice a ps.length c, .int .i64 hand] 28 [.int .i64 0, .int .i64 0, .slice none 0 0, .int .i64 0] 30
  have k0 := implPoolFault_any (.slice a ps.length c) hand ps _ (hv.same hk0)
  have HV := (show Hid (RdR kFrame w (.slice a ps.length c) ps) from hv)
  have HT := (show Hid (TurnsH fid xs hand ps T w) from hT)
  have hent' : ∀ (args : Array Value) (wx : World), (callFunc fid args).run Try.prog wx = .ok (.enter fid args) wx := hent
  clear hv hT hent
  obtain ⟨R, hR⟩ : ∃ R, turnHP T ps hand = R := ⟨_, rfl⟩
  rw [hR]
  unfold turnHP at hR
  obtain ⟨q, hq⟩ : ∃ q, poolF ps hand = q := ⟨_, rfl⟩
  have HQ : Hid (poolF ps hand = q) := hq
  rw [hq] at hR k0
  go_enter Try.func20, Try.ntmps20
  go_wp2_with fail
  refine k0.mono ?_
  rintro e w1 ⟨rfl, hk1⟩
  have HK1 := (show Hid (Same w w1) from hk0.trans hk1)
  have HB0 := hid (b0.same hk1)
  have HB1 := hid (b1.same hk1)
  clear hk0 hk1 b0 b1 k0
  obtain ⟨g0, g1⟩ := HB0.out.all2
  obtain ⟨z0, z1, z2, z3⟩ := HB1.out.all4
  have fz := HB1.out.frozen
  have lz := HB1.out.lt
  by_cases h0 : q = 0
  · subst h0
    rw [if_neg (by simp)] at hR
    obtain ⟨hl1, hl16, _, _⟩ := poolF_len hq
    have hfr := frame_of hq
    have HM : Hid (∀ p ∈ ps, p.bs.length ≤ 1099511627776) := fun p hp => Nat.le_trans (hfr p hp).2 (by omega)
    clear hfr hq
    go_wp2_with fail
    refine (openPool_any (.slice a ps.length c) hand ps _ (HV.out.same HK1.out) hl1 hl16 HM.out).mono ?_
    rintro e w2 ⟨P, g, n, cap, bl, qs, rfl, hd2, hf2, hn2, hk2⟩
    have hn : n ≤ 16 := by rw [hf2.len, dat_len hd2]; exact hl16
    have HF2 := (show Hid (FP w2 P hand g n cap bl qs) from hf2)
    have HD2 : Hid (datFrameS qs = datFrameS ps) := hd2
    have HN2 : Hid (∀ b, footFP P g bl qs b → w1.heap.size ≤ b) := hn2
    have HK2 := (show Hid (Same w w2) from HK1.out.trans hk2)
    have HB12 := hid (HB1.out.same hk2)
    have hz2 : w1.heap.size ≤ w2.heap.size := hk2.size
    have kt := HT.out w2 P g n cap bl qs hf2 hn hd2 HQ.out HK2.out (fun b hb => by have := hn2 b hb; omega)
    clear hd2 hf2 hn2 hk2 g0 g1 z0 z1 z2 z3 fz hl1 hl16
    go_wp2_with fail
    refine kt.mono ?_
    rintro e w3 ⟨fr, cd, hd3, bl', qs', rfl, hf3, ht3, hn3, hk3⟩
    have HF3 := (show Hid (FP w3 P hd3 g n cap bl' qs') from hf3)
    have HN3 : Hid (∀ b, footS kFrame bl' qs' b → w1.heap.size ≤ b) := fun b hb => by
      rcases hn3 b hb with h | h
      · exact HN2.out b (.inr (.inr h))
      · omega
    have HK3 := (show Hid (Same w w3) from HK2.out.next hk3 (fun i hi e => by have := HN2.out i e; omega))
    have HB13 := (show Hid (Blk w3 (w.heap.size + 1) 30 [.int .i64 0, .int .i64 0, .slice none 0 0, .int .i64 0]) from HB12.out.kept hk3 (fun e => by have := HN2.out _ e; omega))
    clear kt hf3 hn3 hk3
    obtain ⟨z0, z1, z2, z3⟩ := HB13.out.all4
    have fz := HB13.out.frozen
    have lz3 := HB13.out.lt
    rcases ht3 with ⟨h3, ht3⟩ | ⟨rfl, ht3⟩
    rotate_left
    · rw [ht3, if_neg (by simp)] at hR
      have HR := hid hR
      go_wp2_with fail
      refine (pool_any P hd3 g n cap bl' qs' _ HF3.out hn).mono ?_
      rintro e w4 ⟨a4, m4, c4, rfl, ho4, hf4, hk4⟩
      have HO4 := (show Hid (OwnR kFrame 0 46 5 w4 (.slice a4 m4 c4) qs') from ho4)
      have HF4 : Hid (∀ b, footR kFrame (.slice a4 m4 c4) qs' b → w1.heap.size ≤ b) := fun b hb => by
        rcases hf4 b hb with h | h
        · have h1 := HB13.out.lt
          have h2 := HF3.out.lt P (.inl rfl)
          have h3 := HN2.out P (.inl rfl)
          omega
        · exact HN3.out b h
      have HK4 := (show Hid (Same w w4) from HK3.out.trans hk4)
      have HB14 := hid (HB13.out.same hk4)
      clear ho4 hf4 hk4 z0 z1 z2 z3 fz
      obtain ⟨z0, z1, z2, z3⟩ := HB14.out.all4
      have fz := HB14.out.frozen
      have lz4 := HB14.out.lt
      go_wp2
      refine bodyPost_ret (v := .agg #[.int .i64 0, .int .i64 fr, .slice a4 m4 c4, .int .i64 hd3]) (by simp [results, Try.results20, go_sem, z0, z1, z2, z3]) rfl ⟨0, fr, a4, m4, c4, hd3, qs', rfl, HR.out, fun b hb => by have := HF4.out b hb; omega, HO4.out.kept (R := fun b => b = w.heap.size + 1) ?_ (fun b hb e => by have := HF4.out b hb; omega), ?_⟩
      · (iterate 4 refine Kept.setCell (R := fun b => b = w.heap.size + 1) ?_ (.inr rfl) _)
        exact Kept.refl _ _
      · (iterate 4 refine Kept.setCell ?_ (.inl (Nat.le_succ _)) _)
        exact HK4.out
    · rw [if_pos (by rw [ht3]; exact h3), ht3] at hR
      have HR := hid hR
      go_wp2
      refine bodyPost_ret (v := .agg #[.int .i64 cd, .int .i64 0, .slice none 0 0, .int .i64 0]) (by simp [results, Try.results20, go_sem, z0, z1, z2, z3]) rfl ⟨cd, 0, none, 0, 0, 0, [], rfl, ?_, fun b hb => absurd hb (footR_nil b), OwnR.nil _ _ _ _ _, ?_⟩
      · rw [← HR.out]; rfl
      · (iterate 4 refine Kept.setCell ?_ (.inl (Nat.le_succ _)) _)
        exact HK3.out
  · rw [if_pos h0] at hR
    have HR := hid hR
    go_wp2
    refine bodyPost_ret (v := .agg #[.int .i64 1, .int .i64 0, .slice none 0 0, .int .i64 0]) (by simp [results, Try.results20, go_sem, z0, z1, z2, z3]) rfl ⟨1, 0, none, 0, 0, 0, [], rfl, ?_, fun b hb => absurd hb (footR_nil b), OwnR.nil _ _ _ _ _, ?_⟩
    · rw [← HR.out]; rfl
    · (iterate 4 refine Kept.setCell ?_ (.inl (Nat.le_succ _)) _)
      exact HK1.out
end Go.Proofs.Ytabmhcdldfehnab
