import Derived.Test.YtbbllmlokddolaaG01
import Derived.Test.YtbbllmlokddolaaG03
import Derived.Test.YtbbllmlokddolaaG04
import Derived.Test.YtbbllmlokddolaaG00
import Derived.WalkKit
import Derived.OrdersHeld
import Derived.Deep.RegionHeld3
import Derived.Deep.AppendLies
namespace Go.Proofs.Ytbbllmlokddolaa
open Go.RowKit
set_option linter.unusedVariables false
set_option linter.unusedSimpArgs false
def fineF (d : FD) : Prop := (d.1 = -1 → d.2.1 = [] ∧ d.2.2.1 = 0 ∧ d.2.2.2.1 = false ∧ d.2.2.2.2.1 = 0 ∧ d.2.2.2.2.2 = false) ∧ (d.1 ≠ -1 → (0 ≤ d.1 ∧ d.1 ≤ 15) ∧ d.2.1.length = 4096 ∧ 0 ≤ d.2.2.1 ∧ d.2.2.1 ≤ 2147483647) ∧
  (d.2.2.2.1 = true → 1 ≤ d.2.2.2.2.1 ∧ d.2.2.2.2.1 ≤ 1099511627776) ∧ (d.2.2.2.1 = false → d.2.2.2.2.1 = 0)
def apartF (a b : FD) : Prop := a.1 = b.1 → a.1 = -1
structure GoodP (ds : List FD) (hand : Int) : Prop where
  len1 : 1 ≤ ds.length
  len16 : ds.length ≤ 16
  hand0 : 0 ≤ hand
  hand1 : hand < (ds.length : Int)
  fine : ∀ d ∈ ds, fineF d
  apart : ds.Pairwise apartF
theorem fine_iff (p : EFrame) : (bad3 p = false ∧ bad4 p = false) ↔ fineF p.dat := by
  obtain ⟨pg, v, bs, pn, dt, rl, rf⟩ := p
  simp only [bad3, bad4, fineF, EFrame.dat, inB]
  by_cases h : pg = -1
  · subst h
    simp only [if_true, Bool.or_eq_false_iff, decide_eq_false_iff_not, bne_eq_false_iff_eq, true_implies, ne_eq, not_true_eq_false, false_implies, true_and, Bool.and_eq_false_iff, Bool.not_eq_false', Bool.and_eq_true, decide_eq_true_eq]
    cases dt <;> cases rf <;> cases bs <;> simp
  · simp only [if_neg h, Bool.or_eq_false_iff, Bool.not_eq_false', Bool.and_eq_true, decide_eq_true_eq, bne_eq_false_iff_eq, Bool.and_eq_false_iff]
    cases dt <;> simp [h] <;> omega
theorem dup_iff (ps : List EFrame) : dup ps = false ↔ (datFrameS ps).Pairwise apartF := by
  unfold dup
  rw [List.any_eq_false, List.pairwise_iff_getElem]
  constructor
  · intro h i j hi hj hij e
    rw [datFrameS_length] at hi hj
    have h1 := h j (List.mem_range.2 hj)
    simp only [dupAt, List.getElem?_eq_getElem hj, Bool.not_eq_true, Bool.and_eq_false_iff, bne_eq_false_iff_eq, List.any_eq_false, beq_iff_eq] at h1
    have ei : (datFrameS ps)[i].1 = ps[i].page := by simp [datFrameS, EFrame.dat]
    have ej : (datFrameS ps)[j].1 = ps[j].page := by simp [datFrameS, EFrame.dat]
    rw [ei, ej] at e
    rw [ei]
    rcases h1 with h1 | h1
    · rw [e]; exact h1
    · exact absurd e.symm (h1 ps[i] (List.mem_take_iff_getElem.2 ⟨i, by omega, rfl⟩))
  · intro h j hj
    have hj := List.mem_range.1 hj
    simp only [dupAt, List.getElem?_eq_getElem hj, Bool.not_eq_true, Bool.and_eq_false_iff, bne_eq_false_iff_eq, List.any_eq_false, beq_iff_eq]
    by_cases e : ps[j].page = -1
    · exact .inl e
    · refine .inr (fun q hq e2 => ?_)
      obtain ⟨i, hi, rfl⟩ := List.mem_take_iff_getElem.1 hq
      have h1 := h i j (by rw [datFrameS_length]; omega) (by rw [datFrameS_length]; exact hj) (by omega)
      have ei : (datFrameS ps)[i]'(by rw [datFrameS_length]; omega) = ps[i].dat := by simp [datFrameS]
      have ej : (datFrameS ps)[j]'(by rw [datFrameS_length]; exact hj) = ps[j].dat := by simp [datFrameS]
      rw [ei, ej] at h1
      have h2 := h1 e2.symm
      exact e (by rw [e2]; exact h2)
theorem goodP_iff (ps : List EFrame) (hand : Int) : poolF ps hand = 0 ↔ GoodP (datFrameS ps) hand := by
  constructor
  · intro h
    obtain ⟨h1, h2, h3, h4⟩ := poolF_len h
    unfold poolF at h
    rw [if_neg (by omega), if_neg (by omega)] at h
    split at h
    · cases h
    · rename_i b3
      split at h
      · cases h
      · rename_i b4
        split at h
        · cases h
        · rename_i b5
          refine ⟨by rw [datFrameS_length]; exact h1, by rw [datFrameS_length]; exact h2, h3, by rw [datFrameS_length]; exact h4, fun d hd => ?_, (dup_iff ps).1 (by simpa using b5)⟩
          obtain ⟨p, hp, rfl⟩ := List.mem_map.1 hd
          refine (fine_iff p).1 ⟨?_, ?_⟩
          · cases hb : bad3 p with
            | false => rfl
            | true => exact absurd (List.any_eq_true.2 ⟨p, hp, hb⟩) b3
          · cases hb : bad4 p with
            | false => rfl
            | true => exact absurd (List.any_eq_true.2 ⟨p, hp, hb⟩) b4
  · intro h
    have hl := datFrameS_length ps
    have h1 := h.len1
    have h2 := h.len16
    have h3 := h.hand0
    have h4 := h.hand1
    rw [hl] at h1 h2 h4
    unfold poolF
    have hf : ∀ p ∈ ps, bad3 p = false ∧ bad4 p = false := fun p hp => (fine_iff p).2 (h.fine _ (List.mem_map_of_mem hp))
    rw [if_neg (by omega), if_neg (by omega), if_neg ?_, if_neg ?_, if_neg ?_]
    · rw [(dup_iff ps).2 h.apart]; exact Bool.false_ne_true
    · intro hb
      obtain ⟨p, hp, e⟩ := List.any_eq_true.1 hb
      rw [(hf p hp).2] at e; cases e
    · intro hb
      obtain ⟨p, hp, e⟩ := List.any_eq_true.1 hb
      rw [(hf p hp).1] at e; cases e
theorem GoodP.set {ds : List FD} {hand : Int} (h : GoodP ds hand) {k : Nat} {d d' : FD} (hk : ds[k]? = some d) (hp : d'.1 = d.1) (hf : fineF d') : GoodP (ds.set k d') hand := by
  obtain ⟨hkl, rfl⟩ := List.getElem?_eq_some_iff.1 hk
  refine ⟨by rw [List.length_set]; exact h.len1, by rw [List.length_set]; exact h.len16, h.hand0, by rw [List.length_set]; exact h.hand1, fun x hx => ?_, ?_⟩
  · rcases List.mem_or_eq_of_mem_set hx with hx | rfl
    · exact h.fine x hx
    · exact hf
  · have ha := h.apart
    rw [List.pairwise_iff_getElem] at ha ⊢
    intro i j hi hj hij
    rw [List.length_set] at hi hj
    have hpg : ∀ i (hi : i < ds.length), ((ds.set k d')[i]'(by rw [List.length_set]; exact hi)).1 = ds[i].1 := fun i hi => by
      rw [List.getElem_set]
      split
      · rename_i e; subst e; exact hp
      · rfl
    unfold apartF
    rw [hpg i hi, hpg j hj]
    exact ha i j hi hj hij
theorem GoodP.load {ds : List FD} {hand : Int} (h : GoodP ds hand) {k : Nat} (hk : k < ds.length) {d' : FD} (hp : ∀ d ∈ ds, d.1 ≠ d'.1) (hf : fineF d') : GoodP (ds.set k d') hand := by
  refine ⟨by rw [List.length_set]; exact h.len1, by rw [List.length_set]; exact h.len16, h.hand0, by rw [List.length_set]; exact h.hand1, fun x hx => ?_, ?_⟩
  · rcases List.mem_or_eq_of_mem_set hx with hx | rfl
    · exact h.fine x hx
    · exact hf
  · have ha := h.apart
    rw [List.pairwise_iff_getElem] at ha ⊢
    intro i j hi hj hij
    rw [List.length_set] at hi hj
    unfold apartF
    rw [List.getElem_set, List.getElem_set]
    by_cases e1 : k = i
    · rw [if_pos e1, if_neg (by omega)]
      intro e; exact absurd e.symm (hp _ (List.getElem_mem hj))
    · rw [if_neg e1]
      by_cases e2 : k = j
      · rw [if_pos e2]
        intro e; exact absurd e (hp _ (List.getElem_mem hi))
      · rw [if_neg e2]
        exact ha i j hi hj hij
theorem fine_unref {d : FD} (h : fineF d) : fineF (unref d) := by
  unfold fineF unref at *
  exact ⟨fun e => ⟨(h.1 e).1, (h.1 e).2.1, (h.1 e).2.2.1, (h.1 e).2.2.2.1, rfl⟩, h.2.1, h.2.2⟩
theorem clk_good (f : Nat) : ∀ (ds : List FD) (hd : Nat) (R : Nat × Nat × List FD), hd < ds.length → GoodP ds (hd : Int) → clk f ds hd = some R →
    GoodP R.2.2 (R.2.1 : Int) ∧ R.1 < ds.length ∧ R.2.2.length = ds.length ∧ (∀ (i : Nat) (d : FD), ds[i]? = some d → ∃ d' : FD, R.2.2[i]? = some d' ∧ d'.1 = d.1 ∧ d'.2.1 = d.2.1 ∧ d'.2.2.1 = d.2.2.1 ∧ d'.2.2.2.1 = d.2.2.2.1) ∧ (∃ d : FD, ds[R.1]? = some d ∧ ¬ 0 < d.2.2.1) := by
  induction f with
  | zero => intro ds hd R hh hg e; cases e
  | succ f ih =>
    intro ds hd R hh hg e
    have hnx : (hd + 1) % ds.length < ds.length := Nat.mod_lt _ (by omega)
    have hg2 : ∀ ds' : List FD, ds'.length = ds.length → GoodP ds' (hd : Int) → GoodP ds' (((hd + 1) % ds.length : Nat) : Int) := fun ds' hl g => ⟨g.len1, g.len16, by omega, by rw [hl]; omega, g.fine, g.apart⟩
    obtain ⟨d, hd'⟩ : ∃ d, ds[hd]? = some d := ⟨_, List.getElem?_eq_getElem hh⟩
    by_cases hp : 0 < d.2.2.1
    · rw [clk_pinned hd' hp] at e
      exact ih ds _ R hnx (hg2 ds rfl hg) e
    · cases hr : d.2.2.2.2.2 with
      | false =>
        rw [clk_found hd' hp hr] at e
        cases e
        exact ⟨hg2 ds rfl hg, hh, rfl, fun i x hx => ⟨x, hx, rfl, rfl, rfl, rfl⟩, d, hd', hp⟩
      | true =>
        rw [clk_ref hd' hp hr] at e
        have hl : (ds.set hd (unref d)).length = ds.length := List.length_set
        have hgs : GoodP (ds.set hd (unref d)) (hd : Int) := hg.set hd' rfl (fine_unref (hg.fine d (List.mem_of_getElem? hd')))
        obtain ⟨r1, r2, r3, r4, r5, r6, r7⟩ := ih (ds.set hd (unref d)) _ R (by rw [hl]; exact hnx) (hg2 _ hl hgs) e
        rw [hl] at r2 r3
        refine ⟨r1, r2, r3, fun i x hx => ?_, ?_⟩
        · by_cases hi : hd = i
          · subst hi
            rw [hd'] at hx
            cases hx
            obtain ⟨x', k1, k2, k3, k4, k5⟩ := r4 hd (unref d) (List.getElem?_set_self hh)
            exact ⟨x', k1, k2, k3, k4, k5⟩
          · exact r4 i x (by rw [List.getElem?_set_ne hi]; exact hx)
        · by_cases hi : hd = R.1
          · exact ⟨d, by rw [← hi]; exact hd', hp⟩
          · rw [List.getElem?_set_ne hi] at r6
            exact ⟨r5, r6, r7⟩
end Go.Proofs.Ytbbllmlokddolaa

namespace Go.Proofs.Ytbbllmlokddolaa
set_option maxRecDepth 100000
set_option maxHeartbeats 4000000
open Go.RowKit
set_option linter.unusedVariables false
set_option linter.unusedSimpArgs false
def eF : EFrame := ⟨-1, .slice none 0 0, [], 0, false, 0, false⟩
def newP (frames : Int) : Int × List (Int × List Int × Int × Bool × Int × Bool) := if inB frames 1 16 = false then (0, []) else (0, List.replicate frames.toNat (-1, [], 0, false, 0, false))
theorem dat_eF (n : Nat) : datFrameS (List.replicate n eF) = List.replicate n (-1, [], 0, false, 0, false) := by
  unfold datFrameS
  rw [List.map_replicate]
  rfl
theorem specPoolNew_any (frames : Int) (w : World) :
    Calls Try.prog 44 #[.int .i64 frames] w fun e w' => ∃ a n c hd qs, e = .returned (.agg #[.slice a n c, .int .i64 hd]) ∧ (hd, datFrameS qs) = newP frames ∧ (∀ b, footR kFrame (.slice a n c) qs b → w.heap.size ≤ b) ∧ OwnR kFrame 0 36 5 w' (.slice a n c) qs ∧ Same w w' := by
  obtain ⟨i0, hi, hz0, hz1, hz2⟩ := info_parts Try.infoRFrame
  have kin := l4In_any frames 1 16
  have HB0 := (show Hid (Blk (w.alloc (.cells #[.slice none 0 0, .int .i64 0] 25)) w.heap.size 25 [.slice none 0 0, .int .i64 0]) from Blk.newL w [.slice none 0 0, .int .i64 0] 25)
  have HK0 := hid (sameA w [.slice none 0 0, .int .i64 0] 25)
  cases h1 : inB frames 1 16 with
  | false =>
    have HT : Hid (newP frames = (0, [])) := if_pos h1
    rw [h1] at kin
    go_enter Try.func44, Try.ntmps44
    go_wp2_with fail
    refine (kin _).mono ?_
    rintro e w1 ⟨rfl, hk1⟩
    have HK1 := (show Hid (Same w w1) from HK0.out.trans hk1)
    obtain ⟨z0, z1⟩ := (HB0.out.same hk1).all2
    have fz := (HB0.out.same hk1).frozen
    have lz := (HB0.out.same hk1).lt
    go_wp2
    refine bodyPost_ret (v := .agg #[.slice none 0 0, .int .i64 0]) (by simp [results, Try.results44, go_sem, z0, z1]) rfl ⟨none, 0, 0, 0, [], rfl, ?_, fun b hb => absurd hb (footR_nil b), OwnR.nil _ _ _ _ _, ?_⟩
    · rw [HT.out]; rfl
    · (iterate 2 refine Kept.setCell ?_ (.inl (Nat.le_refl _)) _)
      exact HK1.out
  | true =>
    rw [h1] at kin
    have hfr : 1 ≤ frames ∧ frames ≤ 16 := by simpa [inB] using h1
    obtain ⟨n, rfl⟩ : ∃ n : Nat, frames = (n : Int) := ⟨frames.toNat, by omega⟩
    have HT : Hid (newP (n : Int) = (0, datFrameS (List.replicate n eF))) := by
      unfold Hid newP
      rw [if_neg (by rw [h1]; simp), dat_eF, Int.toNat_natCast]
    have hn16 : n ≤ 16 := by omega
    clear h1 hfr
    go_enter Try.func44, Try.ntmps44
    go_wp2_with fail
    refine (kin _).mono ?_
    rintro e w1 ⟨rfl, hk1⟩
    have HK1 := (show Hid (Same w w1) from HK0.out.trans hk1)
    have HB1 := hid (HB0.out.same hk1)
    have HX1 := (show Hid (Blk (w1.alloc (.cells #[.slice none 0 0, .int .i64 0] 25)) w1.heap.size 25 [.slice none 0 0, .int .i64 0]) from Blk.newL w1 [.slice none 0 0, .int .i64 0] 25)
    have hw1 : w.heap.size < w1.heap.size := HB1.out.lt
    clear hk1
    go_wp2_with fail
    go_loopw [4] (fun i wr => ∃ (k : Nat) (aa : Option Addr) (na ca : Nat), k ≤ n ∧ i = .int .i64 k ∧ Hid (Blk wr w1.heap.size 25 [.slice aa na ca, .int .i64 0]) ∧ Hid (∀ b, footR kFrame (.slice aa na ca) (List.replicate k eF) b → w1.heap.size < b) ∧ Hid (OwnR kFrame 0 36 5 wr (.slice aa na ca) (List.replicate k eF)) ∧ Hid (Blk wr w.heap.size 25 [.slice none 0 0, .int .i64 0]) ∧ Hid (Same w wr)) (fun i _ => n - (intOf i).toNat)
    case atStart => exact ⟨0, none, 0, 0, Nat.zero_le _, rfl, HX1, fun b hb => absurd hb (footR_nil b), OwnR.nil _ _ _ _ _, HB1.out.alloc _, HK1.out.alloc _⟩
    case round =>
      obtain ⟨k, aa, na, ca, hk, rfl, HX, HFP, HOP, HZ, HK⟩ := hrel
      by_cases hlt : k < n
      · obtain ⟨x0, x1⟩ := HX.out.all2
        have fx := HX.out.frozen
        have hxl := HX.out.lt
        have hki : (k : Int) < (n : Int) := by omega
        have HOP4 := (show Hid (OwnR kFrame 0 36 5 (wr.alloc (.cells #[.int .i64 (-1), .slice none 0 0, .int .i64 0, .bool false, .int .i64 0, .bool false] 36)) (.slice aa na ca) (List.replicate k eF)) from HOP.out.same ((Kept.refl _ _).alloc _))
        have HN5 := (show Hid (Blk (wr.alloc (.cells #[.int .i64 (-1), .slice none 0 0, .int .i64 0, .bool false, .int .i64 0, .bool false] 36)) wr.heap.size 36 [.int .i64 (-1), .slice none 0 0, .int .i64 0, .bool false, .int .i64 0, .bool false]) from Blk.newL wr [.int .i64 (-1), .slice none 0 0, .int .i64 0, .bool false, .int .i64 0, .bool false] 36)
        have HKO := (show Hid ((wr.alloc (.cells #[.int .i64 (-1), .slice none 0 0, .int .i64 0, .bool false, .int .i64 0, .bool false] 36)).ownsRow 0 36 6 (.slice aa na ca) k (kFrame.all (List.replicate k eF))) from by have h := HOP4.out.row; rw [List.length_replicate] at h; exact h)
        have HXA := (show Hid (Blk (wr.alloc (.cells #[.int .i64 (-1), .slice none 0 0, .int .i64 0, .bool false, .int .i64 0, .bool false] 36)) w1.heap.size 25 [.slice aa na ca, .int .i64 0]) from HX.out.alloc _)
        go_wp2_with (at_builtin; go_loud (refine wpList_append_lies _ rfl (.tmp 16) (.tmp 18) 23 rfl 0 36 i0 _ 6 64 Try.underlying23 hi hz0 hz1 hz2 rfl (by omega) (.slice aa na ca) k (kFrame.all (List.replicate k eF)) rfl (by exact HKO.out) ⟨wr.heap.size, 0, none⟩ 1 1 [.int .i64 (-1), .slice none 0 0, .int .i64 0, .bool false, .int .i64 0, .bool false] rfl rfl (World.news_of_block (cs := #[.int .i64 (-1), .slice none 0 0, .int .i64 0, .bool false, .int .i64 0, .bool false]) (t := 36) (fr := (0, 0)) (by exact HN5.out)) (by simp [Value.oneCell']) (by omega) (by unfold maxLen; omega) (by omega) (Nat.zero_le _) (wr.heap.size + 1) (by simp) ?_); intro g5 cap5 w3 hown5 hgrow5 hat5 hlt5; have HX6 := (show Hid (Blk w3 w1.heap.size 25 [.slice aa na ca, .int .i64 0]) from HXA.out.kept (Kept.of_grown hgrow5 (fun k e => e)) (fun e => absurd (HFP.out _ (.inl e)) (by omega))); have HOWN5 := (show Hid (w3.ownsRow 0 36 6 (.slice (some ⟨g5, 0, none⟩) (k + 1) cap5) (k + 1) (kFrame.all (List.replicate k eF) ++ [.int .i64 (-1), .slice none 0 0, .int .i64 0, .bool false, .int .i64 0, .bool false])) from hown5); have HG5 := hid hgrow5; have HAT5 : Hid ((Value.slice aa na ca).ownBlock = some g5 ∨ g5 = wr.heap.size + 1) := hat5; have z0 := HX6.out.all2.1; have fz3 := HX6.out.frozen; have lz3 := HX6.out.lt; clear hown5 hgrow5 hat5)
        have hsnoc := OwnR.snoc (K := kFrame) eF HOP4.out (Own.nil _ _ _ _) (fun b hb hf => by simp [kFrame, eF, Value.ownBlock] at hb) HG5.out HOWN5.out (by simp) (by rw [World.size_alloc]; exact HAT5.out)
        rw [← List.replicate_succ'] at hsnoc
        have HN : Hid (∀ b, footR kFrame (.slice (some ⟨g5, 0, none⟩) (k + 1) cap5) (List.replicate (k + 1) eF) b → w1.heap.size < b) := fun b hb => by
          rw [List.replicate_succ'] at hb
          rcases footR_snoc (v := .slice aa na ca) b hb with rfl | hb | hb
          · rcases HAT5.out with h | h
            · exact HFP.out _ (.inl h)
            · omega
          · exact HFP.out b hb
          · simp [kFrame, eF, Value.ownBlock] at hb
        have hkg : Kept (fun b => (Value.slice aa na ca).ownBlock = some b) (wr.alloc (.cells #[.int .i64 (-1), .slice none 0 0, .int .i64 0, .bool false, .int .i64 0, .bool false] 36)) w3 := Kept.of_grown HG5.out (fun k e => e)
        have HST := (show Hid (Kept (fun b => b = w1.heap.size) w3 (w3.setCell ⟨w1.heap.size, 0, none⟩ (.slice (some ⟨g5, 0, none⟩) (k + 1) cap5))) from Kept.setCell (R := fun b => b = w1.heap.size) (Kept.refl _ _) (p := ⟨w1.heap.size, 0, none⟩) (.inr rfl) _)
        have HO6 := (show Hid (OwnR kFrame 0 36 5 (w3.setCell ⟨w1.heap.size, 0, none⟩ (.slice (some ⟨g5, 0, none⟩) (k + 1) cap5)) (.slice (some ⟨g5, 0, none⟩) (k + 1) cap5) (List.replicate (k + 1) eF)) from hsnoc.kept HST.out (fun b hb e => by have := HN.out b hb; omega))
        have HX7 := (show Hid (Blk (w3.setCell ⟨w1.heap.size, 0, none⟩ (.slice (some ⟨g5, 0, none⟩) (k + 1) cap5)) w1.heap.size 25 [.slice (some ⟨g5, 0, none⟩) (k + 1) cap5, .int .i64 0]) from HX6.out.stored 0 _)
        have HZ7 := (show Hid (Blk (w3.setCell ⟨w1.heap.size, 0, none⟩ (.slice (some ⟨g5, 0, none⟩) (k + 1) cap5)) w.heap.size 25 [.slice none 0 0, .int .i64 0]) from ((HZ.out.alloc _).kept hkg (fun e => by have := HFP.out _ (.inl e); omega)).kept HST.out (by intro e; omega))
        have HK7 := (show Hid (Same w (w3.setCell ⟨w1.heap.size, 0, none⟩ (.slice (some ⟨g5, 0, none⟩) (k + 1) cap5))) from ((HK.out.alloc _).next hkg (fun i hi e => by have := HFP.out i (.inl e); omega)).next HST.out (fun i hi e => by omega))
        clear hsnoc hkg
        go_wp2
        go_roundw
        case rel => exact ⟨k + 1, some ⟨g5, 0, none⟩, k + 1, cap5, by omega, by go_num, HX7, HN, HO6, HZ7, HK7⟩
        case measure => simp [intOf]; omega
      · obtain rfl : n = k := by omega
        obtain ⟨x0, x1⟩ := HX.out.all2
        obtain ⟨z0, z1⟩ := HZ.out.all2
        have fz := HZ.out.frozen
        have lz := HZ.out.lt
        go_wp2
        refine bodyPost_ret (v := .agg #[.slice aa na ca, .int .i64 0]) (by simp [results, Try.results44, go_sem, z0, z1]) rfl ⟨aa, na, ca, 0, List.replicate n eF, rfl, by rw [HT.out], fun b hb => by have := HFP.out b hb; omega, ?_, ?_⟩
        · refine HOP.out.kept (R := fun b => b = w.heap.size) ?_ (fun b hb e => by have := HFP.out b hb; omega)
          (iterate 2 refine Kept.setCell (R := fun b => b = w.heap.size) ?_ (.inr rfl) _)
          exact Kept.refl _ _
        · (iterate 2 refine Kept.setCell ?_ (.inl (Nat.le_refl _)) _)
          exact HK.out
end Go.Proofs.Ytbbllmlokddolaa

namespace Go.Proofs.Ytbbllmlokddolaa
open Go.RowKit
set_option linter.unusedVariables false
set_option linter.unusedSimpArgs false
theorem datF_at (ps : List EFrame) (j : Nat) (hj : j < ps.length) : (datFrameS ps)[j]? = some ps[j].dat := by simp [datFrameS, hj]
theorem findFrom_hit {page : Int} : ∀ (ps : List EFrame) (k : Nat), findFrom page k ps ≠ -1 → ∃ j, ∃ h : j < ps.length, findFrom page k ps = ((k + j : Nat) : Int) ∧ ps[j].page = page
  | [], k, h => absurd rfl h
  | p :: ps, k, h => by
    by_cases e : p.page = page
    · exact ⟨0, by simp, by rw [show findFrom page k (p :: ps) = k from if_pos e]; rfl, e⟩
    · rw [show findFrom page k (p :: ps) = findFrom page (k + 1) ps from if_neg e] at h ⊢
      obtain ⟨j, hj, e1, e2⟩ := findFrom_hit ps (k + 1) h
      exact ⟨j + 1, by simp; omega, by rw [e1]; congr 1; omega, by simpa using e2⟩
theorem findFrom_miss {page : Int} (hp : 0 ≤ page) : ∀ (ps : List EFrame) (k : Nat), findFrom page k ps = -1 → ∀ p ∈ ps, p.page ≠ page
  | [], k, h => fun p hp => by simp at hp
  | q :: ps, k, h => by
    by_cases e : q.page = page
    · rw [show findFrom page k (q :: ps) = k from if_pos e] at h
      omega
    · rw [show findFrom page k (q :: ps) = findFrom page (k + 1) ps from if_neg e] at h
      intro p hpm
      rcases List.mem_cons.1 hpm with rfl | hpm
      · exact e
      · exact findFrom_miss hp _ (k + 1) h p hpm
theorem find_cases {ps : List EFrame} {hand page : Int} (h : poolF ps hand = 0) (h0 : 0 ≤ page) (h1 : page < 16) :
    (findP ps hand page = -1 ∧ findB page ps = -1 ∧ ∀ p ∈ ps, p.page ≠ page) ∨ ∃ j, ∃ hj : j < ps.length, findP ps hand page = (j : Int) ∧ findB page ps = (j : Int) ∧ ps[j].page = page := by
  have hb : isPageB page = true := by simp [isPageB]; omega
  have e : findP ps hand page = findFrom page 0 ps := by rw [findP_eq, if_neg]; rintro (h' | h'); exact h' h; rw [hb] at h'; cases h'
  have e2 : findB page ps = findFrom page 0 ps := by rw [findB_eq page h, e]
  rw [e, e2]
  by_cases hf : findFrom page 0 ps = -1
  · exact .inl ⟨hf, hf, findFrom_miss h0 ps 0 hf⟩
  · obtain ⟨j, hj, e1, e3⟩ := findFrom_hit ps 0 hf
    rw [Nat.zero_add] at e1
    exact .inr ⟨j, hj, e1, e1, e3⟩
def CallR (ps : List EFrame) (hand page : Int) (X : FD → FD → Prop) (cd fr hd : Int) (ds : List FD) : Prop :=
  (cd ≠ 0 ∧ ds = []) ∨ (cd = 0 ∧ ∃ j : Nat, ∃ hj : j < ps.length, ∃ d', findP ps hand page = (j : Int) ∧ hd = hand ∧ ds = (datFrameS ps).set j d' ∧ GoodP ds hd ∧ X ps[j].dat d')
theorem good_frame {ps : List EFrame} {hand : Int} (h : poolF ps hand = 0) (j : Nat) (hj : j < ps.length) : fineF ps[j].dat := ((goodP_iff ps hand).1 h).fine _ (List.mem_map_of_mem (List.getElem_mem hj))
theorem callR_set {ps : List EFrame} {hand page : Int} {X : FD → FD → Prop} (h : poolF ps hand = 0) {j : Nat} (hj : j < ps.length) (hf : findP ps hand page = (j : Int)) {d' : FD} (hp : d'.1 = ps[j].dat.1) (hfi : fineF d') (hX : X ps[j].dat d') : CallR ps hand page X 0 (j : Int) hand ((datFrameS ps).set j d') :=
  .inr ⟨rfl, j, hj, d', hf, rfl, rfl, ((goodP_iff ps hand).1 h).set (datF_at ps j hj) hp hfi, hX⟩
theorem pins_call {ps : List EFrame} {hand page : Int} (h : poolF ps hand = 0) (h0 : 0 ≤ page) (h1 : page < 16) (more : Int) (hm : more = 1 ∨ more = -1) :
    CallR ps hand page (fun _ _ => True) (pinsP more ps hand page).1 (pinsP more ps hand page).2.1 (pinsP more ps hand page).2.2.1 (pinsP more ps hand page).2.2.2 := by
  rcases find_cases h h0 h1 with ⟨e1, e2, _⟩ | ⟨j, hj, e1, e2, e3⟩
  · unfold pinsP
    rw [atP_none h e2, if_pos (by decide)]
    exact .inl ⟨by decide, rfl⟩
  · have ea : atP ps hand page = ((j : Int), 0) := by rw [atP_some h (by omega), e2]
    have hfj := good_frame h j hj
    unfold pinsP
    rw [ea, if_neg (by simp), Int.toNat_natCast, datF_at ps j hj]
    dsimp only
    by_cases hi : inB (ps[j].dat.2.2.1 + more) 0 2147483647 = false
    · rw [if_pos hi]; exact .inl ⟨by decide, rfl⟩
    · rw [if_neg hi]
      have hpg : ps[j].dat.1 = page := e3
      have hi2 : 0 ≤ ps[j].dat.2.2.1 + more ∧ ps[j].dat.2.2.1 + more ≤ 2147483647 := by simpa [inB] using hi
      refine callR_set h hj e1 rfl ?_ trivial
      refine ⟨fun e => ?_, fun e => ?_, hfj.2.2⟩
      · dsimp only at e; omega
      · exact ⟨(hfj.2.1 e).1, (hfj.2.1 e).2.1, hi2.1, hi2.2⟩
theorem turn_call {ps : List EFrame} {hand : Int} (h : poolF ps hand = 0) (T : Int × Int × List FD) : turnP T ps hand = if T.1 ≠ 0 then (T.1, 0, 0, []) else (0, T.2.1, hand, T.2.2) := by
  unfold turnP
  rw [if_neg (by simp [h])]
theorem clean_call {ps : List EFrame} {hand page : Int} (h : poolF ps hand = 0) (h0 : 0 ≤ page) (h1 : page < 16) :
    CallR ps hand page (fun _ d' => d'.2.2.2.1 = false ∧ d'.2.2.2.2.1 = 0) (cleanP ps hand page).1 (cleanP ps hand page).2.1 (cleanP ps hand page).2.2.1 (cleanP ps hand page).2.2.2 := by
  unfold cleanP
  rw [turn_call h]
  rcases find_cases h h0 h1 with ⟨e1, e2, _⟩ | ⟨j, hj, e1, e2, e3⟩
  · have hT : cleanT page ps = (2, 0, datFrameS ps) := by unfold cleanT; rw [if_pos e2]
    rw [hT, if_pos (by simp)]; exact .inl ⟨by simp, rfl⟩
  · have hfj := good_frame h j hj
    have hpg : ps[j].dat.1 = page := e3
    have hT : cleanT page ps = (0, (j : Int), (datFrameS ps).set j (ps[j].dat.1, ps[j].dat.2.1, ps[j].dat.2.2.1, false, 0, ps[j].dat.2.2.2.2.2)) := by
      unfold cleanT
      rw [e2, if_neg (by omega), Int.toNat_natCast, datF_at ps j hj]
    rw [hT, if_neg (by simp)]
    refine callR_set h hj e1 rfl ?_ ⟨rfl, rfl⟩
    exact ⟨fun e => by dsimp only at e; omega, fun e => hfj.2.1 e, fun e => (by cases e), fun _ => rfl⟩
theorem put_call {ps : List EFrame} {hand page : Int} (h : poolF ps hand = 0) (h0 : 0 ≤ page) (h1 : page < 16) (bs : List Int) (lsn : Int) :
    CallR ps hand page (fun d d' => d'.2.2.2.1 = true ∧ d'.2.2.2.2.1 = (if d.2.2.2.1 = true then d.2.2.2.2.1 else lsn) ∧ d'.2.1 = bs ∧ d'.2.2.2.2.2 = true) (putP ps hand page bs lsn).1 (putP ps hand page bs lsn).2.1 (putP ps hand page bs lsn).2.2.1 (putP ps hand page bs lsn).2.2.2 := by
  unfold putP
  rw [turn_call h]
  rcases find_cases h h0 h1 with ⟨e1, e2, _⟩ | ⟨j, hj, e1, e2, e3⟩
  · have hT : putT page bs lsn ps = (2, 0, datFrameS ps) := by unfold putT; rw [if_pos e2]
    rw [hT, if_pos (by simp)]; exact .inl ⟨by simp, rfl⟩
  · have hfj := good_frame h j hj
    have hpg : ps[j].dat.1 = page := e3
    by_cases hb : bs.length ≠ 4096 ∨ inB lsn 1 1099511627776 = false
    · have hT : putT page bs lsn ps = (3, 0, datFrameS ps) := by unfold putT; rw [if_neg (by omega), if_pos hb]
      rw [hT, if_pos (by simp)]; exact .inl ⟨by simp, rfl⟩
    · have hT : putT page bs lsn ps = (0, (j : Int), (datFrameS ps).set j (ps[j].dat.1, bs, ps[j].dat.2.2.1, true, (if ps[j].dat.2.2.2.1 = true then ps[j].dat.2.2.2.2.1 else lsn), true)) := by
        unfold putT
        rw [e2, if_neg (by omega), if_neg hb, Int.toNat_natCast, datF_at ps j hj]
      rw [hT, if_neg (by simp)]
      obtain ⟨hb1, hb2⟩ := not_or.1 hb
      have hb3 : 1 ≤ lsn ∧ lsn ≤ 1099511627776 := by simpa [inB] using hb2
      refine callR_set h hj e1 rfl ?_ ⟨rfl, rfl, rfl, rfl⟩
      refine ⟨fun e => by dsimp only at e; omega, fun e => ⟨(hfj.2.1 e).1, by simpa using hb1, (hfj.2.1 e).2.2⟩, fun _ => ?_, fun e => (by cases e)⟩
      dsimp only
      split
      · rename_i hd; exact hfj.2.2.1 hd
      · exact hb3
def VicR (ps : List EFrame) (hand cd fr hd : Int) (ds : List FD) : Prop :=
  (cd = 2 ∧ ds = [] ∧ ∀ p ∈ ps, p.pins ≠ 0) ∨ (cd = 0 ∧ ∃ j : Nat, ∃ hj : j < ps.length, fr = (j : Int) ∧ ps[j].pins = 0 ∧ GoodP ds hd ∧ ds.length = ps.length ∧ (∀ (i : Nat) (hi : i < ps.length), ∃ d', ds[i]? = some d' ∧ d'.1 = ps[i].page ∧ d'.2.2.1 = ps[i].pins ∧ d'.2.2.2.1 = ps[i].dirty))
theorem vic_call {ps : List EFrame} {hand : Int} (h : poolF ps hand = 0) : VicR ps hand (victimP ps hand).1 (victimP ps hand).2.1 (victimP ps hand).2.2.1 (victimP ps hand).2.2.2 := by
  have hG := (goodP_iff ps hand).1 h
  obtain ⟨l1, l2, l3, l4⟩ := poolF_len h
  have pin0 : ∀ (j : Nat) (hj : j < ps.length), 0 ≤ ps[j].pins := fun j hj => by
    have hf := good_frame h j hj
    by_cases e : ps[j].dat.1 = -1
    · have := (hf.1 e).2.1; have e2 : ps[j].dat.2.2.1 = ps[j].pins := rfl; omega
    · have := (hf.2.1 e).2.2.1; have e2 : ps[j].dat.2.2.1 = ps[j].pins := rfl; omega
  unfold victimP
  rw [if_neg (by simp [h])]
  by_cases hf : findFrom (-1) 0 ps ≠ -1
  · rw [if_pos hf]
    obtain ⟨j, hj, e1, e2⟩ := findFrom_hit ps 0 hf
    rw [Nat.zero_add] at e1
    have hfj := (good_frame h j hj).1 e2
    exact .inr ⟨rfl, j, hj, e1, hfj.2.1, hG, datFrameS_length ps, fun i hi => ⟨ps[i].dat, datF_at ps i hi, rfl, rfl, rfl⟩⟩
  · rw [if_neg hf]
    obtain ⟨H, rfl⟩ : ∃ H : Nat, hand = (H : Int) := ⟨hand.toNat, by omega⟩
    rw [Int.toNat_natCast]
    cases hc : clk (ps.length + ps.length) (datFrameS ps) H with
    | none =>
      refine .inl ⟨rfl, rfl, fun p hp e => ?_⟩
      obtain ⟨k, hk, rfl⟩ := List.mem_iff_getElem.1 hp
      have := clk_some (fs := datFrameS ps) (h := H) (k := k) (by rw [datFrameS_length]; omega) (datF_at ps k hk) (by have e2 : ps[k].dat.2.2.1 = ps[k].pins := rfl; omega)
      rw [datFrameS_length] at this
      exact this hc
    | some R =>
      obtain ⟨r1, r2, r3, r4, d, r5, r6⟩ := clk_good _ (datFrameS ps) H R (by rw [datFrameS_length]; omega) hG hc
      rw [datFrameS_length] at r2 r3
      refine .inr ⟨rfl, R.1, r2, rfl, ?_, r1, r3, fun i hi => ?_⟩
      · rw [datF_at ps R.1 r2] at r5
        cases r5
        have := pin0 R.1 r2
        have e2 : ps[R.1].dat.2.2.1 = ps[R.1].pins := rfl
        omega
      · obtain ⟨d', k1, k2, k3, k4, k5⟩ := r4 i _ (datF_at ps i hi)
        exact ⟨d', k1, k2, k4, k5⟩
theorem load_call {ps : List EFrame} {hand page : Int} (h : poolF ps hand = 0) (h0 : 0 ≤ page) (h1 : page < 16) (hno : ∀ p ∈ ps, p.page ≠ page) {j : Nat} (hj : j < ps.length) (hp : ps[j].pins = 0) (hd : ps[j].dirty = false) (bs : List Int) (hb : bs.length = 4096) :
    loadP ps hand (j : Int) page bs = (0, (j : Int), hand, (datFrameS ps).set j (page, bs, 0, false, 0, true)) ∧ GoodP ((datFrameS ps).set j (page, bs, 0, false, 0, true)) hand ∧ ∀ qs : List EFrame, datFrameS qs = (datFrameS ps).set j (page, bs, 0, false, 0, true) → findP qs hand page = (j : Int) := by
  have hG := (goodP_iff ps hand).1 h
  have hbp : isPageB page = true := by simp [isPageB]; omega
  have hfb : findB page ps = -1 := by
    unfold findB
    rw [if_neg (by rw [hbp]; decide)]
    exact findFrom_none 0 hno
  have hg : GoodP ((datFrameS ps).set j (page, bs, 0, false, 0, true)) hand := hG.load (by rw [datFrameS_length]; exact hj) (fun d hd => by
      obtain ⟨p, hp, rfl⟩ := List.mem_map.1 hd
      exact hno p hp) ⟨fun e => by dsimp only at e; omega, fun _ => ⟨by dsimp only; omega, hb, by simp, by simp⟩, fun e => (by cases e), fun _ => rfl⟩
  refine ⟨?_, hg, fun qs hq => ?_⟩
  · unfold loadP
    rw [turn_call h]
    have hT : loadT (j : Int) page bs ps = (0, (j : Int), (datFrameS ps).set j (page, bs, 0, false, 0, true)) := by
      unfold loadT
      rw [if_neg (by omega), Int.toNat_natCast, datF_at ps j hj]
      dsimp only
      rw [if_neg (by rintro (e | e); have e2 : ps[j].dat.2.2.1 = ps[j].pins := rfl; omega; have e2 : ps[j].dat.2.2.2.1 = ps[j].dirty := rfl; rw [e2, hd] at e; cases e), if_neg (by rintro (e | e); rw [hbp] at e; cases e; exact e hb), if_neg (by rintro ⟨e, _⟩; exact e hfb)]
    rw [hT, if_neg (by simp)]
  · have hq0 : poolF qs hand = 0 := (goodP_iff qs hand).2 (by rw [hq]; exact hg)
    have hql : qs.length = ps.length := by rw [← datFrameS_length qs, hq, List.length_set, datFrameS_length]
    rcases find_cases hq0 h0 h1 with ⟨_, _, hn⟩ | ⟨i, hi, e1, _, e3⟩
    · have hjq : j < qs.length := by omega
      have e := datF_at qs j hjq
      rw [hq, List.getElem?_set_self (by rw [datFrameS_length]; exact hj)] at e
      injection e with e
      have : qs[j].page = page := (congrArg Prod.fst e).symm
      exact absurd this (hn _ (List.getElem_mem hjq))
    · rw [e1]
      by_cases hij : i = j
      · rw [hij]
      · have e := datF_at qs i hi
        rw [hq, List.getElem?_set_ne (Ne.symm hij), datF_at ps i (by omega)] at e
        injection e with e
        have e2 : ps[i].page = qs[i].page := congrArg Prod.fst e
        exact absurd (e2.trans e3) (hno _ (List.getElem_mem _))
theorem new_good {frames : Int} (h1 : 1 ≤ frames) (h2 : frames ≤ 16) : (newP frames).1 = 0 ∧ GoodP (newP frames).2 0 := by
  unfold newP
  rw [if_neg (by simp [inB]; omega)]
  refine ⟨rfl, by simp; omega, by simp; omega, by omega, by simp; omega, fun d hd => ?_, ?_⟩
  · rw [List.eq_of_mem_replicate hd]
    exact ⟨fun _ => ⟨rfl, rfl, rfl, rfl, rfl⟩, fun e => absurd rfl e, fun e => (by cases e), fun _ => rfl⟩
  · rw [List.pairwise_iff_getElem]
    intro i j hi hj hij e
    simp
end Go.Proofs.Ytbbllmlokddolaa

namespace Go.Proofs.Ytbbllmlokddolaa
open Go
set_option linter.unusedVariables false
set_option linter.unusedSimpArgs false
def upd (done : Nat → Bool) (i : Nat) : Nat → Bool := fun j => if j = i then true else done j
def doneOf (listed : Array Bool) : Nat → Bool := fun j => listed.getD j false
theorem doneOf_set {listed : Array Bool} {i : Nat} (hi : i < listed.size) : doneOf (listed.setIfInBounds i true) = upd (doneOf listed) i := by
  funext j
  unfold doneOf upd
  by_cases h : j = i
  · subst h
    simp [hi]
  · rw [if_neg h, getD_set_ne false (fun e => h e.symm)]
def todo (listed : Array Bool) : Nat := (listed.toList.filter (fun b => !b)).length
theorem todo_list : ∀ (l : List Bool) (i : Nat), l[i]? = some false → ((l.set i true).filter (fun b => !b)).length + 1 = (l.filter (fun b => !b)).length
  | [], i, h => by simp at h
  | b :: r, 0, h => by
    have hb : b = false := by simpa using h
    subst hb
    simp
  | b :: r, i + 1, h => by
    have ih := todo_list r i (by simpa using h)
    cases b
    · simp; omega
    · simpa using ih
theorem todo_set {listed : Array Bool} {i : Nat} (h : listed.getD i true = false) : todo (listed.setIfInBounds i true) + 1 = todo listed := by
  unfold todo
  rw [Array.toList_setIfInBounds]
  apply todo_list
  by_cases hi : i < listed.size
  · simp [hi] at h ⊢
    exact h
  · simp [hi] at h
section
variable {P : Program} {ops : Array Oper} {Q : Exit → Act → World → Prop} {md : Region.Mode}
def ranked (md : Region.Mode) (ops : Array Oper) (rank : Nat → Nat) : Bool :=
  (List.range ops.size).all fun i => match ops[i]? with | some o => o.after.all fun e => !Region.binds md e || (decide (rank e.on < rank i) && decide (e.on < ops.size)) | none => true
theorem ranked_spec {rank : Nat → Nat} (h : ranked md ops rank = true) {i : Nat} {o : Oper} (ho : ops[i]? = some o) {e : Edge} (he : e ∈ o.after) (hb : Region.binds md e = true) : rank e.on < rank i ∧ e.on < ops.size := by
  have hi : i < ops.size := (Array.getElem?_eq_some_iff.1 ho).1
  unfold ranked at h
  rw [List.all_eq_true] at h
  have h1 := h i (List.mem_range.2 hi)
  rw [ho] at h1
  dsimp only at h1
  have h2 := Array.all_eq_true'.1 h1 e he
  rw [hb] at h2
  simpa using h2
theorem all_done {rank : Nat → Nat} (hr : ranked md ops rank = true) {listed : Array Bool} (hs : listed.size = ops.size) (h : Region.ready md ops listed = []) : ∀ (n i : Nat), rank i < n → i < ops.size → doneOf listed i = true
  | 0, i, hn, _ => by omega
  | n + 1, i, hn, hi => by
    cases hd : doneOf listed i with
    | true => rfl
    | false =>
      exfalso
      have hi' : i < listed.size := by omega
      have hno : listed.getD i true = false := by
        unfold doneOf at hd
        simp [hi'] at hd ⊢
        exact hd
      have hm : i ∈ Region.ready md ops listed := mem_ready.2 ⟨hno, ops[i], Array.getElem?_eq_getElem hi, fun e he hb => by
        obtain ⟨h1, h2⟩ := ranked_spec hr (Array.getElem?_eq_getElem hi) he hb
        exact all_done hr hs h n e.on (by omega) h2⟩
      rw [h] at hm
      simp at hm
theorem wpAny_inv (rank : Nat → Nat) (hr : ranked md ops rank = true) (I : (Nat → Bool) → Act → World → Prop)
    (hs : ∀ done a w, I done a w → ∀ i o, ops[i]? = some o → done i = false → (∀ e ∈ o.after, Region.binds md e = true → done e.on = true) → wpOp P ops Q i (I (upd done i)) a w)
    (he : ∀ done a w, I done a w → (∀ i, i < ops.size → done i = true) → Q .normal a w) :
    ∀ (fuel : Nat) (listed : Array Bool) (a : Act) (w : World), listed.size = ops.size → todo listed ≤ fuel → I (doneOf listed) a w → wpAny P md ops Q fuel listed a w
  | 0, listed, a, w, hz, ht, hI => by
    have h0 : Region.ready md ops listed = [] := by
      rw [List.eq_nil_iff_forall_not_mem]
      intro i hi
      have := todo_set (mem_ready.1 hi).1
      omega
    exact ⟨h0, he _ _ _ hI (fun i hi => all_done hr hz h0 _ i (Nat.lt_succ_self _) hi)⟩
  | fuel + 1, listed, a, w, hz, ht, hI => by
    refine ⟨fun h0 => he _ _ _ hI (fun i hi => all_done hr hz h0 _ i (Nat.lt_succ_self _) hi), fun i hi => ?_⟩
    obtain ⟨hno, o, ho, hall⟩ := mem_ready.1 hi
    have hil : i < listed.size := by
      by_cases h : i < listed.size
      · exact h
      · simp [h] at hno
    have hd : doneOf listed i = false := by
      unfold doneOf
      simp [hil] at hno ⊢
      exact hno
    refine wpOp_mono (fun a' w' h' => ?_) (hs _ a w hI i o ho hd hall)
    refine wpAny_inv rank hr I hs he fuel _ a' w' (by rw [Array.size_setIfInBounds]; exact hz) (by have := todo_set hno; omega) ?_
    rw [doneOf_set hil]
    exact h'
theorem wp_region_inv {id : Nat} {a : Act} {w : World} (rank : Nat → Nat) (hr : ranked .any ops rank = true) (hm : P.follows .mixedOrders = true) (I : (Nat → Bool) → Act → World → Prop)
    (h0 : I (fun _ => false) a w.drew)
    (hs : ∀ done a w, I done a w → ∀ i o, ops[i]? = some o → done i = false → (∀ e ∈ o.after, Region.binds .any e = true → done e.on = true) → wpOp P ops Q i (I (upd done i)) a w)
    (he : ∀ done a w, I done a w → (∀ i, i < ops.size → done i = true) → Q .normal a w) : (Code.region id ops true).wp P Q a w := by
  refine wp_region_any hm (wpAny_inv rank hr I hs he _ _ _ _ (by simp) ?_ ?_)
  · unfold todo
    exact Nat.le_trans (List.length_filter_le _ _) (by simp)
  · have : doneOf (Array.replicate ops.size false) = fun _ => false := by
      funext j
      unfold doneOf
      by_cases h : j < ops.size <;> simp [h]
    rw [this]
    exact h0
theorem wp_region_I {id : Nat} {a : Act} {w : World} (rank : Nat → Nat) (hr : ranked .any ops rank = true) (hm : P.follows .mixedOrders = true) (I : (Nat → Bool) → Act → World → Prop)
    (h0 : I (fun _ => false) a w.drew)
    (hs : ∀ done a w, I done a w → ∀ i o, ops[i]? = some o → done i = false → (∀ e ∈ o.after, Region.binds .any e = true → done e.on = true) →
      ∀ K' : Act → World → Prop, Shut (∀ a w, I (upd done i) a w → K' a w) → if Region.wanted o (yielded ops a.tmps) = true then Oper.wp P o a w K' Q else K' (a.put o.dst undef) w)
    (he : ∀ done a w, I done a w → (∀ i, i < ops.size → done i = true) → Q .normal a w) : (Code.region id ops true).wp P Q a w :=
  wp_region_inv rank hr hm I h0 (fun done a w hI i o ho hd hall => wpOp_step ho (fun K' hK => hs done a w hI i o ho hd hall K' hK)) he
end
end Go.Proofs.Ytbbllmlokddolaa

namespace Go.Proofs.Ytbbllmlokddolaa
set_option maxRecDepth 100000
set_option maxHeartbeats 4000000
open Go.RowKit
set_option linter.unusedVariables false
structure Src (w : World) (B : Nat) (v : Value) (cs : List Int) (at_ : Nat) (size : Int) : Prop where
  blk : Blk w B 66 [v, .int .i64 at_, .int .i64 size]
  code : Rd .u8 w v cs
  bytes : IsB cs
  few : cs.length ≤ 1048576
  little : 0 ≤ size ∧ size ≤ 12
theorem Src.kept {R : Nat → Prop} {w w' : World} {B : Nat} {v : Value} {cs : List Int} {at_ : Nat} {size : Int} (h : Src w B v cs at_ size) (hk : Kept R w w') (hB : ¬ R B) (hv : Rd .u8 w' v cs) : Src w' B v cs at_ size :=
  ⟨h.blk.kept hk hB, hv, h.bytes, h.few, h.little⟩
theorem Src.same {w w' : World} {B : Nat} {v : Value} {cs : List Int} {at_ : Nat} {size : Int} (h : Src w B v cs at_ size) (hk : Same w w') : Src w' B v cs at_ size :=
  ⟨h.blk.same hk, h.code.same hk, h.bytes, h.few, h.little⟩
theorem source_any (v : Value) (cs : List Int) (w : World) (hb : IsB cs) (hn : cs.length ≤ 1048576) (hv : Rd .u8 w v cs) :
    Calls Try.prog 17 #[v] w fun e w' => ∃ B size, e = .returned (.pointer (some ⟨B, 0, none⟩)) ∧ w.heap.size ≤ B ∧ Src w' B v cs 0 size ∧ Same w w' := by
  obtain ⟨a, c, rfl⟩ := hv.form
  by_cases h : 12 < (cs.length : Int) / 16
  · go_enter Try.func17, Try.ntmps17
    go_wp2
    go_ret
    exact ⟨_, 12, rfl, Nat.le_refl _, ⟨Blk.new _ _ _, hv.same ((Kept.refl _ _).alloc _), hb, hn, by omega, by omega⟩, (Kept.refl _ _).alloc _⟩
  · go_enter Try.func17, Try.ntmps17
    go_wp2
    go_ret
    exact ⟨_, rfl, Nat.le_refl _, ⟨_, Blk.new _ _ _, hv.same ((Kept.refl _ _).alloc _), hb, hn, by omega, by omega⟩, (Kept.refl _ _).alloc _⟩
def Drawn (n r : Int) : Prop := (n < 1 → r = 0) ∧ (1 ≤ n → 0 ≤ r ∧ r < n)
theorem next_any (B : Nat) (v : Value) (cs : List Int) (k : Nat) (size n : Int) (w : World) (hs : Src w B v cs k size) (hR : ∀ w', Kept (fun b => b = B) w w' → Rd .u8 w' v cs) (hk : k ≤ 1073741824) (hn : IsI n) :
    Calls Try.prog 19 #[.pointer (some ⟨B, 0, none⟩), .int .i64 n] w fun e w' => ∃ r, e = .returned (.int .i64 r) ∧ Drawn n r ∧ Src w' B v cs (k + 1) size ∧ Kept (fun b => b = B) w w' := by
  obtain ⟨a, c, rfl⟩ := hs.code.form
  have c0 : w.cell? ⟨B, 0, none⟩ = some (.slice a cs.length c) := by rw [hs.blk.cell]; rfl
  have c1 : w.cell? ⟨B, 1, none⟩ = some (.int .i64 k) := by rw [hs.blk.cell]; rfl
  have f1 := hs.blk.frozen 1
  have hkk : Kept (fun b => b = B) w (w.setCell ⟨B, 1, none⟩ (.int .i64 ((k : Int) + 1))) := Kept.setCell (R := fun b => b = B) (Kept.refl _ _) (.inr rfl) _
  have hsrc : Src (w.setCell ⟨B, 1, none⟩ (.int .i64 ((k : Int) + 1))) B (.slice a cs.length c) cs (k + 1) size :=
    ⟨by have := hs.blk.stored 1 (.int .i64 ((k : Int) + 1)); exact this, hR _ hkk, hs.bytes, hs.few, hs.little⟩
  have HS := (show Hid (Src (w.setCell ⟨B, 1, none⟩ (.int .i64 ((k : Int) + 1))) B (.slice a cs.length c) cs (k + 1) size) from hsrc)
  have HK := (show Hid (Kept (fun b => b = B) w (w.setCell ⟨B, 1, none⟩ (.int .i64 ((k : Int) + 1)))) from hkk)
  have hfew := hs.few
  obtain ⟨hn1, hn2⟩ := hn
  clear hs hR hsrc hkk
  by_cases h1 : n < 1
  · go_enter Try.func19, Try.ntmps19
    go_wp2
    go_ret
    exact ⟨0, rfl, ⟨fun _ => rfl, fun h => by omega⟩, HS.out, HK.out⟩
  · by_cases h2 : cs.length = 0
    · have e0 : ((cs.length : Nat) : Int) = 0 := by omega
      rw [h2] at c0
      go_enter Try.func19, Try.ntmps19
      go_wp2
      go_ret
      refine ⟨_, rfl, ⟨fun h => by omega, fun h => ⟨Int.emod_nonneg _ (by omega), Int.emod_lt_of_pos _ (by omega)⟩⟩, ?_, HK.out⟩
      have := HS.out
      rw [h2] at this
      exact this
    · obtain ⟨b, off, rfl, hc⟩ : ∃ b off, a = some ⟨b, off, none⟩ ∧ ∀ i, i < cs.length → (w.setCell ⟨B, 1, none⟩ (.int .i64 ((k : Int) + 1))).cell? ⟨b, off + i, none⟩ = some (.int .u8 (cs.getD i 0)) := by
        rcases HS.out.code.2 with ⟨hnil, _⟩ | ⟨b, off, c', h, _, hc⟩
        · rw [hnil] at h2
          simp at h2
        · cases h
          exact ⟨b, off, rfl, hc⟩
      have q1 := hc (k % cs.length) (Nat.mod_lt _ (by omega))
      have q2 := hc ((k + 1) % cs.length) (Nat.mod_lt _ (by omega))
      have x1 := HS.out.bytes.at (k % cs.length) (Nat.mod_lt _ (by omega))
      have x2 := HS.out.bytes.at ((k + 1) % cs.length) (Nat.mod_lt _ (by omega))
      clear hc
      have m1 : (k : Int) % (cs.length : Int) = ((k % cs.length : Nat) : Int) := by simp
      have m2 : ((k : Int) + 1) % (cs.length : Int) = (((k + 1) % cs.length : Nat) : Int) := by simp
      have l1 := Nat.mod_lt k (y := cs.length) (by omega)
      have l2 := Nat.mod_lt (k + 1) (y := cs.length) (by omega)
      have d1 : (k : Int) / (cs.length : Int) = ((k / cs.length : Nat) : Int) := by simp
      have d2 : k / cs.length ≤ k := Nat.div_le_self _ _
      generalize cs.getD (k % cs.length) 0 = x at *
      generalize cs.getD ((k + 1) % cs.length) 0 = y at *
      generalize k % cs.length = i1 at *
      generalize (k + 1) % cs.length = i2 at *
      generalize k / cs.length = j1 at *
      generalize hl : cs.length = len at *
      have hl0 : (0 : Int) < (len : Int) := by omega
      have hl1 : ¬ (len : Int) = 0 := by omega
      have l1' : (i1 : Int) < (len : Int) := by omega
      have l2' : (i2 : Int) < (len : Int) := by omega
      by_cases h3 : 200 < n
      · go_enter Try.func19, Try.ntmps19
        go_wp2
        go_quiet (fail)
        go_wp2
        go_quiet (fail)
        go_wp2
        go_ret
        refine ⟨_, rfl, ⟨fun h => by omega, fun h => ⟨Int.emod_nonneg _ (by omega), Int.emod_lt_of_pos _ (by omega)⟩⟩, ?_, ?_⟩
        · exact HS.out.same ((Kept.refl _ _).drewN _)
        · exact HK.out.drewN _
      · go_enter Try.func19, Try.ntmps19
        go_wp2
        go_quiet (fail)
        go_wp2
        go_ret
        refine ⟨_, rfl, ⟨fun h => by omega, fun h => ⟨Int.emod_nonneg _ (by omega), Int.emod_lt_of_pos _ (by omega)⟩⟩, ?_, ?_⟩
        · exact HS.out.same ((Kept.refl _ _).drewN _)
        · exact HK.out.drewN _
theorem Src.lt {w : World} {B : Nat} {v : Value} {cs : List Int} {at_ : Nat} {size : Int} (h : Src w B v cs at_ size) : B < w.heap.size := h.blk.lt
structure SrcR (w0 w : World) (B : Nat) (v : Value) (cs : List Int) (k : Nat) (size : Int) : Prop where
  src : Src w B v cs k size
  kept : Kept (fun b => b = B) w0 w
  rd : ∀ w', Kept (fun b => b = B) w0 w' → Rd .u8 w' v cs
theorem source_r (v : Value) (cs : List Int) (w : World) (hb : IsB cs) (hn : cs.length ≤ 1048576) (hv : Rd .u8 w v cs) :
    Calls Try.prog 17 #[v] w fun e w' => ∃ B size, e = .returned (.pointer (some ⟨B, 0, none⟩)) ∧ w.heap.size ≤ B ∧ SrcR w' w' B v cs 0 size ∧ Same w w' := by
  refine (source_any v cs w hb hn hv).mono ?_
  rintro e w' ⟨B, size, rfl, hB, hs, hk⟩
  exact ⟨B, size, rfl, hB, ⟨hs, Kept.refl _ _, fun w2 h => hv.same (hk.next h (fun i hi e => by omega))⟩, hk⟩
end Go.Proofs.Ytbbllmlokddolaa

namespace Go.Proofs.Ytbbllmlokddolaa
open Go Go.RowKit
set_option linter.unusedVariables false
set_option linter.unusedSimpArgs false
theorem SrcR.lt {w0 w : World} {B : Nat} {v : Value} {cs : List Int} {k : Nat} {size : Int} (h : SrcR w0 w B v cs k size) : B < w.heap.size := h.src.lt
theorem SrcR.on {R : Nat → Prop} {w0 w w' : World} {B : Nat} {v : Value} {cs : List Int} {k : Nat} {size : Int} (h : SrcR w0 w B v cs k size) (hk : Kept R w w') (hB : ¬ R B) (hR : ∀ i, i < w0.heap.size → ¬ R i) : SrcR w0 w' B v cs k size := by
  have hk' : Kept (fun b => b = B) w0 w' := h.kept.next hk (fun i hi e => absurd e (hR i hi))
  exact ⟨h.src.kept hk hB (h.rd w' hk'), hk', h.rd⟩
theorem SrcR.same {w0 w w' : World} {B : Nat} {v : Value} {cs : List Int} {k : Nat} {size : Int} (h : SrcR w0 w B v cs k size) (hk : Same w w') : SrcR w0 w' B v cs k size := h.on hk id (fun _ _ => id)
theorem next_k {w0 w : World} {B : Nat} {v : Value} {cs : List Int} {k : Nat} {size : Int} (n : Int) (h : SrcR w0 w B v cs k size) (hk : k ≤ 1073741824) (hn : IsI n) :
    Calls Try.prog 19 #[.pointer (some ⟨B, 0, none⟩), .int .i64 n] w fun e w' => ∃ r, e = .returned (.int .i64 r) ∧ Drawn n r ∧ SrcR w0 w' B v cs (k + 1) size ∧ Kept (fun b => b = B) w w' := by
  refine (next_any B v cs k size n w h.src (fun w' hw => h.rd w' (h.kept.trans hw)) hk hn).mono ?_
  rintro e w' ⟨r, rfl, hd, hs, hk'⟩
  exact ⟨r, rfl, hd, ⟨hs, h.kept.trans hk', h.rd⟩, hk'⟩
theorem chance_k {w0 w : World} {B : Nat} {v : Value} {cs : List Int} {k : Nat} {size : Int} (n : Int) (h : SrcR w0 w B v cs k size) (hk : k ≤ 1073741824) (hn : IsI n) :
    Calls Try.prog 20 #[.pointer (some ⟨B, 0, none⟩), .int .i64 n] w fun e w' => ∃ b, e = .returned (.bool b) ∧ SrcR w0 w' B v cs (k + 1) size ∧ Kept (fun b => b = B) w w' := by
  have k0 := next_k n h hk hn
  clear h
  go_enter Try.func20, Try.ntmps20
  go_wp2_with fail
  refine k0.mono ?_
  rintro e w1 ⟨r, rfl, hd, hs, hk1⟩
  have HS := hid hs
  have HK := hid hk1
  clear k0 hs hk1
  go_wp2
  go_ret
  exact ⟨_, rfl, HS.out, HK.out⟩
theorem lsn_k {w0 w : World} {B : Nat} {v : Value} {cs : List Int} {k : Nat} {size : Int} (h : SrcR w0 w B v cs k size) (hk : k ≤ 1073741824) :
    Calls Try.prog 45 #[.pointer (some ⟨B, 0, none⟩)] w fun e w' => ∃ r, e = .returned (.int .i64 r) ∧ 512 ≤ r ∧ r < 60512 ∧ SrcR w0 w' B v cs (k + 1) size ∧ Kept (fun b => b = B) w w' := by
  have k0 := next_k 60000 h hk (by constructor <;> decide)
  clear h
  go_enter Try.func45, Try.ntmps45
  go_wp2_with fail
  refine k0.mono ?_
  rintro e w1 ⟨r, rfl, hd, hs, hk1⟩
  have HS := hid hs
  have HK := hid hk1
  obtain ⟨hr1, hr2⟩ := hd.2 (by decide)
  clear k0 hs hd hk1
  go_wp2
  go_ret
  exact ⟨_, rfl, by omega, by omega, HS.out, HK.out⟩
end Go.Proofs.Ytbbllmlokddolaa
