import Derived.Test.YtelijknekfipfaaLockAskL
import Derived.Test.YtelijknekfipfaaG06
import Derived.Test.YtelijknekfipfaaG00
import Derived.Test.YtelijknekfipfaaG01
import Derived.Deep.AppendLies
import Derived.Deep.RegionWith
import Derived.Deep.DeepMust
namespace Go.Proofs.Ytelijknekfipfaa
set_option linter.unusedVariables false
set_option linter.unusedSimpArgs false
set_option maxRecDepth 100000
set_option maxHeartbeats 2000000
open Go.RowKit
structure LkPure (ls : List T3) (ms : List Int) (n : Nat) : Prop where
 good : GoodL ls
 small : ∀ l ∈ ls, (0 ≤ l.1 ∧ l.1 ≤ 7) ∧ (1 ≤ l.2.1 ∧ l.2.1 ≤ 4)
 mlen : ms.length = 40
 rel : ∀ t id : Nat, 1 ≤ t → t ≤ 4 → id ≤ 7 → ms.getD (t * 8 + id) 0 = modeFrom (t : Int) (id : Int) ls
 len : ls.length ≤ n
theorem LkPure.start : LkPure [] (List.replicate 40 0) 0 :=
 ⟨goodL_nil, fun _ h => by simp at h, by simp, fun t id _ _ _ => by
  have : t * 8 + id < 40 := by omega
  rw [show (List.replicate 40 (0 : Int)).getD (t * 8 + id) 0 = 0 from by unfold List.getD; rw [List.getElem?_replicate, if_pos this]; rfl]
  rfl, by simp⟩
theorem LkPure.next {ls : List T3} {ms : List Int} {n : Nat} (h : LkPure ls ms n) : LkPure ls ms (n + 1) := ⟨h.good, h.small, h.mlen, h.rel, by have := h.len; omega⟩
def clearR (T k : Nat) (ms ms' : List Int) : Prop := ms'.length = 40 ∧ ∀ j, j < 40 → ms'.getD j 0 = if T * 8 ≤ j ∧ j < T * 8 + k then 0 else ms.getD j 0
theorem clearR.zero {T : Nat} {ms : List Int} (h : ms.length = 40) : clearR T 0 ms ms := ⟨h, fun j _ => by rw [if_neg (by omega)]⟩
theorem getD_set (ms : List Int) (i j : Nat) (x : Int) (hi : i < ms.length) : (ms.set i x).getD j 0 = if i = j then x else ms.getD j 0 := by
 simp only [List.getD]
 rw [List.getElem?_set]
 by_cases h : i = j
 ·subst h
  simp [hi]
 ·simp [h]
theorem clearR.step {T k : Nat} {ms ms' : List Int} (h : clearR T k ms ms') (hi : T * 8 + k < 40) : clearR T (k + 1) ms (ms'.set (T * 8 + k) 0) := by
 refine ⟨by rw [List.length_set]; exact h.1, fun j hj => ?_⟩
 rw [getD_set _ _ _ _ (by rw [h.1]; exact hi), h.2 j hj]
 by_cases e : T * 8 + k = j
 ·subst e
  rw [if_pos rfl, if_pos (by omega)]
 ·rw [if_neg e]
  by_cases e2 : T * 8 ≤ j ∧ j < T * 8 + k
  ·rw [if_pos e2, if_pos (by omega)]
  ·rw [if_neg e2, if_neg (by omega)]
theorem LkPure.free {ls : List T3} {ms ms' : List Int} {n T : Nat} (h : LkPure ls ms n) (hc : clearR T 8 ms ms') : LkPure (ls.filter (fun l => decide (l.2.1 ≠ (T : Int)))) ms' (n + 1) := by
 refine ⟨h.good.filter _, fun l hl => h.small l (List.mem_filter.1 hl).1, hc.1, fun t id h1 h2 h3 => ?_, ?_⟩
 ·rw [modeFrom_free, hc.2 _ (by omega)]
  by_cases e : t = T
  ·subst e
   rw [if_pos (by omega), if_pos rfl]
  ·rw [if_neg (by omega), if_neg (by omega)]
   exact h.rel t id h1 h2 h3
 ·have := List.length_filter_le (fun l : T3 => decide (l.2.1 ≠ (T : Int))) ls
  have := h.len
  omega
def OthR (T I t : Nat) (ms : List Int) (o : Int) : Prop := 0 ≤ o ∧ (∀ s : Nat, 1 ≤ s → s < t → s ≠ T → ms.getD (s * 8 + I) 0 ≤ o) ∧ (o = 0 ∨ ∃ s : Nat, 1 ≤ s ∧ s < t ∧ s ≠ T ∧ ms.getD (s * 8 + I) 0 = o)
theorem OthR.start (T I : Nat) (ms : List Int) : OthR T I 1 ms 0 := ⟨Int.le_refl _, fun s h1 h2 => by omega, .inl rfl⟩
theorem OthR.skip {T I t : Nat} {ms : List Int} {o : Int} (h : OthR T I t ms o) (hs : t = T ∨ ms.getD (t * 8 + I) 0 ≤ o) : OthR T I (t + 1) ms o := by
 refine ⟨h.1, fun s h1 h2 h3 => ?_, ?_⟩
 ·by_cases e : s = t
  ·subst e
   rcases hs with hs | hs
   ·exact absurd hs h3
   ·exact hs
  ·exact h.2.1 s h1 (by omega) h3
 ·rcases h.2.2 with h | ⟨s, h1, h2, h3, h4⟩
  ·exact .inl h
  ·exact .inr ⟨s, h1, by omega, h3, h4⟩
theorem OthR.take {T I t : Nat} {ms : List Int} {o : Int} (h : OthR T I t ms o) (ht : 1 ≤ t) (hne : t ≠ T) (hs : o < ms.getD (t * 8 + I) 0) : OthR T I (t + 1) ms (ms.getD (t * 8 + I) 0) := by
 have h0 := h.1
 refine ⟨by omega, fun s h1 h2 h3 => ?_, .inr ⟨t, ht, by omega, hne, rfl⟩⟩
 by_cases e : s = t
 ·subst e; exact Int.le_refl _
 ·have := h.2.1 s h1 (by omega) h3
  omega
theorem OthR.eq {ls : List T3} {ms : List Int} {n T I : Nat} {o : Int} (hp : LkPure ls ms n) (hI : I ≤ 7) (h : OthR T I 5 ms o) : othersFrom (T : Int) (I : Int) 0 ls = o := by
 obtain ⟨o1, o2, o3⟩ := othersFrom_spec (T : Int) (I : Int) ls 0
 obtain ⟨p1, p2, p3⟩ := h
 have a1 : othersFrom (T : Int) (I : Int) 0 ls ≤ o := by
  rcases o3 with e | ⟨l, hl, e1, e2, e3⟩
  ·rw [e]; exact p1
  ·have hs := (hp.small l hl).2
   obtain ⟨s, hs'⟩ : ∃ s : Nat, l.2.1 = (s : Int) := ⟨l.2.1.toNat, by omega⟩
   have hm := modeFrom_mem hp.good.rise hl
   rw [hs', e1, ← hp.rel s I (by omega) (by omega) hI] at hm
   rw [← e3, ← hm]
   exact p2 s (by omega) (by omega) (by intro e; apply e2; rw [hs', e])
 have a2 : o ≤ othersFrom (T : Int) (I : Int) 0 ls := by
  rcases p3 with e | ⟨s, h1, h2, h3, h4⟩
  ·rw [e]; exact o1
  ·by_cases e0 : o = 0
   ·rw [e0]; exact o1
   ·rw [hp.rel s I h1 (by omega) hI] at h4
    obtain ⟨l, hl, k1, k2, k3⟩ := modeFrom_ex (txn := (s : Int)) (id := (I : Int)) (ls := ls) (by rw [h4]; exact e0)
    rw [h4] at k3
    rw [← k3]
    exact o2 l hl k1 (by rw [k2]; intro e; exact h3 (by omega))
 exact Int.le_antisymm a1 a2
theorem LkPure.ask {ls : List T3} {ms : List Int} {n T I : Nat} {mode : Int} (h : LkPure ls ms n) (hn : n ≤ 4000) (hT : 1 ≤ T ∧ T ≤ 4) (hI : I ≤ 7) (hmo : 1 ≤ mode ∧ mode ≤ 2)
  (hc : ¬ (othersFrom (T : Int) (I : Int) 0 ls = 2 ∨ ¬ othersFrom (T : Int) (I : Int) 0 ls = 0 ∧ mode = 2)) :
  LkPure (insF ((I : Int), (T : Int), if mode < modeFrom (T : Int) (I : Int) ls then modeFrom (T : Int) (I : Int) ls else mode) false ls) (ms.set (T * 8 + I) (if mode < modeFrom (T : Int) (I : Int) ls then modeFrom (T : Int) (I : Int) ls else mode)) (n + 1) := by
 have hl := h.len
 have hL := insF_length ((I : Int), (T : Int), if mode < modeFrom (T : Int) (I : Int) ls then modeFrom (T : Int) (I : Int) ls else mode) ls false
 refine ⟨h.good.ask (by omega) (by omega) hmo (by omega) hc, fun l hl => ?_, by rw [List.length_set]; exact h.mlen, fun t id h1 h2 h3 => ?_, by simp at hL; omega⟩
 ·rcases insF_mem _ _ _ l hl with ⟨rfl, _⟩ | ⟨hl, _⟩
  ·dsimp only; omega
  ·exact h.small l hl
 ·rw [getD_set _ _ _ _ (by rw [h.mlen]; omega)]
  by_cases e : T * 8 + I = t * 8 + id
  ·have e1 : t = T := by omega
   have e2 : id = I := by omega
   subst e1 e2
   rw [if_pos rfl]
   exact (modeFrom_ins_self ((id : Int), (t : Int), _) ls).symm
  ·rw [if_neg e, modeFrom_ins_ne _ _ _ (by dsimp only; intro hx; apply e; omega)]
   exact h.rel t id h1 h2 h3
theorem set_same {ms : List Int} {i : Nat} {x : Int} (h : ms.getD i 0 = x) (hi : i < ms.length) : ms.set i x = ms := by
 apply List.ext_getElem?
 intro j
 rw [List.getElem?_set]
 by_cases e : i = j
 ·subst e
  rw [if_pos rfl, if_pos hi, List.getElem?_eq_getElem hi, ← h]
  simp [List.getD, List.getElem?_eq_getElem hi]
 ·rw [if_neg e]
def AtR (n r : Int) : Prop := (n ≤ 1 → r = 0) ∧ (1 < n → 0 ≤ r ∧ r < n)
theorem lwAt_any (v : Value) (cs : List Int) (k : Nat) (n : Int) (w : World) (hb : IsB cs) (hfew : cs.length ≤ 1048576) (hk : k ≤ 1048576) (hn : IsI n) (hv : Rd .u8 w v cs) :
  Calls Try.prog 9 #[v, .int .i64 k, .int .i64 n] w fun e w' => ∃ r, e = .returned (.int .i64 r) ∧ AtR n r ∧ Same w w' := by
 obtain ⟨a, c, rfl⟩ := hv.form
 obtain ⟨hn1, hn2⟩ := hn
 by_cases h1 : n ≤ 1
 ·go_enter Try.func9, Try.ntmps9
  go_wp2
  go_ret
  exact ⟨0, rfl, ⟨fun _ => rfl, fun h => by omega⟩, Kept.refl _ _⟩
 ·by_cases h2 : cs.length = 0
  ·have e0 : ((cs.length : Nat) : Int) = 0 := by omega
   rw [h2]
   go_enter Try.func9, Try.ntmps9
   go_wp2
   go_ret
   exact ⟨_, rfl, ⟨fun h => by omega, fun h => ⟨Int.emod_nonneg _ (by omega), Int.emod_lt_of_pos _ (by omega)⟩⟩, Kept.refl _ _⟩
  ·obtain ⟨b, off, rfl, hc⟩ : ∃ b off, a = some ⟨b, off, none⟩ ∧ ∀ i, i < cs.length → w.cell? ⟨b, off + i, none⟩ = some (.int .u8 (cs.getD i 0)) := by
    rcases hv.2 with ⟨hnil, _⟩ | ⟨b, off, c', h, _, hc⟩
    ·rw [hnil] at h2
     simp at h2
    ·cases h
     exact ⟨b, off, rfl, hc⟩
   have q1 := hc (k % cs.length) (Nat.mod_lt _ (by omega))
   have q2 := hc ((k + 1) % cs.length) (Nat.mod_lt _ (by omega))
   have x1 := hb.at (k % cs.length) (Nat.mod_lt _ (by omega))
   have x2 := hb.at ((k + 1) % cs.length) (Nat.mod_lt _ (by omega))
   have m1 : (k : Int) % (cs.length : Int) = ((k % cs.length : Nat) : Int) := by simp
   have m2 : ((k : Int) + 1) % (cs.length : Int) = (((k + 1) % cs.length : Nat) : Int) := by simp
   have l1 := Nat.mod_lt k (y := cs.length) (by omega)
   have l2 := Nat.mod_lt (k + 1) (y := cs.length) (by omega)
   have d1 : (k : Int) / (cs.length : Int) = ((k / cs.length : Nat) : Int) := by simp
   have d2 : k / cs.length ≤ k := Nat.div_le_self _ _
   clear hc hv hb
   generalize cs.getD (k % cs.length) 0 = x at *
   generalize cs.getD ((k + 1) % cs.length) 0 = y at *
   generalize k % cs.length = i1 at *
   generalize (k + 1) % cs.length = i2 at *
   generalize k / cs.length = j1 at *
   generalize hl : cs.length = len at *
   have hl0 : (0 : Int) < (len : Int) := by omega
   have hl1 : ¬ (len : Int) = 0 := by omega
   have l1' : (i1 : Int) < (len : Int) := by omega
   have l2' : (i2 : Int) < (len : Int) := by omega
   by_cases h3 : 200 < n
   ·go_enter Try.func9, Try.ntmps9
    go_wp2
    go_quiet (fail)
    go_wp2
    go_ret
    exact ⟨_, rfl, ⟨fun h => by omega, fun h => ⟨Int.emod_nonneg _ (by omega), Int.emod_lt_of_pos _ (by omega)⟩⟩, (Kept.refl _ _).drewN _⟩
   ·go_enter Try.func9, Try.ntmps9
    go_wp2
    go_quiet (fail)
    go_wp2
    go_ret
    exact ⟨_, rfl, ⟨fun h => by omega, fun h => ⟨Int.emod_nonneg _ (by omega), Int.emod_lt_of_pos _ (by omega)⟩⟩, (Kept.refl _ _).drewN _⟩
theorem Try.infoI64 : (Try.prog.info? 2).map (fun i => (i.zero, i.size, i.bytes)) = some (some (.int .i64 0), 1, 8) := by kernel_rfl
end Go.Proofs.Ytelijknekfipfaa
