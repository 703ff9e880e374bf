import Derived.Test.YtdbpaadndaoihaaGreatDoorG08
import Derived.Test.YtdbpaadndaoihaaGreatDoorG09
import Derived.Test.YtdbpaadndaoihaaGreatDoorG07
import Derived.Test.YtdbpaadndaoihaaGreatDoorG02
import Derived.Test.YtdbpaadndaoihaaGreatDoorG01
namespace Go.Proofs.YtdbpaadndaoihaaGreatDoor
set_option linter.unusedVariables false
set_option linter.unusedSimpArgs false
set_option maxRecDepth 100000
set_option maxHeartbeats 8000000
open Go.RowKit
theorem layI_get (xs ys : List Int) (o : Nat) (h : o + ys.length ≤ xs.length) (i : Nat) : (layI xs o ys)[i]? = if i < o then xs[i]? else if i < o + ys.length then ys[i - o]? else xs[i]? := by
 unfold layI
 rw [List.getElem?_append, List.length_take, Nat.min_eq_left (by omega)]
 by_cases h1 : i < o
 ·rw [if_pos h1, if_pos h1, List.getElem?_take, if_pos h1]
 ·rw [if_neg h1, if_neg h1, List.getElem?_append]
  by_cases h2 : i < o + ys.length
  ·rw [if_pos (by omega), if_pos h2]
  ·rw [if_neg (by omega), if_neg h2, List.getElem?_drop]
   congr 1
   omega
theorem stretch_get (raw : List Int) (x y : Int) (i : Nat) : (stretch raw x y)[i]? = if i < y.toNat then raw[x.toNat + i]? else none := by
 unfold stretch
 rw [List.getElem?_take]
 split
 ·rw [List.getElem?_drop]
 ·rfl
theorem stretch_off (body d : List Int) (o : Nat) (x y : Int) (h : o + d.length ≤ body.length) (hd : x.toNat + y.toNat ≤ o ∨ o + d.length ≤ x.toNat) : stretch (layI body o d) x y = stretch body x y := by
 apply List.ext_getElem?
 intro i
 rw [stretch_get, stretch_get]
 by_cases hi : i < y.toNat
 ·rw [if_pos hi, if_pos hi, layI_get _ _ _ h]
  rcases hd with hd | hd
  ·rw [if_pos (by omega)]
  ·rw [if_neg (by omega), if_neg (by omega)]
 ·rw [if_neg hi, if_neg hi]
theorem stretch_on (body d : List Int) (o : Nat) (x y : Int) (h : o + d.length ≤ body.length) (hx : x.toNat = o) (hy : y.toNat = d.length) : stretch (layI body o d) x y = d := by
 apply List.ext_getElem?
 intro i
 rw [stretch_get, hy, hx]
 by_cases hi : i < d.length
 ·rw [if_pos hi, layI_get _ _ _ h, if_neg (by omega), if_pos (by omega)]
  congr 1
  omega
 ·rw [if_neg hi, List.getElem?_eq_none (by omega)]
theorem stretch_behind {r r' : List Int} (e : r.drop 148 = r'.drop 148) {x : Int} (hx : 148 ≤ x) (y : Int) : stretch r x y = stretch r' x y := by
 unfold stretch
 obtain ⟨m, hm⟩ : ∃ m, x.toNat = 148 + m := ⟨x.toNat - 148, by omega⟩
 rw [hm, ← List.drop_drop, ← List.drop_drop, e]
theorem cBody_get {sl : List Int} (h : SlOK sl) (raw : List Int) (hl : raw.length = 4096) : ∀ m, m ≤ 32 → ∀ k, k < m → ¬ sl.getD (2 * k) 0 = 0 → stretch (cBody raw sl m) (cBot sl (k + 1)) (sl.getD (2 * k + 1) 0) = stretch raw (sl.getD (2 * k) 0) (sl.getD (2 * k + 1) 0)
 | 0, _, k, hk, _ => absurd hk (by omega)
 | m + 1, hm, k, hk, h0 => by
  have hb := h.body raw hl m (by omega)
  have hm1 := h.bot (m + 1) hm
  have hm0 := h.bot m (by omega)
  have hs := cBot_succ sl m
  rw [cBody]
  by_cases hz : sl.getD (2 * m) 0 = 0
  ·rw [if_pos hz]
   by_cases e : k = m
   ·subst e; exact absurd hz h0
   ·exact cBody_get h raw hl m (by omega) k (by omega) h0
  ·rw [if_neg hz]
   have h1 := h.one m (by omega)
   have hsl := stretch_length raw (sl.getD (2 * m) 0) (sl.getD (2 * m + 1) 0) hl (by omega) (by omega) (by omega)
   by_cases e : k = m
   ·subst e
    exact stretch_on _ _ _ _ _ (by rw [hsl, hb]; omega) rfl hsl.symm
   ·have hmono := h.botMono (m - (k + 1)) (k + 1) (by omega)
    rw [show k + 1 + (m - (k + 1)) = m from by omega] at hmono
    rw [stretch_off _ _ _ _ _ (by rw [hsl, hb]; omega) (.inr (by rw [hsl]; omega))]
    exact cBody_get h raw hl m (by omega) k (by omega) h0
theorem usedN_congr {a b : List Int} (h : ∀ k, k < 32 → a.getD (2 * k + 1) 0 = b.getD (2 * k + 1) 0) : ∀ n, n ≤ 32 → usedN a n = usedN b n
 | 0, _ => rfl
 | n + 1, hn => by rw [usedN, usedN, usedN_congr h n (by omega), h n (by omega)]
theorem usedN_set2 {sl : List Int} (hl : sl.length = 64) (s : Nat) (hs : s < 32) (a b : Int) : ∀ n, n ≤ 32 → usedN ((sl.set (2 * s) a).set (2 * s + 1) b) n = usedN sl n + (if s < n then b - sl.getD (2 * s + 1) 0 else 0)
 | 0, _ => by simp [usedN]
 | n + 1, hn => by
  rw [usedN, usedN, usedN_set2 hl s hs a b n (by omega), (set2_at hl s n hs a b).2]
  by_cases e : n = s
  ·subst e
   rw [if_pos rfl, if_neg (by omega), if_pos (by omega)]
   omega
  ·rw [if_neg e]
   by_cases h : s < n
   ·rw [if_pos h, if_pos (by omega)]; omega
   ·rw [if_neg h, if_neg (by omega)]; omega
section
variable {sum : List Int} {lsn num bot : Int} {sl raw : List Int}
theorem EncOK.get (h : EncOK sum lsn num bot sl raw) (hok : ownOK (encB sum lsn num bot sl raw) = true) (hs : SlOK sl) (k : Nat) (hk : k < 32) :
  pageGet (encB sum lsn num bot sl raw) (k : Int) = if sl.getD (2 * k) 0 = 0 then (false, []) else (true, stretch raw (sl.getD (2 * k) 0) (sl.getD (2 * k + 1) 0)) := by
 by_cases h0 : sl.getD (2 * k) 0 = 0
 ·rw [if_pos h0]
  exact pageGet_no (.inr (.inr (.inr (by rw [h.slots]; exact h0))))
 ·rw [if_neg h0, pageGet_yes hok hk (by rw [h.slots]; exact h0), h.slots]
  have := hs.one k hk
  rw [stretch_behind h.behind (by omega)]
theorem pageFault_of {E : List Int} (hok : ownOK E = true) {n : Int} (hn : numAt E 12 4 = n) : pageFault E n = 0 := by
 subst hn
 unfold ownOK at hok
 simp at hok
 exact hok.2
end
structure Made (raw C : List Int) (lsn used : Int) (gt : Nat → Bool × List Int) : Prop where
 isB : IsB C
 len : C.length = 4096
 own : ownOK C = true
 fault : pageFault C (numAt raw 12 4) = 0
 lsn : pageLSN C = lsn
 used : pageUsed C = used
 get : ∀ k : Nat, k < 32 → pageGet C (k : Int) = gt k
theorem own_get {raw : List Int} (hok : ownOK raw = true) (k : Nat) (hk : k < 32) : pageGet raw (k : Int) = if (slotsOf raw).getD (2 * k) 0 = 0 then (false, []) else (true, stretch raw ((slotsOf raw).getD (2 * k) 0) ((slotsOf raw).getD (2 * k + 1) 0)) := by
 by_cases h0 : (slotsOf raw).getD (2 * k) 0 = 0
 ·rw [if_pos h0]; exact pageGet_no (.inr (.inr (.inr h0)))
 ·rw [if_neg h0]; exact pageGet_yes hok hk h0
theorem comp_made {raw : List Int} (hB : IsB raw) (hok : ownOK raw = true) : Made raw (compB raw) (pageLSN raw) (pageUsed raw) (fun k => pageGet raw (k : Int)) ∧ numAt (compB raw) 16 2 = 4096 - pageUsed raw := by
 have hl := ownOK_len hok
 have n12 := numAt_in raw hB 12 4 (by decide) (by decide) (by omega)
 have hsl := slOK_of hB hok
 have hz : (slotsOf raw).length = 64 := slotsOf_length raw
 have h4 : (raw.take 4).length = 4 := by rw [List.length_take, hl]; rfl
 have hE4 : IsB (raw.take 4) := isB_take hB 4
 have hL := (own_enc hok).2
 have hbb := hsl.bot 32 (Nat.le_refl _)
 obtain ⟨c1, c2⟩ := hsl.comp hz
 have hcz : (cSl (slotsOf raw) 32).length = 64 := by rw [cSl_length, hz]
 have hbl := hsl.body raw hl 32 (Nat.le_refl _)
 have hE : EncOK (raw.take 4) (numAt raw 4 8) (numAt raw 12 4) (cBot (slotsOf raw) 32) (cSl (slotsOf raw) 32) (cBody raw (slotsOf raw) 32) := ⟨h4, hcz, hbl, isLSN_spec hL, by omega, by omega, c1.all hcz⟩
 have hown : ownOK (compB raw) = true := hE.own' hL hbb c1 c2
 obtain ⟨d1, d2, d3⟩ := hE.dec
 have at0 := fun k => cSl_two (slotsOf raw) hz 32 (Nat.le_refl _) k
 refine ⟨⟨isB_enc h4 hcz hE4 (isB_cBody hB _ _), hE.len, hown, pageFault_of hown d2, ?_, ?_, fun k hk => ?_⟩, ?_⟩
 ·unfold pageLSN
  rw [if_pos hown, if_pos hok]
  exact d1
 ·unfold pageUsed
  rw [if_pos hown, if_pos hok, show slotsOf (compB raw) = cSl (slotsOf raw) 32 from hE.slots]
  exact usedN_congr (fun k _ => (at0 k).2) 32 (Nat.le_refl _)
 ·rw [show pageGet (compB raw) (k : Int) = _ from hE.get hown c1 k hk, own_get hok k hk]
  have q1 := (at0 k).1
  have q2 := (at0 k).2
  by_cases h0 : (slotsOf raw).getD (2 * k) 0 = 0
  ·rw [if_neg (fun x => x.2 h0)] at q1
   rw [q1, if_pos h0, if_pos h0]
  ·have hb1 := hsl.bot (k + 1) (by omega)
   rw [if_pos ⟨hk, h0⟩] at q1
   rw [q1, q2, if_neg (by omega), if_neg h0, cBody_get hsl raw hl 32 (Nat.le_refl _) k hk h0]
 ·rw [show numAt (compB raw) 16 2 = _ from d3]
  unfold pageUsed cBot
  rw [if_pos hok]
theorem set_made {raw : List Int} (hB : IsB raw) (hok : ownOK raw = true) (s : Nat) (hs : s < 32) (u : Bool) (d : List Int) (hdB : IsB d) (lsn : Int) (hL : isLSN lsn = true) (hd : d.length ≤ 1000) (hu : u = false → d = []) (hroom : ¬ setFull raw s d) :
  Made raw (setB raw s u d lsn) lsn (usedN (slotsOf raw) 32 - (slotsOf raw).getD (2 * s + 1) 0 + d.length) (fun k => if k = s then (u, d) else pageGet raw (k : Int)) := by
 have hl := ownOK_len hok
 obtain ⟨p1, p2, _, _⟩ := ownOK_parts hok
 have n12 := numAt_in raw hB 12 4 (by decide) (by decide) (by omega)
 have hsl := (slOK_of hB hok).zero s
 have hz : (sl0 (slotsOf raw) s).length = 64 := by rw [sl0_length, slotsOf_length]
 have h4 : (raw.take 4).length = 4 := by rw [List.length_take, hl]; rfl
 have hE4 : IsB (raw.take 4) := isB_take hB 4
 have hfr := (from_own hB hok).zero s
 have hus := usedN_zero (slotsOf raw) s 32
 rw [if_pos hs] at hus
 have hz0 := fun k => sl0_two (slotsOf raw) s k
 unfold setFull at hroom
 have hroom2 : 148 ≤ cBot (sl0 (slotsOf raw) s) 32 - d.length := by unfold cBot; omega
 have fin : ∀ b sl r, (148 ≤ b ∧ b ≤ 4096) → SlOK sl → From b sl → sl.length = 64 → r.length = 4096 → IsB r → usedN sl 32 = usedN (slotsOf raw) 32 - (slotsOf raw).getD (2 * s + 1) 0 + d.length →
   (∀ k, k < 32 → (if sl.getD (2 * k) 0 = 0 then ((false, []) : Bool × List Int) else (true, stretch r (sl.getD (2 * k) 0) (sl.getD (2 * k + 1) 0))) = if k = s then (u, d) else pageGet raw (k : Int)) →
   Made raw (encB (raw.take 4) lsn (numAt raw 12 4) b sl r) lsn (usedN (slotsOf raw) 32 - (slotsOf raw).getD (2 * s + 1) 0 + d.length) (fun k => if k = s then (u, d) else pageGet raw (k : Int)) := by
  intro b sl r hb h1 h2 h3 h5 h6 h7 h8
  have hE : EncOK (raw.take 4) lsn (numAt raw 12 4) b sl r := ⟨h4, h3, h5, isLSN_spec hL, by omega, by omega, h1.all h3⟩
  have hown := hE.own' hL hb h1 h2
  obtain ⟨d1, d2, d3⟩ := hE.dec
  refine ⟨isB_enc h4 h3 hE4 h6, hE.len, hown, pageFault_of hown d2, ?_, ?_, fun k hk => ?_⟩
  ·unfold pageLSN
   rw [if_pos hown]
   exact d1
  ·unfold pageUsed
   rw [if_pos hown, hE.slots]
   exact h7
  ·rw [hE.get hown h1 k hk]
   exact h8 k hk
 cases u with
 | false =>
  have hd0 := hu rfl
  subst hd0
  refine fin (numAt raw 16 2) (sl0 (slotsOf raw) s) raw ⟨p1, p2⟩ hsl hfr hz hl hB (by rw [hus]; simp) (fun k hk => ?_)
  by_cases e : k = s
  ·have q1 := (hz0 k).1
   rw [if_pos e] at q1
   rw [q1, if_pos rfl, if_pos e]
  ·have q1 := (hz0 k).1
   have q2 := (hz0 k).2
   rw [if_neg e] at q1 q2
   rw [q1, q2, if_neg e, own_get hok k hk]
 | true =>
  have hgen : ∀ (bt : Int) (sl r : List Int), sl.length = 64 → r.length = 4096 → IsB r → SlOK sl → From bt sl → (148 ≤ bt - d.length ∧ bt ≤ 4096) → usedN sl 32 = usedN (slotsOf raw) 32 - (slotsOf raw).getD (2 * s + 1) 0 → sl.getD (2 * s + 1) 0 = 0 →
    (∀ k, k < 32 → ¬ k = s → (if sl.getD (2 * k) 0 = 0 then ((false, []) : Bool × List Int) else (true, stretch r (sl.getD (2 * k) 0) (sl.getD (2 * k + 1) 0))) = pageGet raw (k : Int)) →
    Made raw (setPut (raw.take 4) lsn (numAt raw 12 4) bt sl r s d) lsn (usedN (slotsOf raw) 32 - (slotsOf raw).getD (2 * s + 1) 0 + d.length) (fun k => if k = s then (true, d) else pageGet raw (k : Int)) := by
   intro bt sl r h1 h2 h2B h3 h5 h6 h7 h8 h9
   obtain ⟨q1, q2⟩ := h3.put h1 h5 s hs d.length h6.1 h6.2 hd
   refine fin _ _ _ ⟨h6.1, by omega⟩ q1 q2 (by rw [List.length_set, List.length_set, h1]) (by rw [layI_length _ _ _ (by omega), h2]) (isB_lay h2B hdB _) ?_ (fun k hk => ?_)
   ·rw [usedN_set2 h1 s hs _ _ 32 (Nat.le_refl _), if_pos hs, h7, h8]
    omega
   ·rw [(set2_at h1 s k hs _ _).1, (set2_at h1 s k hs _ _).2]
    by_cases e : k = s
    ·rw [if_pos e, if_pos e, if_pos e, if_neg (by omega), stretch_on _ _ _ _ _ (by omega) rfl (by omega)]
    ·rw [if_neg e, if_neg e, if_neg e, ← h9 k hk e]
     by_cases h0 : sl.getD (2 * k) 0 = 0
     ·rw [if_pos h0, if_pos h0]
     ·have hf := h5 k hk h0
      have ho := h3.one k hk
      rw [if_neg h0, if_neg h0, stretch_off _ _ _ _ _ (by omega) (.inr (by omega))]
  by_cases hc : numAt raw 16 2 - 148 < d.length
  ·have hbb := hsl.bot 32 (Nat.le_refl _)
   obtain ⟨c1, c2⟩ := hsl.comp hz
   have hcz : (cSl (sl0 (slotsOf raw) s) 32).length = 64 := by rw [cSl_length, hz]
   have at0 := fun k => cSl_two (sl0 (slotsOf raw) s) hz 32 (Nat.le_refl _) k
   have hbl := hsl.body raw hl 32 (Nat.le_refl _)
   have e0 : setB raw s true d lsn = setPut (raw.take 4) lsn (numAt raw 12 4) (cBot (sl0 (slotsOf raw) s) 32) (cSl (sl0 (slotsOf raw) s) 32) (cBody raw (sl0 (slotsOf raw) s) 32) s d := by
    unfold setB
    rw [if_neg (by simp), if_pos hc]
   rw [e0]
   refine hgen _ _ _ hcz hbl (isB_cBody hB _ _) c1 c2 ⟨hroom2, hbb.2⟩ ?_ ?_ (fun k hk e => ?_)
   ·rw [usedN_congr (b := sl0 (slotsOf raw) s) (fun k _ => (at0 k).2) 32 (Nat.le_refl _), hus]
   ·rw [(at0 s).2, (hz0 s).2, if_pos rfl]
   ·rw [own_get hok k hk]
    have q1 := (at0 k).1
    have q2 := (at0 k).2
    have z1 := (hz0 k).1
    have z2 := (hz0 k).2
    rw [if_neg e] at z1 z2
    by_cases h0 : (slotsOf raw).getD (2 * k) 0 = 0
    ·have h0' : (sl0 (slotsOf raw) s).getD (2 * k) 0 = 0 := by rw [z1]; exact h0
     rw [if_neg (fun x => x.2 h0')] at q1
     rw [q1, if_pos h0', if_pos h0]
    ·have h0' : ¬ (sl0 (slotsOf raw) s).getD (2 * k) 0 = 0 := by rw [z1]; exact h0
     have hb1 := hsl.bot (k + 1) (by omega)
     rw [if_pos ⟨hk, h0'⟩] at q1
     rw [q1, q2, if_neg (by omega), if_neg h0, cBody_get hsl raw hl 32 (Nat.le_refl _) k hk h0', z1, z2]
  ·have e0 : setB raw s true d lsn = setPut (raw.take 4) lsn (numAt raw 12 4) (numAt raw 16 2) (sl0 (slotsOf raw) s) raw s d := by
    unfold setB
    rw [if_neg (by simp), if_neg hc]
   rw [e0]
   refine hgen _ _ _ hz hl hB hsl hfr ⟨by omega, p2⟩ hus (by rw [(hz0 s).2, if_pos rfl]) (fun k hk e => ?_)
   rw [own_get hok k hk, (hz0 k).1, (hz0 k).2, if_neg e, if_neg e]
theorem get_length {raw : List Int} (hB : IsB raw) (hok : ownOK raw = true) (k : Nat) (hk : k < 32) : (((pageGet raw (k : Int)).2.length : Nat) : Int) = (slotsOf raw).getD (2 * k + 1) 0 := by
 have hl := ownOK_len hok
 have h1 := (slOK_of hB hok).one k hk
 rw [own_get hok k hk]
 by_cases h0 : (slotsOf raw).getD (2 * k) 0 = 0
 ·rw [if_pos h0]
  have : (slotsOf raw).getD (2 * k + 1) 0 = 0 := by omega
  rw [this]; rfl
 ·rw [if_neg h0]
  show (((stretch raw _ _).length : Nat) : Int) = _
  rw [stretch_length raw _ _ hl (by omega) (by omega) (by omega)]
  omega
theorem seal_two {bs : List Int} (hl : bs.length = 4096) (hB : IsB bs) : pageSeal bs = sealB bs ∧ IsB (sealB bs) ∧ (sealB bs).length = 4096 ∧ pageWhole (sealB bs) = true := by
 have h1 : (sealB bs).length = 4096 := by rw [sealB_length _ (by omega), hl]
 have h2 : (sealB bs).drop 4 = bs.drop 4 := by
  unfold sealB
  rw [List.drop_append, List.drop_of_length_le (by rw [lows_length]; decide), List.nil_append, lows_length]
  rfl
 refine ⟨by unfold pageSeal; rw [if_pos hl], ?_, h1, ?_⟩
 ·intro x hx
  unfold sealB at hx
  rcases List.mem_append.1 hx with h | h
  ·exact lows_isB _ _ x h
  ·exact hB x (List.mem_of_mem_drop h)
 ·have h3 : sealB (sealB bs) = sealB bs := by
   show lows (crcOn 0 ((sealB bs).drop 4)) 4 ++ (sealB bs).drop 4 = _
   rw [h2]
   rfl
  unfold pageWhole
  rw [h1, h3]
  simp
theorem new_own (n : Int) (h0 : 0 ≤ n) (h1 : n < 16) : ownOK (pageNew n) = true ∧ IsB (pageNew n) := by
 have e : pageNew n = sealB (newB n) := by unfold pageNew; rw [if_neg (by omega)]
 rw [e]
 obtain ⟨_, s2, s3, _⟩ := seal_two (newB_length n) (newB_isB n)
 refine ⟨?_, s2⟩
 have hz : ∀ j, (List.replicate 64 (0 : Int)).getD j 0 = 0 := fun j => by
  rw [List.getD_eq_getElem?_getD, List.getElem?_replicate]
  split <;> rfl
 have hsl : SlOK (List.replicate 64 (0 : Int)) := ⟨fun k _ => .inl ⟨hz _, hz _⟩, fun i j _ _ => by rw [hz, hz, hz, hz]; omega⟩
 have mk : ∀ S : List Int, S.length = 4 → EncOK S 0 n 4096 (List.replicate 64 0) (List.replicate 4096 0) := fun S hS => ⟨hS, List.length_replicate, List.length_replicate, by omega, by omega, by omega, fun x hx => by rw [List.eq_of_mem_replicate hx]; omega⟩
 have e1 := (mk (List.replicate 4 0) List.length_replicate).flat
 have hS : (lows (crcOn 0 ((newB n).drop 4)) 4).length = 4 := lows_length _ _
 have e2 := (mk _ hS).flat
 have e3 : sealB (newB n) = encB (lows (crcOn 0 ((newB n).drop 4)) 4) 0 n 4096 (List.replicate 64 0) (List.replicate 4096 0) := by
  have e4 := congrArg (List.drop 4) e1
  rw [newB_enc, List.drop_left' List.length_replicate] at e4
  rw [e2]
  show lows (crcOn 0 ((newB n).drop 4)) 4 ++ (newB n).drop 4 = _
  rw [e4]
 rw [e3]
 exact (mk _ hS).own' (by decide) (by omega) hsl (fun k _ h => absurd (hz _) h)
theorem numB_two {x : Int} (h0 : 0 ≤ x) (h1 : x ≤ 65535) : numB x 2 = lows x 2 := by
 unfold numB
 rw [if_neg]
 ·rfl
 ·rintro (h | h | h | h)
  ·omega
  ·omega
  ·omega
  ·apply h
   have e : (256 : Int) ^ (2 : Int).toNat = 65536 := by decide
   rw [e]
   omega
theorem put2_any (x : Int) (w : World) (h0 : 0 ≤ x) (h1 : x ≤ 65535) : Calls Tryz.prog 97 #[.int .i64 x, .int .i64 2] w fun e w' => ∃ a c, e = .returned (.slice a 2 c) ∧ Rd .u8 w' (.slice a 2 c) (lows x 2) ∧ Same w w' := by
 refine (specPut_any x 2 w ⟨by omega, by omega⟩ ⟨by omega, by omega⟩).mono ?_
 rintro e w' ⟨a, c, rfl, hf, ho, hk⟩
 rw [numB_two h0 h1, lows_length] at ho ⊢
 exact ⟨a, c, rfl, ho.rd, hk⟩
theorem l3Set_any (g cap : Nat) (xs : List Int) (s : Nat) (x y : Int) (w : World) (hl : xs.length = 4096) (hs : s < 32) (hx : 0 ≤ x ∧ x ≤ 65535) (hy : 0 ≤ y ∧ y ≤ 65535) (ho : Own 0 5 .u8 w (.slice (some ⟨g, 0, none⟩) 4096 cap) xs) :
  Calls Tryz.prog 87 #[.slice (some ⟨g, 0, none⟩) 4096 cap, .int .i64 (s : Int), .int .i64 x, .int .i64 y] w fun e w' => e = .returned (.tuple #[]) ∧ Own 0 5 .u8 w' (.slice (some ⟨g, 0, none⟩) 4096 cap) (layI (layI xs (20 + 4 * s) (lows x 2)) (20 + 4 * s + 2) (lows y 2)) ∧ Kept (fun b => b = g) w w' := by
 have HO := hid ho
 have HL := hid hl
 have k1 := fun wx => put2_any x wx hx.1 hx.2
 have k2 := fun wx => put2_any y wx hy.1 hy.2
 have hcap : 4096 ≤ cap := ho.caps.2
 obtain ⟨o1, ho1⟩ : ∃ o, 20 + 4 * s = o := ⟨_, rfl⟩
 obtain ⟨o2, ho2⟩ : ∃ o, 20 + 4 * s + 2 = o := ⟨_, rfl⟩
 rw [ho2, ho1]
 have q1 : IntKind.i64.wrap (4 * (s : Int)) = 4 * (s : Int) := by rw [IntKind.wrap_i64]; omega
 have q2 : IntKind.i64.wrap (20 + 4 * (s : Int)) = (o1 : Int) := by rw [IntKind.wrap_i64]; omega
 have q3 : IntKind.i64.wrap ((o1 : Int) + 2) = (o2 : Int) := by rw [IntKind.wrap_i64]; omega
 have b1 : o1 + 2 ≤ 4096 := by omega
 have b2 : o2 + 2 ≤ 4096 := by omega
 have g1 : (o1 : Int) ≤ 4096 := by omega
 have g2 : (o2 : Int) ≤ 4096 := by omega
 have g5 : (o1 : Int) ≤ (cap : Int) := by omega
 have g6 : (o2 : Int) ≤ (cap : Int) := by omega
 have n1 : ¬ cap = o1 := by omega
 have n2 : ¬ cap = o2 := by omega
 clear ho hl ho1 ho2
 go_enter Tryz.func87, Tryz.ntmps87
 go_wp2_with fail
 have hS : (fun _ : World => True) w.drew := by trivial
 refine wp_region_V (fun _ : World => True) 99 8 rfl (by kernel_rfl) ?_
 refine tk 0 8 hS ?_
 refine tk 1 9 hS ?_
 refine tk 2 10 hS ?_
 refine tk 3 11 hS ?_
 refine tkV 4 12 (.slice (some ⟨g, o1, none⟩) (4096 - o1) (cap - o1)) hS ?_
 refine tk 5 13 hS ?_
 refine wpAnyV_one (i := 6) (by kernel_rfl) rfl (fun K hK => ?_)
 go_simp
 refine (k1 _).mono ?_
 rintro e w1 ⟨a1, c1, rfl, hr1, hk1⟩
 have HK1 : Hid (Same w w1) := (Kept.refl _ _).drew.trans hk1
 have HO1 := hid (HO.out.same HK1.out)
 have hcp1 := run_copyOwn (P := Tryz.prog) 3 Tryz.underlying22 byte_one HO1.out HL.out.symm o1 (by rw [lows_length]; omega) hr1
 rw [show behind g cap o1 = some ⟨g, o1, none⟩ from if_neg n1, lows_length] at hcp1
 have HL1 := hid (HO1.out.laid HL.out.symm o1 (lows x 2) (by rw [lows_length]; omega))
 refine hK.out _ _ (fun _ => trivial) ?_
 clear hK K hk1 hr1
 try simp only [Act.put, sA, s0, sS]
 refine wpAnyV_one (i := 7) (by kernel_rfl) rfl (fun K hK => ?_)
 go_simp
 refine hK.out _ _ (fun _ => trivial) ?_
 clear hK K
 try simp only [Act.put, sA, s0, sS]
 refine wpAnyV_done (by kernel_rfl) ?_
 have HK2 := (show Hid (Kept (fun b => b = g) w (w1.setCells g o1 (vals .u8 (lows x 2)))) from Kept.setCells (R := fun b => b = g) (.inr rfl) _ _ (HK1.out.mono (fun _ _ e => e.elim)))
 have hl2 : (layI xs o1 (lows x 2)).length = 4096 := by rw [layI_length _ _ _ (by rw [lows_length, HL.out]; omega), HL.out]
 have HL2 := hid hl2
 clear hcp1 hl2
 generalize w1.setCells g o1 (vals .u8 (lows x 2)) = w2 at *
 go_wp2_with fail
 have hS : (fun _ : World => True) w2.drew := by trivial
 refine wp_region_V (fun _ : World => True) 99 9 rfl (by kernel_rfl) ?_
 refine tk 0 16 hS ?_
 refine tk 1 17 hS ?_
 refine tk 2 18 hS ?_
 refine tk 3 19 hS ?_
 refine tk 4 20 hS ?_
 refine tkV 5 21 (.slice (some ⟨g, o2, none⟩) (4096 - o2) (cap - o2)) hS ?_
 refine tk 6 22 hS ?_
 refine wpAnyV_one (i := 7) (by kernel_rfl) rfl (fun K hK => ?_)
 go_simp
 refine (k2 _).mono ?_
 rintro e w3 ⟨a3, c3, rfl, hr3, hk3⟩
 have HK3 : Hid (Same w2 w3) := (Kept.refl _ _).drew.trans hk3
 have HO3 := hid (HL1.out.same HK3.out)
 have hcp3 := run_copyOwn (P := Tryz.prog) 3 Tryz.underlying22 byte_one HO3.out HL2.out.symm o2 (by rw [lows_length]; omega) hr3
 rw [show behind g cap o2 = some ⟨g, o2, none⟩ from if_neg n2, lows_length] at hcp3
 have HL3 := hid (HO3.out.laid HL2.out.symm o2 (lows y 2) (by rw [lows_length]; omega))
 refine hK.out _ _ (fun _ => trivial) ?_
 clear hK K hk3 hr3
 try simp only [Act.put, sA, s0, sS]
 refine wpAnyV_one (i := 8) (by kernel_rfl) rfl (fun K hK => ?_)
 go_simp
 refine hK.out _ _ (fun _ => trivial) ?_
 clear hK K
 try simp only [Act.put, sA, s0, sS]
 refine wpAnyV_done (by kernel_rfl) ?_
 have HK4 := (show Hid (Kept (fun b => b = g) w (w3.setCells g o2 (vals .u8 (lows y 2)))) from Kept.setCells (R := fun b => b = g) (.inr rfl) _ _ (HK2.out.trans (HK3.out.mono (fun _ _ e => e.elim))))
 refine bodyPost_end (results_none Tryz.results87 _ _ _) rfl ?_
 exact ⟨rfl, HL3.out, HK4.out⟩
def zeroTo (raw : List Int) (i : Nat) : List Int := raw.take 148 ++ (List.replicate (i - 148) 0 ++ raw.drop i)
theorem zeroTo_length (raw : List Int) (i : Nat) (hl : raw.length = 4096) (h1 : 148 ≤ i) (h2 : i ≤ 4096) : (zeroTo raw i).length = 4096 := by simp [zeroTo, hl]; omega
theorem zeroTo_first (raw : List Int) : zeroTo raw 148 = raw := by simp [zeroTo]
theorem zeroTo_step (raw : List Int) (i : Nat) (hl : raw.length = 4096) (h1 : 148 ≤ i) (h2 : i < 4096) : (zeroTo raw i).set i 0 = zeroTo raw (i + 1) := by
 unfold zeroTo
 have hA : (raw.take 148 ++ List.replicate (i - 148) (0 : Int)).length = i := by simp [hl]; omega
 rw [← List.append_assoc, List.set_append_right (h := by rw [hA]; exact Nat.le_refl _), hA, Nat.sub_self, List.drop_eq_getElem_cons (by omega), List.set_cons_zero, show i + 1 - 148 = (i - 148) + 1 from by omega, List.replicate_succ', List.append_assoc, List.append_assoc]
 simp
theorem zeroTo_last {raw : List Int} (h : ownOK raw = true) : zeroTo raw 4096 = encB (raw.take 4) (numAt raw 4 8) (numAt raw 12 4) (numAt raw 16 2) (slotsOf raw) (List.replicate 4096 0) := by
 have hl := ownOK_len h
 have he := (own_enc h).1
 have h4 : (raw.take 4).length = 4 := by rw [List.length_take, hl]; rfl
 have h64 := slotsOf_length raw
 rw [encB_eq _ _ _ _ _ _ h4 h64] at he
 rw [encB_eq _ _ _ _ _ _ h4 h64]
 have ht : raw.take 148 = headB (raw.take 4) (numAt raw 4 8) (numAt raw 12 4) (numAt raw 16 2) ++ slotB (slotsOf raw) := by
  have hx : (headB (raw.take 4) (numAt raw 4 8) (numAt raw 12 4) (numAt raw 16 2) ++ slotB (slotsOf raw)).length = 148 := by rw [List.length_append, headB_length _ _ _ _ h4, slotB_length, h64]
  rw [← List.append_assoc] at he
  conv => lhs; rw [← he]
  rw [List.take_append_of_le_length (by omega), List.take_of_length_le (by omega)]
 unfold zeroTo
 rw [ht, List.drop_of_length_le (by omega), List.append_nil, List.drop_replicate, List.append_assoc]
theorem comp_step {raw sl : List Int} {sum : List Int} {lsn num bot : Int} (h : SlOK sl) (h1 : sum.length = 4) (h2 : sl.length = 64) (hl : raw.length = 4096) (k : Nat) (hk : k < 32) (h0 : ¬ sl.getD (2 * k) 0 = 0) :
  layI (layI (layI (encB sum lsn num bot (cSl sl k) (cBody raw sl k)) (cBot sl (k + 1)).toNat (stretch raw (sl.getD (2 * k) 0) (sl.getD (2 * k + 1) 0))) (20 + 4 * k) (lows (cBot sl (k + 1)) 2)) (20 + 4 * k + 2) (lows (sl.getD (2 * k + 1) 0) 2) = encB sum lsn num bot (cSl sl (k + 1)) (cBody raw sl (k + 1)) := by
 have hb := h.bot (k + 1) (by omega)
 have hb0 := h.bot k (by omega)
 have h3 := h.one k hk
 have hs := cBot_succ sl k
 have hst : (stretch raw (sl.getD (2 * k) 0) (sl.getD (2 * k + 1) 0)).length = (sl.getD (2 * k + 1) 0).toNat := stretch_length raw _ _ hl (by omega) (by omega) (by omega)
 have hc : (cSl sl k).length = 64 := by rw [cSl_length, h2]
 rw [encB_body h1 hc (h.body raw hl k (by omega)) _ _ (by omega) (by rw [hst]; omega)]
 rw [show 20 + 4 * k = 20 + 2 * (2 * k) from by omega, encB_slot h1 hc (2 * k) _ (by omega)]
 rw [show 20 + 2 * (2 * k) + 2 = 20 + 2 * (2 * k + 1) from by omega, encB_slot h1 (by rw [List.length_set]; exact hc) (2 * k + 1) _ (by omega)]
 have e1 : cBody raw sl (k + 1) = layI (cBody raw sl k) (cBot sl (k + 1)).toNat (stretch raw (sl.getD (2 * k) 0) (sl.getD (2 * k + 1) 0)) := by rw [cBody, if_neg h0]
 have e2 : cSl sl (k + 1) = (cSl sl k).set (2 * k) (cBot sl (k + 1)) := by rw [cSl, if_neg h0]
 rw [e1, e2]
 congr 1
 have hg := cSl_at sl k (2 * k + 1) (by omega)
 apply List.ext_getElem?
 intro j
 by_cases hj : j = 2 * k + 1
 ·subst hj
  rw [List.getElem?_set_self (by rw [List.length_set, hc]; omega), List.getElem?_set_ne (by omega)]
  rw [← hg, List.getD_eq_getElem?_getD, List.getElem?_eq_getElem (by rw [hc]; omega)]
  rfl
 ·rw [List.getElem?_set_ne (by omega)]
theorem specComp_any (v : Value) (raw : List Int) (w : World) (hB : IsB raw) (hn : raw.length ≤ 1099511627776) (hv : Rd .u8 w v raw) :
  Calls Tryz.prog 85 #[v] w fun e w' => ∃ a c, e = .returned (.slice a (pageCompact raw).length c) ∧ (∀ b, (Value.slice a (pageCompact raw).length c).ownBlock = some b → w.heap.size ≤ b) ∧ Own 0 5 .u8 w' (.slice a (pageCompact raw).length c) (pageCompact raw) ∧ Same w w' := by
 have HV := hid hv
 have HB := hid hB
 have HN := hid hn
 have kO := fun wx hv => l3Own_any v raw wx hB hn hv
 obtain ⟨av, cv, rfl⟩ := hv.form
 clear hv
 by_cases hok : ownOK raw = true
 case neg =>
  have hok' : ownOK raw = false := by simpa using hok
  rw [show pageCompact raw = [] from if_neg hok]
  rw [hok'] at kO
  clear hok hok'
  go_enter Tryz.func85, Tryz.ntmps85
  go_wp2_with fail
  refine (kO _ HV.out).mono ?_
  rintro e w1 ⟨rfl, hk1⟩
  have HK1 := hid hk1
  clear hk1
  go_wp2
  go_ret
  exact ⟨_, _, rfl, fun b hb => by have h : w1.heap.size = b := (by simpa [Value.ownBlock] using hb); have := HK1.out.size; omega, World.ownsRow_made w1 #[] 0 (Nat.zero_le _) (by simp) (by simp), HK1.out.alloc _⟩
 have hl := ownOK_len hok
 have HSl := hid (slOK_of hB hok)
 have HOK := hid hok
 have HL := hid hl
 have HZL := hid (zeroTo_last hok)
 have h4 : (raw.take 4).length = 4 := by rw [List.length_take, hl]; rfl
 have H4 := hid h4
 have H64 := hid (slotsOf_length raw)
 have hcb := (slOK_of hB hok).bot 32 (Nat.le_refl _)
 have HPC := hid (show pageCompact raw = layI (encB (raw.take 4) (numAt raw 4 8) (numAt raw 12 4) (numAt raw 16 2) (cSl (slotsOf raw) 32) (cBody raw (slotsOf raw) 32)) 16 (lows (cBot (slotsOf raw) 32) 2) from by rw [encB_bot h4 (by rw [cSl_length, slotsOf_length])]; exact if_pos hok)
 have hpl : (pageCompact raw).length = 4096 := by rw [show pageCompact raw = compB raw from if_pos hok]; exact compB_length hB hok
 rw [hpl]
 have HSM := hid (slotsOf_small raw hB hl)
 rw [hok] at kO
 have kG := fun s wx hv => specPageGet_any (.slice av raw.length cv) raw s wx hB hn hv
 have HGY : Hid (∀ k : Nat, k < 32 → ¬ (slotsOf raw).getD (2 * k) 0 = 0 → pageGet raw (k : Int) = (true, stretch raw ((slotsOf raw).getD (2 * k) 0) ((slotsOf raw).getD (2 * k + 1) 0))) := fun k hk h0 => pageGet_yes hok hk h0
 have HGN : Hid (∀ k : Nat, k < 32 → (slotsOf raw).getD (2 * k) 0 = 0 → pageGet raw (k : Int) = (false, [])) := fun k hk h0 => pageGet_no (.inr (.inr (.inr (by rw [Int.toNat_natCast]; exact h0))))
 obtain ⟨sl, hsl⟩ : ∃ sl, slotsOf raw = sl := ⟨_, rfl⟩
 rw [hsl] at HSl HZL H64 HPC HSM HGY HGN hcb
 obtain ⟨sum, hsum⟩ : ∃ sum, raw.take 4 = sum := ⟨_, rfl⟩
 rw [hsum] at HZL H4 HPC
 obtain ⟨lsn, hlsn⟩ : ∃ x, numAt raw 4 8 = x := ⟨_, rfl⟩
 obtain ⟨num, hnum⟩ : ∃ x, numAt raw 12 4 = x := ⟨_, rfl⟩
 obtain ⟨bot, hbot⟩ : ∃ x, numAt raw 16 2 = x := ⟨_, rfl⟩
 rw [hlsn, hnum, hbot] at HZL HPC
 rw [hl] at kO kG HV ⊢
 clear hok hl h4 hpl hsl hsum hlsn hnum hbot hB hn
 go_enter Tryz.func85, Tryz.ntmps85
 go_wp2_with fail
 refine (kO _ HV.out).mono ?_
 rintro e w1 ⟨rfl, hk1⟩
 have HK1 := hid hk1
 clear hk1 kO
 go_wp2_with fail
 refine (l1Copy_any _ raw _ HN.out (HV.out.same HK1.out)).mono ?_
 rintro e w2 ⟨a2, n2, c2, rfl, ho2, hf2, hk2⟩
 obtain ⟨g, e1, e2⟩ : ∃ g, a2 = some ⟨g, 0, none⟩ ∧ n2 = 4096 := by
  rcases ho2.form with ⟨_, h⟩ | ⟨g, cap, h, _⟩
  ·have := HL.out; rw [h] at this; simp at this
  ·cases h; exact ⟨g, rfl, HL.out⟩
 subst e1
 subst e2
 have HO2 := hid ho2
 have hg1 : w1.heap.size ≤ g := hf2 g rfl
 have HK2 := hid (HK1.out.trans hk2)
 have hz1 := HK1.out.size
 clear ho2 hf2 hk2
 go_wp2_with fail
 go_loopw [4] (fun i wr => ∃ (k : Nat), 148 ≤ k ∧ k ≤ 4096 ∧ i = .int .i64 (k : Int) ∧ Hid (Own 0 5 .u8 wr (.slice (some ⟨g, 0, none⟩) 4096 c2) (zeroTo raw k)) ∧ Hid (Same w wr)) (fun i _ => 4096 - (intOf i).toNat)
 case atStart => exact ⟨148, Nat.le_refl _, by omega, rfl, by rw [zeroTo_first]; exact HO2, HK2⟩
 case round =>
  obtain ⟨k, hk1, hk2, rfl, HO, HK⟩ := hrel
  by_cases hlt : k < 4096
  ·have hzl := zeroTo_length raw k HL.out hk1 hk2
   have u0 := HO.out.cell hzl.symm k hlt
   have uf := HO.out.frozen hzl.symm k
   have HST := hid (HO.out.stored hzl.symm k 0)
   rw [zeroTo_step raw k HL.out hk1 hlt] at HST
   generalize (zeroTo raw k).getD k 0 = uold at u0
   clear hzl
   go_wp2
   go_roundw
   case rel => exact ⟨k + 1, by omega, by omega, by go_num, HST, HK.out.setCell (.inl (by dsimp only; omega)) _⟩
   case measure => simp [intOf]; omega
  have hkk : k = 4096 := by omega
  rw [hkk, HZL.out] at HO
  have hnlt : ¬ (k : Int) < 4096 := by omega
  clear hkk hk1 hk2 hlt
  clear HO2 HK2
  go_wp2_with fail
  clear hnlt
  go_loopw [5, 6] (fun b i wx => ∃ (k : Nat), k ≤ 32 ∧ b = .int .i64 (cBot sl k) ∧ i = .int .i64 (k : Int) ∧ Hid (Own 0 5 .u8 wx (.slice (some ⟨g, 0, none⟩) 4096 c2) (encB sum lsn num bot (cSl sl k) (cBody raw sl k))) ∧ Hid (Same w wx)) (fun _ i _ => 32 - (intOf i).toNat)
  case atStart => exact ⟨0, Nat.zero_le _, rfl, rfl, HO, HK⟩
  case round =>
   clear HO HK
   obtain ⟨k, hk, rfl, rfl, HO, HK⟩ := hrel
   by_cases hlt : k < 32
   case pos =>
    have kG := fun wx hv => kG (k : Int) wx hv
    have h1 := HSl.out.one k hlt
    have hb0 := HSl.out.bot k hk
    have hb1 := HSl.out.bot (k + 1) (by omega)
    have hbs := cBot_succ sl k
    by_cases h0 : sl.getD (2 * k) 0 = 0
    ·rw [HGN.out k hlt h0] at kG
     have hlen0 : sl.getD (2 * k + 1) 0 = 0 := by omega
     have HSL := hid (show cSl sl (k + 1) = cSl sl k from by rw [cSl, if_pos h0])
     have HBD := hid (show cBody raw sl (k + 1) = cBody raw sl k from by rw [cBody, if_pos h0])
     have HBT := hid (show cBot sl (k + 1) = cBot sl k from by omega)
     clear h1 hbs hlen0 h0
     go_wp2_with fail
     refine (kG _ (HV.out.same HK.out)).mono ?_
     rintro e w4 ⟨⟨u, ⟨te, ta, tc, tb⟩⟩, rfl, hd, hf, ho, hk4⟩
     obtain ⟨rfl, rfl⟩ : u = false ∧ tb = [] := by simpa [StPageRecord.dat] using hd
     dsimp only [StPageRecord.val, BS.v]
     have HK4 := hid hk4
     clear hd hf ho hk4
     go_wp2
     go_roundw
     case rel => exact ⟨k + 1, by omega, by rw [HBT.out], by go_num, by rw [HSL.out, HBD.out]; exact HO.out.same (HK4.out.alloc _), (HK.out.trans HK4.out).alloc _⟩
     case measure => simp [intOf]; omega
    ·rw [HGY.out k hlt h0] at kG
     have HSTEP := hid (comp_step (raw := raw) (sum := sum) (lsn := lsn) (num := num) (bot := bot) HSl.out H4.out H64.out HL.out k hlt h0)
     have hstl : (stretch raw (sl.getD (2 * k) 0) (sl.getD (2 * k + 1) 0)).length = (sl.getD (2 * k + 1) 0).toNat := stretch_length raw _ _ HL.out (by omega) (by omega) (by omega)
     obtain ⟨yn, hyn⟩ : ∃ n : Nat, sl.getD (2 * k + 1) 0 = (n : Int) := ⟨(sl.getD (2 * k + 1) 0).toNat, by omega⟩
     obtain ⟨bn, hbn⟩ : ∃ n : Nat, cBot sl (k + 1) = (n : Int) := ⟨(cBot sl (k + 1)).toNat, by omega⟩
     have HBN := hid hbn
     rw [hyn] at HSTEP hstl kG hbs h1
     rw [hbn] at HSTEP hbs hb1
     rw [Int.toNat_natCast] at HSTEP hstl
     generalize stretch raw (sl.getD (2 * k) 0) (yn : Int) = st at *
     have hel : (encB sum lsn num bot (cSl sl k) (cBody raw sl k)).length = 4096 := encB_length H4.out (by rw [cSl_length, H64.out]) (HSl.out.body raw HL.out k hk)
     obtain ⟨E, hE⟩ : ∃ E, encB sum lsn num bot (cSl sl k) (cBody raw sl k) = E := ⟨_, rfl⟩
     rw [hE] at HO HSTEP hel
     obtain ⟨cb, hcb0⟩ : ∃ x, cBot sl k = x := ⟨_, rfl⟩
     rw [hcb0] at hbs hb0 ⊢
     have HEL := hid hel
     have HST := hid hstl
     have q1 : IntKind.i64.wrap (cb - (yn : Int)) = (bn : Int) := by rw [IntKind.wrap_i64]; omega
     have hbn2 : 148 ≤ bn ∧ bn + yn ≤ 4096 := by omega
     have hc2 : 4096 ≤ c2 := HO.out.caps.2
     have g1 : (bn : Int) ≤ (c2 : Int) := by omega
     have g2 : (bn : Int) ≤ 4096 := by omega
     obtain ⟨ab, hab⟩ : ∃ ab : Option Addr, (if c2 = bn then some (⟨g, 0, none⟩ : Addr) else some ⟨g, bn, none⟩) = ab := ⟨_, rfl⟩
     have HAB := (show Hid (behind g c2 bn = ab) from hab)
     clear h1 hbs hyn hbn hel hstl h0 hb0 hE hcb0
     go_wp2_with fail
     refine (kG _ (HV.out.same HK.out)).mono ?_
     rintro e w4 ⟨⟨u, ⟨te, ta, tc, tb⟩⟩, rfl, hd, hf, ho, hk4⟩
     obtain ⟨rfl, htb⟩ : u = true ∧ tb = st := by simpa [StPageRecord.dat] using hd
     have HR4 := (show Hid (Rd .u8 w4 (.slice ta tb.length tc) tb) from (OwnL.of_one ho).rd)
     dsimp only [StPageRecord.val, BS.v]
     rw [htb] at HR4 ⊢
     have HK4 := hid hk4
     have HF4 : Hid (g < wr.heap.size) := (HO.out.lt g rfl).2
     rw [HST.out] at HR4 ⊢
     clear hd hf ho hk4 kG htb
     have HB4 := hid (Blk.newL w4 [.bool true, .slice ta yn tc] 34)
     have hz4 := HK4.out.size
     go_wp2_with fail
     have HK5 := (show Hid (Same wr (w4.alloc (.cells #[.bool true, .slice ta yn tc] 34))) from HK4.out.alloc _)
     have HR5 := hid (HR4.out.same ((Kept.refl _ _).alloc (.cells #[.bool true, .slice ta yn tc] 34)))
     generalize w4.alloc (.cells #[.bool true, .slice ta yn tc] 34) = w5 at HB4 HK5 HR5 ⊢
     obtain ⟨m0, m1⟩ := HB4.out.all2
     have hS : (fun wx : World => wx.cell? ⟨w4.heap.size, 1, none⟩ = some (.slice ta yn tc)) w5.drew := m1
     refine wp_region_V (fun wx : World => wx.cell? ⟨w4.heap.size, 1, none⟩ = some (.slice ta yn tc)) 99 6 rfl (by kernel_rfl) ?_
     refine tk 0 36 hS ?_
     refine tk 1 37 hS ?_
     refine tkV 2 38 (.slice ab (4096 - bn) (c2 - bn)) hS ?_
     refine tk 3 39 hS ?_
     refine tk 4 40 hS ?_
     have HO5 := hid ((HO.out.same HK5.out).same (Kept.refl _ _).drew)
     have hcp := run_copyOwn (P := Tryz.prog) 3 Tryz.underlying22 byte_one HO5.out HEL.out.symm bn (by rw [HST.out]; omega) (HR5.out.same (Kept.refl _ _).drew)
     rw [HAB.out, HST.out] at hcp
     have HL5 := hid (HO5.out.laid HEL.out.symm bn st (by rw [HST.out]; omega))
     refine wpAnyV_one (i := 5) (by kernel_rfl) rfl (fun K hK => ?_)
     go_simp
     have HK6 := (show Hid (Kept (fun b => b = g) wr (w5.drew.setCells g bn (vals .u8 st))) from Kept.setCells (R := fun b => b = g) (.inr rfl) _ _ ((HK5.out.drew).mono (fun _ _ e => e.elim)))
     have hgw : ¬ w4.heap.size = g := by have := HF4.out; omega
     have hk56 : Kept (fun b => b = g) w5 (w5.drew.setCells g bn (vals .u8 st)) := Kept.setCells (R := fun b => b = g) (.inr rfl) _ _ (Kept.refl _ _).drew
     have HB6 := hid (HB4.out.kept hk56 hgw)
     refine hK.out _ _ (fun _ => HB6.out.cell 1) ?_
     clear hK K hcp hk56
     try simp only [Act.put, sA, s0, sS]
     refine wpAnyV_done (by kernel_rfl) ?_
     generalize w5.drew.setCells g bn (vals .u8 st) = w6 at HL5 HK6 HB6 ⊢
     clear m0 m1 hS
     obtain ⟨m0, m1⟩ := HB6.out.all2
     have hll : (layI E bn st).length = 4096 := by rw [layI_length _ _ _ (by rw [HST.out, HEL.out]; omega), HEL.out]
     go_wp2_with fail
     refine (l3Set_any g c2 (layI E bn st) k (bn : Int) (yn : Int) w6 hll hlt (by omega) (by omega) HL5.out).mono ?_
     rintro e w7 ⟨rfl, ho7, hk7⟩
     rw [HSTEP.out] at ho7
     have HO7 := hid ho7
     have HK7 := hid (HK6.out.trans hk7)
     clear ho7 hk7 hll
     go_wp2
     go_roundw
     case rel => exact ⟨k + 1, by omega, by rw [HBN.out], by go_num, HO7, HK.out.next HK7.out (fun i hi e => by omega)⟩
     case measure => simp [intOf]; omega
   obtain rfl : k = 32 := by omega
   obtain ⟨bn, hbn⟩ : ∃ n : Nat, cBot sl 32 = (n : Int) := ⟨(cBot sl 32).toNat, by omega⟩
   have hel : (encB sum lsn num bot (cSl sl 32) (cBody raw sl 32)).length = 4096 := encB_length H4.out (by rw [cSl_length, H64.out]) (HSl.out.body raw HL.out 32 hk)
   have HEL := hid hel
   have kP := fun wx => put2_any (cBot sl 32) wx (by omega) (by omega)
   have hc2 : 4096 ≤ c2 := HO.out.caps.2
   have n1 : ¬ c2 = 16 := by omega
   have g1 : (16 : Int) ≤ (c2 : Int) := by omega
   obtain ⟨cb, hcb0⟩ : ∃ x, cBot sl 32 = x := ⟨_, rfl⟩
   rw [hcb0] at kP ⊢ HPC
   obtain ⟨E, hE⟩ : ∃ E, encB sum lsn num bot (cSl sl 32) (cBody raw sl 32) = E := ⟨_, rfl⟩
   rw [hE] at HO HEL HPC
   clear hel hbn hcb hcb0 hE
   go_wp2_with fail
   have hS : (fun _ : World => True) wr.drew := by trivial
   refine wp_region_V (fun _ : World => True) 99 5 rfl (by kernel_rfl) ?_
   refine tk 0 49 hS ?_
   refine tkV 1 50 (.slice (some ⟨g, 16, none⟩) (4096 - 16) (c2 - 16)) hS ?_
   refine tk 2 51 hS ?_
   refine wpAnyV_one (i := 3) (by kernel_rfl) rfl (fun K hK => ?_)
   go_simp
   refine (kP _).mono ?_
   rintro e w3 ⟨a3, c3, rfl, hr3, hk3⟩
   have HK3 : Hid (Same wr w3) := (Kept.refl _ _).drew.trans hk3
   have HO3 := hid (HO.out.same HK3.out)
   have hcp3 := run_copyOwn (P := Tryz.prog) 3 Tryz.underlying22 byte_one HO3.out HEL.out.symm 16 (by rw [lows_length]; omega) hr3
   rw [show behind g c2 16 = some ⟨g, 16, none⟩ from if_neg n1, lows_length] at hcp3
   have HL3 := hid (HO3.out.laid HEL.out.symm 16 (lows cb 2) (by rw [lows_length]; omega))
   refine hK.out _ _ (fun _ => trivial) ?_
   clear hK K hk3 hr3
   try simp only [Act.put, sA, s0, sS]
   refine wpAnyV_one (i := 4) (by kernel_rfl) rfl (fun K hK => ?_)
   go_simp
   refine hK.out _ _ (fun _ => trivial) ?_
   clear hK K
   try simp only [Act.put, sA, s0, sS]
   refine wpAnyV_done (by kernel_rfl) ?_
   rw [← HPC.out] at HL3
   have HK4 := (show Hid (Same w (w3.setCells g 16 (vals .u8 (lows cb 2)))) from Kept.setCells (.inl (by omega)) _ _ (HK.out.trans HK3.out))
   clear hcp3
   go_wp2
   go_ret
   exact ⟨_, _, rfl, fun b hb => by have h : g = b := (by simpa [Value.ownBlock] using hb); omega, HL3.out, HK4.out⟩
end Go.Proofs.YtdbpaadndaoihaaGreatDoor
