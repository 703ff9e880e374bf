import Derived.Test.YtbiagmnkdihmiaaG07
import Derived.Test.YtbiagmnkdihmiaaG03
import Derived.Test.YtbiagmnkdihmiaaProg
import Derived.Test.YtbiagmnkdihmiaaG00
import Derived.Test.YtbiagmnkdihmiaaG04
import Derived.Test.YtbiagmnkdihmiaaG02
import Derived.Test.YtbiagmnkdihmiaaG06
import Derived.Test.YtbiagmnkdihmiaaG01
import Derived.WalkLawsBesides
import Derived.Deep.QuietTactic
import Derived.BigQuiet
import Derived.Deep.LoopGhost
namespace Go.Proofs.Ytbiagmnkdihmiaa
open Go.RowKit
set_option linter.unusedVariables false
set_option linter.unusedSimpArgs false
theorem set2_at {sl : List Int} (hl : sl.length = 64) (s k : Nat) (hs : s < 32) (a b : Int) :
    (((sl.set (2 * s) a).set (2 * s + 1) b).getD (2 * k) 0 = if k = s then a else sl.getD (2 * k) 0) ∧ (((sl.set (2 * s) a).set (2 * s + 1) b).getD (2 * k + 1) 0 = if k = s then b else sl.getD (2 * k + 1) 0) := by
  simp only [List.getD_eq_getElem?_getD]
  by_cases e : k = s
  · subst e
    rw [if_pos rfl, if_pos rfl, List.getElem?_set_ne (by omega), List.getElem?_set_self (by omega), List.getElem?_set_self (by rw [List.length_set]; omega)]
    exact ⟨rfl, rfl⟩
  · rw [if_neg e, if_neg e, List.getElem?_set_ne (by omega), List.getElem?_set_ne (by omega), List.getElem?_set_ne (by omega), List.getElem?_set_ne (by omega)]
    exact ⟨rfl, rfl⟩
theorem cSl_two (sl : List Int) (hl : sl.length = 64) : ∀ n, n ≤ 32 → ∀ k, ((cSl sl n).getD (2 * k) 0 = if k < n ∧ ¬ sl.getD (2 * k) 0 = 0 then cBot sl (k + 1) else sl.getD (2 * k) 0) ∧ (cSl sl n).getD (2 * k + 1) 0 = sl.getD (2 * k + 1) 0
  | 0, _, k => ⟨by rw [if_neg (by omega)]; rfl, rfl⟩
  | n + 1, hn, k => by
    obtain ⟨h1, h2⟩ := cSl_two sl hl n (by omega) k
    rw [cSl]
    by_cases h0 : sl.getD (2 * n) 0 = 0
    · rw [if_pos h0, h1, h2]
      refine ⟨?_, rfl⟩
      by_cases e : k = n
      · subst e; rw [if_neg (by omega), if_neg (fun h => h.2 h0)]
      · by_cases hx : k < n ∧ ¬ sl.getD (2 * k) 0 = 0
        · rw [if_pos hx, if_pos ⟨by omega, hx.2⟩]
        · rw [if_neg hx, if_neg (fun h => hx ⟨by omega, h.2⟩)]
    · rw [if_neg h0]
      have hc : (cSl sl n).length = 64 := by rw [cSl_length, hl]
      refine ⟨?_, ?_⟩
      · by_cases e : k = n
        · subst e
          rw [if_pos ⟨by omega, h0⟩, List.getD_eq_getElem?_getD, List.getElem?_set_self (by omega)]
          rfl
        · rw [List.getD_eq_getElem?_getD, List.getElem?_set_ne (by omega), ← List.getD_eq_getElem?_getD, h1]
          by_cases hx : k < n ∧ ¬ sl.getD (2 * k) 0 = 0
          · rw [if_pos hx, if_pos ⟨by omega, hx.2⟩]
          · rw [if_neg hx, if_neg (fun h => hx ⟨by omega, h.2⟩)]
      · rw [List.getD_eq_getElem?_getD, List.getElem?_set_ne (by omega), ← List.getD_eq_getElem?_getD, h2]
theorem SlOK.botMono {sl : List Int} (h : SlOK sl) : ∀ (n m : Nat), m + n ≤ 32 → cBot sl (m + n) ≤ cBot sl m
  | 0, m, _ => Int.le_refl _
  | n + 1, m, hm => by
    have h1 := h.botMono n m (by omega)
    have h2 := cBot_succ sl (m + n)
    have h3 := h.one (m + n) (by omega)
    rw [show m + (n + 1) = m + n + 1 from by omega]
    omega
def From (bot : Int) (sl : List Int) : Prop := ∀ k, k < 32 → ¬ sl.getD (2 * k) 0 = 0 → bot ≤ sl.getD (2 * k) 0
theorem SlOK.comp {sl : List Int} (h : SlOK sl) (hl : sl.length = 64) : SlOK (cSl sl 32) ∧ From (cBot sl 32) (cSl sl 32) := by
  have at0 := fun k => cSl_two sl hl 32 (Nat.le_refl _) k
  have mono := fun a b (hab : a ≤ b) (hb : b ≤ 32) => (by have := h.botMono (b - a) a (by omega); rw [show a + (b - a) = b from by omega] at this; exact this : cBot sl b ≤ cBot sl a)
  refine ⟨⟨fun k hk => ?_, fun i j hi hj => ?_⟩, fun k hk h0 => ?_⟩
  · obtain ⟨e1, e2⟩ := at0 k
    rw [e1, e2]
    have h1 := h.one k hk
    have hb := h.bot (k + 1) (by omega)
    have hb0 := h.bot k (by omega)
    have hs := cBot_succ sl k
    by_cases h0 : sl.getD (2 * k) 0 = 0
    · rw [if_neg (fun x => x.2 h0)]; exact h1
    · rw [if_pos ⟨hk, h0⟩]; omega
  · obtain ⟨e1, e2⟩ := at0 i
    obtain ⟨e3, e4⟩ := at0 j
    rw [e1, e2, e3, e4]
    have h1 := h.one i hi
    have h2 := h.one j (by omega)
    have s1 := cBot_succ sl i
    have s2 := cBot_succ sl j
    have m1 := mono (j + 1) i hj (by omega)
    have b1 := h.bot (i + 1) (by omega)
    have b2 := h.bot (j + 1) (by omega)
    by_cases h0 : sl.getD (2 * i) 0 = 0
    · rw [if_neg (fun x => x.2 h0)]
      by_cases h3 : sl.getD (2 * j) 0 = 0
      · rw [if_neg (fun x => x.2 h3)]; omega
      · rw [if_pos ⟨by omega, h3⟩]; omega
    · rw [if_pos ⟨hi, h0⟩]
      by_cases h3 : sl.getD (2 * j) 0 = 0
      · rw [if_neg (fun x => x.2 h3)]; omega
      · rw [if_pos ⟨by omega, h3⟩]; omega
  · rw [(at0 k).1] at h0 ⊢
    by_cases h3 : sl.getD (2 * k) 0 = 0
    · rw [if_neg (fun x => x.2 h3)] at h0; exact absurd h3 h0
    · rw [if_pos ⟨hk, h3⟩]; exact mono (k + 1) 32 (by omega) (Nat.le_refl _)
theorem SlOK.put {sl : List Int} (h : SlOK sl) (hl : sl.length = 64) {bt : Int} (hf : From bt sl) (s : Nat) (hs : s < 32) (n : Nat) (hb : 148 ≤ bt - n) (hbt : bt ≤ 4096) (hn : n ≤ 1000) :
    SlOK ((sl.set (2 * s) (bt - n)).set (2 * s + 1) (n : Int)) ∧ From (bt - n) ((sl.set (2 * s) (bt - n)).set (2 * s + 1) (n : Int)) := by
  have at0 := fun k => set2_at hl s k hs (bt - n) (n : Int)
  have far := fun k (hk : k < 32) => (by have h1 := h.one k hk; have h2 := hf k hk; omega : (sl.getD (2 * k) 0 = 0 ∧ sl.getD (2 * k + 1) 0 = 0) ∨ (bt ≤ sl.getD (2 * k) 0 ∧ 0 ≤ sl.getD (2 * k + 1) 0))
  refine ⟨⟨fun k hk => ?_, fun i j hi hj => ?_⟩, fun k hk h0 => ?_⟩
  · rw [(at0 k).1, (at0 k).2]
    by_cases e : k = s
    · rw [if_pos e, if_pos e]; omega
    · rw [if_neg e, if_neg e]; exact h.one k hk
  · rw [(at0 i).1, (at0 i).2, (at0 j).1, (at0 j).2]
    have f1 := far i hi
    have f2 := far j (by omega)
    by_cases e : i = s
    · rw [if_pos e, if_pos e, if_neg (by omega), if_neg (by omega)]; omega
    · rw [if_neg e, if_neg e]
      by_cases e2 : j = s
      · rw [if_pos e2, if_pos e2]; omega
      · rw [if_neg e2, if_neg e2]; exact h.two i j hi hj
  · rw [(at0 k).1] at h0 ⊢
    by_cases e : k = s
    · rw [if_pos e]; omega
    · rw [if_neg e] at h0 ⊢
      have := hf k hk h0
      omega
theorem SlOK.all {sl : List Int} (h : SlOK sl) (hl : sl.length = 64) : ∀ x ∈ sl, 0 ≤ x ∧ x ≤ 65535 := by
  intro x hx
  obtain ⟨j, hj, rfl⟩ := List.mem_iff_getElem.1 hx
  have e : sl[j] = sl.getD j 0 := by simp [hj]
  rw [e]
  rcases Nat.mod_two_eq_zero_or_one j with h2 | h2
  · obtain ⟨k, rfl⟩ : ∃ k, j = 2 * k := ⟨j / 2, by omega⟩
    have := h.one k (by omega)
    omega
  · obtain ⟨k, rfl⟩ : ∃ k, j = 2 * k + 1 := ⟨j / 2, by omega⟩
    have := h.one k (by omega)
    omega
theorem EncOK.own' {sum : List Int} {lsn num bot : Int} {sl raw : List Int} (h : EncOK sum lsn num bot sl raw) (hL : isLSN lsn = true) (hb : 148 ≤ bot ∧ bot ≤ 4096) (hs : SlOK sl) (hf : From bot sl) : ownOK (encB sum lsn num bot sl raw) = true := by
  refine h.own hL hb (SlOK.astray0 (fun k hk => ?_)) hs.share0
  have h1 := hs.one k hk
  have h2 := hf k hk
  unfold astrayAt
  by_cases h0 : sl.getD (2 * k) 0 = 0
  · have : sl.getD (2 * k + 1) 0 = 0 := by omega
    rw [h0, this]; simp
  · have h3 := h2 h0
    have g1 : ¬ 1000 < sl.getD (2 * k + 1) 0 := by omega
    have g2 : ¬ sl.getD (2 * k) 0 < bot := by omega
    have g3 : ¬ 4096 < sl.getD (2 * k) 0 + sl.getD (2 * k + 1) 0 := by omega
    have g4 : (sl.getD (2 * k) 0 == 0) = false := by simpa using h0
    rw [decide_eq_false g1, decide_eq_false g2, decide_eq_false g3, g4]
    simp
theorem from_own {raw : List Int} (hB : IsB raw) (hok : ownOK raw = true) : From (numAt raw 16 2) (slotsOf raw) := by
  intro k hk h0
  obtain ⟨_, _, p3, _⟩ := ownOK_parts hok
  unfold astray at p3
  rw [List.any_eq_false] at p3
  have h1 := p3 k (List.mem_range.2 hk)
  apply Classical.byContradiction
  intro hn
  apply h1
  unfold astrayAt
  have g : ((slotsOf raw).getD (2 * k) 0 != 0) = true := by simpa using h0
  have g2 : decide ((slotsOf raw).getD (2 * k) 0 < numAt raw 16 2) = true := decide_eq_true (by omega)
  rw [g, g2]
  simp
theorem From.zero {bot : Int} {sl : List Int} (h : From bot sl) (s : Nat) : From bot (sl0 sl s) := by
  intro k hk h0
  rw [(sl0_two sl s k).1] at h0 ⊢
  by_cases e : k = s
  · rw [if_pos e] at h0; exact absurd rfl h0
  · rw [if_neg e] at h0 ⊢; exact h k hk h0
theorem isB_lay {a d : List Int} (ha : IsB a) (hd : IsB d) (o : Nat) : IsB (layI a o d) := by
  intro x hx
  unfold layI at hx
  rcases List.mem_append.1 hx with h | h
  · exact ha x (List.mem_of_mem_take h)
  · rcases List.mem_append.1 h with h | h
    · exact hd x h
    · exact ha x (List.mem_of_mem_drop h)
theorem isB_cBody {raw : List Int} (h : IsB raw) (sl : List Int) : ∀ k, IsB (cBody raw sl k)
  | 0 => fun x hx => by rw [cBody] at hx; rw [List.eq_of_mem_replicate hx]; omega
  | k + 1 => by
    rw [cBody]
    split
    · exact isB_cBody h sl k
    · exact isB_lay (isB_cBody h sl k) (isB_take (isB_drop h _) _) _
theorem encB_behind {sum : List Int} {lsn num bot : Int} {sl r r' : List Int} (h1 : sum.length = 4) (h2 : sl.length = 64) (e : r.drop 148 = r'.drop 148) : encB sum lsn num bot sl r = encB sum lsn num bot sl r' := by
  rw [encB_eq _ _ _ _ _ _ h1 h2, encB_eq _ _ _ _ _ _ h1 h2, e]
theorem setB_ok {E : List Int} (hB : IsB E) (hok : ownOK E = true) (k : Nat) (hk : k < 32) (u : Bool) (d : List Int) (hdB : IsB d) (lsn : Int) (hL : isLSN lsn = true) (hd : d.length ≤ 1000) (hroom : 148 ≤ cBot (sl0 (slotsOf E) k) 32 - d.length) :
    ∃ b sl r, setB E k u d lsn = encB (E.take 4) lsn (numAt E 12 4) b sl r ∧ EncOK (E.take 4) lsn (numAt E 12 4) b sl r ∧ ownOK (setB E k u d lsn) = true ∧ IsB (setB E k u d lsn) ∧
      (∀ wx P lsn0 rr, rr.drop 148 = E.drop 148 → rr.length = 4096 → SetR wx P (E.take 4) lsn0 (numAt E 12 4) (numAt E 16 2) (slotsOf E) rr k u d → ∃ r', r'.drop 148 = r.drop 148 ∧ SP wx P (E.take 4) lsn0 (numAt E 12 4) b sl r') := by
  have hl := ownOK_len hok
  obtain ⟨p1, p2, _, _⟩ := ownOK_parts hok
  have n12 := numAt_in E hB 12 4 (by decide) (by decide) (by omega)
  have hsl := (slOK_of hB hok).zero k
  have hz : (sl0 (slotsOf E) k).length = 64 := by rw [sl0_length, slotsOf_length]
  have h4 : (E.take 4).length = 4 := by rw [List.length_take, hl]; rfl
  have hE4 : IsB (E.take 4) := isB_take hB 4
  have hfr := (from_own hB hok).zero k
  have fin : ∀ b sl r, (148 ≤ b ∧ b ≤ 4096) → SlOK sl → From b sl → sl.length = 64 → r.length = 4096 → IsB r → EncOK (E.take 4) lsn (numAt E 12 4) b sl r ∧ ownOK (encB (E.take 4) lsn (numAt E 12 4) b sl r) = true ∧ IsB (encB (E.take 4) lsn (numAt E 12 4) b sl r) := by
    intro b sl r hb h1 h2 h3 h5 h6
    have hE : EncOK (E.take 4) lsn (numAt E 12 4) b sl r := ⟨h4, h3, h5, isLSN_spec hL, by omega, by omega, h1.all h3⟩
    exact ⟨hE, hE.own' hL hb h1 h2, isB_enc h4 h3 hE4 h6⟩
  have lay148 : ∀ (a d : List Int) (o : Nat), 148 ≤ o → o + d.length ≤ a.length → ∀ a' : List Int, a'.length = a.length → a'.drop 148 = a.drop 148 → (layI a' o d).drop 148 = (layI a o d).drop 148 := by
    intro a d o h1 h2 a' h3 h5
    rw [layI_drop _ _ _ _ h1 h2, layI_drop _ _ _ _ h1 (by omega), h5]
  cases u with
  | false =>
    obtain ⟨f1, f2, f3⟩ := fin (numAt E 16 2) (sl0 (slotsOf E) k) E ⟨p1, p2⟩ hsl hfr hz hl hB
    exact ⟨_, _, _, rfl, f1, f2, f3, fun wx P l rr e el h => ⟨rr, e, h⟩⟩
  | true =>
    by_cases hc : numAt E 16 2 - 148 < d.length
    · have hbb := hsl.bot 32 (Nat.le_refl _)
      obtain ⟨c1, c2⟩ := hsl.comp hz
      have hcz : (cSl (sl0 (slotsOf E) k) 32).length = 64 := by rw [cSl_length, hz]
      obtain ⟨q1, q2⟩ := c1.put hcz c2 k hk d.length hroom hbb.2 hd
      have hbl := hsl.body E hl 32 (Nat.le_refl _)
      obtain ⟨f1, f2, f3⟩ := fin (cBot (sl0 (slotsOf E) k) 32 - d.length) _ (layI (cBody E (sl0 (slotsOf E) k) 32) (cBot (sl0 (slotsOf E) k) 32 - d.length).toNat d) ⟨hroom, by omega⟩ q1 q2 (by rw [List.length_set, List.length_set, hcz]) (by rw [layI_length _ _ _ (by omega), hbl]) (isB_lay (isB_cBody hB _ _) hdB _)
      have e0 : setB E k true d lsn = encB (E.take 4) lsn (numAt E 12 4) (cBot (sl0 (slotsOf E) k) 32 - d.length) (((cSl (sl0 (slotsOf E) k) 32).set (2 * k) (cBot (sl0 (slotsOf E) k) 32 - d.length)).set (2 * k + 1) d.length) (layI (cBody E (sl0 (slotsOf E) k) 32) (cBot (sl0 (slotsOf E) k) 32 - d.length).toNat d) := by
        unfold setB setPut
        rw [if_neg (by simp), if_pos hc]
      rw [e0]
      refine ⟨_, _, _, rfl, f1, f2, f3, fun wx P l rr e el h => ?_⟩
      unfold SetR at h
      rw [if_neg (by simp), if_pos hc, cBody_eq hsl rr E e 32 (Nat.le_refl _)] at h
      exact ⟨_, rfl, h⟩
    · obtain ⟨q1, q2⟩ := hsl.put hz hfr k hk d.length (by omega) p2 hd
      obtain ⟨f1, f2, f3⟩ := fin (numAt E 16 2 - d.length) _ (layI E (numAt E 16 2 - d.length).toNat d) ⟨by omega, by omega⟩ q1 q2 (by rw [List.length_set, List.length_set, hz]) (by rw [layI_length _ _ _ (by omega), hl]) (isB_lay hB hdB _)
      have e0 : setB E k true d lsn = encB (E.take 4) lsn (numAt E 12 4) (numAt E 16 2 - d.length) (((sl0 (slotsOf E) k).set (2 * k) (numAt E 16 2 - d.length)).set (2 * k + 1) d.length) (layI E (numAt E 16 2 - d.length).toNat d) := by
        unfold setB setPut
        rw [if_neg (by simp), if_neg hc]
      rw [e0]
      refine ⟨_, _, _, rfl, f1, f2, f3, fun wx P l rr e el h => ?_⟩
      unfold SetR at h
      rw [if_neg (by simp), if_neg hc] at h
      exact ⟨_, lay148 E d _ (by omega) (by omega) rr (by omega) e, h⟩
def PgAt (w : World) (P : Nat) (E : List Int) : Prop := ∃ r : List Int, r.drop 148 = E.drop 148 ∧ SP w P (E.take 4) (numAt E 4 8) (numAt E 12 4) (numAt E 16 2) (slotsOf E) r
theorem PgAt.same {w w' : World} {P : Nat} {E : List Int} (h : PgAt w P E) (hk : Same w w') : PgAt w' P E := h.imp fun r x => ⟨x.1, x.2.same hk⟩
theorem PgAt.of {w : World} {P : Nat} {sum : List Int} {lsn num b : Int} {sl r r' : List Int} (hE : EncOK sum lsn num b sl r) (e : r'.drop 148 = r.drop 148) (h : SP w P sum lsn num b sl r') : PgAt w P (encB sum lsn num b sl r) := by
  obtain ⟨d1, d2, d3⟩ := hE.dec
  refine ⟨r', by rw [hE.behind, e], ?_⟩
  rw [hE.sum4, d1, d2, d3, hE.slots]
  exact h
theorem PgAt.enc {w : World} {P : Nat} {E : List Int} (h : PgAt w P E) (hok : ownOK E = true) : ∃ r, SP w P (E.take 4) (numAt E 4 8) (numAt E 12 4) (numAt E 16 2) (slotsOf E) r ∧ encB (E.take 4) (numAt E 4 8) (numAt E 12 4) (numAt E 16 2) (slotsOf E) r = E := by
  obtain ⟨r, e, h⟩ := h
  exact ⟨r, h, by rw [encB_behind h.l1 h.l2 e]; exact (own_enc hok).1⟩
end Go.Proofs.Ytbiagmnkdihmiaa

namespace Go.Proofs.Ytbiagmnkdihmiaa
set_option maxRecDepth 100000
set_option maxHeartbeats 8000000
open Go.RowKit
set_option linter.unusedVariables false
set_option linter.unusedSimpArgs false
def newB (n : Int) : List Int := List.replicate 12 0 ++ lows n 4 ++ lows 4096 2 ++ List.replicate 4078 0
theorem newB_length (n : Int) : (newB n).length = 4096 := by
  unfold newB
  rw [List.length_append, List.length_append, List.length_append, lows_length, lows_length, List.length_replicate, List.length_replicate]
theorem newB_isB (n : Int) : IsB (newB n) := by
  intro y hy
  simp only [newB, List.mem_append] at hy
  rcases hy with ((h | h) | h) | h
  · have := List.eq_of_mem_replicate h; omega
  · exact lows_isB n 4 y h
  · exact lows_isB 4096 2 y h
  · have := List.eq_of_mem_replicate h; omega
theorem newB_enc (n : Int) : encB (List.replicate 4 0) 0 n 4096 (List.replicate 64 0) (List.replicate 4096 0) = newB n := by
  have e1 : slotB (List.replicate 64 0) = List.replicate 128 0 := by decide +kernel
  have e2 : lows 0 8 = List.replicate 8 0 := by decide
  have e3 : lows 0 2 = List.replicate 2 0 := by decide
  unfold encB headB newB cont
  rw [e1, e2, e3]
  have e4 : ((List.replicate 4 (0 : Int) ++ List.replicate 8 0 ++ lows n 4 ++ lows 4096 2 ++ List.replicate 2 0 ++ List.replicate 128 0).length) = 148 := by simp [lows_length]
  rw [e4, List.drop_replicate]
  simp only [List.append_assoc, List.replicate_append_replicate]
def pageNew (n : Int) : List Int := if n < 0 ∨ 16 ≤ n then [] else sealB (newB n)
theorem cont_zeros (k n : Nat) (h : k ≤ n) : cont (List.replicate k 0) (List.replicate n 0) = List.replicate n 0 := by
  unfold cont
  rw [List.length_replicate, List.drop_replicate, List.replicate_append_replicate]
  congr 1
  omega
theorem newB_cont (n : Int) : cont (List.replicate 12 0 ++ lows n 4 ++ lows 4096 2) (List.replicate 4096 0) = newB n := by
  unfold cont newB
  have e : (List.replicate 12 (0 : Int) ++ lows n 4 ++ lows 4096 2).length = 18 := by simp [lows_length]
  rw [e, List.drop_replicate]
theorem numB_small (x n : Int) (hn : 1 ≤ n) (hn8 : n ≤ 8) (h0 : 0 ≤ x) (h1 : x / 256 ^ n.toNat = 0) : numB x n = lows x n.toNat := by
  unfold numB
  rw [if_neg (by omega)]
theorem own_cells {base g n c : Nat} {e : TypeId} {w : World} {bs : List Int} (h : Own base e .u8 w (.slice (some ⟨g, 0, none⟩) n c) bs) (hn : n = bs.length) (j : Nat) (u : Value) (hu : (vals .u8 bs)[j]? = some u) : w.cell? ((⟨g, 0, none⟩ : Addr).add j) = some u := by
  have hj : j < bs.length := by have := (List.getElem?_eq_some_iff.1 hu).1; rwa [vals_length] at this
  rw [addr_add, Nat.zero_add, h.cell hn j (by omega), ← hu, vals_at _ _ _ hj]
theorem own_some {base n c : Nat} {a : Option Addr} {e : TypeId} {w : World} {bs : List Int} (h : Own base e .u8 w (.slice a n c) bs) (hn : 0 < bs.length) : ∃ g, a = some ⟨g, 0, none⟩ := by
  rcases h.form with ⟨_, h0⟩ | ⟨g, cap, e, _⟩
  · rw [h0] at hn
    simp at hn
  · cases e
    exact ⟨g, rfl⟩
theorem specNew_yes (n : Int) (w : World) (h0 : 0 ≤ n) (h1 : n < 16) :
    Calls Try.prog 72 #[.int .i64 n] w fun e w' => ∃ a c, e = .returned (.slice a (pageNew n).length c) ∧ (∀ b, (Value.slice a (pageNew n).length c).ownBlock = some b → w.heap.size ≤ b) ∧
      Own 0 5 .u8 w' (.slice a (pageNew n).length c) (pageNew n) ∧ Same w w' := by
  have hR : pageNew n = pageSeal (newB n) := by unfold pageNew pageSeal; rw [if_neg (by omega), if_pos (newB_length n)]
  rw [hR]
  clear hR
  obtain ⟨i0, hi, hz0, hz1, hz2⟩ := info_parts Try.infoByte'
  have HN1 := (show Hid (numB n 4 = lows n 4) from numB_small n 4 (by decide) (by decide) h0 (by rw [show (256 : Int) ^ (4 : Int).toNat = 4294967296 from rfl]; omega))
  have HN2 := (show Hid (numB 4096 2 = lows 4096 2) from (by decide : numB 4096 2 = lows 4096 2))
  go_enter Try.func72, Try.ntmps72
  go_wp2_with (at_make; refine wpList_make_full _ rfl _ _ 22 rfl 0 5 i0 (.int .u8 0) 1 Try.underlying22 hi hz0 hz1 .i64 .i64 _ _ 4096 rfl rfl (by first | rfl | simp) (by first | rfl | simp) (by rw [hz2]; decide) (by decide) (Nat.zero_le _) ?_; intro w1 hown1 hgrow1; have HB1 := (show Hid (Blk w1 w.heap.size 5 (vals .u8 (cont (List.replicate 12 0) (List.replicate 4096 0)))) from (by rw [cont_zeros 12 4096 (by decide)]; exact Own.blk (own_made (by simpa using hown1)))); have HK1 := (show Hid (Same w w1) from Kept.of_grown hgrow1 (fun k e => by cases e)); clear hown1 hgrow1)
  have hw1 := HB1.out.lt
  have hS : (fun _ : World => True) w1.drew := by trivial
  refine wp_region_V (fun _ : World => True) 99 5 rfl (by kernel_rfl) ?_
  refine tk 0 12 hS ?_
  refine tk 1 13 hS ?_
  refine tk 2 14 hS ?_
  refine wpAnyV_one (i := 3) (by kernel_rfl) rfl (fun K hK => ?_)
  go_simp
  have hc := specPut_any n 4 w1.drew ⟨by omega, by omega⟩ ⟨by decide, by decide⟩
  with_reducible refine hc.mono ?_
  clear hc
  rintro e w2 ⟨a2, c2, rfl, hf2, ho2, hk2⟩
  rw [HN1.out, lows_length] at hf2 ho2 ⊢
  obtain ⟨g2, rfl⟩ := own_some ho2 (by rw [lows_length]; decide)
  have hg2 := hf2 g2 rfl
  have HO2 := (show Hid (Own 0 5 .u8 w2 (.slice (some ⟨g2, 0, none⟩) 4 c2) (lows n 4)) from ho2)
  have hk2' : Same w1 w2 := (Kept.refl _ _).drew.trans hk2
  have HB2 := hid (HB1.out.same hk2')
  have HK2 := (show Hid (Same w w2) from HK1.out.trans hk2')
  clear hf2 ho2 hk2 hk2'
  refine hK.out _ _ (fun _ => trivial) ?_
  clear hK K
  try simp only [Act.put, sA, s0, sS]
  refine wpAnyV_one (i := 4) (by kernel_rfl) rfl (fun K hK => ?_)
  refine step_copy_blk (by rfl) _ _ 22 (by rfl) Try.underlying22 byte_size (vals .u8 (lows n 4)) HB2.out (by rfl) (by rfl) (by rw [vals_length, lows_length]; decide) (own_cells HO2.out (by rw [lows_length])) (by rw [vals_length, vals_length, lows_length, cont_length _ _ (by rw [List.length_replicate, List.length_replicate]; decide), List.length_replicate]; decide) vals_one ?_
  have hb3 := Blk.more 12 (lows n 4) (HB2.out.setCells (vals .u8 (lows n 4)) 12 (by rw [vals_length, vals_length, lows_length, cont_length _ _ (by rw [List.length_replicate, List.length_replicate]; decide), List.length_replicate]; decide)) (by rw [List.length_replicate]) (by rw [List.length_replicate, List.length_replicate, lows_length]; decide)
  have hk3 := Kept.setCells (R := fun _ => False) (a := w) (B := w.heap.size) (.inl (Nat.le_refl _)) (vals .u8 (lows n 4)) 12 HK2.out
  obtain ⟨w3, hw3⟩ : ∃ w3, w2.setCells w.heap.size 12 (vals .u8 (lows n 4)) = w3 := ⟨_, rfl⟩
  rw [hw3] at hb3 hk3 ⊢
  have HB3 := (show Hid (Blk w3 w.heap.size 5 (vals .u8 (cont (List.replicate 12 0 ++ lows n 4) (List.replicate 4096 0)))) from hb3)
  have HK3 := (show Hid (Same w w3) from hk3)
  clear hw3 hb3 hk3 HB2 HK2 HB1 HK1 HO2
  show K (Act.put _ (some 16) (goInt (vals .u8 (lows n 4)).length)) _
  refine hK.out _ _ (fun _ => trivial) ?_
  clear hK K hS
  refine wpAnyV_done (by kernel_rfl) ?_
  try simp only [Act.put, sA, s0, sS]
  go_wp2_with fail
  have hS : (fun _ : World => True) w3.drew := by trivial
  refine wp_region_V (fun _ : World => True) 99 4 rfl (by kernel_rfl) ?_
  refine tk 0 17 hS ?_
  refine tk 1 18 hS ?_
  refine wpAnyV_one (i := 2) (by kernel_rfl) rfl (fun K hK => ?_)
  go_simp
  have hc := specPut_any 4096 2 w3.drew ⟨by decide, by decide⟩ ⟨by decide, by decide⟩
  with_reducible refine hc.mono ?_
  clear hc
  rintro e w4 ⟨a4, c4, rfl, hf4, ho4, hk4⟩
  rw [HN2.out, lows_length] at hf4 ho4 ⊢
  obtain ⟨g4, rfl⟩ := own_some ho4 (by rw [lows_length]; decide)
  have HO4 := (show Hid (Own 0 5 .u8 w4 (.slice (some ⟨g4, 0, none⟩) 2 c4) (lows 4096 2)) from ho4)
  have hk4' : Same w3 w4 := (Kept.refl _ _).drew.trans hk4
  have HB4 := hid (HB3.out.same hk4')
  have HK4 := (show Hid (Same w w4) from HK3.out.trans hk4')
  clear hf4 ho4 hk4 hk4'
  refine hK.out _ _ (fun _ => trivial) ?_
  clear hK K
  try simp only [Act.put, sA, s0, sS]
  refine wpAnyV_one (i := 3) (by kernel_rfl) rfl (fun K hK => ?_)
  have hl16 : (List.replicate 12 (0 : Int) ++ lows n 4).length = 16 := by rw [List.length_append, List.length_replicate, lows_length]
  have hcl : (cont (List.replicate 12 0 ++ lows n 4) (List.replicate 4096 0)).length = 4096 := by rw [cont_length _ _ (by rw [hl16, List.length_replicate]; decide), List.length_replicate]
  refine step_copy_blk (by rfl) _ _ 22 (by rfl) Try.underlying22 byte_size (vals .u8 (lows 4096 2)) HB4.out (by rfl) (by rfl) (by rw [vals_length, lows_length]; decide) (own_cells HO4.out (by rw [lows_length])) (by rw [vals_length, vals_length, lows_length, hcl]; decide) vals_one ?_
  have hb5 := Blk.more 16 (lows 4096 2) (HB4.out.setCells (vals .u8 (lows 4096 2)) 16 (by rw [vals_length, vals_length, lows_length, hcl]; decide)) hl16.symm (by rw [hl16, List.length_replicate, lows_length]; decide)
  rw [newB_cont] at hb5
  have hk5 := Kept.setCells (R := fun _ => False) (a := w) (B := w.heap.size) (.inl (Nat.le_refl _)) (vals .u8 (lows 4096 2)) 16 HK4.out
  obtain ⟨w5, hw5⟩ : ∃ w5, w4.setCells w.heap.size 16 (vals .u8 (lows 4096 2)) = w5 := ⟨_, rfl⟩
  rw [hw5] at hb5 hk5 ⊢
  have hO5 := Blk.own hb5 (by rw [newB_length]; decide)
  rw [newB_length] at hO5
  have HK5 := (show Hid (Same w w5) from hk5)
  have hSe := specSeal_any (.slice (some ⟨w.heap.size, 0, none⟩) 4096 4096) (newB n) w5 (newB_isB n) (by rw [newB_length]; decide) hO5.rd
  clear hw5 hb5 hk5 HB4 HK4 HO4 HB3 HK3 hO5
  show K (Act.put _ (some 20) (goInt (vals .u8 (lows 4096 2)).length)) _
  refine hK.out _ _ (fun _ => trivial) ?_
  clear hK K hS
  refine wpAnyV_done (by kernel_rfl) ?_
  try simp only [Act.put, sA, s0, sS]
  go_wp2_with fail
  with_reducible refine hSe.mono ?_
  rintro e w6 ⟨a6, c6, rfl, hf6, ho6, hk6⟩
  have hz5 := HK5.out.size
  go_wp2
  go_ret
  exact ⟨a6, c6, rfl, fun b hb => Nat.le_trans hz5 (hf6 b hb), ho6, HK5.out.trans hk6⟩
theorem specNew_any (n : Int) (w : World) :
    Calls Try.prog 72 #[.int .i64 n] w fun e w' => ∃ a c, e = .returned (.slice a (pageNew n).length c) ∧ (∀ b, (Value.slice a (pageNew n).length c).ownBlock = some b → w.heap.size ≤ b) ∧
      Own 0 5 .u8 w' (.slice a (pageNew n).length c) (pageNew n) ∧ Same w w' := by
  by_cases h : n < 0 ∨ 16 ≤ n
  · have hR : pageNew n = [] := by unfold pageNew; rw [if_pos h]
    rw [hR]
    rcases h with h | h <;>
    ( go_enter Try.func72, Try.ntmps72
      go_wp2
      go_ret
      exact ⟨some ⟨w.heap.size, 0, none⟩, 0, rfl, fun b hb => by simp [Value.ownBlock] at hb; omega, Own.empty _ _, (Kept.refl _ _).alloc _⟩)
  · exact specNew_yes n w (by omega) (by omega)
end Go.Proofs.Ytbiagmnkdihmiaa

namespace Go.Proofs.Ytbiagmnkdihmiaa
set_option maxRecDepth 100000
set_option maxHeartbeats 4000000
open Go.RowKit
set_option linter.unusedVariables false
set_option linter.unusedSimpArgs false
theorem implWhole_any (v : Value) (bs : List Int) (w : World) (hB : IsB bs) (hn : bs.length ≤ 1099511627776) (hv : Rd .u8 w v bs) :
    Calls Try.prog 28 #[v] w fun e w' => e = .returned (.bool (pageWhole bs)) ∧ Same w w' := by
  obtain ⟨a, c, rfl⟩ := hv.form
  by_cases hl : bs.length = 4096
  · have hR : pageWhole bs = (sealB bs == bs) := by unfold pageWhole; rw [hl]; rfl
    have hsl : (sealB bs).length = 4096 := by rw [sealB_length _ (by omega), hl]
    obtain ⟨b, off, rfl, hc⟩ := rd_some hv (by omega)
    have hrg := rd_range hv (by omega)
    have hcl := vals_length .u8 bs
    have hI : (Try.prog.info? 50).map (·.size) = some (vals .u8 bs).length := by rw [hcl, hl]; exact page_info
    have hSd := sealed_any bs w.drew hB hl
    have heq := fun w => run_eql_pages w (sealB bs) bs hsl hl
    obtain ⟨cs, hcs⟩ : ∃ cs : List Value, vals .u8 bs = cs := ⟨_, rfl⟩
    obtain ⟨ds, hds⟩ : ∃ ds : Array Value, (vals .u8 (sealB bs)).toArray = ds := ⟨_, rfl⟩
    rw [hcs] at hSd hrg hI heq
    rw [hds] at hSd heq
    rw [hR, hl]
    obtain ⟨r, hr⟩ : ∃ r, (sealB bs == bs) = r := ⟨_, rfl⟩
    rw [hr] at heq ⊢
    have harr := run_arrayP
    clear hcs hds hcl hv hB hn hR hsl hr hl
    go_enter Try.func28, Try.ntmps28
    go_wp2_with fail
    have hS : (fun wx : World => wx.rangeAt b off cs) w.drew := by exact Kept.ranges (Kept.refl _ _).drew hrg
    refine wp_region_V (fun wx : World => wx.rangeAt b off cs) 99 14 rfl (by kernel_rfl) ?_
    refine tk 0 3 hS ?_
    refine tk 1 4 hS ?_
    refine tk 2 5 hS ?_
    refine tk 3 6 hS ?_
    refine tk 4 7 hS ?_
    refine tk 5 8 hS ?_
    refine wpAnyV_take (i := 6) (v := .agg cs.toArray) (some 9) rfl rfl (by kernel_rfl) (by kernel_rfl) (by kernel_rfl) (by kernel_rfl) (fun _ _ _ h => h) (yieldsIf_load_mid (by rfl) 50 _ rfl b off rfl cs _ (fun _ h => h) Try.underlying50 rfl hI) hS ?_
    try simp only [Act.put, sA, s0, sS]
    refine tk 8 11 hS ?_
    refine tk 9 12 hS ?_
    refine wpAnyV_take (i := 10) (v := .agg cs.toArray) (some 13) rfl rfl (by kernel_rfl) (by kernel_rfl) (by kernel_rfl) (by kernel_rfl) (fun _ _ _ h => h) (yieldsIf_load_mid (by rfl) 50 _ rfl b off rfl cs _ (fun _ h => h) Try.underlying50 rfl hI) hS ?_
    try simp only [Act.put, sA, s0, sS]
    refine wpAnyV_one (i := 7) (by kernel_rfl) rfl (fun K hK => ?_)
    go_simp
    with_reducible refine hSd.mono ?_
    rintro e w2 ⟨rfl, hkk⟩
    have hk2 : Same w w2 := (Kept.refl _ _).drew.trans hkk
    have hS2 : (fun wx : World => wx.rangeAt b off cs) w2 := Kept.ranges hk2 hrg
    refine hK.out _ _ (fun _ => hS2) ?_
    clear hK K
    try simp only [Act.put, sA, s0, sS]
    refine tk 11 14 hS2 ?_
    refine tk 12 15 hS2 ?_
    refine tk 13 2 hS2 ?_
    refine wpAnyV_done (by kernel_rfl) ?_
    go_wp2
    go_ret
    exact ⟨rfl, hk2⟩
  · have hR : pageWhole bs = false := by unfold pageWhole; simp [hl]
    rw [hR]
    have hl' : ¬ (bs.length : Int) = 4096 := by omega
    clear hv hB
    go_enter Try.func28, Try.ntmps28
    go_wp2
    go_quiet (fail)
    go_wp2
    go_ret
    exact ⟨rfl, (Kept.refl _ _).drewN _⟩
end Go.Proofs.Ytbiagmnkdihmiaa

namespace Go.Proofs.Ytbiagmnkdihmiaa
open Go.RowKit
set_option linter.unusedVariables false
set_option linter.unusedSimpArgs false
theorem layI_get (xs ys : List Int) (o : Nat) (h : o + ys.length ≤ xs.length) (i : Nat) : (layI xs o ys)[i]? = if i < o then xs[i]? else if i < o + ys.length then ys[i - o]? else xs[i]? := by
  unfold layI
  rw [List.getElem?_append, List.length_take, Nat.min_eq_left (by omega)]
  by_cases h1 : i < o
  · rw [if_pos h1, if_pos h1, List.getElem?_take, if_pos h1]
  · rw [if_neg h1, if_neg h1, List.getElem?_append]
    by_cases h2 : i < o + ys.length
    · rw [if_pos (by omega), if_pos h2]
    · rw [if_neg (by omega), if_neg h2, List.getElem?_drop]
      congr 1
      omega
theorem stretch_get (raw : List Int) (x y : Int) (i : Nat) : (stretch raw x y)[i]? = if i < y.toNat then raw[x.toNat + i]? else none := by
  unfold stretch
  rw [List.getElem?_take]
  split
  · rw [List.getElem?_drop]
  · rfl
theorem stretch_off (body d : List Int) (o : Nat) (x y : Int) (h : o + d.length ≤ body.length) (hd : x.toNat + y.toNat ≤ o ∨ o + d.length ≤ x.toNat) : stretch (layI body o d) x y = stretch body x y := by
  apply List.ext_getElem?
  intro i
  rw [stretch_get, stretch_get]
  by_cases hi : i < y.toNat
  · rw [if_pos hi, if_pos hi, layI_get _ _ _ h]
    rcases hd with hd | hd
    · rw [if_pos (by omega)]
    · rw [if_neg (by omega), if_neg (by omega)]
  · rw [if_neg hi, if_neg hi]
theorem stretch_on (body d : List Int) (o : Nat) (x y : Int) (h : o + d.length ≤ body.length) (hx : x.toNat = o) (hy : y.toNat = d.length) : stretch (layI body o d) x y = d := by
  apply List.ext_getElem?
  intro i
  rw [stretch_get, hy, hx]
  by_cases hi : i < d.length
  · rw [if_pos hi, layI_get _ _ _ h, if_neg (by omega), if_pos (by omega)]
    congr 1
    omega
  · rw [if_neg hi, List.getElem?_eq_none (by omega)]
theorem stretch_behind {r r' : List Int} (e : r.drop 148 = r'.drop 148) {x : Int} (hx : 148 ≤ x) (y : Int) : stretch r x y = stretch r' x y := by
  unfold stretch
  obtain ⟨m, hm⟩ : ∃ m, x.toNat = 148 + m := ⟨x.toNat - 148, by omega⟩
  rw [hm, ← List.drop_drop, ← List.drop_drop, e]
theorem cBody_get {sl : List Int} (h : SlOK sl) (raw : List Int) (hl : raw.length = 4096) : ∀ m, m ≤ 32 → ∀ k, k < m → ¬ sl.getD (2 * k) 0 = 0 → stretch (cBody raw sl m) (cBot sl (k + 1)) (sl.getD (2 * k + 1) 0) = stretch raw (sl.getD (2 * k) 0) (sl.getD (2 * k + 1) 0)
  | 0, _, k, hk, _ => absurd hk (by omega)
  | m + 1, hm, k, hk, h0 => by
    have hb := h.body raw hl m (by omega)
    have hm1 := h.bot (m + 1) hm
    have hm0 := h.bot m (by omega)
    have hs := cBot_succ sl m
    rw [cBody]
    by_cases hz : sl.getD (2 * m) 0 = 0
    · rw [if_pos hz]
      by_cases e : k = m
      · subst e; exact absurd hz h0
      · exact cBody_get h raw hl m (by omega) k (by omega) h0
    · rw [if_neg hz]
      have h1 := h.one m (by omega)
      have hsl := stretch_length raw (sl.getD (2 * m) 0) (sl.getD (2 * m + 1) 0) hl (by omega) (by omega) (by omega)
      by_cases e : k = m
      · subst e
        exact stretch_on _ _ _ _ _ (by rw [hsl, hb]; omega) rfl hsl.symm
      · have hmono := h.botMono (m - (k + 1)) (k + 1) (by omega)
        rw [show k + 1 + (m - (k + 1)) = m from by omega] at hmono
        rw [stretch_off _ _ _ _ _ (by rw [hsl, hb]; omega) (.inr (by rw [hsl]; omega))]
        exact cBody_get h raw hl m (by omega) k (by omega) h0
theorem usedN_congr {a b : List Int} (h : ∀ k, k < 32 → a.getD (2 * k + 1) 0 = b.getD (2 * k + 1) 0) : ∀ n, n ≤ 32 → usedN a n = usedN b n
  | 0, _ => rfl
  | n + 1, hn => by rw [usedN, usedN, usedN_congr h n (by omega), h n (by omega)]
theorem usedN_set2 {sl : List Int} (hl : sl.length = 64) (s : Nat) (hs : s < 32) (a b : Int) : ∀ n, n ≤ 32 → usedN ((sl.set (2 * s) a).set (2 * s + 1) b) n = usedN sl n + (if s < n then b - sl.getD (2 * s + 1) 0 else 0)
  | 0, _ => by simp [usedN]
  | n + 1, hn => by
    rw [usedN, usedN, usedN_set2 hl s hs a b n (by omega), (set2_at hl s n hs a b).2]
    by_cases e : n = s
    · subst e
      rw [if_pos rfl, if_neg (by omega), if_pos (by omega)]
      omega
    · rw [if_neg e]
      by_cases h : s < n
      · rw [if_pos h, if_pos (by omega)]; omega
      · rw [if_neg h, if_neg (by omega)]; omega
section
variable {sum : List Int} {lsn num bot : Int} {sl raw : List Int}
theorem EncOK.get (h : EncOK sum lsn num bot sl raw) (hok : ownOK (encB sum lsn num bot sl raw) = true) (hs : SlOK sl) (k : Nat) (hk : k < 32) :
    pageGet (encB sum lsn num bot sl raw) (k : Int) = if sl.getD (2 * k) 0 = 0 then (false, []) else (true, stretch raw (sl.getD (2 * k) 0) (sl.getD (2 * k + 1) 0)) := by
  by_cases h0 : sl.getD (2 * k) 0 = 0
  · rw [if_pos h0]
    exact pageGet_no (.inr (.inr (.inr (by rw [h.slots]; exact h0))))
  · rw [if_neg h0, pageGet_yes hok hk (by rw [h.slots]; exact h0), h.slots]
    have := hs.one k hk
    rw [stretch_behind h.behind (by omega)]
theorem pageFault_of {E : List Int} (hok : ownOK E = true) {n : Int} (hn : numAt E 12 4 = n) : pageFault E n = 0 := by
  subst hn
  unfold ownOK at hok
  simp at hok
  exact hok.2
end
structure Made (raw C : List Int) (lsn used : Int) (gt : Nat → Bool × List Int) : Prop where
  isB : IsB C
  len : C.length = 4096
  own : ownOK C = true
  fault : pageFault C (numAt raw 12 4) = 0
  lsn : pageLSN C = lsn
  used : pageUsed C = used
  get : ∀ k : Nat, k < 32 → pageGet C (k : Int) = gt k
theorem own_get {raw : List Int} (hok : ownOK raw = true) (k : Nat) (hk : k < 32) : pageGet raw (k : Int) = if (slotsOf raw).getD (2 * k) 0 = 0 then (false, []) else (true, stretch raw ((slotsOf raw).getD (2 * k) 0) ((slotsOf raw).getD (2 * k + 1) 0)) := by
  by_cases h0 : (slotsOf raw).getD (2 * k) 0 = 0
  · rw [if_pos h0]; exact pageGet_no (.inr (.inr (.inr h0)))
  · rw [if_neg h0]; exact pageGet_yes hok hk h0
theorem comp_made {raw : List Int} (hB : IsB raw) (hok : ownOK raw = true) : Made raw (compB raw) (pageLSN raw) (pageUsed raw) (fun k => pageGet raw (k : Int)) ∧ numAt (compB raw) 16 2 = 4096 - pageUsed raw := by
  have hl := ownOK_len hok
  have n12 := numAt_in raw hB 12 4 (by decide) (by decide) (by omega)
  have hsl := slOK_of hB hok
  have hz : (slotsOf raw).length = 64 := slotsOf_length raw
  have h4 : (raw.take 4).length = 4 := by rw [List.length_take, hl]; rfl
  have hE4 : IsB (raw.take 4) := isB_take hB 4
  have hL := (own_enc hok).2
  have hbb := hsl.bot 32 (Nat.le_refl _)
  obtain ⟨c1, c2⟩ := hsl.comp hz
  have hcz : (cSl (slotsOf raw) 32).length = 64 := by rw [cSl_length, hz]
  have hbl := hsl.body raw hl 32 (Nat.le_refl _)
  have hE : EncOK (raw.take 4) (numAt raw 4 8) (numAt raw 12 4) (cBot (slotsOf raw) 32) (cSl (slotsOf raw) 32) (cBody raw (slotsOf raw) 32) := ⟨h4, hcz, hbl, isLSN_spec hL, by omega, by omega, c1.all hcz⟩
  have hown : ownOK (compB raw) = true := hE.own' hL hbb c1 c2
  obtain ⟨d1, d2, d3⟩ := hE.dec
  have at0 := fun k => cSl_two (slotsOf raw) hz 32 (Nat.le_refl _) k
  refine ⟨⟨isB_enc h4 hcz hE4 (isB_cBody hB _ _), hE.len, hown, pageFault_of hown d2, ?_, ?_, fun k hk => ?_⟩, ?_⟩
  · unfold pageLSN
    rw [if_pos hown, if_pos hok]
    exact d1
  · unfold pageUsed
    rw [if_pos hown, if_pos hok, show slotsOf (compB raw) = cSl (slotsOf raw) 32 from hE.slots]
    exact usedN_congr (fun k _ => (at0 k).2) 32 (Nat.le_refl _)
  · rw [show pageGet (compB raw) (k : Int) = _ from hE.get hown c1 k hk, own_get hok k hk]
    have q1 := (at0 k).1
    have q2 := (at0 k).2
    by_cases h0 : (slotsOf raw).getD (2 * k) 0 = 0
    · rw [if_neg (fun x => x.2 h0)] at q1
      rw [q1, if_pos h0, if_pos h0]
    · have hb1 := hsl.bot (k + 1) (by omega)
      rw [if_pos ⟨hk, h0⟩] at q1
      rw [q1, q2, if_neg (by omega), if_neg h0, cBody_get hsl raw hl 32 (Nat.le_refl _) k hk h0]
  · rw [show numAt (compB raw) 16 2 = _ from d3]
    unfold pageUsed cBot
    rw [if_pos hok]
theorem set_made {raw : List Int} (hB : IsB raw) (hok : ownOK raw = true) (s : Nat) (hs : s < 32) (u : Bool) (d : List Int) (hdB : IsB d) (lsn : Int) (hL : isLSN lsn = true) (hd : d.length ≤ 1000) (hu : u = false → d = []) (hroom : ¬ setFull raw s d) :
    Made raw (setB raw s u d lsn) lsn (usedN (slotsOf raw) 32 - (slotsOf raw).getD (2 * s + 1) 0 + d.length) (fun k => if k = s then (u, d) else pageGet raw (k : Int)) := by
  have hl := ownOK_len hok
  obtain ⟨p1, p2, _, _⟩ := ownOK_parts hok
  have n12 := numAt_in raw hB 12 4 (by decide) (by decide) (by omega)
  have hsl := (slOK_of hB hok).zero s
  have hz : (sl0 (slotsOf raw) s).length = 64 := by rw [sl0_length, slotsOf_length]
  have h4 : (raw.take 4).length = 4 := by rw [List.length_take, hl]; rfl
  have hE4 : IsB (raw.take 4) := isB_take hB 4
  have hfr := (from_own hB hok).zero s
  have hus := usedN_zero (slotsOf raw) s 32
  rw [if_pos hs] at hus
  have hz0 := fun k => sl0_two (slotsOf raw) s k
  unfold setFull at hroom
  have hroom2 : 148 ≤ cBot (sl0 (slotsOf raw) s) 32 - d.length := by unfold cBot; omega
  have fin : ∀ b sl r, (148 ≤ b ∧ b ≤ 4096) → SlOK sl → From b sl → sl.length = 64 → r.length = 4096 → IsB r → usedN sl 32 = usedN (slotsOf raw) 32 - (slotsOf raw).getD (2 * s + 1) 0 + d.length →
      (∀ k, k < 32 → (if sl.getD (2 * k) 0 = 0 then ((false, []) : Bool × List Int) else (true, stretch r (sl.getD (2 * k) 0) (sl.getD (2 * k + 1) 0))) = if k = s then (u, d) else pageGet raw (k : Int)) →
      Made raw (encB (raw.take 4) lsn (numAt raw 12 4) b sl r) lsn (usedN (slotsOf raw) 32 - (slotsOf raw).getD (2 * s + 1) 0 + d.length) (fun k => if k = s then (u, d) else pageGet raw (k : Int)) := by
    intro b sl r hb h1 h2 h3 h5 h6 h7 h8
    have hE : EncOK (raw.take 4) lsn (numAt raw 12 4) b sl r := ⟨h4, h3, h5, isLSN_spec hL, by omega, by omega, h1.all h3⟩
    have hown := hE.own' hL hb h1 h2
    obtain ⟨d1, d2, d3⟩ := hE.dec
    refine ⟨isB_enc h4 h3 hE4 h6, hE.len, hown, pageFault_of hown d2, ?_, ?_, fun k hk => ?_⟩
    · unfold pageLSN
      rw [if_pos hown]
      exact d1
    · unfold pageUsed
      rw [if_pos hown, hE.slots]
      exact h7
    · rw [hE.get hown h1 k hk]
      exact h8 k hk
  cases u with
  | false =>
    have hd0 := hu rfl
    subst hd0
    refine fin (numAt raw 16 2) (sl0 (slotsOf raw) s) raw ⟨p1, p2⟩ hsl hfr hz hl hB (by rw [hus]; simp) (fun k hk => ?_)
    by_cases e : k = s
    · have q1 := (hz0 k).1
      rw [if_pos e] at q1
      rw [q1, if_pos rfl, if_pos e]
    · have q1 := (hz0 k).1
      have q2 := (hz0 k).2
      rw [if_neg e] at q1 q2
      rw [q1, q2, if_neg e, own_get hok k hk]
  | true =>
    have hgen : ∀ (bt : Int) (sl r : List Int), sl.length = 64 → r.length = 4096 → IsB r → SlOK sl → From bt sl → (148 ≤ bt - d.length ∧ bt ≤ 4096) → usedN sl 32 = usedN (slotsOf raw) 32 - (slotsOf raw).getD (2 * s + 1) 0 → sl.getD (2 * s + 1) 0 = 0 →
        (∀ k, k < 32 → ¬ k = s → (if sl.getD (2 * k) 0 = 0 then ((false, []) : Bool × List Int) else (true, stretch r (sl.getD (2 * k) 0) (sl.getD (2 * k + 1) 0))) = pageGet raw (k : Int)) →
        Made raw (setPut (raw.take 4) lsn (numAt raw 12 4) bt sl r s d) lsn (usedN (slotsOf raw) 32 - (slotsOf raw).getD (2 * s + 1) 0 + d.length) (fun k => if k = s then (true, d) else pageGet raw (k : Int)) := by
      intro bt sl r h1 h2 h2B h3 h5 h6 h7 h8 h9
      obtain ⟨q1, q2⟩ := h3.put h1 h5 s hs d.length h6.1 h6.2 hd
      refine fin _ _ _ ⟨h6.1, by omega⟩ q1 q2 (by rw [List.length_set, List.length_set, h1]) (by rw [layI_length _ _ _ (by omega), h2]) (isB_lay h2B hdB _) ?_ (fun k hk => ?_)
      · rw [usedN_set2 h1 s hs _ _ 32 (Nat.le_refl _), if_pos hs, h7, h8]
        omega
      · rw [(set2_at h1 s k hs _ _).1, (set2_at h1 s k hs _ _).2]
        by_cases e : k = s
        · rw [if_pos e, if_pos e, if_pos e, if_neg (by omega), stretch_on _ _ _ _ _ (by omega) rfl (by omega)]
        · rw [if_neg e, if_neg e, if_neg e, ← h9 k hk e]
          by_cases h0 : sl.getD (2 * k) 0 = 0
          · rw [if_pos h0, if_pos h0]
          · have hf := h5 k hk h0
            have ho := h3.one k hk
            rw [if_neg h0, if_neg h0, stretch_off _ _ _ _ _ (by omega) (.inr (by omega))]
    by_cases hc : numAt raw 16 2 - 148 < d.length
    · have hbb := hsl.bot 32 (Nat.le_refl _)
      obtain ⟨c1, c2⟩ := hsl.comp hz
      have hcz : (cSl (sl0 (slotsOf raw) s) 32).length = 64 := by rw [cSl_length, hz]
      have at0 := fun k => cSl_two (sl0 (slotsOf raw) s) hz 32 (Nat.le_refl _) k
      have hbl := hsl.body raw hl 32 (Nat.le_refl _)
      have e0 : setB raw s true d lsn = setPut (raw.take 4) lsn (numAt raw 12 4) (cBot (sl0 (slotsOf raw) s) 32) (cSl (sl0 (slotsOf raw) s) 32) (cBody raw (sl0 (slotsOf raw) s) 32) s d := by
        unfold setB
        rw [if_neg (by simp), if_pos hc]
      rw [e0]
      refine hgen _ _ _ hcz hbl (isB_cBody hB _ _) c1 c2 ⟨hroom2, hbb.2⟩ ?_ ?_ (fun k hk e => ?_)
      · rw [usedN_congr (b := sl0 (slotsOf raw) s) (fun k _ => (at0 k).2) 32 (Nat.le_refl _), hus]
      · rw [(at0 s).2, (hz0 s).2, if_pos rfl]
      · rw [own_get hok k hk]
        have q1 := (at0 k).1
        have q2 := (at0 k).2
        have z1 := (hz0 k).1
        have z2 := (hz0 k).2
        rw [if_neg e] at z1 z2
        by_cases h0 : (slotsOf raw).getD (2 * k) 0 = 0
        · have h0' : (sl0 (slotsOf raw) s).getD (2 * k) 0 = 0 := by rw [z1]; exact h0
          rw [if_neg (fun x => x.2 h0')] at q1
          rw [q1, if_pos h0', if_pos h0]
        · have h0' : ¬ (sl0 (slotsOf raw) s).getD (2 * k) 0 = 0 := by rw [z1]; exact h0
          have hb1 := hsl.bot (k + 1) (by omega)
          rw [if_pos ⟨hk, h0'⟩] at q1
          rw [q1, q2, if_neg (by omega), if_neg h0, cBody_get hsl raw hl 32 (Nat.le_refl _) k hk h0', z1, z2]
    · have e0 : setB raw s true d lsn = setPut (raw.take 4) lsn (numAt raw 12 4) (numAt raw 16 2) (sl0 (slotsOf raw) s) raw s d := by
        unfold setB
        rw [if_neg (by simp), if_neg hc]
      rw [e0]
      refine hgen _ _ _ hz hl hB hsl hfr ⟨by omega, p2⟩ hus (by rw [(hz0 s).2, if_pos rfl]) (fun k hk e => ?_)
      rw [own_get hok k hk, (hz0 k).1, (hz0 k).2, if_neg e, if_neg e]
theorem get_length {raw : List Int} (hB : IsB raw) (hok : ownOK raw = true) (k : Nat) (hk : k < 32) : (((pageGet raw (k : Int)).2.length : Nat) : Int) = (slotsOf raw).getD (2 * k + 1) 0 := by
  have hl := ownOK_len hok
  have h1 := (slOK_of hB hok).one k hk
  rw [own_get hok k hk]
  by_cases h0 : (slotsOf raw).getD (2 * k) 0 = 0
  · rw [if_pos h0]
    have : (slotsOf raw).getD (2 * k + 1) 0 = 0 := by omega
    rw [this]; rfl
  · rw [if_neg h0]
    show (((stretch raw _ _).length : Nat) : Int) = _
    rw [stretch_length raw _ _ hl (by omega) (by omega) (by omega)]
    omega
theorem seal_two {bs : List Int} (hl : bs.length = 4096) (hB : IsB bs) : pageSeal bs = sealB bs ∧ IsB (sealB bs) ∧ (sealB bs).length = 4096 ∧ pageWhole (sealB bs) = true := by
  have h1 : (sealB bs).length = 4096 := by rw [sealB_length _ (by omega), hl]
  have h2 : (sealB bs).drop 4 = bs.drop 4 := by
    unfold sealB
    rw [List.drop_append, List.drop_of_length_le (by rw [lows_length]; decide), List.nil_append, lows_length]
    rfl
  refine ⟨by unfold pageSeal; rw [if_pos hl], ?_, h1, ?_⟩
  · intro x hx
    unfold sealB at hx
    rcases List.mem_append.1 hx with h | h
    · exact lows_isB _ _ x h
    · exact hB x (List.mem_of_mem_drop h)
  · have h3 : sealB (sealB bs) = sealB bs := by
      show lows (crcOn 0 ((sealB bs).drop 4)) 4 ++ (sealB bs).drop 4 = _
      rw [h2]
      rfl
    unfold pageWhole
    rw [h1, h3]
    simp
theorem new_own (n : Int) (h0 : 0 ≤ n) (h1 : n < 16) : ownOK (pageNew n) = true ∧ IsB (pageNew n) := by
  have e : pageNew n = sealB (newB n) := by unfold pageNew; rw [if_neg (by omega)]
  rw [e]
  obtain ⟨_, s2, s3, _⟩ := seal_two (newB_length n) (newB_isB n)
  refine ⟨?_, s2⟩
  have hz : ∀ j, (List.replicate 64 (0 : Int)).getD j 0 = 0 := fun j => by
    rw [List.getD_eq_getElem?_getD, List.getElem?_replicate]
    split <;> rfl
  have hsl : SlOK (List.replicate 64 (0 : Int)) := ⟨fun k _ => .inl ⟨hz _, hz _⟩, fun i j _ _ => by rw [hz, hz, hz, hz]; omega⟩
  have mk : ∀ S : List Int, S.length = 4 → EncOK S 0 n 4096 (List.replicate 64 0) (List.replicate 4096 0) := fun S hS => ⟨hS, List.length_replicate, List.length_replicate, by omega, by omega, by omega, fun x hx => by rw [List.eq_of_mem_replicate hx]; omega⟩
  have e1 := (mk (List.replicate 4 0) List.length_replicate).flat
  have hS : (lows (crcOn 0 ((newB n).drop 4)) 4).length = 4 := lows_length _ _
  have e2 := (mk _ hS).flat
  have e3 : sealB (newB n) = encB (lows (crcOn 0 ((newB n).drop 4)) 4) 0 n 4096 (List.replicate 64 0) (List.replicate 4096 0) := by
    have e4 := congrArg (List.drop 4) e1
    rw [newB_enc, List.drop_left' List.length_replicate] at e4
    rw [e2]
    show lows (crcOn 0 ((newB n).drop 4)) 4 ++ (newB n).drop 4 = _
    rw [e4]
  rw [e3]
  exact (mk _ hS).own' (by decide) (by omega) hsl (fun k _ h => absurd (hz _) h)
end Go.Proofs.Ytbiagmnkdihmiaa

namespace Go.Proofs.Ytbiagmnkdihmiaa
set_option maxRecDepth 100000
set_option maxHeartbeats 4000000
open Go.RowKit
set_option linter.unusedVariables false
set_option linter.unusedSimpArgs false
theorem numB_two {x : Int} (h0 : 0 ≤ x) (h1 : x ≤ 65535) : numB x 2 = lows x 2 := by
  unfold numB
  rw [if_neg]
  · rfl
  · rintro (h | h | h | h)
    · omega
    · omega
    · omega
    · apply h
      have e : (256 : Int) ^ (2 : Int).toNat = 65536 := by decide
      rw [e]
      omega
theorem put2_any (x : Int) (w : World) (h0 : 0 ≤ x) (h1 : x ≤ 65535) : Calls Try.prog 35 #[.int .i64 x, .int .i64 2] w fun e w' => ∃ a c, e = .returned (.slice a 2 c) ∧ Rd .u8 w' (.slice a 2 c) (lows x 2) ∧ Same w w' := by
  refine (specPut_any x 2 w ⟨by omega, by omega⟩ ⟨by omega, by omega⟩).mono ?_
  rintro e w' ⟨a, c, rfl, hf, ho, hk⟩
  rw [numB_two h0 h1, lows_length] at ho ⊢
  exact ⟨a, c, rfl, ho.rd, hk⟩
theorem l3Set_any (g cap : Nat) (xs : List Int) (s : Nat) (x y : Int) (w : World) (hl : xs.length = 4096) (hs : s < 32) (hx : 0 ≤ x ∧ x ≤ 65535) (hy : 0 ≤ y ∧ y ≤ 65535) (ho : Own 0 5 .u8 w (.slice (some ⟨g, 0, none⟩) 4096 cap) xs) :
    Calls Try.prog 34 #[.slice (some ⟨g, 0, none⟩) 4096 cap, .int .i64 (s : Int), .int .i64 x, .int .i64 y] w fun e w' => e = .returned (.tuple #[]) ∧ Own 0 5 .u8 w' (.slice (some ⟨g, 0, none⟩) 4096 cap) (layI (layI xs (20 + 4 * s) (lows x 2)) (20 + 4 * s + 2) (lows y 2)) ∧ Kept (fun b => b = g) w w' := by
  have HO := hid ho
  have HL := hid hl
  have k1 := fun wx => put2_any x wx hx.1 hx.2
  have k2 := fun wx => put2_any y wx hy.1 hy.2
  have hcap : 4096 ≤ cap := ho.caps.2
  obtain ⟨o1, ho1⟩ : ∃ o, 20 + 4 * s = o := ⟨_, rfl⟩
  obtain ⟨o2, ho2⟩ : ∃ o, 20 + 4 * s + 2 = o := ⟨_, rfl⟩
  rw [ho2, ho1]
  have q1 : IntKind.i64.wrap (4 * (s : Int)) = 4 * (s : Int) := by rw [IntKind.wrap_i64]; omega
  have q2 : IntKind.i64.wrap (20 + 4 * (s : Int)) = (o1 : Int) := by rw [IntKind.wrap_i64]; omega
  have q3 : IntKind.i64.wrap ((o1 : Int) + 2) = (o2 : Int) := by rw [IntKind.wrap_i64]; omega
  have b1 : o1 + 2 ≤ 4096 := by omega
  have b2 : o2 + 2 ≤ 4096 := by omega
  have g1 : (o1 : Int) ≤ 4096 := by omega
  have g2 : (o2 : Int) ≤ 4096 := by omega
  have g5 : (o1 : Int) ≤ (cap : Int) := by omega
  have g6 : (o2 : Int) ≤ (cap : Int) := by omega
  have n1 : ¬ cap = o1 := by omega
  have n2 : ¬ cap = o2 := by omega
  clear ho hl ho1 ho2
  go_enter Try.func34, Try.ntmps34
  go_wp2_with fail
  have hS : (fun _ : World => True) w.drew := by trivial
  refine wp_region_V (fun _ : World => True) 99 8 rfl (by kernel_rfl) ?_
  refine tk 0 8 hS ?_
  refine tk 1 9 hS ?_
  refine tk 2 10 hS ?_
  refine tk 3 11 hS ?_
  refine tkV 4 12 (.slice (some ⟨g, o1, none⟩) (4096 - o1) (cap - o1)) hS ?_
  refine tk 5 13 hS ?_
  refine wpAnyV_one (i := 6) (by kernel_rfl) rfl (fun K hK => ?_)
  go_simp
  refine (k1 _).mono ?_
  rintro e w1 ⟨a1, c1, rfl, hr1, hk1⟩
  have HK1 : Hid (Same w w1) := (Kept.refl _ _).drew.trans hk1
  have HO1 := hid (HO.out.same HK1.out)
  have hcp1 := run_copyOwn (P := Try.prog) 3 Try.underlying22 byte_one HO1.out HL.out.symm o1 (by rw [lows_length]; omega) hr1
  rw [show behind g cap o1 = some ⟨g, o1, none⟩ from if_neg n1, lows_length] at hcp1
  have HL1 := hid (HO1.out.laid HL.out.symm o1 (lows x 2) (by rw [lows_length]; omega))
  refine hK.out _ _ (fun _ => trivial) ?_
  clear hK K hk1 hr1
  try simp only [Act.put, sA, s0, sS]
  refine wpAnyV_one (i := 7) (by kernel_rfl) rfl (fun K hK => ?_)
  go_simp
  refine hK.out _ _ (fun _ => trivial) ?_
  clear hK K
  try simp only [Act.put, sA, s0, sS]
  refine wpAnyV_done (by kernel_rfl) ?_
  have HK2 := (show Hid (Kept (fun b => b = g) w (w1.setCells g o1 (vals .u8 (lows x 2)))) from Kept.setCells (R := fun b => b = g) (.inr rfl) _ _ (HK1.out.mono (fun _ _ e => e.elim)))
  have hl2 : (layI xs o1 (lows x 2)).length = 4096 := by rw [layI_length _ _ _ (by rw [lows_length, HL.out]; omega), HL.out]
  have HL2 := hid hl2
  clear hcp1 hl2
  generalize w1.setCells g o1 (vals .u8 (lows x 2)) = w2 at *
  go_wp2_with fail
  have hS : (fun _ : World => True) w2.drew := by trivial
  refine wp_region_V (fun _ : World => True) 99 9 rfl (by kernel_rfl) ?_
  refine tk 0 16 hS ?_
  refine tk 1 17 hS ?_
  refine tk 2 18 hS ?_
  refine tk 3 19 hS ?_
  refine tk 4 20 hS ?_
  refine tkV 5 21 (.slice (some ⟨g, o2, none⟩) (4096 - o2) (cap - o2)) hS ?_
  refine tk 6 22 hS ?_
  refine wpAnyV_one (i := 7) (by kernel_rfl) rfl (fun K hK => ?_)
  go_simp
  refine (k2 _).mono ?_
  rintro e w3 ⟨a3, c3, rfl, hr3, hk3⟩
  have HK3 : Hid (Same w2 w3) := (Kept.refl _ _).drew.trans hk3
  have HO3 := hid (HL1.out.same HK3.out)
  have hcp3 := run_copyOwn (P := Try.prog) 3 Try.underlying22 byte_one HO3.out HL2.out.symm o2 (by rw [lows_length]; omega) hr3
  rw [show behind g cap o2 = some ⟨g, o2, none⟩ from if_neg n2, lows_length] at hcp3
  have HL3 := hid (HO3.out.laid HL2.out.symm o2 (lows y 2) (by rw [lows_length]; omega))
  refine hK.out _ _ (fun _ => trivial) ?_
  clear hK K hk3 hr3
  try simp only [Act.put, sA, s0, sS]
  refine wpAnyV_one (i := 8) (by kernel_rfl) rfl (fun K hK => ?_)
  go_simp
  refine hK.out _ _ (fun _ => trivial) ?_
  clear hK K
  try simp only [Act.put, sA, s0, sS]
  refine wpAnyV_done (by kernel_rfl) ?_
  have HK4 := (show Hid (Kept (fun b => b = g) w (w3.setCells g o2 (vals .u8 (lows y 2)))) from Kept.setCells (R := fun b => b = g) (.inr rfl) _ _ (HK2.out.trans (HK3.out.mono (fun _ _ e => e.elim))))
  refine bodyPost_end (results_none Try.results34 _ _ _) rfl ?_
  exact ⟨rfl, HL3.out, HK4.out⟩
end Go.Proofs.Ytbiagmnkdihmiaa
