import Derived.Test.YtnkollbhicmdhaaDoorG10
import Derived.Test.YtnkollbhicmdhaaDoorG06
import Derived.Test.YtnkollbhicmdhaaDoorG09
import Derived.Test.YtnkollbhicmdhaaDoorG01
import Derived.Test.YtnkollbhicmdhaaDoorG00
import Derived.Test.YtnkollbhicmdhaaDoorProg
import Derived.Test.YtnkollbhicmdhaaDoorG03
import Derived.Test.YtnkollbhicmdhaaDoorG04
import Derived.Deep.AppendLies
import Derived.Deep.RegionWith
import Derived.Deep.DeepMust
import Derived.WalkLawsBesides
import Derived.Deep.QuietTactic
import Derived.BigQuiet
import Derived.Deep.LoopGhost
import Derived.Deep.CutBlock
import Derived.Deep.DeepCutAuto
namespace Go.Proofs.YtnkollbhicmdhaaDoor
set_option maxRecDepth 100000
set_option linter.unusedSimpArgs false
set_option linter.unusedVariables false
set_option maxHeartbeats 8000000
open Go.RowKit Go
def secB (dur : List Int) (i : Nat) : List Int := (dur.drop (i * 512)).take 512
def lastN (sel : Nat → Bool) (s : Int) (ds : List (Int × List Int)) : Nat → Option (List Int)
 | 0 => none
 | k + 1 => if (ds.getD k (0, [])).1 = s ∧ sel k = true then some (ds.getD k (0, [])).2 else lastN sel s ds k
theorem putAt_same (dur bs : List Int) (lo : Nat) (h : lo ≤ dur.length) : ((putAt dur lo bs).drop lo).take bs.length = bs := by
 unfold putAt
 have h1 : (dur.take lo).length = lo := by rw [List.length_take]; omega
 rw [List.drop_append, h1, List.drop_of_length_le (by omega), Nat.sub_self, List.drop_zero, List.nil_append, List.take_append_of_le_length (Nat.le_refl _), List.take_length]
theorem putAt_get (dur bs : List Int) (lo : Nat) (h : lo + bs.length ≤ dur.length) (k : Nat) (hk : k < lo ∨ lo + bs.length ≤ k) : (putAt dur lo bs)[k]? = dur[k]? := by
 unfold putAt
 have h1 : (dur.take lo).length = lo := by rw [List.length_take]; omega
 rcases hk with hk | hk
 ·rw [List.getElem?_append_left (by omega), List.getElem?_take, if_pos hk]
 ·rw [List.getElem?_append_right (by omega), List.getElem?_append_right (by omega), List.getElem?_drop, h1]
  congr 1
  omega
theorem secB_other (dur bs : List Int) (i j : Nat) (hij : i ≠ j) (hb : bs.length = 512) (h : j * 512 + 512 ≤ dur.length) : secB (putAt dur (j * 512) bs) i = secB dur i := by
 unfold secB
 apply List.ext_getElem?
 intro k
 rw [List.getElem?_take, List.getElem?_take]
 split
 ·rw [List.getElem?_drop, List.getElem?_drop, putAt_get _ _ _ (by omega) _ (by rw [hb]; omega)]
 ·rfl
theorem secB_same (dur bs : List Int) (i : Nat) (hb : bs.length = 512) (h : i * 512 + 512 ≤ dur.length) : secB (putAt dur (i * 512) bs) i = bs := by
 have := putAt_same dur bs (i * 512) (by omega)
 rw [hb] at this
 exact this
theorem settle_sec (sel : Nat → Bool) (dur : List Int) (ds : List (Int × List Int)) (hv : Valid dur.length ds) (i : Nat) (hi : i < dur.length / 512) : ∀ n, n ≤ ds.length → secB (settleN sel dur ds n) i = (lastN sel (i : Int) ds n).getD (secB dur i)
 | 0, _ => rfl
 | n + 1, hn => by
  have ih := settle_sec sel dur ds hv i hi n (by omega)
  have hl := settleN_length sel dur ds hv n (by omega)
  have hm : ds.getD n (0, []) ∈ ds := by simp [List.getD, show n < ds.length from by omega]
  obtain ⟨h1, h2, h3⟩ := hv.2 _ hm
  have h4 := hv.1.1
  unfold settleN lastN
  by_cases hs : sel n = true
  ·rw [if_pos hs]
   by_cases hsec : (ds.getD n (0, [])).1 = (i : Int)
   ·rw [if_pos ⟨hsec, hs⟩, hsec, show ((i : Int)).toNat = i from by omega, secB_same _ _ _ h3 (by omega)]
    rfl
   ·rw [if_neg (fun h => hsec h.1), ← ih]
    exact secB_other _ _ _ _ (by omega) h3 (by omega)
  ·rw [if_neg hs, if_neg (fun h => hs h.2)]
   exact ih
theorem lastP_lastN (s : Int) (ds : List (Int × List Int)) : ∀ n, n ≤ ds.length → lastP s (ds.take n) = lastN (fun _ => true) s ds n
 | 0, _ => by simp [lastP, lastN]
 | n + 1, hn => by
  have ih := lastP_lastN s ds n (by omega)
  have hg : ds.getD n (0, []) = ds[n]'(by omega) := by simp [List.getD, show n < ds.length from by omega]
  rw [List.take_succ_eq_append_getElem (by omega)]
  unfold lastN
  rw [hg]
  by_cases h : (ds[n]'(by omega)).1 = s
  ·rw [if_pos ⟨h, rfl⟩, ← h]
   exact lastP_snoc _ _ _
  ·rw [if_neg (fun q => h q.1), ← ih]
   exact lastP_append_none _ _ _ (fun p hp => by rw [List.mem_singleton.1 hp]; exact h)
theorem seeD_lastN (i : Nat) (dur : List Int) (ds : List (Int × List Int)) : seeD (i : Int) dur ds = (lastN (fun _ => true) (i : Int) ds ds.length).getD (secB dur i) := by
 have h := lastP_lastN (i : Int) ds ds.length (Nat.le_refl _)
 rw [List.take_length] at h
 unfold seeD secB
 rw [h, show ((i : Int)).toNat = i from by omega]
theorem take_at (A B C : List Int) (a b : Nat) (ha : a = A.length) (hb : b = B.length) : ((A ++ (B ++ C)).drop a).take b = B := by
 subst ha hb
 rw [List.drop_left, List.take_left]
theorem getN_low {x : Int} {n : Nat} (hn : 1 ≤ n) (hn8 : n ≤ 8) (h0 : 0 ≤ x) (h1 : x < 256 ^ n) (h2 : x ≤ 9223372036854775807) : getN (lows x n) = x := by
 obtain ⟨m, rfl⟩ : ∃ m : Nat, x = (m : Int) := ⟨x.toNat, by omega⟩
 have e : num (lows (m : Int) n) = (m : Int) := by
  rw [num_lows, Nat.mod_eq_of_lt]
  have : ((256 ^ n : Nat) : Int) = (256 : Int) ^ n := by simp
  omega
 unfold getN
 rw [e, lows_length, if_neg (by omega)]
theorem takeB_eq (bs : List Int) (o n : Nat) (h : o + n ≤ bs.length) : takeB bs o n = (bs.drop o).take n := by
 apply List.ext_getElem?
 intro i
 unfold takeB
 rw [List.getElem?_map, List.getElem?_take]
 by_cases hi : i < n
 ·rw [if_pos hi, List.getElem?_drop, List.getElem?_range hi]
  simp [show o + i < bs.length from by omega]
 ·rw [if_neg hi, List.getElem?_eq_none (by rw [List.length_range]; omega)]
  rfl
theorem mB_dec {s e c l : Int} (h : mF s e c l = 0) : mS (mB s e c l) = s ∧ mE (mB s e c l) = e ∧ mC (mB s e c l) = c ∧ mL (mB s e c l) = l ∧ mGood (mB s e c l) = true := by
 obtain ⟨h1, h2, h3, h4, h5⟩ := mF_good h
 have p8 : (256 : Int) ^ 8 = 18446744073709551616 := by decide
 have p4 : (256 : Int) ^ 4 = 4294967296 := by decide
 have flat : mB s e c l = hp4 ++ (lows s 8 ++ (lows e 4 ++ (lows c 8 ++ (lows l 8 ++ (lows (crcOn 0 (mH s e c l)) 4 ++ List.replicate 476 0))))) := by
  obtain ⟨Z, hZ⟩ : ∃ Z, lows (crcOn 0 (mH s e c l)) 4 = Z := ⟨_, rfl⟩
  unfold mB
  rw [hZ]
  unfold mH
  simp only [List.append_assoc]
 have d1 : mS (mB s e c l) = s := by
  unfold mS
  rw [takeB_eq _ _ _ (by rw [mB_length]; decide), flat, take_at hp4 (lows s 8) _ 4 8 rfl (by rw [lows_length])]
  exact getN_low (by decide) (by decide) (by omega) (by omega) (by omega)
 have d2 : mE (mB s e c l) = e := by
  unfold mE
  rw [takeB_eq _ _ _ (by rw [mB_length]; decide), flat, ← List.append_assoc, take_at (hp4 ++ lows s 8) (lows e 4) _ 12 4 (by rw [List.length_append, lows_length]; rfl) (by rw [lows_length])]
  exact getN_low (by decide) (by decide) (by omega) (by omega) (by omega)
 have d3 : mC (mB s e c l) = c := by
  unfold mC
  rw [takeB_eq _ _ _ (by rw [mB_length]; decide), flat, ← List.append_assoc, ← List.append_assoc, take_at (hp4 ++ lows s 8 ++ lows e 4) (lows c 8) _ 16 8 (by rw [List.length_append, List.length_append, lows_length, lows_length]; rfl) (by rw [lows_length])]
  exact getN_low (by decide) (by decide) (by omega) (by omega) (by omega)
 have d4 : mL (mB s e c l) = l := by
  unfold mL
  rw [takeB_eq _ _ _ (by rw [mB_length]; decide), flat, ← List.append_assoc, ← List.append_assoc, ← List.append_assoc, take_at (hp4 ++ lows s 8 ++ lows e 4 ++ lows c 8) (lows l 8) _ 24 8 (by rw [List.length_append, List.length_append, List.length_append, lows_length, lows_length, lows_length]; rfl) (by rw [lows_length])]
  exact getN_low (by decide) (by decide) (by omega) (by omega) (by omega)
 refine ⟨d1, d2, d3, d4, ?_⟩
 unfold mGood
 rw [d1, d2, d3, d4, encM_yes h]
 simp [h]
theorem decF_new {s e c l : Int} (h : mF s e c l = 0) : DecF (mB s e c l) true s e c l := by
 obtain ⟨d1, d2, d3, d4, d5⟩ := mB_dec h
 refine ⟨?_, .inr ⟨rfl, (mF_good h).1.1⟩⟩
 rw [decV_yes d5, d1, d2, d3, d4]
theorem dec_bounds {b : List Int} {s e c l : Int} (h : DecF b true s e c l) : mF s e c l = 0 := by
 cases hg : mGood b with
 | false =>
  have h1 := h.val
  rw [decV_no hg] at h1
  simp [resV] at h1
 | true =>
  have h1 := h.val
  rw [decV_yes hg] at h1
  simp [resV] at h1
  obtain ⟨rfl, rfl, rfl, rfl⟩ := h1
  unfold mGood at hg
  simp only [Bool.and_eq_true, decide_eq_true_eq] at hg
  exact hg.1
theorem dec_nil {g : Bool} {s e c l : Int} (h : DecF [] g s e c l) : g = false := by
 have h1 := h.val
 rw [decV_no (mGood_len (by simp))] at h1
 simp [resV] at h1
 exact h1.1
theorem valid_nil {n : Nat} {ds : List (Int × List Int)} (h : Valid n ds) : Valid n [] := ⟨⟨h.1.1, h.1.2.1, h.1.2.2.1, Nat.zero_le _⟩, fun p hp => by simp at hp⟩
theorem isRead_dur {T : List Int} (hv : Valid T.length []) (hl : 1024 ≤ T.length) (i : Nat) (hi : i < 2) : IsRead (i : Int) T [] (secB T i) := by
 refine .inl ⟨hv, by omega, by omega, ?_⟩
 rw [seeD_lastN]
 rfl
theorem picked_of {T : List Int} (hv : Valid T.length []) (hl : 1024 ≤ T.length) {g0 g1 : Bool} {s0 e0 c0 l0 s1 e1 c1 l1 : Int} (h0 : DecF (secB T 0) g0 s0 e0 c0 l0) (h1 : DecF (secB T 1) g1 s1 e1 c1 l1) : Picked T [] (pickV g0 s0 e0 c0 l0 g1 s1 e1 c1 l1) :=
 ⟨_, _, _, _, _, _, _, _, _, _, _, _, isRead_dur hv hl 0 (by decide), isRead_dur hv hl 1 (by decide), h0, h1, rfl⟩
theorem picked_dur {T : List Int} (hv : Valid T.length []) (hl : 1024 ≤ T.length) {v : Value} (h : Picked T [] v) : ∃ g0 s0 e0 c0 l0 g1 s1 e1 c1 l1, DecF (secB T 0) g0 s0 e0 c0 l0 ∧ DecF (secB T 1) g1 s1 e1 c1 l1 ∧ v = pickV g0 s0 e0 c0 l0 g1 s1 e1 c1 l1 := by
 obtain ⟨b0, b1, g0, s0, e0, c0, l0, g1, s1, e1, c1, l1, r0, r1, d0, d1, rfl⟩ := h
 obtain rfl := r0.one (isRead_dur hv hl 0 (by decide))
 obtain rfl := r1.one (isRead_dur hv hl 1 (by decide))
 exact ⟨_, _, _, _, _, _, _, _, _, _, d0, d1, rfl⟩
theorem settle_len {dur : List Int} {ds : List (Int × List Int)} (hv : Valid dur.length ds) : (settleN (fun _ => true) dur ds ds.length).length = dur.length := settleN_length _ _ _ hv _ (Nat.le_refl _)
theorem picked_valid {dur : List Int} {ds : List (Int × List Int)} {sl s e c l : Int} (h : Picked dur ds (resV true sl s e c l)) : Valid dur.length ds ∧ (sl = 0 ∨ sl = 1) ∧ mF s e c l = 0 := by
 obtain ⟨b0, b1, g0, s0, e0, c0, l0, g1, s1, e1, c1, l1, r0, r1, d0, d1, hv⟩ := h
 have hb : ∀ {i : Int} {b : List Int} {g : Bool} {s e c l : Int}, IsRead i dur ds b → DecF b g s e c l → g = true → Valid dur.length ds := by
  intro i b g s e c l hr hd hg
  rcases hr with ⟨h1, _⟩ | ⟨_, rfl⟩
  ·exact h1
  ·have := dec_nil hd
   rw [hg] at this; cases this
 unfold pickV at hv
 split at hv
 ·rename_i hc
  simp [resV] at hv
  obtain ⟨rfl, rfl, rfl, rfl, rfl, rfl⟩ := hv
  exact ⟨hb r1 d1 rfl, .inr rfl, dec_bounds d1⟩
 ·simp [resV] at hv
  obtain ⟨rfl, rfl, rfl, rfl, rfl, rfl⟩ := hv
  exact ⟨hb r0 d0 rfl, .inl rfl, dec_bounds d0⟩
theorem picked_sync {dur : List Int} {ds : List (Int × List Int)} (hv : Valid dur.length ds) (hl : 1024 ≤ dur.length) {v : Value} (h : Picked dur ds v) : Picked (settleN (fun _ => true) dur ds ds.length) [] v := by
 obtain ⟨b0, b1, g0, s0, e0, c0, l0, g1, s1, e1, c1, l1, r0, r1, d0, d1, rfl⟩ := h
 have hll := settle_len hv
 have hs : ∀ i : Nat, i < 2 → ∀ b, IsRead (i : Int) dur ds b → b = secB (settleN (fun _ => true) dur ds ds.length) i := by
  intro i hi b hr
  rw [settle_sec (fun _ => true) dur ds hv i (by omega) _ (Nat.le_refl _), ← seeD_lastN]
  rcases hr with ⟨_, _, _, h⟩ | ⟨h, _⟩
  ·exact h
  ·exact absurd ⟨hv, by omega, by omega⟩ h
 rw [hs 0 (by decide) b0 r0] at d0
 rw [hs 1 (by decide) b1 r1] at d1
 exact picked_of (by rw [hll]; exact valid_nil hv) (by rw [hll]; exact hl) d0 d1
theorem picked_new {T : List Int} (hv : Valid T.length []) (hl : 1024 ≤ T.length) {sl s e c l c' : Int} (h : Picked T [] (resV true sl s e c l)) (hm : mF (s + 1) e c' l = 0) :
  (putAt T ((1 - sl).toNat * 512) (mB (s + 1) e c' l)).length = T.length ∧ Picked (putAt T ((1 - sl).toNat * 512) (mB (s + 1) e c' l)) [] (resV true (1 - sl) (s + 1) e c' l) := by
 obtain ⟨g0, s0, e0, c0, l0, g1, s1, e1, c1, l1, d0, d1, hp⟩ := picked_dur hv hl h
 have hlen : ∀ j : Nat, j < 2 → (putAt T (j * 512) (mB (s + 1) e c' l)).length = T.length := fun j hj => by
  unfold putAt
  rw [List.length_append, List.length_append, List.length_take, List.length_drop, mB_length]
  omega
 unfold pickV at hp
 split at hp
 ·rename_i hc
  simp [resV] at hp
  obtain ⟨rfl, rfl, rfl, rfl, rfl, rfl⟩ := hp
  refine ⟨hlen 0 (by decide), ?_⟩
  have e0 : secB (putAt T ((1 - (1 : Int)).toNat * 512) (mB (s + 1) e c' l)) 0 = mB (s + 1) e c' l := secB_same T _ 0 (mB_length _ _ _ _) (by omega)
  have e1 : secB (putAt T ((1 - (1 : Int)).toNat * 512) (mB (s + 1) e c' l)) 1 = secB T 1 := secB_other T _ 1 0 (by decide) (mB_length _ _ _ _) (by omega)
  have hl0 : (putAt T ((1 - (1 : Int)).toNat * 512) (mB (s + 1) e c' l)).length = T.length := hlen 0 (by decide)
  have hP := picked_of (T := putAt T ((1 - (1 : Int)).toNat * 512) (mB (s + 1) e c' l)) (by rw [hl0]; exact hv) (by rw [hl0]; exact hl) (by rw [e0]; exact decF_new hm) (by rw [e1]; exact d1)
  unfold pickV at hP
  rw [if_neg (by rintro ⟨_, h | h⟩; cases h; omega)] at hP
  exact hP
 ·simp [resV] at hp
  obtain ⟨rfl, rfl, rfl, rfl, rfl, rfl⟩ := hp
  refine ⟨hlen 1 (by decide), ?_⟩
  have e0 : secB (putAt T ((1 - (0 : Int)).toNat * 512) (mB (s + 1) e c' l)) 0 = secB T 0 := secB_other T _ 0 1 (by decide) (mB_length _ _ _ _) (by omega)
  have e1 : secB (putAt T ((1 - (0 : Int)).toNat * 512) (mB (s + 1) e c' l)) 1 = mB (s + 1) e c' l := secB_same T _ 1 (mB_length _ _ _ _) (by omega)
  have hl0 : (putAt T ((1 - (0 : Int)).toNat * 512) (mB (s + 1) e c' l)).length = T.length := hlen 1 (by decide)
  have hP := picked_of (T := putAt T ((1 - (0 : Int)).toNat * 512) (mB (s + 1) e c' l)) (by rw [hl0]; exact hv) (by rw [hl0]; exact hl) (by rw [e0]; exact d0) (by rw [e1]; exact decF_new hm)
  unfold pickV at hP
  rw [if_pos ⟨rfl, .inr (by omega)⟩] at hP
  exact hP
structure Src (w : World) (B : Nat) (v : Value) (cs : List Int) (at_ : Nat) (size : Int) : Prop where
 blk : Blk w B 102 [v, .int .i64 at_, .int .i64 size]
 code : Rd .u8 w v cs
 bytes : IsB cs
 few : cs.length ≤ 1048576
 little : 0 ≤ size ∧ size ≤ 12
theorem Src.kept {R : Nat → Prop} {w w' : World} {B : Nat} {v : Value} {cs : List Int} {at_ : Nat} {size : Int} (h : Src w B v cs at_ size) (hk : Kept R w w') (hB : ¬ R B) (hv : Rd .u8 w' v cs) : Src w' B v cs at_ size :=
 ⟨h.blk.kept hk hB, hv, h.bytes, h.few, h.little⟩
theorem Src.same {w w' : World} {B : Nat} {v : Value} {cs : List Int} {at_ : Nat} {size : Int} (h : Src w B v cs at_ size) (hk : Same w w') : Src w' B v cs at_ size :=
 ⟨h.blk.same hk, h.code.same hk, h.bytes, h.few, h.little⟩
theorem source_any (v : Value) (cs : List Int) (w : World) (hb : IsB cs) (hn : cs.length ≤ 1048576) (hv : Rd .u8 w v cs) :
  Calls Tryd.prog 37 #[v] w fun e w' => ∃ B size, e = .returned (.pointer (some ⟨B, 0, none⟩)) ∧ w.heap.size ≤ B ∧ Src w' B v cs 0 size ∧ Same w w' := by
 obtain ⟨a, c, rfl⟩ := hv.form
 by_cases h : 12 < (cs.length : Int) / 16
 ·go_enter Tryd.func37, Tryd.ntmps37
  go_wp2
  go_ret
  exact ⟨_, 12, rfl, Nat.le_refl _, ⟨Blk.new _ _ _, hv.same ((Kept.refl _ _).alloc _), hb, hn, by omega, by omega⟩, (Kept.refl _ _).alloc _⟩
 ·go_enter Tryd.func37, Tryd.ntmps37
  go_wp2
  go_ret
  exact ⟨_, rfl, Nat.le_refl _, ⟨_, Blk.new _ _ _, hv.same ((Kept.refl _ _).alloc _), hb, hn, by omega, by omega⟩, (Kept.refl _ _).alloc _⟩
def Drawn (n r : Int) : Prop := (n < 1 → r = 0) ∧ (1 ≤ n → 0 ≤ r ∧ r < n)
theorem next_any (B : Nat) (v : Value) (cs : List Int) (k : Nat) (size n : Int) (w : World) (hs : Src w B v cs k size) (hR : ∀ w', Kept (fun b => b = B) w w' → Rd .u8 w' v cs) (hk : k ≤ 1073741824) (hn : IsI n) :
  Calls Tryd.prog 39 #[.pointer (some ⟨B, 0, none⟩), .int .i64 n] w fun e w' => ∃ r, e = .returned (.int .i64 r) ∧ Drawn n r ∧ Src w' B v cs (k + 1) size ∧ Kept (fun b => b = B) w w' := by
 obtain ⟨a, c, rfl⟩ := hs.code.form
 have c0 : w.cell? ⟨B, 0, none⟩ = some (.slice a cs.length c) := by rw [hs.blk.cell]; rfl
 have c1 : w.cell? ⟨B, 1, none⟩ = some (.int .i64 k) := by rw [hs.blk.cell]; rfl
 have f1 := hs.blk.frozen 1
 have hkk : Kept (fun b => b = B) w (w.setCell ⟨B, 1, none⟩ (.int .i64 ((k : Int) + 1))) := Kept.setCell (R := fun b => b = B) (Kept.refl _ _) (.inr rfl) _
 have hsrc : Src (w.setCell ⟨B, 1, none⟩ (.int .i64 ((k : Int) + 1))) B (.slice a cs.length c) cs (k + 1) size :=
  ⟨by have := hs.blk.stored 1 (.int .i64 ((k : Int) + 1)); exact this, hR _ hkk, hs.bytes, hs.few, hs.little⟩
 have HS := (show Hid (Src (w.setCell ⟨B, 1, none⟩ (.int .i64 ((k : Int) + 1))) B (.slice a cs.length c) cs (k + 1) size) from hsrc)
 have HK := (show Hid (Kept (fun b => b = B) w (w.setCell ⟨B, 1, none⟩ (.int .i64 ((k : Int) + 1)))) from hkk)
 have hfew := hs.few
 obtain ⟨hn1, hn2⟩ := hn
 clear hs hR hsrc hkk
 by_cases h1 : n < 1
 ·go_enter Tryd.func39, Tryd.ntmps39
  go_wp2
  go_ret
  exact ⟨0, rfl, ⟨fun _ => rfl, fun h => by omega⟩, HS.out, HK.out⟩
 ·by_cases h2 : cs.length = 0
  ·have e0 : ((cs.length : Nat) : Int) = 0 := by omega
   rw [h2] at c0
   go_enter Tryd.func39, Tryd.ntmps39
   go_wp2
   go_ret
   refine ⟨_, rfl, ⟨fun h => by omega, fun h => ⟨Int.emod_nonneg _ (by omega), Int.emod_lt_of_pos _ (by omega)⟩⟩, ?_, HK.out⟩
   have := HS.out
   rw [h2] at this
   exact this
  ·obtain ⟨b, off, rfl, hc⟩ : ∃ b off, a = some ⟨b, off, none⟩ ∧ ∀ i, i < cs.length → (w.setCell ⟨B, 1, none⟩ (.int .i64 ((k : Int) + 1))).cell? ⟨b, off + i, none⟩ = some (.int .u8 (cs.getD i 0)) := by
    rcases HS.out.code.2 with ⟨hnil, _⟩ | ⟨b, off, c', h, _, hc⟩
    ·rw [hnil] at h2
     simp at h2
    ·cases h
     exact ⟨b, off, rfl, hc⟩
   have q1 := hc (k % cs.length) (Nat.mod_lt _ (by omega))
   have q2 := hc ((k + 1) % cs.length) (Nat.mod_lt _ (by omega))
   have x1 := HS.out.bytes.at (k % cs.length) (Nat.mod_lt _ (by omega))
   have x2 := HS.out.bytes.at ((k + 1) % cs.length) (Nat.mod_lt _ (by omega))
   clear hc
   have m1 : (k : Int) % (cs.length : Int) = ((k % cs.length : Nat) : Int) := by simp
   have m2 : ((k : Int) + 1) % (cs.length : Int) = (((k + 1) % cs.length : Nat) : Int) := by simp
   have l1 := Nat.mod_lt k (y := cs.length) (by omega)
   have l2 := Nat.mod_lt (k + 1) (y := cs.length) (by omega)
   have d1 : (k : Int) / (cs.length : Int) = ((k / cs.length : Nat) : Int) := by simp
   have d2 : k / cs.length ≤ k := Nat.div_le_self _ _
   generalize cs.getD (k % cs.length) 0 = x at *
   generalize cs.getD ((k + 1) % cs.length) 0 = y at *
   generalize k % cs.length = i1 at *
   generalize (k + 1) % cs.length = i2 at *
   generalize k / cs.length = j1 at *
   generalize hl : cs.length = len at *
   have hl0 : (0 : Int) < (len : Int) := by omega
   have hl1 : ¬ (len : Int) = 0 := by omega
   have l1' : (i1 : Int) < (len : Int) := by omega
   have l2' : (i2 : Int) < (len : Int) := by omega
   by_cases h3 : 200 < n
   ·go_enter Tryd.func39, Tryd.ntmps39
    go_wp2
    go_quiet (fail)
    go_wp2
    go_quiet (fail)
    go_wp2
    go_ret
    refine ⟨_, rfl, ⟨fun h => by omega, fun h => ⟨Int.emod_nonneg _ (by omega), Int.emod_lt_of_pos _ (by omega)⟩⟩, ?_, ?_⟩
    ·exact HS.out.same ((Kept.refl _ _).drewN _)
    ·exact HK.out.drewN _
   ·go_enter Tryd.func39, Tryd.ntmps39
    go_wp2
    go_quiet (fail)
    go_wp2
    go_ret
    refine ⟨_, rfl, ⟨fun h => by omega, fun h => ⟨Int.emod_nonneg _ (by omega), Int.emod_lt_of_pos _ (by omega)⟩⟩, ?_, ?_⟩
    ·exact HS.out.same ((Kept.refl _ _).drewN _)
    ·exact HK.out.drewN _
theorem Src.lt {w : World} {B : Nat} {v : Value} {cs : List Int} {at_ : Nat} {size : Int} (h : Src w B v cs at_ size) : B < w.heap.size := h.blk.lt
structure SrcR (w0 w : World) (B : Nat) (v : Value) (cs : List Int) (k : Nat) (size : Int) : Prop where
 src : Src w B v cs k size
 kept : Kept (fun b => b = B) w0 w
 rd : ∀ w', Kept (fun b => b = B) w0 w' → Rd .u8 w' v cs
theorem source_r (v : Value) (cs : List Int) (w : World) (hb : IsB cs) (hn : cs.length ≤ 1048576) (hv : Rd .u8 w v cs) :
  Calls Tryd.prog 37 #[v] w fun e w' => ∃ B size, e = .returned (.pointer (some ⟨B, 0, none⟩)) ∧ w.heap.size ≤ B ∧ SrcR w' w' B v cs 0 size ∧ Same w w' := by
 refine (source_any v cs w hb hn hv).mono ?_
 rintro e w' ⟨B, size, rfl, hB, hs, hk⟩
 exact ⟨B, size, rfl, hB, ⟨hs, Kept.refl _ _, fun w2 h => hv.same (hk.next h (fun i hi e => by omega))⟩, hk⟩
theorem SrcR.lt {w0 w : World} {B : Nat} {v : Value} {cs : List Int} {k : Nat} {size : Int} (h : SrcR w0 w B v cs k size) : B < w.heap.size := h.src.lt
theorem SrcR.on {R : Nat → Prop} {w0 w w' : World} {B : Nat} {v : Value} {cs : List Int} {k : Nat} {size : Int} (h : SrcR w0 w B v cs k size) (hk : Kept R w w') (hB : ¬ R B) (hR : ∀ i, i < w0.heap.size → ¬ R i) : SrcR w0 w' B v cs k size := by
 have hk' : Kept (fun b => b = B) w0 w' := h.kept.next hk (fun i hi e => absurd e (hR i hi))
 exact ⟨h.src.kept hk hB (h.rd w' hk'), hk', h.rd⟩
theorem SrcR.same {w0 w w' : World} {B : Nat} {v : Value} {cs : List Int} {k : Nat} {size : Int} (h : SrcR w0 w B v cs k size) (hk : Same w w') : SrcR w0 w' B v cs k size := h.on hk id (fun _ _ => id)
theorem next_k {w0 w : World} {B : Nat} {v : Value} {cs : List Int} {k : Nat} {size : Int} (n : Int) (h : SrcR w0 w B v cs k size) (hk : k ≤ 1073741824) (hn : IsI n) :
  Calls Tryd.prog 39 #[.pointer (some ⟨B, 0, none⟩), .int .i64 n] w fun e w' => ∃ r, e = .returned (.int .i64 r) ∧ Drawn n r ∧ SrcR w0 w' B v cs (k + 1) size ∧ Kept (fun b => b = B) w w' := by
 refine (next_any B v cs k size n w h.src (fun w' hw => h.rd w' (h.kept.trans hw)) hk hn).mono ?_
 rintro e w' ⟨r, rfl, hd, hs, hk'⟩
 exact ⟨r, rfl, hd, ⟨hs, h.kept.trans hk', h.rd⟩, hk'⟩
theorem chance_k {w0 w : World} {B : Nat} {v : Value} {cs : List Int} {k : Nat} {size : Int} (n : Int) (h : SrcR w0 w B v cs k size) (hk : k ≤ 1073741824) (hn : IsI n) :
  Calls Tryd.prog 41 #[.pointer (some ⟨B, 0, none⟩), .int .i64 n] w fun e w' => ∃ b, e = .returned (.bool b) ∧ SrcR w0 w' B v cs (k + 1) size ∧ Kept (fun b => b = B) w w' := by
 have k0 := next_k n h hk hn
 clear h
 go_enter Tryd.func41, Tryd.ntmps41
 go_wp2_with fail
 refine k0.mono ?_
 rintro e w1 ⟨r, rfl, hd, hs, hk1⟩
 have HS := hid hs
 have HK := hid hk1
 clear k0 hs hk1
 go_wp2
 go_ret
 exact ⟨_, rfl, HS.out, HK.out⟩
theorem lsn_k {w0 w : World} {B : Nat} {v : Value} {cs : List Int} {k : Nat} {size : Int} (h : SrcR w0 w B v cs k size) (hk : k ≤ 1073741824) :
  Calls Tryd.prog 66 #[.pointer (some ⟨B, 0, none⟩)] w fun e w' => ∃ r, e = .returned (.int .i64 r) ∧ 512 ≤ r ∧ r < 60512 ∧ SrcR w0 w' B v cs (k + 1) size ∧ Kept (fun b => b = B) w w' := by
 have k0 := next_k 60000 h hk (by constructor <;> decide)
 clear h
 go_enter Tryd.func66, Tryd.ntmps66
 go_wp2_with fail
 refine k0.mono ?_
 rintro e w1 ⟨r, rfl, hd, hs, hk1⟩
 have HS := hid hs
 have HK := hid hk1
 obtain ⟨hr1, hr2⟩ := hd.2 (by decide)
 clear k0 hs hd hk1
 go_wp2
 go_ret
 exact ⟨_, rfl, by omega, by omega, HS.out, HK.out⟩
theorem Tryd.infoByte : (Tryd.prog.info? 5).map (fun i => (i.zero, i.size, i.bytes)) = some (some (.int .u8 0), 1, 1) := by kernel_rfl
theorem specNewDisk_yes (s : Int) (w : World) (h1 : 1 ≤ s) (h2 : s ≤ 1024) :
  Calls Tryd.prog 38 #[.int .i64 s] w fun e w' => ∃ g, e = .returned (.agg #[.slice (some ⟨g, 0, none⟩) (s.toNat * 512) (s.toNat * 512), .slice none 0 0]) ∧ w.heap.size ≤ g ∧
   Own 0 5 .u8 w' (.slice (some ⟨g, 0, none⟩) (s.toNat * 512) (s.toNat * 512)) (List.replicate (s.toNat * 512) 0) ∧ Same w w' := by
 obtain ⟨n, rfl⟩ : ∃ n : Nat, s = n := ⟨s.toNat, by omega⟩
 obtain ⟨i0, hi, hz0, hz1, hz2⟩ := info_parts Tryd.infoByte
 have h1' : ¬ (n : Int) < 1 := by omega
 go_enter Tryd.func38, Tryd.ntmps38
 go_wp2_with (at_make; refine wpList_make_full _ rfl (.tmp 11) (.tmp 11) 22 rfl 0 5 i0 (.int .u8 0) 1 Tryd.underlying22 hi hz0 hz1 .i64 .i64 _ _ (n * 512) rfl rfl (by simp) (by simp) (by rw [hz2]; omega) (by unfold maxLen; omega) (Nat.zero_le _) ?_; intro w1 hown1 hgrow1; have HO : Hid (Own 0 5 .u8 w1 (.slice (some ⟨w.heap.size + 1, 0, none⟩) (n * 512) (n * 512)) (List.replicate (n * 512) 0)) := own_made (by simpa using hown1); have HK : Hid (Same w w1) := ((Kept.refl _ _).alloc _).grown hgrow1 (fun k e => by cases e); obtain ⟨q1, q2, q3, q4, q5⟩ := kept_two (Kept.of_grown (R := fun _ => False) hgrow1 (fun k e => by cases e)) id; clear hown1 hgrow1)
 refine bodyPost_ret (v := .agg #[.slice (some ⟨w.heap.size + 1, 0, none⟩) (n * 512) (n * 512), .slice none 0 0]) (by simp [results, Tryd.results38, go_sem, q1, q2]) rfl ⟨w.heap.size + 1, by simp, by omega, ?_, ?_⟩
 ·exact HO.out.kept (R := fun b => b = w.heap.size) ((Kept.refl (fun b => b = w.heap.size) _).setTwo (.inr rfl) _ _) (fun b hb e => by simp [Value.ownBlock] at hb; omega)
 ·exact HK.out.setTwo (.inl (Nat.le_refl _)) _ _
def MsR (w0 w w' : World) (ex : Ending) (B : Nat) (v : Value) (cs : List Int) (k : Nat) (size : Int) : Prop :=
 ∃ (s e c l : Int) (k' : Nat), ex = .returned (.agg #[.int .i64 s, .int .i64 e, .int .i64 c, .int .i64 l]) ∧ mF s e c l = 0 ∧ k' ≤ k + 4 ∧ SrcR w0 w' B v cs k' size ∧ Kept (fun b => b = B) w w'
theorem ms_k {w0 w : World} {B : Nat} {v : Value} {cs : List Int} {k : Nat} {size : Int} (h : SrcR w0 w B v cs k size) (hk : k ≤ 1073741000) :
  Calls Tryd.prog 40 #[.pointer (some ⟨B, 0, none⟩)] w fun e w' => MsR w0 w w' e B v cs k size := by
 have b0 := Blk.new w #[.int .i64 0, .int .i64 0, .int .i64 0, .int .i64 0] 28
 have hBw := h.lt
 have hw0 := h.kept.size
 have hk0 : Same w (w.alloc (.cells #[.int .i64 0, .int .i64 0, .int .i64 0, .int .i64 0] 28)) := (Kept.refl _ _).alloc _
 have HS := hid (h.same hk0)
 clear h
 go_enter Tryd.func40, Tryd.ntmps40
 go_upto_region 1 with fail
 obtain ⟨X, hX⟩ : ∃ X, w.heap.size = X := ⟨_, rfl⟩
 have HX := hid hX
 rw [hX] at b0 hBw hw0
 generalize hw1 : w.alloc (.cells #[.int .i64 0, .int .i64 0, .int .i64 0, .int .i64 0] 28) = w1 at *
 have HK := (show Hid (Kept (fun b => b = B) w w1) from hk0.mono (fun _ _ e => e.elim))
 have HB := hid b0
 try rw [hX]
 clear hk0 b0 hX hw1
 go_wp2_with fail
 refine (next_k 20 HS.out (by omega) (by constructor <;> decide)).mono ?_
 rintro e w2 ⟨s, rfl, hd, hs', hk'⟩
 obtain ⟨hs1, hs2⟩ := hd.2 (by decide)
 have HB' := hid (HB.out.kept hk' (fun e => by omega))
 have HK' := hid (HK.out.trans hk')
 clear HS HB HK
 have HS := hid hs'
 have HB := HB'
 have HK := HK'
 clear hd hs' hk' HB' HK'
 have q1 : IntKind.i64.wrap (1 + s) = 1 + s := by rw [IntKind.wrap_i64]; omega
 go_wp2_with fail
 refine (next_k 20 HS.out (by omega) (by constructor <;> decide)).mono ?_
 rintro e w3 ⟨e, rfl, hd, hs', hk'⟩
 obtain ⟨he1, he2⟩ := hd.2 (by decide)
 have HB' := hid (HB.out.kept hk' (fun e => by omega))
 have HK' := hid (HK.out.trans hk')
 clear HS HB HK
 have HS := hid hs'
 have HB := HB'
 have HK := HK'
 clear hd hs' hk' HB' HK'
 have q2 : IntKind.i64.wrap (1 + e) = 1 + e := by rw [IntKind.wrap_i64]; omega
 go_wp2_with fail
 refine (lsn_k HS.out (by omega)).mono ?_
 rintro e w4 ⟨l, rfl, hl1, hl2, hs', hk'⟩
 have HB' := hid (HB.out.kept hk' (fun e => by omega))
 have HK' := hid (HK.out.trans hk')
 clear HS HB HK
 have HS := hid hs'
 have HB := HB'
 have HK := HK'
 clear hs' hk' HB' HK'
 have hk5 : Same w4 (w4.alloc (.cells #[.int .i64 (1 + s), .int .i64 (1 + e), .int .i64 0, .int .i64 l] 28)) := (Kept.refl _ _).alloc _
 have HM := hid (Blk.new w4 #[.int .i64 (1 + s), .int .i64 (1 + e), .int .i64 0, .int .i64 l] 28)
 have HS' := hid (HS.out.same hk5)
 have HB' := hid (HB.out.same hk5)
 have HK' := hid (HK.out.trans (hk5.mono (fun _ _ e => e.elim)))
 have hXY : X < w4.heap.size := HB.out.lt
 have hBY : B < w4.heap.size := HS.out.lt
 have hwY := HK.out.size
 obtain ⟨Y, hY⟩ : ∃ X, w4.heap.size = X := ⟨_, rfl⟩
 rw [hY] at HM hXY hBY hwY
 have HY := hid hY
 clear hk5 HS HB HK hY
 go_upto_region 2 with fail
 try rw [HY.out]
 generalize w4.alloc (.cells #[.int .i64 (1 + s), .int .i64 (1 + e), .int .i64 0, .int .i64 l] 28) = w5 at *
 clear HY
 refine wp_region_V (fun wx : World => wx.cell? ⟨Y, 3, none⟩ = some (.int .i64 l)) 6 7 rfl (by kernel_rfl) ?_
 have hd0 : Same w5 w5.drew := (Kept.refl _ _).drew
 have HS := hid (HS'.out.same hd0)
 have HB := hid (HB'.out.same hd0)
 have HM0 := hid (HM.out.same hd0)
 have HK := hid (HK'.out.trans (hd0.mono (fun _ _ e => e.elim)))
 generalize w5.drew = v1 at *
 clear hd0 HS' HB' HK' HM
 have hS : (fun wx : World => wx.cell? ⟨Y, 3, none⟩ = some (.int .i64 l)) v1 := HM0.out.cell 3
 refine tk 0 13 hS ?_
 refine tk 1 14 hS ?_
 refine tk 2 15 hS ?_
 refine wpAnyV_one (i := 3) (by kernel_rfl) rfl (fun K hK => ?_)
 go_simp
 refine (next_k 3000 HS.out (by omega) (by constructor <;> decide)).mono ?_
 rintro e' v2 ⟨r, rfl, hd, hs', hk'⟩
 obtain ⟨hr1, hr2⟩ := hd.2 (by decide)
 have HB' := hid (HB.out.kept hk' (fun e => by omega))
 have HM1 := hid (HM0.out.kept hk' (fun e => by omega))
 have HK' := hid (HK.out.trans hk')
 have HS' := hid hs'
 have hS : (fun wx : World => wx.cell? ⟨Y, 3, none⟩ = some (.int .i64 l)) v2 := HM1.out.cell 3
 clear hd hs' hk' HS HB HK HM0
 go_wp2_with fail
 refine hK.out _ _ (fun _ => hS) ?_
 clear hK K
 try simp only [Act.put, sA, s0, sS]
 have q3 : IntKind.i64.wrap (l + r) = l + r := by rw [IntKind.wrap_i64]; omega
 refine tkV 4 17 (.int .i64 (l + r)) hS ?_
 refine tk 5 18 hS ?_
 obtain ⟨_, _, z2, _⟩ := HM1.out.all4
 have zf := HM1.out.frozen
 have hkY : Kept (fun b => b = Y) v2 (v2.setCell ⟨Y, 2, none⟩ (.int .i64 (l + r))) := (Kept.refl (fun b => b = Y) v2).setCell (p := ⟨Y, 2, none⟩) (.inr rfl) _
 have HS := hid (HS'.out.on hkY (fun e => by omega) (fun i hi e => by omega))
 have HB := hid (HB'.out.kept hkY (fun e => by omega))
 have HM2 := hid (HM1.out.stored 2 (.int .i64 (l + r)))
 have HK := hid (HK'.out.next hkY (fun i hi e => by omega))
 refine wpAnyV_one (i := 6) (by kernel_rfl) rfl (fun K hK => ?_)
 go_simp
 refine hK.out _ _ (fun h => absurd rfl h) ?_
 clear hK K
 refine wpAnyV_done (by kernel_rfl) ?_
 try simp only [Act.put, sA, s0, sS]
 generalize v2.setCell ⟨Y, 2, none⟩ (.int .i64 (l + r)) = v3 at *
 clear hS z2 zf hkY HS' HB' HM1 HK'
 obtain ⟨m0, m1, m2, m3⟩ := HM2.out.all4
 obtain ⟨b0, b1, b2, b3⟩ := HB.out.all4
 have fb := HB.out.frozen
 have hkX : Kept (fun b => b = X) v3 ((((v3.setCell ⟨X, 0, none⟩ (.int .i64 (1 + s))).setCell ⟨X, 1, none⟩ (.int .i64 (1 + e))).setCell ⟨X, 2, none⟩ (.int .i64 (l + r))).setCell ⟨X, 3, none⟩ (.int .i64 l)) := ((((Kept.refl (fun b => b = X) v3).setCell (p := ⟨X, 0, none⟩) (.inr rfl) _).setCell (p := ⟨X, 1, none⟩) (.inr rfl) _).setCell (p := ⟨X, 2, none⟩) (.inr rfl) _).setCell (p := ⟨X, 3, none⟩) (.inr rfl) _
 have HBE := hid ((((HB.out.stored 0 (.int .i64 (1 + s))).stored 1 (.int .i64 (1 + e))).stored 2 (.int .i64 (l + r))).stored 3 (.int .i64 l))
 have HEN := (show Hid (MsR w0 w ((((v3.setCell ⟨X, 0, none⟩ (.int .i64 (1 + s))).setCell ⟨X, 1, none⟩ (.int .i64 (1 + e))).setCell ⟨X, 2, none⟩ (.int .i64 (l + r))).setCell ⟨X, 3, none⟩ (.int .i64 l)) (.returned (.agg #[.int .i64 (1 + s), .int .i64 (1 + e), .int .i64 (l + r), .int .i64 l])) B v cs k size) from ⟨_, _, _, _, _, rfl, mF0 (by omega) (by omega) (by omega), Nat.le_refl _, HS.out.on hkX (fun e => by omega) (fun i hi e => by omega), HK.out.next hkX (fun i hi e => by have := HX.out; omega)⟩)
 clear hkX
 go_wp2
 generalize (((v3.setCell ⟨X, 0, none⟩ (.int .i64 (1 + s))).setCell ⟨X, 1, none⟩ (.int .i64 (1 + e))).setCell ⟨X, 2, none⟩ (.int .i64 (l + r))).setCell ⟨X, 3, none⟩ (.int .i64 l) = wz at *
 obtain ⟨x0, x1, x2, x3⟩ := HBE.out.all4
 exact bodyPost_ret (v := .agg #[.int .i64 (1 + s), .int .i64 (1 + e), .int .i64 (l + r), .int .i64 l]) (by simp [results, Tryd.results40, go_sem, x0, x1, x2, x3]) rfl HEN.out
end Go.Proofs.YtnkollbhicmdhaaDoor
