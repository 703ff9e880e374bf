import Derived.Test.YtapdfgkbhaoelaaGreatDoorG37
namespace Go.Proofs.YtapdfgkbhaoelaaGreatDoor
set_option linter.unusedVariables false
set_option linter.unusedSimpArgs false
set_option maxRecDepth 100000
set_option maxHeartbeats 8000000
open Go.RowKit
theorem Uq {x : Int} {n : Nat} (hn : 1 ≤ n) (kz : n ≤ 8) (h0 : 0 ≤ x) (h1 : x < 256 ^ n) (h2 : x ≤ 9223372036854775807) : Ps (O5 x n) = x := by
 obtain ⟨m, rfl⟩ : ∃ m : Nat, x = (m : Int) := ⟨x.toNat, by omega⟩
 have e : num (O5 (m : Int) n) = (m : Int) := by
  rw [WI, Nat.mod_eq_of_lt]
  have : ((256 ^ n : Nat) : Int) = (256 : Int) ^ n := by simp
  omega
 unfold Ps;rw [e, OY, if_neg (by omega)]
theorem jc2 (A B C : List Int) : ((A ++ (B ++ C)).drop A.length).take B.length = B := by
 rw [List.drop_left, List.take_left]
theorem Ur (A B C : List Int) (a b : Nat) (ha : a = A.length) (hb : b = B.length) : ((A ++ (B ++ C)).drop a).take b = B := by subst ha hb; exact jc2 A B C
theorem jc3 (sl : List Int) (j : Nat) (hj : j < sl.length) : ((slotB sl).drop (2 * j)).take 2 = O5 (sl.getD j 0) 2 := by
 have e : sl = sl.take j ++ (sl[j] :: sl.drop (j + 1)) := by rw [← List.drop_eq_getElem_cons hj, List.take_append_drop]
 have hg : sl.getD j 0 = sl[j] := by simp [hj]
 rw [hg]
 conv => lhs; rw [e]
 rw [TI, show slotB (sl[j] :: sl.drop (j + 1)) = O5 sl[j] 2 ++ slotB (sl.drop (j + 1)) from by unfold slotB; rw [List.flatMap_cons]];exact Ur _ _ _ _ _ (by rw [P7, List.length_take]; omega) (by rw [OY])
structure EncOK (sum : List Int) (lsn num bot : Int) (sl raw : List Int) : Prop where
 s4 : sum.length = 4
 sl64 : sl.length = 64
 r : raw.length = 4096
 lsn : 0 ≤ lsn ∧ lsn ≤ 9223372036854775807
 num : 0 ≤ num ∧ num < 4294967296
 bot : 0 ≤ bot ∧ bot ≤ 65535
 sls : ∀ x ∈ sl, 0 ≤ x ∧ x ≤ 65535
section
variable {sum : List Int} {lsn num bot : Int} {sl raw : List Int}
theorem EncOK.flat (h : EncOK sum lsn num bot sl raw) : Py sum lsn num bot sl raw = sum ++ (O5 lsn 8 ++ (O5 num 4 ++ (O5 bot 2 ++ (O5 0 2 ++ (slotB sl ++ raw.drop 148))))) := by
 rw [QE _ _ _ _ _ _ h.s4 h.sl64];simp [Rn]
theorem EncOK.len (h : EncOK sum lsn num bot sl raw) : (Py sum lsn num bot sl raw).length = 4096 := Qu h.s4 h.sl64 h.r
theorem EncOK.sum4 (h : EncOK sum lsn num bot sl raw) : (Py sum lsn num bot sl raw).take 4 = sum := by
 rw [h.flat, List.take_append_of_le_length (by rw [h.s4]; exact Nat.le_refl _), List.take_of_length_le (by rw [h.s4]; exact Nat.le_refl _)]
theorem EncOK.dec (h : EncOK sum lsn num bot sl raw) : O4 (Py sum lsn num bot sl raw) 4 8 = lsn ∧ O4 (Py sum lsn num bot sl raw) 12 4 = num ∧ O4 (Py sum lsn num bot sl raw) 16 2 = bot := by
  refine ⟨?_, ?_, ?_⟩
  · unfold O4
    rw [h.flat, Ur _ _ _ _ _ (by rw [h.s4]) (by rw [OY])]
    exact Uq (by decide) (by decide) h.lsn.1 (by have := h.lsn.2; have : (256 : Int) ^ 8 = 18446744073709551616 := (by decide); omega) h.lsn.2
  · unfold O4
    rw [h.flat, ← List.append_assoc, Ur _ _ _ _ _ (by rw [List.length_append, h.s4, OY]) (by rw [OY])]
    exact Uq (by decide) (by decide) h.num.1 (by have := h.num.2; have : (256 : Int) ^ 4 = 4294967296 := (by decide); omega) (by have := h.num.2; omega)
  · unfold O4
    rw [h.flat, ← List.append_assoc, ← List.append_assoc, Ur _ _ _ _ _ (by rw [List.length_append, List.length_append, h.s4, OY, OY]) (by rw [OY])]
    exact Uq (by decide) (by decide) h.bot.1 (by have := h.bot.2; have : (256 : Int) ^ 2 = 65536 := (by decide); omega) (by have := h.bot.2; omega)
theorem EncOK.behind (h : EncOK sum lsn num bot sl raw) : (Py sum lsn num bot sl raw).drop 148 = raw.drop 148 := by
 rw [QE _ _ _ _ _ _ h.s4 h.sl64, ← List.append_assoc, List.drop_append, List.drop_of_length_le (by rw [List.length_append, P6 _ _ _ _ h.s4, P7, h.sl64]; decide), List.nil_append, List.length_append, P6 _ _ _ _ h.s4, P7, h.sl64];rfl
theorem EncOK.slots (h : EncOK sum lsn num bot sl raw) : slotsOf (Py sum lsn num bot sl raw) = sl := by
  apply List.ext_getElem?;intro j
  by_cases hj : j < 64
  · rw [List.getElem?_eq_getElem (by rw [Pb]; exact hj), List.getElem?_eq_getElem (by rw [h.sl64]; exact hj)]
    have e1 : (slotsOf (Py sum lsn num bot sl raw))[j]'(by rw [Pb]; exact hj) = (slotsOf (Py sum lsn num bot sl raw)).getD j 0 := by simp [Pb, hj]
    have e2 : sl[j]'(by rw [h.sl64]; exact hj) = sl.getD j 0 := by simp [h.sl64, hj]
    rw [e1, e2, Sn _ j hj]
    congr 1
    unfold O4;rw [QE _ _ _ _ _ _ h.s4 h.sl64]
    have hd : (Rn sum lsn num bot ++ (slotB sl ++ raw.drop 148)).drop (20 + 2 * j) = (slotB sl).drop (2 * j) ++ raw.drop 148 := by
      rw [List.drop_append, List.drop_of_length_le (by rw [P6 _ _ _ _ h.s4]; omega), List.nil_append, P6 _ _ _ _ h.s4, Nat.add_sub_cancel_left, List.drop_append_of_le_length (by rw [P7, h.sl64]; omega)]
    rw [hd, List.take_append_of_le_length (by rw [List.length_drop, P7, h.sl64]; omega), jc3 sl j (by rw [h.sl64]; exact hj)]
    have hb : 0 ≤ sl.getD j 0 ∧ sl.getD j 0 ≤ 65535 := by rw [← e2]; exact h.sls _ (List.getElem_mem _)
    exact Uq (by decide) (by decide) hb.1 (by have : (256 : Int) ^ 2 = 65536 := (by decide); omega) (by omega)
  · rw [List.getElem?_eq_none (by rw [Pb]; omega), List.getElem?_eq_none (by rw [h.sl64]; omega)]
theorem EncOK.again (h : EncOK sum lsn num bot sl raw) : Py sum lsn num bot sl (Py sum lsn num bot sl raw) = Py sum lsn num bot sl raw := by
 rw [QE _ _ _ _ _ (Py sum lsn num bot sl raw) h.s4 h.sl64, h.behind, ← QE _ _ _ _ _ _ h.s4 h.sl64]
theorem EncOK.own (h : EncOK sum lsn num bot sl raw) (hL : QM lsn = true) (hb : 148 ≤ bot ∧ bot ≤ 4096) (ha : QI bot sl = false) (hs : share sl = false) : PK (Py sum lsn num bot sl raw) = true := by
 obtain ⟨d1, d2, d3⟩ := h.dec;unfold PK Pm RD;rw [h.sum4, d1, d2, d3, h.slots, h.len]
 have hh : QY sum lsn num bot sl (Py sum lsn num bot sl raw) = false := by
  unfold QY;rw [hL, h.again];simp
 rw [hh, ha, hs];simp;omega
end
def sl0 (sl : List Int) (s : Nat) : List Int := (sl.set (2 * s) 0).set (2 * s + 1) 0
theorem TK (sl : List Int) (s : Nat) : (sl0 sl s).length = sl.length := by simp [sl0]
theorem jc4 (sl : List Int) (s j : Nat) : (sl0 sl s).getD j 0 = if j = 2 * s ∨ j = 2 * s + 1 then 0 else sl.getD j 0 := by
 unfold sl0;simp only [List.getD_eq_getElem?_getD]
 by_cases h1 : j = 2 * s + 1
 ·subst h1
  rw [if_pos (.inr rfl)]
  by_cases hl : 2 * s + 1 < sl.length
  ·rw [List.getElem?_set_self (by rw [List.length_set]; exact hl)]; rfl
  ·rw [List.getElem?_eq_none (by rw [List.length_set, List.length_set]; omega)]; rfl
 ·rw [List.getElem?_set_ne (by omega)]
  by_cases h2 : j = 2 * s
  ·subst h2
   rw [if_pos (.inl rfl)]
   by_cases hl : 2 * s < sl.length
   ·rw [List.getElem?_set_self hl]; rfl
   ·rw [List.getElem?_eq_none (by rw [List.length_set]; omega)]; rfl
  ·rw [List.getElem?_set_ne (by omega), if_neg (by omega)]
theorem TM (sl : List Int) (s k : Nat) : ((sl0 sl s).getD (2 * k) 0 = if k = s then 0 else sl.getD (2 * k) 0) ∧ ((sl0 sl s).getD (2 * k + 1) 0 = if k = s then 0 else sl.getD (2 * k + 1) 0) := by
 rw [jc4, jc4]
 by_cases e : k = s
 ·subst e; simp
 ·refine ⟨?_, ?_⟩
  ·rw [if_neg (by omega), if_neg e]
  ·rw [if_neg (by omega), if_neg e]
theorem SlOK.zero {sl : List Int} (h : SlOK sl) (s : Nat) : SlOK (sl0 sl s) := by
 refine ⟨fun k hk => ?_, fun i j hi hj => ?_⟩
 ·obtain ⟨e1, e2⟩ := TM sl s k
  rw [e1, e2]
  by_cases e : k = s
  ·rw [if_pos e, if_pos e]; exact .inl ⟨rfl, rfl⟩
  ·rw [if_neg e, if_neg e]; exact h.one k hk
 ·obtain ⟨e1, e2⟩ := TM sl s i
  obtain ⟨e3, e4⟩ := TM sl s j;rw [e1, e2, e3, e4];have h1 := h.two i j hi hj;have h2 := h.one i hi;have h3 := h.one j (by omega)
  by_cases ei : i = s
  ·rw [if_pos ei, if_pos ei]; omega
  ·rw [if_neg ei, if_neg ei]
   by_cases ej : j = s
   ·rw [if_pos ej, if_pos ej]; omega
   ·rw [if_neg ej, if_neg ej]; exact h1
theorem UM (sl : List Int) (s : Nat) : ∀ k, PS (sl0 sl s) k = PS sl k - (if s < k then sl.getD (2 * s + 1) 0 else 0)
 | 0 => by simp [PS]
 | k + 1 => by
  rw [PS, PS, UM sl s k, (TM sl s k).2]
  by_cases e : k = s
  ·subst e
   rw [if_pos rfl, if_neg (by omega), if_pos (by omega)];omega
  ·rw [if_neg e]
   by_cases h : s < k
   ·rw [if_pos h, if_pos (by omega)]; omega
   ·rw [if_neg h, if_neg (by omega)]; omega
theorem SlOK.astray0 {sl : List Int} {bot : Int} (h : ∀ k, k < 32 → Pg bot (sl.getD (2 * k) 0) (sl.getD (2 * k + 1) 0) = false) : QI bot sl = false := by
 unfold QI;rw [List.any_eq_false];intro i hi;rw [h i (List.mem_range.1 hi)];simp
theorem SlOK.share0 {sl : List Int} (h : SlOK sl) : share sl = false := by
 refine WO sl (fun i hi j hj => ?_);unfold Rc Rt
 simpa using h.two i j hi hj
theorem Z8 {sl : List Int} (h : SlOK sl) (raw pP : List Int) (e : raw.drop 148 = pP.drop 148) : ∀ k, k ≤ 32 → Qf raw sl k = Qf pP sl k
 | 0, _ => rfl
 | k + 1, hk => by
  rw [Qf, Qf, Z8 h raw pP e k (by omega)]
  split
  ·rfl
  ·rename_i h0
   have h1 := h.one k (by omega)
   have hs : stretch raw (sl.getD (2 * k) 0) (sl.getD (2 * k + 1) 0) = stretch pP (sl.getD (2 * k) 0) (sl.getD (2 * k + 1) 0) := by
    unfold stretch;obtain ⟨m, hm⟩ : ∃ m, (sl.getD (2 * k) 0).toNat = 148 + m := ⟨(sl.getD (2 * k) 0).toNat - 148, by omega⟩;rw [hm, ← List.drop_drop, ← List.drop_drop, e]
   rw [hs]
/-! ### The page that is set -/
def UN (sum : List Int) (lsn num bt : Int) (sl body : List Int) (s : Nat) (d : List Int) : List Int :=
 Py sum lsn num (bt - d.length) ((sl.set (2 * s) (bt - d.length)).set (2 * s + 1) d.length) (PX body (bt - d.length).toNat d)
def Tt (raw : List Int) (s : Nat) (u : Bool) (d : List Int) (lsn : Int) : List Int :=
 if u = false then Py (raw.take 4) lsn (O4 raw 12 4) (O4 raw 16 2) (sl0 (slotsOf raw) s) raw
 else if O4 raw 16 2 - 148 < d.length then UN (raw.take 4) lsn (O4 raw 12 4) (QC (sl0 (slotsOf raw) s) 32) (cSl (sl0 (slotsOf raw) s) 32) (Qf raw (sl0 (slotsOf raw) s) 32) s d
 else UN (raw.take 4) lsn (O4 raw 12 4) (O4 raw 16 2) (sl0 (slotsOf raw) s) raw s d
def Rk (raw : List Int) (s : Int) (u : Bool) (d : List Int) (lsn : Int) : Bool := !PK raw || (decide (s < 0) || (decide (32 ≤ s) || (decide (lsn < 0) || (decide (1099511627776 < lsn) || (decide (1000 < d.length) || (!u && decide (0 < d.length)))))))
def R5 (raw : List Int) (s : Nat) (d : List Int) : Prop := 3948 < PS (slotsOf raw) 32 - (slotsOf raw).getD (2 * s + 1) 0 + d.length
def jaP (raw : List Int) (s : Nat) (d : List Int) : Decidable (R5 raw s d) := inferInstanceAs (Decidable (_ < _))
def Ru (raw : List Int) (s : Int) (u : Bool) (d : List Int) (lsn : Int) : Int × List Int :=
 if Rk raw s u d lsn = true then (1, []) else @ite _ (R5 raw s.toNat d) (jaP raw s.toNat d) (2, []) (0, Tt raw s.toNat u d lsn)
theorem jbc {raw : List Int} (h : PK raw = true) (lsn : Int) : PX raw 4 (O5 lsn 8) = Py (raw.take 4) lsn (O4 raw 12 4) (O4 raw 16 2) (slotsOf raw) raw := by
 have hl := Qx h
 conv => lhs; rw [← (V6 h).1]
 rw [jc1 (by rw [List.length_take, hl]; rfl) (Pb raw)]
theorem Xf {sum : List Int} {lsn num bot : Int} {sl raw : List Int} (h1 : sum.length = 4) (h2 : sl.length = 64) (s : Nat) (hs : s < 32) (x y : Int) :
  PX (PX (Py sum lsn num bot sl raw) (20 + 4 * s) (O5 x 2)) (20 + 4 * s + 2) (O5 y 2) = Py sum lsn num bot ((sl.set (2 * s) x).set (2 * s + 1) y) raw := by
 rw [show 20 + 4 * s = 20 + 2 * (2 * s) from by omega, Uo h1 h2 (2 * s) x (by omega), show 20 + 2 * (2 * s) + 2 = 20 + 2 * (2 * s + 1) from by omega, Uo h1 (by rw [List.length_set]; exact h2) (2 * s + 1) y (by omega)]
theorem jc5 {sum : List Int} {lsn num bot : Int} {sl raw : List Int} (h : EncOK sum lsn num bot sl raw) (bj : SlOK sl) (hw : PK (Py sum lsn num bot sl raw) = true) :
  Qg (Py sum lsn num bot sl raw) = Py sum lsn num (QC sl 32) (cSl sl 32) (Qf raw sl 32) := by
 obtain ⟨d1, d2, d3⟩ := h.dec;unfold Qg;rw [if_pos hw];unfold Uf;rw [h.sum4, d1, d2, h.slots, Z8 bj _ raw h.behind 32 (Nat.le_refl _)]
theorem jc6 {raw : List Int} (hB : IsB raw) (bj : PK raw = true) (s : Nat) (lsn : Int) (hL : QM lsn = true) :
  EncOK (raw.take 4) lsn (O4 raw 12 4) (O4 raw 16 2) (sl0 (slotsOf raw) s) raw ∧ PK (Py (raw.take 4) lsn (O4 raw 12 4) (O4 raw 16 2) (sl0 (slotsOf raw) s) raw) = true := by
 have hl := Qx bj;obtain ⟨p1, p2, p3, p4⟩ := Rx bj;have n12 := Rq raw hB 12 4 (by decide) (by decide) (by omega);have cw := TH hB bj;have nZ := Qv raw hB hl
 have hE : EncOK (raw.take 4) lsn (O4 raw 12 4) (O4 raw 16 2) (sl0 (slotsOf raw) s) raw := by
  refine ⟨by rw [List.length_take, hl]; rfl, by rw [TK, Pb], hl, RO hL, by omega, by omega, fun x hx => ?_⟩;unfold sl0 at hx
  rcases List.mem_or_eq_of_mem_set hx with hx | rfl
  ·rcases List.mem_or_eq_of_mem_set hx with hx | rfl
   ·have := nZ x hx; omega
   ·omega
  ·omega
 refine ⟨hE, hE.own hL ⟨p1, p2⟩ (SlOK.astray0 (fun k hk => ?_)) (cw.zero s).share0⟩;obtain ⟨e1, e2⟩ := TM (slotsOf raw) s k;rw [e1, e2]
 by_cases e : k = s
 ·rw [if_pos e, if_pos e]; simp [Pg]
 ·rw [if_neg e, if_neg e]
  unfold QI at p3;rw [List.any_eq_false] at p3
  simpa using p3 k (List.mem_range.2 hk)
theorem jbd {sum : List Int} {lsn num bt : Int} {sl body : List Int} (h1 : sum.length = 4) (h2 : sl.length = 64) (h3 : body.length = 4096) (k : Nat) (hk : k < 32) (d : List Int) (bn : Nat) (iJ : bt - d.length = bn) (hb : 148 ≤ bn) (hd : bn + d.length ≤ 4096) :
  PX (PX (PX (PX (Py sum lsn num bt sl body) bn d) 16 (O5 (bn : Int) 2)) (20 + 4 * k) (O5 (bn : Int) 2)) (20 + 4 * k + 2) (O5 (d.length : Int) 2) = UN sum lsn num bt sl body k d := by
 rw [Ym h1 h2 h3 _ _ hb hd, Z7 h1 h2, Xf h1 h2 k hk];unfold UN;rw [iJ, Int.toNat_natCast]
theorem V8 {sum : List Int} {lsn num bot : Int} {sl raw : List Int} (h1 : sum.length = 4) (h2 : sl.length = 64) (hs : IsB sum) (hr : IsB raw) : IsB (Py sum lsn num bot sl raw) := by
 rw [QE _ _ _ _ _ _ h1 h2];unfold Rn slotB;intro x hx;simp only [List.mem_append, List.mem_flatMap] at hx
 rcases hx with ((((h | h) | h) | h) | h) | ⟨y, _, h⟩ | h
 ·exact hs x h
 ·exact QR _ _ x h
 ·exact QR _ _ x h
 ·exact QR _ _ x h
 ·exact QR _ _ x h
 ·exact QR _ _ x h
 ·exact Rp hr _ x h
def SetAns (ty : TypeId) (w w' : World) (e : Ending) (x : Int) (ys : List Int) : Prop := ∃ a c, e = .returned (.agg #[Q1 x, .slice a ys.length c]) ∧ (∀ b, (Value.slice a ys.length c).ownBlock = some b → w.heap.size ≤ b) ∧ Own 0 ty .u8 w' (.slice a ys.length c) ys ∧ Same w w'
theorem SetAns.none {ty : TypeId} {w w' : World} (x : Int) (h : Same w w') : SetAns ty w w' (.returned (.agg #[Q1 x, Q4])) x [] := ⟨_, _, rfl, fun b hb => by simp [Value.ownBlock] at hb, Own.nil _ _ _ _, h⟩
theorem V9 {sl : List Int} (hl : sl.length = 64) (s k : Nat) (hs : s < 32) (a b : Int) :
  (((sl.set (2 * s) a).set (2 * s + 1) b).getD (2 * k) 0 = if k = s then a else sl.getD (2 * k) 0) ∧ (((sl.set (2 * s) a).set (2 * s + 1) b).getD (2 * k + 1) 0 = if k = s then b else sl.getD (2 * k + 1) 0) := by
 simp only [List.getD_eq_getElem?_getD]
 by_cases e : k = s
 ·subst e
  rw [if_pos rfl, if_pos rfl, List.getElem?_set_ne (by omega), List.getElem?_set_self (by omega), List.getElem?_set_self (by rw [List.length_set]; omega)];exact ⟨rfl, rfl⟩
 ·rw [if_neg e, if_neg e, List.getElem?_set_ne (by omega), List.getElem?_set_ne (by omega), List.getElem?_set_ne (by omega), List.getElem?_set_ne (by omega)]
  exact ⟨rfl, rfl⟩
theorem Wd (sl : List Int) (hl : sl.length = 64) : ∀ n, n ≤ 32 → ∀ k, ((cSl sl n).getD (2 * k) 0 = if k < n ∧ ¬ sl.getD (2 * k) 0 = 0 then QC sl (k + 1) else sl.getD (2 * k) 0) ∧ (cSl sl n).getD (2 * k + 1) 0 = sl.getD (2 * k + 1) 0
 | 0, _, k => ⟨by rw [if_neg (by omega)]; rfl, rfl⟩
 | n + 1, hn, k => by
  obtain ⟨h1, h2⟩ := Wd sl hl n (by omega) k;rw [cSl]
  by_cases h0 : sl.getD (2 * n) 0 = 0
  ·rw [if_pos h0, h1, h2]
   refine ⟨?_, rfl⟩
   by_cases e : k = n
   ·subst e; rw [if_neg (by omega), if_neg (fun h => h.2 h0)]
   ·by_cases hx : k < n ∧ ¬ sl.getD (2 * k) 0 = 0
    ·rw [if_pos hx, if_pos ⟨by omega, hx.2⟩]
    ·rw [if_neg hx, if_neg (fun h => hx ⟨by omega, h.2⟩)]
  ·rw [if_neg h0]
   have hc : (cSl sl n).length = 64 := by rw [Qa, hl]
   refine ⟨?_, ?_⟩
   ·by_cases e : k = n
    ·subst e
     rw [if_pos ⟨by omega, h0⟩, List.getD_eq_getElem?_getD, List.getElem?_set_self (by omega)];rfl
    ·rw [List.getD_eq_getElem?_getD, List.getElem?_set_ne (by omega), ← List.getD_eq_getElem?_getD, h1]
     by_cases hx : k < n ∧ ¬ sl.getD (2 * k) 0 = 0
     ·rw [if_pos hx, if_pos ⟨by omega, hx.2⟩]
     ·rw [if_neg hx, if_neg (fun h => hx ⟨by omega, h.2⟩)]
   ·rw [List.getD_eq_getElem?_getD, List.getElem?_set_ne (by omega), ← List.getD_eq_getElem?_getD, h2]
theorem SlOK.botMono {sl : List Int} (h : SlOK sl) : ∀ (n m : Nat), m + n ≤ 32 → QC sl (m + n) ≤ QC sl m
 | 0, m, _ => Int.le_refl _
 | n + 1, m, hm => by
  have h1 := h.botMono n m (by omega);have h2 := RA sl (m + n);have h3 := h.one (m + n) (by omega);rw [show m + (n + 1) = m + n + 1 from by omega];omega
def From (bot : Int) (sl : List Int) : Prop := ∀ k, k < 32 → ¬ sl.getD (2 * k) 0 = 0 → bot ≤ sl.getD (2 * k) 0
theorem SlOK.comp {sl : List Int} (h : SlOK sl) (hl : sl.length = 64) : SlOK (cSl sl 32) ∧ From (QC sl 32) (cSl sl 32) := by
 have at0 := fun k => Wd sl hl 32 (Nat.le_refl _) k
 have mono := fun a b (qH : a ≤ b) (hb : b ≤ 32) => (by have := h.botMono (b - a) a (by omega); rw [show a + (b - a) = b from by omega] at this; exact this : QC sl b ≤ QC sl a)
 refine ⟨⟨fun k hk => ?_, fun i j hi hj => ?_⟩, fun k hk h0 => ?_⟩
 ·obtain ⟨e1, e2⟩ := at0 k
  rw [e1, e2];have h1 := h.one k hk;have hb := h.bot (k + 1) (by omega);have cq := h.bot k (by omega);have hs := RA sl k
  by_cases h0 : sl.getD (2 * k) 0 = 0
  ·rw [if_neg (fun x => x.2 h0)]; exact h1
  ·rw [if_pos ⟨hk, h0⟩]; omega
 ·obtain ⟨e1, e2⟩ := at0 i
  obtain ⟨e3, e4⟩ := at0 j;rw [e1, e2, e3, e4];have h1 := h.one i hi;have h2 := h.one j (by omega);have s1 := RA sl i;have s2 := RA sl j;have m1 := mono (j + 1) i hj (by omega);have b1 := h.bot (i + 1) (by omega);have b2 := h.bot (j + 1) (by omega)
  by_cases h0 : sl.getD (2 * i) 0 = 0
  ·rw [if_neg (fun x => x.2 h0)]
   by_cases h3 : sl.getD (2 * j) 0 = 0
   ·rw [if_neg (fun x => x.2 h3)]; omega
   ·rw [if_pos ⟨by omega, h3⟩]; omega
  ·rw [if_pos ⟨hi, h0⟩]
   by_cases h3 : sl.getD (2 * j) 0 = 0
   ·rw [if_neg (fun x => x.2 h3)]; omega
   ·rw [if_pos ⟨by omega, h3⟩]; omega
 ·rw [(at0 k).1] at h0 ⊢
  by_cases h3 : sl.getD (2 * k) 0 = 0
  ·rw [if_neg (fun x => x.2 h3)] at h0; exact absurd h3 h0
  ·rw [if_pos ⟨hk, h3⟩]; exact mono (k + 1) 32 (by omega) (Nat.le_refl _)
theorem SlOK.put {sl : List Int} (h : SlOK sl) (hl : sl.length = 64) {bt : Int} (hf : From bt sl) (s : Nat) (hs : s < 32) (n : Nat) (hb : 148 ≤ bt - n) (Dk : bt ≤ 4096) (hn : n ≤ 1000) :
  SlOK ((sl.set (2 * s) (bt - n)).set (2 * s + 1) (n : Int)) ∧ From (bt - n) ((sl.set (2 * s) (bt - n)).set (2 * s + 1) (n : Int)) := by
 have at0 := fun k => V9 hl s k hs (bt - n) (n : Int)
 have far := fun k (hk : k < 32) => (by have h1 := h.one k hk; have h2 := hf k hk; omega : (sl.getD (2 * k) 0 = 0 ∧ sl.getD (2 * k + 1) 0 = 0) ∨ (bt ≤ sl.getD (2 * k) 0 ∧ 0 ≤ sl.getD (2 * k + 1) 0))
 refine ⟨⟨fun k hk => ?_, fun i j hi hj => ?_⟩, fun k hk h0 => ?_⟩
 ·rw [(at0 k).1, (at0 k).2]
  by_cases e : k = s
  ·rw [if_pos e, if_pos e]; omega
  ·rw [if_neg e, if_neg e]; exact h.one k hk
 ·rw [(at0 i).1, (at0 i).2, (at0 j).1, (at0 j).2]
  have f1 := far i hi;have f2 := far j (by omega)
  by_cases e : i = s
  ·rw [if_pos e, if_pos e, if_neg (by omega), if_neg (by omega)]; omega
  ·rw [if_neg e, if_neg e]
   by_cases e2 : j = s
   ·rw [if_pos e2, if_pos e2]; omega
   ·rw [if_neg e2, if_neg e2]; exact h.two i j hi hj
 ·rw [(at0 k).1] at h0 ⊢
  by_cases e : k = s
  ·rw [if_pos e]; omega
  ·rw [if_neg e] at h0 ⊢
   have := hf k hk h0;omega
theorem SlOK.all {sl : List Int} (h : SlOK sl) (hl : sl.length = 64) : ∀ x ∈ sl, 0 ≤ x ∧ x ≤ 65535 := by
 intro x hx;obtain ⟨j, hj, rfl⟩ := List.mem_iff_getElem.1 hx
 have e : sl[j] = sl.getD j 0 := by simp [hj]
 rw [e]
 rcases Nat.mod_two_eq_zero_or_one j with h2 | h2
 ·obtain ⟨k, rfl⟩ : ∃ k, j = 2 * k := ⟨j / 2, by omega⟩
  have := h.one k (by omega);omega
 ·obtain ⟨k, rfl⟩ : ∃ k, j = 2 * k + 1 := ⟨j / 2, by omega⟩
  have := h.one k (by omega);omega
theorem EncOK.own' {sum : List Int} {lsn num bot : Int} {sl raw : List Int} (h : EncOK sum lsn num bot sl raw) (hL : QM lsn = true) (hb : 148 ≤ bot ∧ bot ≤ 4096) (hs : SlOK sl) (hf : From bot sl) : PK (Py sum lsn num bot sl raw) = true := by
 refine h.own hL hb (SlOK.astray0 (fun k hk => ?_)) hs.share0;have h1 := hs.one k hk;have h2 := hf k hk;unfold Pg
 by_cases h0 : sl.getD (2 * k) 0 = 0
 ·have : sl.getD (2 * k + 1) 0 = 0 := by omega
  rw [h0, this]; simp
 ·have h3 := h2 h0
  have g1 : ¬ 1000 < sl.getD (2 * k + 1) 0 := by omega
  have g2 : ¬ sl.getD (2 * k) 0 < bot := by omega
  have g3 : ¬ 4096 < sl.getD (2 * k) 0 + sl.getD (2 * k + 1) 0 := by omega
  have g4 : (sl.getD (2 * k) 0 == 0) = false := by simpa using h0
  rw [decide_eq_false g1, decide_eq_false g2, decide_eq_false g3, g4];simp
theorem jc7 {raw : List Int} (hB : IsB raw) (bj : PK raw = true) : From (O4 raw 16 2) (slotsOf raw) := by
 intro k hk h0;obtain ⟨_, _, p3, _⟩ := Rx bj;unfold QI at p3;rw [List.any_eq_false] at p3;have h1 := p3 k (List.mem_range.2 hk);apply Classical.byContradiction;intro hn;apply h1;unfold Pg
 have g : ((slotsOf raw).getD (2 * k) 0 != 0) = true := by simpa using h0
 have g2 : decide ((slotsOf raw).getD (2 * k) 0 < O4 raw 16 2) = true := decide_eq_true (by omega);rw [g, g2];simp
theorem From.zero {bot : Int} {sl : List Int} (h : From bot sl) (s : Nat) : From bot (sl0 sl s) := by
 intro k hk h0;rw [(TM sl s k).1] at h0 ⊢
 by_cases e : k = s
 ·rw [if_pos e] at h0; exact absurd rfl h0
 ·rw [if_neg e] at h0 ⊢; exact h k hk h0
theorem TN {a d : List Int} (ha : IsB a) (hd : IsB d) (o : Nat) : IsB (PX a o d) := by
 intro x hx;unfold PX at hx
 rcases List.mem_append.1 hx with h | h
 ·exact ha x (List.mem_of_mem_take h)
 ·rcases List.mem_append.1 h with h | h
  ·exact hd x h
  ·exact ha x (List.mem_of_mem_drop h)
theorem Tv {raw : List Int} (h : IsB raw) (sl : List Int) : ∀ k, IsB (Qf raw sl k)
 | 0 => fun x hx => by rw [Qf] at hx; rw [List.eq_of_mem_replicate hx]; omega
 | k + 1 => by
  rw [Qf]
  split
  ·exact Tv h sl k
  ·exact TN (Tv h sl k) (Qz (Rp h _) _) _
theorem Z9 {sum : List Int} {lsn num bot : Int} {sl r r' : List Int} (h1 : sum.length = 4) (h2 : sl.length = 64) (e : r.drop 148 = r'.drop 148) : Py sum lsn num bot sl r = Py sum lsn num bot sl r' := by
 rw [QE _ _ _ _ _ _ h1 h2, QE _ _ _ _ _ _ h1 h2, e]
def PgAt (w : World) (P : Nat) (E : List Int) : Prop := ∃ r : List Int, r.drop 148 = E.drop 148 ∧ SP w P (E.take 4) (O4 E 4 8) (O4 E 12 4) (O4 E 16 2) (slotsOf E) r
theorem PgAt.same {w w' : World} {P : Nat} {E : List Int} (h : PgAt w P E) (hk : Same w w') : PgAt w' P E := h.imp fun r x => ⟨x.1, x.2.same hk⟩
theorem PgAt.of {w : World} {P : Nat} {sum : List Int} {lsn num b : Int} {sl r r' : List Int} (hE : EncOK sum lsn num b sl r) (e : r'.drop 148 = r.drop 148) (h : SP w P sum lsn num b sl r') : PgAt w P (Py sum lsn num b sl r) := by
 obtain ⟨d1, d2, d3⟩ := hE.dec;refine ⟨r', by rw [hE.behind, e], ?_⟩;rw [hE.sum4, d1, d2, d3, hE.slots];exact h
theorem PgAt.enc {w : World} {P : Nat} {E : List Int} (h : PgAt w P E) (bj : PK E = true) : ∃ r, SP w P (E.take 4) (O4 E 4 8) (O4 E 12 4) (O4 E 16 2) (slotsOf E) r ∧ Py (E.take 4) (O4 E 4 8) (O4 E 12 4) (O4 E 16 2) (slotsOf E) r = E := by
 obtain ⟨r, e, h⟩ := h;exact ⟨r, h, by rw [Z9 h.l1 h.l2 e]; exact (V6 bj).1⟩
def newB (n : Int) : List Int := List.replicate 12 0 ++ O5 n 4 ++ O5 4096 2 ++ List.replicate 4078 0
theorem R9 (n : Int) : (newB n).length = 4096 := by
 unfold newB;rw [List.length_append, List.length_append, List.length_append, OY, OY, List.length_replicate, List.length_replicate]
theorem jaa (n : Int) : IsB (newB n) := by
 intro y hy;simp only [newB, List.mem_append] at hy
 rcases hy with ((h | h) | h) | h
 ·have := List.eq_of_mem_replicate h; omega
 ·exact QR n 4 y h
 ·exact QR 4096 2 y h
 ·have := List.eq_of_mem_replicate h; omega
theorem jc8 (n : Int) : Py (List.replicate 4 0) 0 n 4096 (List.replicate 64 0) (List.replicate 4096 0) = newB n := by
 have e1 : slotB (List.replicate 64 0) = List.replicate 128 0 := by decide +kernel
 have e2 : O5 0 8 = List.replicate 8 0 := by decide
 have e3 : O5 0 2 = List.replicate 2 0 := by decide
 unfold Py Rn newB cont;rw [e1, e2, e3]
 have e4 : ((List.replicate 4 (0 : Int) ++ List.replicate 8 0 ++ O5 n 4 ++ O5 4096 2 ++ List.replicate 2 0 ++ List.replicate 128 0).length) = 148 := by simp [OY]
 rw [e4, List.drop_replicate];simp only [List.append_assoc, List.replicate_append_replicate]
def Qt (n : Int) : List Int := if n < 0 ∨ 16 ≤ n then [] else Rb (newB n)
theorem jaQ (k n : Nat) (h : k ≤ n) : cont (List.replicate k 0) (List.replicate n 0) = List.replicate n 0 := by
 unfold cont;rw [List.length_replicate, List.drop_replicate, List.replicate_append_replicate]
 congr 1
 omega
theorem jbY (n : Int) : cont (List.replicate 12 0 ++ O5 n 4 ++ O5 4096 2) (List.replicate 4096 0) = newB n := by
 unfold cont newB
 have e : (List.replicate 12 (0 : Int) ++ O5 n 4 ++ O5 4096 2).length = 18 := by simp [OY]
 rw [e, List.drop_replicate]
theorem jaR (x n : Int) (hn : 1 ≤ n) (kz : n ≤ 8) (h0 : 0 ≤ x) (h1 : x / 256 ^ n.toNat = 0) : OW x n = O5 x n.toNat := by
 unfold OW;rw [if_neg (by omega)]
theorem Yn {base g n c : Nat} {e : TypeId} {w : World} {bs : List Int} (h : Own base e .u8 w (Q3 g n c) bs) (hn : n = bs.length) (j : Nat) (u : Value) (hu : (vals .u8 bs)[j]? = some u) : w.cell? ((⟨g, 0, none⟩ : Addr).add j) = some u := by
 have hj : j < bs.length := by have := (List.getElem?_eq_some_iff.1 hu).1; rwa [O1] at this
 rw [addr_add, Nat.zero_add, h.cell hn j (by omega), ← hu, Qp _ _ _ hj]
theorem SB {base n c : Nat} {a : Option Addr} {e : TypeId} {w : World} {bs : List Int} (h : Own base e .u8 w (.slice a n c) bs) (hn : 0 < bs.length) : ∃ g, a = some ⟨g, 0, none⟩ := by
 rcases h.form with ⟨_, h0⟩ | ⟨g, cap, e, _⟩
 ·rw [h0] at hn
  simp at hn
 ·cases e
  exact ⟨g, rfl⟩
theorem jab (n : Int) (w : World) (h0 : 0 ≤ n) (h1 : n < 16) :
  Calls Tryz.prog 100 #[Q1 n] w fun e w' => ∃ a c, e = .returned (.slice a (Qt n).length c) ∧ (∀ b, (Value.slice a (Qt n).length c).ownBlock = some b → w.heap.size ≤ b) ∧
   Own 0 5 .u8 w' (.slice a (Qt n).length c) (Qt n) ∧ Same w w' := by
 have hR : Qt n = Qo (newB n) := by unfold Qt Qo; rw [if_neg (by omega), if_pos (R9 n)]
 rw [hR];clear hR;obtain ⟨i0, hi, b8, cE, cP⟩ := info_parts Tryz.infoByte';have qX : Hid (OW n 4 = O5 n 4) := jaR n 4 (by decide) (by decide) h0 (by rw [show (256 : Int) ^ (4 : Int).toNat = 4294967296 from rfl]; omega);have lq : Hid (OW 4096 2 = O5 4096 2) := (by decide : OW 4096 2 = O5 4096 2)
 go_enter Tryz.func100, Tryz.ntmps100
 go_wp2_with (at_make; refine wpList_make_full _ rfl _ _ 22 rfl 0 5 i0 (.int .u8 0) 1 Tryz.underlying22 hi b8 cE .i64 .i64 _ _ 4096 rfl rfl (by first | rfl | simp) (by first | rfl | simp) (by rw [cP]; decide) (by decide) (Nat.zero_le _) ?_; intro w1 bm aV; have bQ : Hid (Blk w1 w.heap.size 5 (vals .u8 (cont (List.replicate 12 0) (List.replicate 4096 0)))) := (by rw [jaQ 12 4096 (by decide)]; exact Own.blk (Tc (by simpa using bm))); have aN : Hid (Same w w1) := Kept.of_grown aV (fun k e => by cases e); clear bm aV)
 have fG := bQ.out.lt
 have hS : (fun _ : World => True) w1.drew := by trivial
 refine O0 (fun _ : World => True) 99 5 ?_;refine tk 0 12 hS ?_;refine tk 1 13 hS ?_;refine tk 2 14 hS ?_;refine o1Q 3 (fun K hK => ?_);go_simp;have hc := QV n 4 w1.drew ⟨by omega, by omega⟩ ⟨by decide, by decide⟩
 with_reducible refine hc.mono ?_
 clear hc;rintro e w2 ⟨a2, c2, rfl, iq, eZ, aj⟩;rw [qX.out, OY] at iq eZ ⊢;obtain ⟨g2, rfl⟩ := SB eZ (by rw [OY]; decide);have As := iq g2 rfl;have cG : Hid (Own 0 5 .u8 w2 (Q3 g2 4 c2) (O5 n 4)) := eZ;have my : Same w1 w2 := kZ0.drew.trans aj;have eI := hid (bQ.out.same my);have aO := hid (aN.out.trans my);clear iq eZ aj my;refine hK.out _ _ (fun _ => trivial) ?_;clear hK K
 try simp only [Sp]
 refine o1Q 4 (fun K hK => ?_);refine SV (by rfl) _ _ 22 (by rfl) Tryz.underlying22 byte_size (vals .u8 (O5 n 4)) eI.out (by rfl) (by rfl) (by rw [O1, OY]; decide) (Yn cG.out (by rw [OY])) (by rw [O1, O1, OY, Qe _ _ (by rw [List.length_replicate, List.length_replicate]; decide), List.length_replicate]; decide) Qy ?_;have eg := Blk.more 12 (O5 n 4) (eI.out.setCells (vals .u8 (O5 n 4)) 12 (by rw [O1, O1, OY, Qe _ _ (by rw [List.length_replicate, List.length_replicate]; decide), List.length_replicate]; decide)) (by rw [List.length_replicate]) (by rw [List.length_replicate, List.length_replicate, OY]; decide);have aZ := Kept.setCells (R := fun _ => False) (a := w) (B := w.heap.size) (.inl (Nat.le_refl _)) (vals .u8 (O5 n 4)) 12 aO.out;obtain ⟨w3, Af⟩ : ∃ w3, w2.setCells w.heap.size 12 (vals .u8 (O5 n 4)) = w3 := ⟨_, rfl⟩;rw [Af] at eg aZ ⊢;have lU : Hid (Blk w3 w.heap.size 5 (vals .u8 (cont (List.replicate 12 0 ++ O5 n 4) (List.replicate 4096 0)))) := eg;have bo : Hid (Same w w3) := aZ;clear Af eg aZ eI aO bQ aN cG
 show K (Act.put _ (some 16) (goInt (vals .u8 (O5 n 4)).length)) _
 refine hK.out _ _ (fun _ => trivial) ?_;clear hK K hS;refine OZ ?_
 try simp only [Sp]
 go_wp2_with fail
 have hS : (fun _ : World => True) w3.drew := by trivial
 refine O0 (fun _ : World => True) 99 4 ?_;refine tk 0 17 hS ?_;refine tk 1 18 hS ?_;refine o1Q 2 (fun K hK => ?_);go_simp;have hc := QV 4096 2 w3.drew ⟨by decide, by decide⟩ ⟨by decide, by decide⟩
 with_reducible refine hc.mono ?_
 clear hc;rintro e w4 ⟨a4, c4, rfl, m4, gY, cS⟩;rw [lq.out, OY] at m4 gY ⊢;obtain ⟨g4, rfl⟩ := SB gY (by rw [OY]; decide);have dV : Hid (Own 0 5 .u8 w4 (Q3 g4 2 c4) (O5 4096 2)) := gY;have iU : Same w3 w4 := kZ0.drew.trans cS;have oU := hid (lU.out.same iU);have bp := hid (bo.out.trans iU);clear m4 gY cS iU;refine hK.out _ _ (fun _ => trivial) ?_;clear hK K
 try simp only [Sp]
 refine o1Q 3 (fun K hK => ?_)
 have tl : (List.replicate 12 (0 : Int) ++ O5 n 4).length = 16 := by rw [List.length_append, List.length_replicate, OY]
 have gA : (cont (List.replicate 12 0 ++ O5 n 4) (List.replicate 4096 0)).length = 4096 := by rw [Qe _ _ (by rw [tl, List.length_replicate]; decide), List.length_replicate]
 refine SV (by rfl) _ _ 22 (by rfl) Tryz.underlying22 byte_size (vals .u8 (O5 4096 2)) oU.out (by rfl) (by rfl) (by rw [O1, OY]; decide) (Yn dV.out (by rw [OY])) (by rw [O1, O1, OY, gA]; decide) Qy ?_;have pC := Blk.more 16 (O5 4096 2) (oU.out.setCells (vals .u8 (O5 4096 2)) 16 (by rw [O1, O1, OY, gA]; decide)) tl.symm (by rw [tl, List.length_replicate, OY]; decide);rw [jbY] at pC;have bF := Kept.setCells (R := fun _ => False) (a := w) (B := w.heap.size) (.inl (Nat.le_refl _)) (vals .u8 (O5 4096 2)) 16 bp.out;obtain ⟨w5, wo⟩ : ∃ w5, w4.setCells w.heap.size 16 (vals .u8 (O5 4096 2)) = w5 := ⟨_, rfl⟩;rw [wo] at pC bF ⊢;have B3 := Blk.own pC (by rw [R9]; decide);rw [R9] at B3;have cd : Hid (Same w w5) := bF;have Lr := UX (.slice (some ⟨w.heap.size, 0, none⟩) 4096 4096) (newB n) w5 (jaa n) (by rw [R9]; decide) B3.rd;clear wo pC bF oU bp dV lU bo B3
 show K (Act.put _ (some 20) (goInt (vals .u8 (O5 4096 2)).length)) _
 refine hK.out _ _ (fun _ => trivial) ?_;clear hK K hS;refine OZ ?_
 try simp only [Sp]
 go_wp2_with fail
 with_reducible refine Lr.mono ?_
 rintro e w6 ⟨a6, c6, rfl, Lj, M4, dX⟩;have Kw := cd.out.size;go_wp2;go_ret;exact ⟨a6, c6, rfl, fun b hb => Nat.le_trans Kw (Lj b hb), M4, cd.out.trans dX⟩
theorem jac (n : Int) (w : World) :
  Calls Tryz.prog 100 #[Q1 n] w fun e w' => ∃ a c, e = .returned (.slice a (Qt n).length c) ∧ (∀ b, (Value.slice a (Qt n).length c).ownBlock = some b → w.heap.size ≤ b) ∧
   Own 0 5 .u8 w' (.slice a (Qt n).length c) (Qt n) ∧ Same w w' := by
 by_cases h : n < 0 ∨ 16 ≤ n
 ·have hR : Qt n = [] := by unfold Qt; rw [if_pos h]
  rw [hR]
  rcases h with h | h <;>
  (go_enter Tryz.func100, Tryz.ntmps100
   go_wp2;go_ret
   exact ⟨some ⟨w.heap.size, 0, none⟩, 0, rfl, fun b hb => by simp [Value.ownBlock] at hb; omega, Own.empty _ _, kZ0.alloc _⟩)
 ·exact jab n w (by omega) (by omega)
theorem jad (xs ys : List Int) (o : Nat) (h : o + ys.length ≤ xs.length) (i : Nat) : (PX xs o ys)[i]? = if i < o then xs[i]? else if i < o + ys.length then ys[i - o]? else xs[i]? := by
 unfold PX;rw [List.getElem?_append, List.length_take, Nat.min_eq_left (by omega)]
 by_cases h1 : i < o
 ·rw [if_pos h1, if_pos h1, List.getElem?_take, if_pos h1]
 ·rw [if_neg h1, if_neg h1, List.getElem?_append]
  by_cases h2 : i < o + ys.length
  ·rw [if_pos (by omega), if_pos h2]
  ·rw [if_neg (by omega), if_neg h2, List.getElem?_drop]
   congr 1
   omega
theorem Ug (raw : List Int) (x y : Int) (i : Nat) : (stretch raw x y)[i]? = if i < y.toNat then raw[x.toNat + i]? else none := by
 unfold stretch;rw [List.getElem?_take]
 split
 ·rw [List.getElem?_drop]
 ·rfl
theorem VN (body d : List Int) (o : Nat) (x y : Int) (h : o + d.length ≤ body.length) (hd : x.toNat + y.toNat ≤ o ∨ o + d.length ≤ x.toNat) : stretch (PX body o d) x y = stretch body x y := by
 apply List.ext_getElem?;intro i;rw [Ug, Ug]
 by_cases hi : i < y.toNat
 ·rw [if_pos hi, if_pos hi, jad _ _ _ h]
  rcases hd with hd | hd
  ·rw [if_pos (by omega)]
  ·rw [if_neg (by omega), if_neg (by omega)]
 ·rw [if_neg hi, if_neg hi]
theorem Xg (body d : List Int) (o : Nat) (x y : Int) (h : o + d.length ≤ body.length) (hx : x.toNat = o) (hy : y.toNat = d.length) : stretch (PX body o d) x y = d := by
 apply List.ext_getElem?;intro i;rw [Ug, hy, hx]
 by_cases hi : i < d.length
 ·rw [if_pos hi, jad _ _ _ h, if_neg (by omega), if_pos (by omega)]
  congr 1
  omega
 ·rw [if_neg hi, List.getElem?_eq_none (by omega)]
theorem Xh {r r' : List Int} (e : r.drop 148 = r'.drop 148) {x : Int} (hx : 148 ≤ x) (y : Int) : stretch r x y = stretch r' x y := by
 unfold stretch;obtain ⟨m, hm⟩ : ∃ m, x.toNat = 148 + m := ⟨x.toNat - 148, by omega⟩;rw [hm, ← List.drop_drop, ← List.drop_drop, e]
theorem Us {sl : List Int} (h : SlOK sl) (raw : List Int) (hl : raw.length = 4096) : ∀ m, m ≤ 32 → ∀ k, k < m → ¬ sl.getD (2 * k) 0 = 0 → stretch (Qf raw sl m) (QC sl (k + 1)) (sl.getD (2 * k + 1) 0) = stretch raw (sl.getD (2 * k) 0) (sl.getD (2 * k + 1) 0)
 | 0, _, k, hk, _ => absurd hk (by omega)
 | m + 1, hm, k, hk, h0 => by
  have hb := h.body raw hl m (by omega);have i6 := h.bot (m + 1) hm;have yM := h.bot m (by omega);have hs := RA sl m;rw [Qf]
  by_cases hz : sl.getD (2 * m) 0 = 0
  ·rw [if_pos hz]
   by_cases e : k = m
   ·subst e; exact absurd hz h0
   ·exact Us h raw hl m (by omega) k (by omega) h0
  ·rw [if_neg hz]
   have h1 := h.one m (by omega);have cw := RG raw (sl.getD (2 * m) 0) (sl.getD (2 * m + 1) 0) hl (by omega) (by omega) (by omega)
   by_cases e : k = m
   ·subst e
    exact Xg _ _ _ _ _ (by rw [cw, hb]; omega) rfl cw.symm
   ·have za := h.botMono (m - (k + 1)) (k + 1) (by omega)
    rw [show k + 1 + (m - (k + 1)) = m from by omega] at za;rw [VN _ _ _ _ _ (by rw [cw, hb]; omega) (.inr (by rw [cw]; omega))];exact Us h raw hl m (by omega) k (by omega) h0
theorem Uh {a b : List Int} (h : ∀ k, k < 32 → a.getD (2 * k + 1) 0 = b.getD (2 * k + 1) 0) : ∀ n, n ≤ 32 → PS a n = PS b n
 | 0, _ => rfl
 | n + 1, hn => by rw [PS, PS, Uh h n (by omega), h n (by omega)]
theorem Xi {sl : List Int} (hl : sl.length = 64) (s : Nat) (hs : s < 32) (a b : Int) : ∀ n, n ≤ 32 → PS ((sl.set (2 * s) a).set (2 * s + 1) b) n = PS sl n + (if s < n then b - sl.getD (2 * s + 1) 0 else 0)
 | 0, _ => by simp [PS]
 | n + 1, hn => by
  rw [PS, PS, Xi hl s hs a b n (by omega), (V9 hl s n hs a b).2]
  by_cases e : n = s
  ·subst e
   rw [if_pos rfl, if_neg (by omega), if_pos (by omega)];omega
  ·rw [if_neg e]
   by_cases h : s < n
   ·rw [if_pos h, if_pos (by omega)]; omega
   ·rw [if_neg h, if_neg (by omega)]; omega
section
variable {sum : List Int} {lsn num bot : Int} {sl raw : List Int}
theorem EncOK.get (h : EncOK sum lsn num bot sl raw) (bj : PK (Py sum lsn num bot sl raw) = true) (hs : SlOK sl) (k : Nat) (hk : k < 32) :
  QD (Py sum lsn num bot sl raw) (k : Int) = if sl.getD (2 * k) 0 = 0 then (false, []) else (true, stretch raw (sl.getD (2 * k) 0) (sl.getD (2 * k + 1) 0)) := by
 by_cases h0 : sl.getD (2 * k) 0 = 0
 ·rw [if_pos h0]
  exact Sq (.inr (.inr (.inr (by rw [h.slots]; exact h0))))
 ·rw [if_neg h0, SL bj hk (by rw [h.slots]; exact h0), h.slots]
  have := hs.one k hk;rw [Xh h.behind (by omega)]
theorem U7 {E : List Int} (bj : PK E = true) {n : Int} (hn : O4 E 12 4 = n) : Pm E n = 0 := by
 subst hn;unfold PK at bj;simp at bj;exact bj.2
end
structure Made (raw C : List Int) (lsn used : Int) (gt : Nat → Bool × List Int) : Prop where
 isB : IsB C
 len : C.length = 4096
 own : PK C = true
 fault : Pm C (O4 raw 12 4) = 0
 lsn : VZ C = lsn
 used : Q8 C = used
 get : ∀ k : Nat, k < 32 → QD C (k : Int) = gt k
theorem Wh {raw : List Int} (bj : PK raw = true) (k : Nat) (hk : k < 32) : QD raw (k : Int) = if (slotsOf raw).getD (2 * k) 0 = 0 then (false, []) else (true, stretch raw ((slotsOf raw).getD (2 * k) 0) ((slotsOf raw).getD (2 * k + 1) 0)) := by
 by_cases h0 : (slotsOf raw).getD (2 * k) 0 = 0
 ·rw [if_pos h0]; exact Sq (.inr (.inr (.inr h0)))
 ·rw [if_neg h0]; exact SL bj hk h0
theorem jbZ {raw : List Int} (hB : IsB raw) (bj : PK raw = true) : Made raw (Uf raw) (VZ raw) (Q8 raw) (fun k => QD raw (k : Int)) ∧ O4 (Uf raw) 16 2 = 4096 - Q8 raw := by
 have hl := Qx bj;have n12 := Rq raw hB 12 4 (by decide) (by decide) (by omega);have cw := TH hB bj;have hz : (slotsOf raw).length = 64 := Pb raw
 have h4 : (raw.take 4).length = 4 := by rw [List.length_take, hl]; rfl
 have E6 : IsB (raw.take 4) := Qz hB 4;have hL := (V6 bj).2;have bk := cw.bot 32 (Nat.le_refl _);obtain ⟨c1, c2⟩ := cw.comp hz
 have uU : (cSl (slotsOf raw) 32).length = 64 := by rw [Qa, hz]
 have eC := cw.body raw hl 32 (Nat.le_refl _);have hE : EncOK (raw.take 4) (O4 raw 4 8) (O4 raw 12 4) (QC (slotsOf raw) 32) (cSl (slotsOf raw) 32) (Qf raw (slotsOf raw) 32) := ⟨h4, uU, eC, RO hL, by omega, by omega, c1.all uU⟩;have ag : PK (Uf raw) = true := hE.own' hL bk c1 c2;obtain ⟨d1, d2, d3⟩ := hE.dec;have at0 := fun k => Wd (slotsOf raw) hz 32 (Nat.le_refl _) k;refine ⟨⟨V8 h4 uU E6 (Tv hB _ _), hE.len, ag, U7 ag d2, ?_, ?_, fun k hk => ?_⟩, ?_⟩
 ·unfold VZ
  rw [if_pos ag, if_pos bj];exact d1
 ·unfold Q8
  rw [if_pos ag, if_pos bj, show slotsOf (Uf raw) = cSl (slotsOf raw) 32 from hE.slots];exact Uh (fun k _ => (at0 k).2) 32 (Nat.le_refl _)
 ·rw [show QD (Uf raw) (k : Int) = _ from hE.get ag c1 k hk, Wh bj k hk]
  have q1 := (at0 k).1;have q2 := (at0 k).2
  by_cases h0 : (slotsOf raw).getD (2 * k) 0 = 0
  ·rw [if_neg (fun x => x.2 h0)] at q1
   rw [q1, if_pos h0, if_pos h0]
  ·have aY := cw.bot (k + 1) (by omega)
   rw [if_pos ⟨hk, h0⟩] at q1;rw [q1, q2, if_neg (by omega), if_neg h0, Us cw raw hl 32 (Nat.le_refl _) k hk h0]
 ·rw [show O4 (Uf raw) 16 2 = _ from d3]
  unfold Q8 QC;rw [if_pos bj]
theorem jc9 {raw : List Int} (hB : IsB raw) (bj : PK raw = true) (s : Nat) (hs : s < 32) (u : Bool) (d : List Int) (Cw : IsB d) (lsn : Int) (hL : QM lsn = true) (hd : d.length ≤ 1000) (hu : u = false → d = []) (zl : ¬ R5 raw s d) :
  Made raw (Tt raw s u d lsn) lsn (PS (slotsOf raw) 32 - (slotsOf raw).getD (2 * s + 1) 0 + d.length) (fun k => if k = s then (u, d) else QD raw (k : Int)) := by
 have hl := Qx bj;obtain ⟨p1, p2, _, _⟩ := Rx bj;have n12 := Rq raw hB 12 4 (by decide) (by decide) (by omega);have cw := (TH hB bj).zero s
 have hz : (sl0 (slotsOf raw) s).length = 64 := by rw [TK, Pb]
 have h4 : (raw.take 4).length = 4 := by rw [List.length_take, hl]; rfl
 have E6 : IsB (raw.take 4) := Qz hB 4;have pL := (jc7 hB bj).zero s;have Ar := UM (slotsOf raw) s 32;rw [if_pos hs] at Ar;have b8 := fun k => TM (slotsOf raw) s k;unfold R5 at zl
 have sL : 148 ≤ QC (sl0 (slotsOf raw) s) 32 - d.length := by unfold QC; omega
 have fin : ∀ b sl r, (148 ≤ b ∧ b ≤ 4096) → SlOK sl → From b sl → sl.length = 64 → r.length = 4096 → IsB r → PS sl 32 = PS (slotsOf raw) 32 - (slotsOf raw).getD (2 * s + 1) 0 + d.length →
   (∀ k, k < 32 → (if sl.getD (2 * k) 0 = 0 then ((false, []) : Bool × List Int) else (true, stretch r (sl.getD (2 * k) 0) (sl.getD (2 * k + 1) 0))) = if k = s then (u, d) else QD raw (k : Int)) →
   Made raw (Py (raw.take 4) lsn (O4 raw 12 4) b sl r) lsn (PS (slotsOf raw) 32 - (slotsOf raw).getD (2 * s + 1) 0 + d.length) (fun k => if k = s then (u, d) else QD raw (k : Int)) := by
  intro b sl r hb h1 h2 h3 h5 h6 h7 h8;have hE : EncOK (raw.take 4) lsn (O4 raw 12 4) b sl r := ⟨h4, h3, h5, RO hL, by omega, by omega, h1.all h3⟩;have ag := hE.own' hL hb h1 h2;obtain ⟨d1, d2, d3⟩ := hE.dec;refine ⟨V8 h4 h3 E6 h6, hE.len, ag, U7 ag d2, ?_, ?_, fun k hk => ?_⟩
  ·unfold VZ
   rw [if_pos ag];exact d1
  ·unfold Q8
   rw [if_pos ag, hE.slots];exact h7
  ·rw [hE.get ag h1 k hk]
   exact h8 k hk
 cases u with
 | false =>
  have tI := hu rfl;subst tI;refine fin (O4 raw 16 2) (sl0 (slotsOf raw) s) raw ⟨p1, p2⟩ cw pL hz hl hB (by rw [Ar]; simp) (fun k hk => ?_)
  by_cases e : k = s
  ·have q1 := (b8 k).1
   rw [if_pos e] at q1;rw [q1, if_pos rfl, if_pos e]
  ·have q1 := (b8 k).1
   have q2 := (b8 k).2;rw [if_neg e] at q1 q2;rw [q1, q2, if_neg e, Wh bj k hk]
 | true =>
  have zI : ∀ (bt : Int) (sl r : List Int), sl.length = 64 → r.length = 4096 → IsB r → SlOK sl → From bt sl → (148 ≤ bt - d.length ∧ bt ≤ 4096) → PS sl 32 = PS (slotsOf raw) 32 - (slotsOf raw).getD (2 * s + 1) 0 → sl.getD (2 * s + 1) 0 = 0 →
    (∀ k, k < 32 → ¬ k = s → (if sl.getD (2 * k) 0 = 0 then ((false, []) : Bool × List Int) else (true, stretch r (sl.getD (2 * k) 0) (sl.getD (2 * k + 1) 0))) = QD raw (k : Int)) →
    Made raw (UN (raw.take 4) lsn (O4 raw 12 4) bt sl r s d) lsn (PS (slotsOf raw) 32 - (slotsOf raw).getD (2 * s + 1) 0 + d.length) (fun k => if k = s then (true, d) else QD raw (k : Int)) := by
   intro bt sl r h1 h2 J5 h3 h5 h6 h7 h8 h9;obtain ⟨q1, q2⟩ := h3.put h1 h5 s hs d.length h6.1 h6.2 hd;refine fin _ _ _ ⟨h6.1, by omega⟩ q1 q2 (by rw [List.length_set, List.length_set, h1]) (by rw [Pk _ _ _ (by omega), h2]) (TN J5 Cw _) ?_ (fun k hk => ?_)
   ·rw [Xi h1 s hs _ _ 32 (Nat.le_refl _), if_pos hs, h7, h8]
    omega
   ·rw [(V9 h1 s k hs _ _).1, (V9 h1 s k hs _ _).2]
    by_cases e : k = s
    ·rw [if_pos e, if_pos e, if_pos e, if_neg (by omega), Xg _ _ _ _ _ (by omega) rfl (by omega)]
    ·rw [if_neg e, if_neg e, if_neg e, ← h9 k hk e]
     by_cases h0 : sl.getD (2 * k) 0 = 0
     ·rw [if_pos h0, if_pos h0]
     ·have hf := h5 k hk h0
      have ho := h3.one k hk;rw [if_neg h0, if_neg h0, VN _ _ _ _ _ (by omega) (.inr (by omega))]
  by_cases hc : O4 raw 16 2 - 148 < d.length
  ·have bk := cw.bot 32 (Nat.le_refl _)
   obtain ⟨c1, c2⟩ := cw.comp hz
   have uU : (cSl (sl0 (slotsOf raw) s) 32).length = 64 := by rw [Qa, hz]
   have at0 := fun k => Wd (sl0 (slotsOf raw) s) hz 32 (Nat.le_refl _) k;have eC := cw.body raw hl 32 (Nat.le_refl _)
   have e0 : Tt raw s true d lsn = UN (raw.take 4) lsn (O4 raw 12 4) (QC (sl0 (slotsOf raw) s) 32) (cSl (sl0 (slotsOf raw) s) 32) (Qf raw (sl0 (slotsOf raw) s) 32) s d := by
    unfold Tt;rw [if_neg (by simp), if_pos hc]
   rw [e0];refine zI _ _ _ uU eC (Tv hB _ _) c1 c2 ⟨sL, bk.2⟩ ?_ ?_ (fun k hk e => ?_)
   ·rw [Uh (b := sl0 (slotsOf raw) s) (fun k _ => (at0 k).2) 32 (Nat.le_refl _), Ar]
   ·rw [(at0 s).2, (b8 s).2, if_pos rfl]
   ·rw [Wh bj k hk]
    have q1 := (at0 k).1;have q2 := (at0 k).2;have z1 := (b8 k).1;have z2 := (b8 k).2;rw [if_neg e] at z1 z2
    by_cases h0 : (slotsOf raw).getD (2 * k) 0 = 0
    ·have ov : (sl0 (slotsOf raw) s).getD (2 * k) 0 = 0 := by rw [z1]; exact h0
     rw [if_neg (fun x => x.2 ov)] at q1;rw [q1, if_pos ov, if_pos h0]
    ·have ov : ¬ (sl0 (slotsOf raw) s).getD (2 * k) 0 = 0 := by rw [z1]; exact h0
     have aY := cw.bot (k + 1) (by omega);rw [if_pos ⟨hk, ov⟩] at q1;rw [q1, q2, if_neg (by omega), if_neg h0, Us cw raw hl 32 (Nat.le_refl _) k hk ov, z1, z2]
  ·have e0 : Tt raw s true d lsn = UN (raw.take 4) lsn (O4 raw 12 4) (O4 raw 16 2) (sl0 (slotsOf raw) s) raw s d := by
    unfold Tt;rw [if_neg (by simp), if_neg hc]
   rw [e0];refine zI _ _ _ hz hl hB cw pL ⟨by omega, p2⟩ Ar (by rw [(b8 s).2, if_pos rfl]) (fun k hk e => ?_);rw [Wh bj k hk, (b8 k).1, (b8 k).2, if_neg e, if_neg e]
theorem jae {bs : List Int} (hl : bs.length = 4096) (hB : IsB bs) : Qo bs = Rb bs ∧ IsB (Rb bs) ∧ (Rb bs).length = 4096 ∧ X3 (Rb bs) = true := by
 have h1 : (Rb bs).length = 4096 := by rw [UW _ (by omega), hl]
 have h2 : (Rb bs).drop 4 = bs.drop 4 := by
  unfold Rb;rw [List.drop_append, List.drop_of_length_le (by rw [OY]; decide), List.nil_append, OY];rfl
 refine ⟨by unfold Qo; rw [if_pos hl], ?_, h1, ?_⟩
 ·intro x hx
  unfold Rb at hx
  rcases List.mem_append.1 hx with h | h
  ·exact QR _ _ x h
  ·exact hB x (List.mem_of_mem_drop h)
 ·have h3 : Rb (Rb bs) = Rb bs := by
   show O5 (Pp 0 ((Rb bs).drop 4)) 4 ++ (Rb bs).drop 4 = _
   rw [h2];rfl
  unfold X3;rw [h1, h3];simp
theorem jdX (n : Int) (h0 : 0 ≤ n) (h1 : n < 16) : PK (Qt n) = true ∧ IsB (Qt n) := by
 have e : Qt n = Rb (newB n) := by unfold Qt; rw [if_neg (by omega)]
 rw [e];obtain ⟨_, s2, s3, _⟩ := jae (R9 n) (jaa n);refine ⟨?_, s2⟩
 have hz : ∀ j, (List.replicate 64 (0 : Int)).getD j 0 = 0 := fun j => by
  rw [List.getD_eq_getElem?_getD, List.getElem?_replicate]
  split <;> rfl
 have cw : SlOK (List.replicate 64 (0 : Int)) := ⟨fun k _ => .inl ⟨hz _, hz _⟩, fun i j _ _ => by rw [hz, hz, hz, hz]; omega⟩
 have mk : ∀ S : List Int, S.length = 4 → EncOK S 0 n 4096 (List.replicate 64 0) (List.replicate 4096 0) := fun S hS => ⟨hS, List.length_replicate, List.length_replicate, by omega, by omega, by omega, fun x hx => by rw [List.eq_of_mem_replicate hx]; omega⟩
 have e1 := (mk (List.replicate 4 0) List.length_replicate).flat;have hS : (O5 (Pp 0 ((newB n).drop 4)) 4).length = 4 := OY _ _;have e2 := (mk _ hS).flat
 have e3 : Rb (newB n) = Py (O5 (Pp 0 ((newB n).drop 4)) 4) 0 n 4096 (List.replicate 64 0) (List.replicate 4096 0) := by
  have e4 := congrArg (List.drop 4) e1;rw [jc8, List.drop_left' List.length_replicate] at e4;rw [e2]
  show O5 (Pp 0 ((newB n).drop 4)) 4 ++ (newB n).drop 4 = _
  rw [e4]
 rw [e3];exact (mk _ hS).own' (by decide) (by omega) cw (fun k _ h => absurd (hz _) h)
end Go.Proofs.YtapdfgkbhaoelaaGreatDoor
