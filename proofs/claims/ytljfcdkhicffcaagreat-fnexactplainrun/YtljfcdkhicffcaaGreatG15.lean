import Derived.Test.YtljfcdkhicffcaaGreatG14
import Derived.RangeFuncWrites
import Derived.RangeFuncCalls
import Derived.RangeFuncLeaves
import Derived.TacticsIn
import Derived.OrdersIn
namespace Go.Proofs.YtljfcdkhicffcaaGreat
set_option maxRecDepth 100000
set_option maxHeartbeats 8000000
set_option linter.unusedVariables false
set_option linter.unusedSimpArgs false
open Go Go.RowKit
structure OwnTx (w : World) (v : Value) (ts : List ETx) : Prop where
 own : OwnR kTx 0 78 5 w v ts
 wr : ∀ t ∈ ts, OwnR kWr 0 112 5 w t.v t.ps
 each : ts.Pairwise (fun a b => ∀ x, Uc kWr a.v a.ps x → ¬ Uc kWr b.v b.ps x)
def Ya (v : Value) (ts : List ETx) (b : Nat) : Prop := v.ownBlock = some b ∨ ∃ t ∈ ts, Uc kWr t.v t.ps b
theorem je5 {w : World} {v : Value} {ts : List ETx} (h : w.ownsRow 0 78 2 v ts.length (kTx.all ts)) : OwnR kTx 0 78 5 w v ts :=
 ⟨h, fun p _ => Own.nil 0 _ .u8 w, fun u hu b hb e => by
  obtain ⟨p, _, rfl⟩ := List.mem_map.1 hu
  simp [kTx, Value.ownBlock] at e, by
  refine List.pairwise_map.2 (List.pairwise_of_forall (fun a b => fun c hc => ?_))
  simp [kTx, Value.ownBlock] at hc⟩
theorem ZT {v : Value} {ts : List ETx} {b : Nat} (h : Uc kTx v ts b) : v.ownBlock = some b := by
 rcases h with h | ⟨p, _, h⟩
 ·exact h
 ·simp [kTx, Value.ownBlock] at h
theorem OwnTx.kept {R : Nat → Prop} {w w' : World} {v : Value} {ts : List ETx} (h : OwnTx w v ts) (hk : Kept R w w') (hr : ∀ b, Ya v ts b → ¬ R b) : OwnTx w' v ts :=
 ⟨h.own.kept hk (fun b hb => hr b (.inl (ZT hb))), fun t ht => (h.wr t ht).kept hk (fun b hb => hr b (.inr ⟨t, ht, hb⟩)), h.each⟩
theorem OwnTx.same {w w' : World} {v : Value} {ts : List ETx} (h : OwnTx w v ts) (hk : Same w w') : OwnTx w' v ts := h.kept hk (fun _ _ => id)
theorem XB (ts : List ETx) : (Uo ts).length = ts.length := by simp [Uo]
theorem jf5 {ps qs : List ETx} (h : Uo ps = Uo qs) (k : Nat) (h1 : k < ps.length) (h2 : k < qs.length) : ps[k].dat = qs[k].dat := by
 have := congrArg (fun l => l[k]?) h
 simpa [Uo, h1, h2] using this
theorem XC {k : Int} {v : Value} {ps : List EWr} {b : Nat} : Uc kWr v (Uk mHeapWrite k ps) b ↔ Uc kWr v ps b := by
 have h : ∀ qs : List EWr, Uc kWr v qs b ↔ v.ownBlock = some b ∨ some b ∈ (qs.map kWr.v).map Value.ownBlock := fun qs => by
  unfold Uc;constructor
  ·rintro (h | ⟨p, hp, h⟩)
   ·exact .inl h
   ·exact .inr (by rw [← h]; exact List.mem_map_of_mem (List.mem_map_of_mem hp))
  ·rintro (h | h)
   ·exact .inl h
   ·obtain ⟨u, hu, h⟩ := List.mem_map.1 h
    obtain ⟨p, hp, rfl⟩ := List.mem_map.1 hu;exact .inr ⟨p, hp, h⟩
 rw [h, h, jeA]
def wrSz (ps : List EWr) : Nat := 2 * ps.length + UY ps
theorem jaa (k : Int) (ps : List EWr) : Ug mHeapWrite k ps = k + (wrSz ps : Nat) := by rw [YJ]; unfold wrSz; omega
def mTx : MarkK kTx := ⟨fun k t => ⟨k, t.v, Uk mHeapWrite (k + 1) t.ps⟩, fun t => 1 + wrSz t.ps, fun _ _ => rfl⟩
def TxB (ts : List ETx) : Prop := ∀ t ∈ ts, t.ps.length ≤ 1125899906842624 ∧ ∀ p ∈ t.ps, p.bs.length ≤ 1125899906842624
theorem jay (id : Int) (va vb : Value) (ps qs : List EWr) (w : World) (hn : ps.length ≤ 1125899906842624) (hs : TU ps = TU qs) (gR : ∀ p ∈ ps, p.bs.length ≤ 1125899906842624) (ha : OwnR kWr 0 112 5 w va ps) (hb : OwnR kWr 0 112 5 w vb qs) :
  Calls Tryz.prog 75 #[.agg #[V id, va], .agg #[V id, vb]] w fun e w' => e = .returned (.bool true) ∧ Same w w' := by
 obtain ⟨aa, ca, qQ⟩ := ha.rd.form;obtain ⟨ab, cb, qO⟩ := hb.rd.form;obtain ⟨an, jR⟩ : ∃ n, ps.length = n := ⟨_, rfl⟩;obtain ⟨bn, Nm⟩ : ∃ n, qs.length = n := ⟨_, rfl⟩;rw [jR] at qQ;rw [Nm] at qO;subst qQ qO;have HA := hid ha;have HB := hid hb;have HS := hid hs;have rF := hid gR;have HN := hid hn;have ay := (show Hid (Same w ((w.alloc (.cells #[V id, .slice aa an ca] 78)).alloc (.cells #[V id, .slice ab bn cb] 78))) from (kZ0.alloc _).alloc _);have b0 := (Blk.newL w [V id, .slice aa an ca] 78).same (kZ0.alloc (.cells #[V id, .slice ab bn cb] 78));have b1 := Blk.newB w [V id, .slice aa an ca] 78 [V id, .slice ab bn cb] 78;clear ha hb hs gR hn jR Nm
 go_enter Tryz.func75, Tryz.ntmps75
 go_wp2_with fail
 refine (Zu 0 _ _ ps qs _ HN.out HS.out rF.out (HA.out.same ay.out) (HB.out.same ay.out)).mono ?_;rintro e w1 ⟨rfl, hk⟩;have ao := hid (ay.out.trans hk);clear hk b0 b1;go_wp2;go_ret;exact ⟨rfl, ao.out⟩
theorem Z6 (va vb : Value) (ps qs : List ETx) (w : World) (hn : ps.length ≤ 1125899906842624) (hs : Uo ps = Uo qs) (gR : TxB ps) (ha : OwnTx w va ps) (hb : OwnTx w vb qs) :
  Calls Tryz.prog 37 #[va, vb] w fun e w' => e = .returned (.bool true) ∧ Same w w' := by
 have az : qs.length = ps.length := by rw [← XB, ← XB, hs]
 by_cases hz : ps.length = 0
 ·obtain rfl : ps = [] := List.length_eq_zero_iff.1 hz
  obtain rfl : qs = [] := List.length_eq_zero_iff.1 az
  obtain ⟨aa, ca, rfl⟩ : ∃ aa ca, va = .slice aa 0 ca := by rcases ha.own.form with ⟨rfl, _⟩ | ⟨g, cap, rfl, _⟩ <;> exact ⟨_, _, rfl⟩
  obtain ⟨ab, cb, rfl⟩ : ∃ aa ca, vb = .slice aa 0 ca := by rcases hb.own.form with ⟨rfl, _⟩ | ⟨g, cap, rfl, _⟩ <;> exact ⟨_, _, rfl⟩
  clear ha hb hn hz hs
  go_enter Tryz.func37, Tryz.ntmps37
  go_wp2;refine wp_loop_rounds 1 ?_;rw [rounds_succ];go_wp2;go_ret;exact ⟨rfl, kZ0⟩
 ·obtain ⟨ga, ca, rfl⟩ : ∃ g cap, va = Q4 g ps.length cap := by
   rcases ha.own.form with ⟨_, h⟩ | ⟨g, cap, h, _⟩
   ·simp [h] at hz
   ·exact ⟨g, cap, h⟩
  obtain ⟨gb, cb, rfl⟩ : ∃ g cap, vb = Q4 g ps.length cap := by
   rcases hb.own.form with ⟨_, h⟩ | ⟨g, cap, h, _⟩
   ·simp [h] at az; omega
   ·exact ⟨g, cap, by rw [h, az]⟩
  have HA := hid ha;have HB := hid hb;have HQ : Hid (qs.length = ps.length) := az;have HS := hid hs;have HM := hid gR;clear ha hb hs az gR;generalize hl : ps.length = len at hn hz HA HB ⊢;have HL : Hid (ps.length = len) := hl;clear hl
  go_enter Tryz.func37, Tryz.ntmps37
  go_wp2
  go_loopw [5] (fun i wr => ∃ (k : Nat), k ≤ len ∧ i = V k ∧ Hid (Same w wr)) (fun i _ => len - (intOf i).toNat)
  case atStart => exact ⟨0, Nat.zero_le _, rfl, kZ0⟩
  case round =>
   obtain ⟨k, hk, rfl, HK⟩ := hrel
   by_cases aG : k < len
   ·have aF : k < ps.length := by rw [HL.out]; exact aG
    have cV : k < qs.length := by rw [HQ.out]; exact aF
    have ef := HA.out.same HK.out;have d8 := HB.out.same HK.out;have ek := jf5 HS.out k aF cV;simp only [ETx.dat, Prod.mk.injEq] at ek;obtain ⟨d0, d1⟩ := ek;have s3 := HM.out _ (List.getElem_mem aF);have l7 : wr.cell? ⟨ga, k * 2, none⟩ = some (V ps[k].id) := ef.own.cell HL.out.symm k 0 aF (by decide);have l4 : wr.cell? ⟨ga, k * 2 + 1, none⟩ = some (ps[k].v) := ef.own.cell HL.out.symm k 1 aF (by decide)
    have bR : wr.cell? ⟨gb, k * 2, none⟩ = some (V ps[k].id) := by rw [d0]; exact d8.own.cell (by rw [HQ.out, HL.out]) k 0 cV (by decide)
    have cW : wr.cell? ⟨gb, k * 2 + 1, none⟩ = some (qs[k].v) := d8.own.cell (by rw [HQ.out, HL.out]) k 1 cV (by decide);have KE := (show Hid (∀ wx, Same wr wx → _) from fun wx hx => jay ps[k].id ps[k].v qs[k].v ps[k].ps qs[k].ps wx s3.1 d1 s3.2 ((ef.wr _ (List.getElem_mem aF)).same hx) ((d8.wr _ (List.getElem_mem cV)).same hx));clear d0 d1 ef d8 s3
    go_wp2_with fail
    go_region_with (go_at_call 75; refine (KE.out _ kZ0.drew).mono ?_; rintro e w1 ⟨rfl, af⟩)
    all_goals
     have ao : Hid (Same w w1) := HK.out.drew.trans af;clear af l7 bR l4 cW KE;go_wp2;go_roundw
     case rel => exact ⟨k + 1, by omega, by go_num, ao⟩
     case measure => simp [intOf]; omega
   ·go_wp2
    go_ret;exact ⟨rfl, HK.out⟩
def wrK (k0 : Int) (ts : List ETx) (k i : Nat) (h : i < ts.length) : List EWr := if i < k then Uk mHeapWrite (Ug mTx k0 (ts.take i) + 1) ts[i].ps else ts[i].ps
theorem Zb (va : Value) (ts : List ETx) (k0 : Int) (w : World) (h0 : 0 ≤ k0) (h1 : Ug mTx k0 ts ≤ 1125899906842624) (hn : ts.length ≤ 1125899906842624) (ha : OwnTx w va ts) (hb : TxB ts) :
  Calls Tryz.prog 43 #[va, V k0] w fun e w' => e = .returned (V (Ug mTx k0 ts)) ∧ OwnTx w' va (Uk mTx k0 ts) ∧ Kept (Ya va ts) w w' := by
 by_cases hz : ts.length = 0
 ·obtain rfl : ts = [] := List.length_eq_zero_iff.1 hz
  obtain ⟨aa, ca, rfl⟩ : ∃ aa ca, va = .slice aa 0 ca := by rcases ha.own.form with ⟨rfl, _⟩ | ⟨g, cap, rfl, _⟩ <;> exact ⟨_, _, rfl⟩
  have HA := hid ha;clear ha hn hz h1
  go_enter Tryz.func43, Tryz.ntmps43
  go_wp2;refine wp_loop_rounds 1 ?_;rw [rounds_succ];go_wp2;go_ret;exact ⟨by simp [Ug], by simpa [Uk] using HA.out, kZ0⟩
 ·obtain ⟨g, cap, rfl⟩ : ∃ g cap, va = Q4 g ts.length cap := by
   rcases ha.own.form with ⟨_, rfl⟩ | ⟨g, cap, h, _⟩
   ·simp at hz
   ·exact ⟨g, cap, h⟩
  have H1 := hid h1;have iJ := hid ha;have HB := hid hb;clear h1 ha hb;generalize hl : ts.length = len at *;have HL : Hid (ts.length = len) := hl;clear hl
  go_enter Tryz.func43, Tryz.ntmps43
  go_wp2
  go_loopw [1, 5] (fun v i wr => ∃ (k : Nat) (c : Int), k ≤ len ∧ i = V k ∧ v = V c ∧ Hid (c = Ug mTx k0 (ts.take k)) ∧ Hid (OwnR kTx 0 78 5 wr (Q4 g len cap) (Wj mTx k0 ts k)) ∧ Hid (∀ i (h : i < ts.length), OwnR kWr 0 112 5 wr ts[i].v (wrK k0 ts k i h)) ∧ Hid (Kept (Ya (Q4 g len cap) ts) w wr)) (fun _ i _ => len - (intOf i).toNat)
  case atStart => exact ⟨0, k0, Nat.zero_le _, rfl, rfl, rfl, by rw [YD]; exact iJ.out.own, fun i h => by unfold wrK; rw [if_neg (Nat.not_lt_zero _)]; exact iJ.out.wr _ (List.getElem_mem h), kZ0⟩
  case round =>
   obtain ⟨k, c, hk, rfl, rfl, HC, HO, HW, HK⟩ := hrel
   by_cases aG : k < len
   ·have aF : k < ts.length := by rw [HL.out]; exact aG
    have oV : k0 ≤ c := by rw [HC.out]; exact Vu _ _ _
    have dm := Wx mTx k0 ts k aF
    have li : c + 1 + (wrSz ts[k].ps : Nat) ≤ 1125899906842624 := by have h2 := Vv mTx k0 ts (k + 1); have h3 := H1.out; have h4 := HC.out; simp only [mTx] at dm; simp only [mTx] at h2 h3 h4; omega
    have eo := (show Hid (Ug mTx k0 (ts.take (k + 1)) = Ug mTx k0 (ts.take k) + (mTx.sz ts[k] : Nat)) from dm);clear dm
    have cK : Hid (OwnR kTx 0 78 5 wr (Q4 g len cap) (Uk mTx k0 (ts.take k) ++ ts[k] :: ts.drop (k + 1))) := by
     have h := HO.out;rw [jaf _ _ _ _ aF] at h;exact h
    have bH : ∀ e : ETx, Hid (len = (Uk mTx k0 (ts.take k) ++ e :: ts.drop (k + 1)).length) := fun e => by have hl := HL.out; simp [Hid, Ua]; omega
    have iT : Hid ((Uk mTx k0 (ts.take k)).length = k) := by have hl := HL.out; simp [Hid, Ua]; omega
    have gn : wr.cell? ⟨g, k * 2, none⟩ = some (V ts[k].id) := cK.out.cellMid (bH _).out 0 (by decide) _ (by rw [iT.out]; rfl);have fy : wr.cell? ⟨g, k * 2 + 1, none⟩ = some (ts[k].v) := cK.out.cellMid (bH _).out 1 (by decide) _ (by rw [iT.out]; rfl);have fr := HO.out.frozen (by rw [Xw]; exact HL.out.symm);have lW : Hid (OwnR kTx 0 78 5 (wr.setCell ⟨g, k * 2, none⟩ (V (c))) (Q4 g len cap) (Uk mTx k0 (ts.take k) ++ ⟨c, ts[k].v, Uk mHeapWrite (c + 1) ts[k].ps⟩ :: ts.drop (k + 1))) := cK.out.set (p' := ⟨c, ts[k].v, Uk mHeapWrite (c + 1) ts[k].ps⟩) (bH _).out 0 (V (c)) (by decide) rfl rfl rfl (k * 2) (by first | (rw [iT.out]; done) | (rw [iT.out]; rfl));have aS : Kept (fun b => b = g) wr (wr.setCell ⟨g, k * 2, none⟩ (V (c))) := Kept.setCell (R := fun b => b = g) kZ0 (p := ⟨g, k * 2, none⟩) (.inr rfl) _;have fD := (show Hid (∀ i (h : i < ts.length), OwnR kWr 0 112 5 (wr.setCell ⟨g, k * 2, none⟩ (V (c))) ts[i].v (wrK k0 ts k i h)) from fun i h => (HW.out i h).kept aS (fun b hb e => jax cK.out.row (HW.out i h) (by decide) (by decide) b (by rw [e]; rfl) hb));have ao := (show Hid (Kept (Ya (Q4 g len cap) ts) w (wr.setCell ⟨g, k * 2, none⟩ (V (c)))) from HK.out.setCell (p := ⟨g, k * 2, none⟩) (.inr (.inl rfl)) _);have df := fD.out k aF;unfold wrK at df;rw [if_neg (Nat.lt_irrefl _)] at df;have C9 := HB.out _ (List.getElem_mem aF);have iV := YK 0 ts[k].v ts[k].ps (c + 1) (wr.setCell ⟨g, k * 2, none⟩ (V (c))) (by omega) (by rw [jaa]; omega) C9.1 df;clear df C9 aS HW
    go_wp2_with fail
    refine iV.mono ?_;rintro e w1 ⟨rfl, ho, af⟩
    have oY := (show Hid (∀ i (h : i < ts.length), i ≠ k → ∀ b, Uc kWr ts[i].v (wrK k0 ts k i h) b → ¬ Uc kWr ts[k].v ts[k].ps b) from fun i h bl b hb hf => by
     have aV : Uc kWr ts[i].v ts[i].ps b := by
      unfold wrK at hb
      split at hb
      ·exact XC.1 hb
      ·exact hb
     have hp := List.pairwise_iff_getElem.1 iJ.out.each
     rcases Nat.lt_or_gt_of_ne bl with h3 | h3
     ·exact hp i k h aF h3 b aV hf
     ·exact hp k i aF h h3 b hf aV)
    have jC := (show Hid (∀ i (h : i < ts.length), OwnR kWr 0 112 5 w1 ts[i].v (wrK k0 ts (k + 1) i h)) from fun i h => by
     by_cases hi : i = k
     ·subst hi
      unfold wrK;rw [if_pos (Nat.lt_succ_self _), ← HC.out];exact ho
     ·have e : wrK k0 ts (k + 1) i h = wrK k0 ts k i h := by
       unfold wrK
       by_cases h3 : i < k
       ·rw [if_pos h3, if_pos (by omega)]
       ·rw [if_neg h3, if_neg (by omega)]
      rw [e]
      exact (fD.out i h).kept af (oY.out i h hi))
    have dV : Hid (OwnR kTx 0 78 5 w1 (Q4 g len cap) (Wj mTx k0 ts (k + 1))) := by
     rw [YE _ _ _ _ aF, ← HC.out];have df := fD.out k aF;unfold wrK at df;rw [if_neg (Nat.lt_irrefl _)] at df;exact lW.out.kept af (fun b hb hf => jax lW.out.row df (by decide) (by decide) b (ZT hb) hf)
    have ax := hid (ao.out.trans (af.mono fun b _ hb => .inr ⟨ts[k], List.getElem_mem _, hb⟩));have mG := (show Hid (Ug mHeapWrite (c + 1) ts[k].ps = c + 1 + (wrSz ts[k].ps : Nat)) from jaa _ _);obtain ⟨c2, cR⟩ : ∃ z, Ug mHeapWrite (c + 1) ts[k].ps = z := ⟨_, rfl⟩;rw [cR] at mG ⊢
    have qh : c2 ≤ 1125899906842624 ∧ 0 ≤ c2 := by have := mG.out; omega
    have Kk := (show Hid (c2 = Ug mTx k0 (ts.take (k + 1))) from by
     show c2 = _
     rw [eo.out, ← HC.out, mG.out];simp only [mTx]
     omega)
    clear ho af HO cK lW gn fy iV fD oY HK ao fr li cR;go_wp2;go_roundw
    case rel => exact ⟨k + 1, c2, by omega, by go_num, rfl, Kk, dV, jC, ax⟩
    case measure => simp [intOf]; omega
   ·go_wp2
    go_ret
    obtain rfl : k = len := by omega
    have hl := HL.out;have hc := HC.out;have ho := HO.out;rw [← hl, List.take_length] at hc;rw [← hl, Zl, hl] at ho;refine ⟨Yh hc, ⟨ho, fun t ht => ?_, ?_⟩, HK.out⟩
    ·obtain ⟨i, hi, rfl⟩ := List.getElem_of_mem ht
     have iG : i < ts.length := by rw [Ua] at hi; exact hi
     rw [U4 _ _ _ _ iG];have h := HW.out i iG;unfold wrK at h;rw [if_pos (by omega)] at h;exact h
    ·refine List.pairwise_iff_getElem.2 (fun i j hi hj Gk b h3 h4 => ?_)
     have iG : i < ts.length := by rw [Ua] at hi; exact hi
     have pd : j < ts.length := by rw [Ua] at hj; exact hj
     rw [U4 _ _ _ _ iG] at h3;rw [U4 _ _ _ _ pd] at h4;exact List.pairwise_iff_getElem.1 iJ.out.each i j iG pd Gk b (XC.1 h3) (XC.1 h4)
theorem Zc (va : Value) (ts : List ETx) (k0 : Int) (w : World) (h0 : 0 ≤ k0) (h1 : Ug mTx k0 ts ≤ 1125899906842624) (hn : ts.length ≤ 1125899906842624) (ha : OwnTx w va (Uk mTx k0 ts)) (hb : TxB ts) :
  Calls Tryz.prog 45 #[va, V k0] w fun e w' => e = .returned (V (Ug mTx k0 ts)) ∧ w' = w := by
 by_cases hz : ts.length = 0
 ·obtain rfl : ts = [] := List.length_eq_zero_iff.1 hz
  obtain ⟨aa, ca, rfl⟩ : ∃ aa ca, va = .slice aa 0 ca := by rcases ha.own.form with ⟨rfl, _⟩ | ⟨g, cap, rfl, _⟩ <;> exact ⟨_, _, rfl⟩
  clear ha hn hz h1
  go_enter Tryz.func45, Tryz.ntmps45
  go_wp2;refine wp_loop_rounds 1 ?_;rw [rounds_succ];go_wp2;go_ret;exact ⟨by simp [Ug], rfl⟩
 ·obtain ⟨g, cap, rfl⟩ : ∃ g cap, va = Q4 g ts.length cap := by
   rcases ha.own.form with ⟨_, h⟩ | ⟨g, cap, h, _⟩
   ·have := congrArg List.length h; simp [Ua] at this; simp [this] at hz
   ·exact ⟨g, cap, by rw [h, Ua]⟩
  have H1 := hid h1;have HA := hid ha;have HB := hid hb;clear h1 ha hb;generalize hl : ts.length = len at hn hz HA ⊢;have HL : Hid (ts.length = len) := hl;clear hl
  go_enter Tryz.func45, Tryz.ntmps45
  go_wp2
  go_loop [1, 5] (fun v i => ∃ (k : Nat) (c : Int), k ≤ len ∧ i = V k ∧ v = V c ∧ Hid (c = Ug mTx k0 (ts.take k))) (fun _ i => len - (intOf i).toNat)
  case atStart => exact ⟨0, k0, Nat.zero_le _, rfl, rfl, rfl⟩
  case round =>
   obtain ⟨k, c, hk, rfl, rfl, HC⟩ := hrel
   by_cases aG : k < len
   ·have aF : k < ts.length := by rw [HL.out]; exact aG
    have lN : k < (Uk mTx k0 ts).length := by rw [Ua]; exact aF
    have gn : w.cell? ⟨g, k * 2, none⟩ = some (V (c)) := by have h := HA.out.own.cell (by rw [Ua]; exact HL.out.symm) k 0 lN (by decide); rw [U4 _ _ _ _ aF, ← HC.out] at h; exact h
    have fy : w.cell? ⟨g, k * 2 + 1, none⟩ = some (ts[k].v) := by have h := HA.out.own.cell (by rw [Ua]; exact HL.out.symm) k 1 lN (by decide); rw [U4 _ _ _ _ aF, ← HC.out] at h; exact h
    have hd := HA.out.wr _ (List.getElem_mem lN);rw [U4 _ _ _ _ aF, ← HC.out] at hd
    have oV : k0 ≤ c := by rw [HC.out]; exact Vu _ _ _
    have dm := Wx mTx k0 ts k aF
    have li : c + 1 + (wrSz ts[k].ps : Nat) ≤ 1125899906842624 := by have h2 := Vv mTx k0 ts (k + 1); have h3 := H1.out; have h4 := HC.out; simp only [mTx] at dm; simp only [mTx] at h2 h3 h4; omega
    have eo := (show Hid (Ug mTx k0 (ts.take (k + 1)) = Ug mTx k0 (ts.take k) + (mTx.sz ts[k] : Nat)) from dm);have C9 := HB.out _ (List.getElem_mem aF);have iV := YL 0 ts[k].v ts[k].ps (c + 1) w (by omega) (by rw [jaa]; omega) C9.1 hd;clear hd dm C9
    go_wp2_with fail
    refine iV.mono ?_;rintro e w1 ⟨rfl, rfl⟩;have mG := (show Hid (Ug mHeapWrite (c + 1) ts[k].ps = c + 1 + (wrSz ts[k].ps : Nat)) from jaa _ _);obtain ⟨c2, cR⟩ : ∃ z, Ug mHeapWrite (c + 1) ts[k].ps = z := ⟨_, rfl⟩;rw [cR] at mG ⊢
    have qh : c2 ≤ 1125899906842624 ∧ 0 ≤ c2 := by have := mG.out; omega
    have Kk := (show Hid (c2 = Ug mTx k0 (ts.take (k + 1))) from by
     show c2 = _
     rw [eo.out, ← HC.out, mG.out];simp only [mTx]
     omega)
    clear iV cR li;go_wp2;go_round
    case rel => exact ⟨k + 1, c2, by omega, by go_num, rfl, Kk⟩
    case measure => simp [intOf]; omega
   ·go_wp2
    go_ret
    obtain rfl : k = len := by omega
    have hl := HL.out;have hc := HC.out;rw [← hl, List.take_length] at hc;exact ⟨Yh hc, rfl⟩
section
variable {P : Program} {ops : Array Oper} {Q : Exit → Act → World → Prop} {l m : Nat}
def Zd (o : Oper) : Bool := match o.op with
 | .defer _ => false
 | _ => true
theorem jbW {o : Oper} (h : Zd o = true) (c : Call) : o.op ≠ .defer c := fun e => by simp [Zd, e] at h
theorem jf6 {o : Oper} {a : Act} {w : World} {K K' : Act → World → Prop} (hd : Zd o = true) (hK : ∀ a w, K a w → K' a w) (h : o.wp P a w K Q) : o.wpIn (Fence.wide.inRound l) m P a w K' Q := by
  unfold Oper.wp at h;refine ⟨fun _ _ => trivial, ?_⟩;rw [show (Fence.wide.inRound l).round = some l from rfl, Oper.semAt_some l _ _ (jbW hd)];generalize (execOp a.eval o).run P w = r at h ⊢
  cases r with
  | ok x w' =>
    cases x <;> simp only [Oper.upon] at h <;> simp only [Oper.uponIn]
    all_goals first
      | exact hK _ _ h
      | exact h.elim
      | (refine ⟨fun h => by simp [Fence.wide, Fence.inRound] at h, ?_⟩
         refine CallsIn.inRound l (callsIn_wide.2 (Calls.mono h ?_));intro e NW he
         cases e <;> first | exact hK _ _ he | exact he)
      | (refine ⟨fun h => by simp [Fence.wide, Fence.inRound] at h, ?_⟩
         intro c cs _;obtain ⟨v, NW, hr, hs⟩ := h c cs
         exact ⟨v, NW, hK _ _ hr, stepsIn_wide.2 hs⟩)
  | halt x w' => cases x <;> simp only [Oper.upon] at h <;> simp only [Oper.uponIn] <;> exact h
theorem XD (Fj : ¬ LetsOut Q) : ∀ (os : List Oper) (a : Act) (w : World), os.all Zd = true → wpList P ops Q os a w → wpListIn (Fence.wide.inRound l) m P ops Q os a w
 | [], _, _, _, h => h
 | o :: os, a, w, hd, h => by
  simp only [List.all_cons, Bool.and_eq_true] at hd;unfold wpList at h;unfold wpListIn
  split
  ·rename_i hw
   rw [if_pos hw] at h
   rcases h with h | h
   ·exact jf6 hd.1 (fun a w hk => XD Fj os a w hd.2 hk) h
   ·exact absurd h.2 Fj
  ·rename_i hw
   rw [if_neg hw] at h;exact ⟨fun _ _ => trivial, XD Fj os _ w hd.2 h⟩
theorem Ws {id : Nat} {os : List Oper} {a : Act} {w : World} (Fj : ¬ LetsOut Q) (hd : os.all Zd = true) (h : wpList P os.toArray Q os a w) : (Code.region id os.toArray false).wpIn (Fence.wide.inRound l) m P Q a w :=
 wpIn_region_lit (XD Fj os a w hd h)
theorem Wt {K : Act → World → Prop} (h : ¬ LetsOut Q) : ¬ LetsOut (Exit.then K Q) := fun ⟨a, w, hq⟩ => h ⟨a, w, hq⟩
theorem Xi {id : Nat} (h : ¬ LetsOut Q) : ¬ LetsOut (Exit.inBlock id Q) := fun ⟨a, w, hq⟩ => h ⟨a, w, hq⟩
theorem XE {α : Type} {B : Nat} {Kp : World → World → Prop} {I : List α → World → Prop} {Ix : Code → List α → World → Prop} {xs : List α} {W : World} : ¬ LetsOut (ownPostG B Kp I Ix xs W) := fun ⟨_, _, h⟩ => h
end
def jf7 (B : Nat) (w : World) (b : Nat) : Prop := B ≤ b ∧ ∃ o : Obj, w.heap[b]? = some o ∧ o.isCells = false
theorem Zw {B : Nat} {W W' : World} {row : Option Nat} (hg : W.grownBy W' row) (hr : ∀ r, row = some r → B ≤ r ∧ ∃ o : Obj, W.heap[r]? = some o ∧ o.isCells = false) : Kept (jf7 B W) W W' :=
 Kept.of_grown hg (fun k e => hr k e)
theorem Blk.not_bare {w : World} {b B : Nat} {e : TypeId} {vs : List Value} (h : Blk w b e vs) : ¬ jf7 B w b := fun ⟨_, o, ho, hc⟩ => by
 rw [show w.heap[b]? = _ from h] at ho
 cases ho
 cases hc
theorem Own.not_bare {base : Nat} {e : TypeId} {k : IntKind} {w : World} {v : Value} {bs : List Int} {B b : Nat} (h : Own base e k w v bs) (hb : v.ownBlock = some b) : ¬ jf7 B w b := fun ⟨_, o, ho, hc⟩ => by
 rcases h.2 with ⟨rfl, _⟩ | ⟨g, cap, cur, rfl, _, hg, _⟩
 ·simp [Value.ownBlock] at hb
 ·have : g = b := by simpa [Value.ownBlock] using hb
  subst this;rw [hg] at ho
  cases ho
  cases hc
theorem OwnR.not_bare {E : Type} {K : RowK E} {base : Nat} {tw tb : TypeId} {w : World} {v : Value} {qs : List E} {B b : Nat} (h : OwnR K base tw tb w v qs) (hb : Uc K v qs b) : ¬ jf7 B w b := by
 rcases hb with hb | ⟨p, hp, hb⟩
 ·rintro ⟨_, o, ho, hc⟩
  rcases h.row.2 with ⟨rfl, _⟩ | ⟨g, cap, cur, rfl, _, hg, _⟩
  ·simp [Value.ownBlock] at hb
  ·have : g = b := by simpa [Value.ownBlock] using hb
   subst this;rw [hg] at ho
   cases ho
   cases hc
 ·exact (h.data p hp).not_bare hb
theorem XF {R : Nat → Prop} {B : Nat} {W W' : World} (hk : Kept R W W') (hr : ∀ b, R b → ¬ jf7 B W b) : KeepsFrom B W W' :=
 ⟨hk.size, fun k o hB ho hc => (hk.block k (Array.getElem?_eq_some_iff.1 ho).1 (fun e => hr k e ⟨hB, o, ho, hc⟩)).trans ho⟩
end Go.Proofs.YtljfcdkhicffcaaGreat
