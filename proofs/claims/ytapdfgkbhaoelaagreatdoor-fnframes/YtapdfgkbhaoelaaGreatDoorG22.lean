import Derived.Test.YtapdfgkbhaoelaaGreatDoorG20
import Derived.Test.YtapdfgkbhaoelaaGreatDoorSameG
namespace Go.Proofs.YtapdfgkbhaoelaaGreatDoor
set_option maxRecDepth 100000
set_option maxHeartbeats 8000000
set_option linter.unusedVariables false
set_option linter.unusedSimpArgs false
open Go.RowKit
def plO (x : StLogRecord) : StLogRecord :=
 if x.kind = 1 then { Pj 1 x.txn x.prev with page := x.page, slot := x.slot, before := x.before, after := x.after }
 else if x.kind = 2 then { Pj 2 x.txn x.prev with page := x.page, slot := x.slot, after := x.after, uN := x.uN }
 else if x.kind = 6 then Pj 6 0 0
 else if x.kind = 7 then { Pj 7 0 0 with nT := x.nT, txns := x.txns, dirty := x.dirty }
 else if x.kind = 8 then { Pj 8 0 0 with page := x.page, image := x.image }
 else Pj x.kind x.txn x.prev
structure PlQ (x y : StLogRecord) : Prop where
 ty : Typed y
 tv : tyV y = tyV x
 k : y.kind = x.kind
 tx : y.txns = nlF 79 ∨ y.txns = x.txns
 dy : y.dirty = nlF 81 ∨ y.dirty = x.dirty
 be : y.before = ⟨false, nlB⟩ ∨ y.before = x.before
 af : y.after = ⟨false, nlB⟩ ∨ y.after = x.after
 im : y.image = nlB ∨ y.image = x.image
 eq : O9 x.dat = 2 ∨ y.dat = x.dat
theorem plQ (x : StLogRecord) (hk : 1 ≤ x.kind ∧ x.kind ≤ 8) (ht : x.txns.bs.length = x.txns.n * 4) (hd : x.dirty.bs.length = x.dirty.n * 2) : PlQ x (plO x) := by
 obtain ⟨k, t, p, g, s, ⟨bu, ⟨be, ba, bc, bb⟩⟩, ⟨au, ⟨ae, aa, ac, ab⟩⟩, u, n, ⟨te, ta, tn, tc, tb⟩, ⟨de, da, dn, dc, db⟩, ⟨ie, ia, ic, ib⟩⟩ := x;dsimp only at hk ht hd;have h4 : tb.length / 4 = 0 ↔ tb = [] := ⟨fun h => List.length_eq_zero_iff.1 (by omega), fun h => by rw [h]; rfl⟩;have h2 : db.length / 2 = 0 ↔ db = [] := ⟨fun h => List.length_eq_zero_iff.1 (by omega), fun h => by rw [h]; rfl⟩
 obtain rfl | rfl | rfl | rfl | rfl | rfl | rfl | rfl : k = 1 ∨ k = 2 ∨ k = 3 ∨ k = 4 ∨ k = 5 ∨ k = 6 ∨ k = 7 ∨ k = 8 := by omega
 ·refine ⟨Typed.k1 _ _ _ _ _ _, rfl, rfl, .inl rfl, .inl rfl, .inr rfl, .inr rfl, .inl rfl, ?_⟩
  by_cases h : Vk t p g s bu bb au ab u n tb db ib = true
  ·right
   simp only [Vk, h4, h2, Bool.and_eq_true, decide_eq_true_eq, beq_iff_eq, @eq_comm Int 0, @eq_comm (List Int) [], @eq_comm Bool false] at h
   simp_all [plO, Pj, nlB, nlF, StLogRecord.dat, StPageRecord.dat]
  ·left
   simp [O9, Pw, StLogRecord.dat, StPageRecord.dat, h]
 ·refine ⟨Typed.k2 _ _ _ _ _ _, rfl, rfl, .inl rfl, .inl rfl, .inl rfl, .inr rfl, .inl rfl, ?_⟩
  by_cases h : Vl t p g s bu bb au ab u n tb db ib = true
  ·right
   simp only [Vl, h4, h2, Bool.and_eq_true, decide_eq_true_eq, beq_iff_eq, @eq_comm Int 0, @eq_comm (List Int) [], @eq_comm Bool false] at h
   simp_all [plO, Pj, nlB, nlF, StLogRecord.dat, StPageRecord.dat]
  ·left
   simp [O9, Pw, StLogRecord.dat, StPageRecord.dat, h]
 ·refine ⟨Typed.k3 _ _, rfl, rfl, .inl rfl, .inl rfl, .inl rfl, .inl rfl, .inl rfl, ?_⟩
  by_cases h : Vm t p g s bu bb au ab u n tb db ib = true
  ·right
   simp only [Vm, h4, h2, Bool.and_eq_true, decide_eq_true_eq, beq_iff_eq, @eq_comm Int 0, @eq_comm (List Int) [], @eq_comm Bool false] at h
   simp_all [plO, Pj, nlB, nlF, StLogRecord.dat, StPageRecord.dat]
  ·left
   simp [O9, Pw, StLogRecord.dat, StPageRecord.dat, h]
 ·refine ⟨Typed.k4 _ _, rfl, rfl, .inl rfl, .inl rfl, .inl rfl, .inl rfl, .inl rfl, ?_⟩
  by_cases h : Vn t p g s bu bb au ab u n tb db ib = true
  ·right
   simp only [Vn, h4, h2, Bool.and_eq_true, decide_eq_true_eq, beq_iff_eq, @eq_comm Int 0, @eq_comm (List Int) [], @eq_comm Bool false] at h
   simp_all [plO, Pj, nlB, nlF, StLogRecord.dat, StPageRecord.dat]
  ·left
   simp [O9, Pw, StLogRecord.dat, StPageRecord.dat, h]
 ·refine ⟨Typed.k5 _ _, rfl, rfl, .inl rfl, .inl rfl, .inl rfl, .inl rfl, .inl rfl, ?_⟩
  by_cases h : Vo t p g s bu bb au ab u n tb db ib = true
  ·right
   simp only [Vo, h4, h2, Bool.and_eq_true, decide_eq_true_eq, beq_iff_eq, @eq_comm Int 0, @eq_comm (List Int) [], @eq_comm Bool false] at h
   simp_all [plO, Pj, nlB, nlF, StLogRecord.dat, StPageRecord.dat]
  ·left
   simp [O9, Pw, StLogRecord.dat, StPageRecord.dat, h]
 ·refine ⟨Typed.k6, rfl, rfl, .inl rfl, .inl rfl, .inl rfl, .inl rfl, .inl rfl, ?_⟩
  by_cases h : UG t p g s bu bb au ab u n tb db ib = true
  ·right
   simp only [UG, h4, h2, Bool.and_eq_true, decide_eq_true_eq, beq_iff_eq, @eq_comm Int 0, @eq_comm (List Int) [], @eq_comm Bool false] at h
   simp_all [plO, Pj, nlB, nlF, StLogRecord.dat, StPageRecord.dat]
  ·left
   simp [O9, Pw, StLogRecord.dat, StPageRecord.dat, h]
 ·refine ⟨Typed.k7 _ _ _, rfl, rfl, .inr rfl, .inr rfl, .inl rfl, .inl rfl, .inl rfl, ?_⟩
  by_cases h : UH t p g s bu bb au ab u n tb db ib = true
  ·right
   simp only [UH, h4, h2, Bool.and_eq_true, decide_eq_true_eq, beq_iff_eq, @eq_comm Int 0, @eq_comm (List Int) [], @eq_comm Bool false] at h
   simp_all [plO, Pj, nlB, nlF, StLogRecord.dat, StPageRecord.dat]
  ·left
   simp [O9, Pw, StLogRecord.dat, StPageRecord.dat, h]
 ·refine ⟨Typed.k8 _ _, rfl, rfl, .inl rfl, .inl rfl, .inl rfl, .inl rfl, .inr rfl, ?_⟩
  by_cases h : UI t p g s bu bb au ab u n tb db ib = true
  ·right
   simp only [UI, h4, h2, Bool.and_eq_true, decide_eq_true_eq, beq_iff_eq, @eq_comm Int 0, @eq_comm (List Int) [], @eq_comm Bool false] at h
   simp_all [plO, Pj, nlB, nlF, StLogRecord.dat, StPageRecord.dat]
  ·left
   simp [O9, Pw, StLogRecord.dat, StPageRecord.dat, h]
theorem ZO (x : StLogRecord) (w : World) : Calls Tryz.prog 27 #[x.val] w fun e w' => e = .returned (tyV x) ∧ Same w w' := by
 obtain ⟨k, t, p, g, s, ⟨bu, ⟨be, ba, bc, bb⟩⟩, ⟨au, ⟨ae, aa, ac, ab⟩⟩, u, n, ⟨te, ta, tn, tc, tb⟩, ⟨de, da, dn, dc, db⟩, ⟨ie, ia, ic, ib⟩⟩ := x;dsimp only [StLogRecord.val, StPageRecord.val, BS.v, FR.v]
 by_cases hk : 1 ≤ k ∧ k ≤ 8
 ·obtain rfl | rfl | rfl | rfl | rfl | rfl | rfl | rfl : k = 1 ∨ k = 2 ∨ k = 3 ∨ k = 4 ∨ k = 5 ∨ k = 6 ∨ k = 7 ∨ k = 8 := by omega
  all_goals
   clear hk
   go_enter Tryz.func27, Tryz.ntmps27
   go_wp2;go_ret;exact ⟨rfl, by repeat (first | exact kZ0 | refine Kept.alloc ?_ _)⟩
 ·rw [YT hk]
  exact YN k t p g s bu ba bb.length bc au aa ab.length ac u n ta tn tc da dn dc ia ib.length ic w (by omega) (by omega) (by omega) (by omega) (by omega) (by omega) (by omega) (by omega)
theorem QH (x : StLogRecord) (w : World) (hB : x.isB) (hn : x.szs ≤ 1073741824) (hv : StLogRecord.rd w x) :
  Calls Tryz.prog 25 #[x.val] w fun e w' => e = .returned (Q1 (O9 x.dat)) ∧ Same w w' := by
 have hs := hn;simp only [StLogRecord.szs, StPageRecord.szs] at hs;have HT := hid (ZO x)
 by_cases hk : 1 ≤ x.kind ∧ x.kind ≤ 8
 ·have q := plQ x hk hv.2.2.1.2.1 hv.2.2.2.1.2.1
  have nB : IsB nlB.bs := fun x hx => by simp [nlB] at hx
  have dQ : (plO x).isB := ⟨q.be.elim (fun e => by rw [e]; exact nB) (fun e => by rw [e]; exact hB.1), q.af.elim (fun e => by rw [e]; exact nB) (fun e => by rw [e]; exact hB.2.1), q.im.elim (fun e => by rw [e]; exact nB) (fun e => by rw [e]; exact hB.2.2)⟩;have Cb : StLogRecord.rd w (plO x) := ⟨q.be.elim (fun e => by rw [e]; exact Qk w) (fun e => by rw [e]; exact hv.1), q.af.elim (fun e => by rw [e]; exact Qk w) (fun e => by rw [e]; exact hv.2.1), q.tx.elim (fun e => by rw [e]; exact Ra 4 _ w) (fun e => by rw [e]; exact hv.2.2.1), q.dy.elim (fun e => by rw [e]; exact Ra 2 _ w) (fun e => by rw [e]; exact hv.2.2.2.1), q.im.elim (fun e => by rw [e]; exact Qk w) (fun e => by rw [e]; exact hv.2.2.2.2)⟩;have tf : nlB.bs.length = 0 := rfl;have oK : XC (plO x) := ⟨q.im.elim (fun e => by rw [e]; exact Nat.zero_le _) (fun e => by rw [e]; exact by omega), dQ.2.2⟩;obtain ⟨T, A, rc, ri, t9, hm, Fl, hf, -, hp⟩ := ZN q.ty (by rw [q.k]; exact hk) w oK Cb
  have HS := hid (fun wx (h : Same w wx) => jai (plO x) x wx (Cb.same h) (hv.same h) dQ hB
   (fun wy hy => by
    rcases q.tx with e | e <;> rw [e]
    ·have h1 := Vf x.txns.a x.txns.n x.txns.c wy hv.2.2.1.1
     rwa [show decide (x.txns.n = 0) = decide ((nlF 79).bs = x.txns.bs) from decide_eq_decide.2 ⟨fun e0 => (List.length_eq_zero_iff.1 (by have := hv.2.2.1.2.1; omega)).symm, fun e0 => by have := hv.2.2.1.2.1; rw [← e0] at this; simp only [nlF, List.length_nil] at this; omega⟩] at h1
    ·rw [decide_eq_true rfl]
     exact UU x.txns wy (by omega) (hv.2.2.1.same (h.trans hy)))
   (fun wy hy => by
    rcases q.dy with e | e <;> rw [e]
    ·have h1 := UC x.dirty.a x.dirty.n x.dirty.c wy hv.2.2.2.1.1
     rwa [show decide (x.dirty.n = 0) = decide ((nlF 81).bs = x.dirty.bs) from decide_eq_decide.2 ⟨fun e0 => (List.length_eq_zero_iff.1 (by have := hv.2.2.2.1.2.1; omega)).symm, fun e0 => by have := hv.2.2.2.1.2.1; rw [← e0] at this; simp only [nlF, List.length_nil] at this; omega⟩] at h1
    ·rw [decide_eq_true rfl]
     exact Uu x.dirty wy (by omega) (hv.2.2.2.1.same (h.trans hy))))
  have HR : O9 x.dat = if Xo (plO x) x = true then O9 (plO x).dat else 2 := by
   by_cases e : Xo (plO x) x = true
   ·rw [if_pos e, (Yq _ _).1 e]
   ·rw [if_neg e]
    exact q.eq.resolve_right (fun h => e ((Yq _ _).2 h))
  rw [q.tv] at t9;rw [t9] at HT;rw [HR];have HF := hid hf;have HP := hid hp;clear q dQ Cb oK tf nB HR t9 hf hp hk hn hs hv hB;generalize O9 (plO x).dat = F at *;generalize Xo (plO x) x = AL at *;generalize (plO x).val = pv at *;obtain ⟨k, t, p, g, s, ⟨bu, ⟨be, ba, bc, bb⟩⟩, ⟨au, ⟨ae, aa, ac, ab⟩⟩, u, n, ⟨te, ta, tn, tc, tb⟩, ⟨de, da, dn, dc, db⟩, ⟨ie, ia, ic, ib⟩⟩ := x;dsimp only [StLogRecord.val, StPageRecord.val, BS.v, FR.v] at *;obtain ⟨HK, HX⟩ := new1 w [Q1 k, Q1 t, Q1 p, Q1 g, Q1 s, .bool bu, .slice ba bb.length bc, .bool au, .slice aa ab.length ac, Q1 u, Q1 n, .slice ta tn tc, .slice da dn dc, .slice ia ib.length ic] 28
  go_enter Tryz.func25, Tryz.ntmps25
  go_wp2_with fail
  refine (HT.out _).mono ?_;rintro e w1 ⟨rfl, ah⟩;have HK := hid (HK.out.trans ah);have HX := hid (HX.out.same ah);clear ah HT;obtain ⟨z0, z1, z2, z3, z4, z5, z6, z7, z8, z9, bV, bW, bX, bY⟩ := HX.out.all14
  go_wp2_with fail
  go_region_with (first
   | (go_at_call 31; refine (HP.out _ HK.out.drew).mono ?_; rintro e wp ⟨rfl, AR⟩; have AK := HK.out.drew.trans AR; obtain ⟨y0, y1, y2, y3, y4, y5, y6, y7, y8, y9, FQ, Hq, IK, Fx⟩ := (HX.out.same (kZ0.drew.trans AR)).all14)
   | (go_at_call 59; refine (HS.out _ AK).mono ?_; rintro e ws ⟨rfl, cQ⟩))
  all_goals
   cases AL
   ·go_wp2
    go_ret;exact ⟨rfl, AK.trans cQ⟩
   ·go_wp2_with fail
    refine (HF.out _ (AK.trans cQ)).mono ?_;rintro e wf ⟨rfl, Ke⟩;go_wp2;go_ret;exact ⟨rfl, (AK.trans cQ).trans Ke⟩
 ·have hz : O9 x.dat = 1 := by
   have h : ∀ i : Int, 1 ≤ i ∧ i ≤ 8 → ¬ x.kind = i := fun i hi e => hk (by omega)
   show Pw x.kind _ _ _ _ _ _ _ _ _ _ _ _ _ = 1
   unfold Pw;rw [if_neg (h 1 (by omega)), if_neg (h 2 (by omega)), if_neg (h 3 (by omega)), if_neg (h 4 (by omega)), if_neg (h 5 (by omega)), if_neg (h 6 (by omega)), if_neg (h 7 (by omega)), if_neg (h 8 (by omega))]
  rw [YT hk] at HT;rw [hz];clear hz hk hv hn hs hB;have HT := HT.out;obtain ⟨k, t, p, g, s, ⟨bu, ⟨be, ba, bc, bb⟩⟩, ⟨au, ⟨ae, aa, ac, ab⟩⟩, u, n, ⟨te, ta, tn, tc, tb⟩, ⟨de, da, dn, dc, db⟩, ⟨ie, ia, ic, ib⟩⟩ := x;dsimp only [StLogRecord.val, StPageRecord.val, BS.v, FR.v] at *
  go_enter Tryz.func25, Tryz.ntmps25
  go_wp2_with (go_at_call 27; refine (HT _).mono ?_; rintro e w1 ⟨rfl, hk⟩)
  go_ret;exact ⟨rfl, (kZ0.alloc _).trans hk⟩
theorem Qc (x : StLogRecord) (w : World) (hB : x.isB) (hn : x.szs ≤ 1073741824) (hv : StLogRecord.rd w x) :
  Calls Tryz.prog 7 #[x.val] w fun e w' => e = .returned (Q1 (O9 x.dat)) ∧ Same w w' := by
 have hs := hn;simp only [StLogRecord.szs, StPageRecord.szs] at hs;have bg := hv.2.2.1.2.1;have NG := hv.2.2.2.1.2.1;obtain ⟨k, t, p, g, s, ⟨bu, ⟨be, ba, bc, bb⟩⟩, ⟨au, ⟨ae, aa, ac, ab⟩⟩, u, n, ⟨te, ta, tn, tc, tb⟩, ⟨de, da, dn, dc, db⟩, ⟨ie, ia, ic, ib⟩⟩ := x;dsimp only [StLogRecord.val, StPageRecord.val, BS.v, FR.v, O9, StLogRecord.dat, StPageRecord.dat, StLogRecord.isB, StLogRecord.rd, StPageRecord.rd] at *;rw [← jew k t p g s u n bu au bb ab tb db ib tn dn (Pm ib g) (by omega) (by omega) (fun _ => rfl)]
 exact jdl k t p g s bu ba bb.length bc au aa ab.length ac u n ta tn tc da dn dc ia ib.length ic w _ _ _ hv.1.1 hv.2.1.1
  (fun wx h => Zb k t p g s bu ba bb.length bc au aa ab.length ac u n ta tn tc da dn dc ia ib.length ic wx hv.1.1 hv.2.1.1 hv.2.2.1.1 hv.2.2.2.1.1 hv.2.2.2.2.1)
  (fun wx h => Y8 k t p g s bu ba bb.length bc au aa ab.length ac u n ia ib.length ic ⟨te, ta, tn, tc, tb⟩ ⟨de, da, dn, dc, db⟩ wx (RdF.same hv.2.2.1 h) (RdF.same hv.2.2.2.1 h))
  (fun _ wx h => Uy _ ib g wx hB.2.2 (by omega) (Rd.same hv.2.2.2.2 h))
end Go.Proofs.YtapdfgkbhaoelaaGreatDoor
