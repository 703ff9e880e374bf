import Derived.Test.YtapdfgkbhaoelaaGreatDoorG46
import Derived.ChangeSame
import Derived.JoinedOf
import Derived.RowKit
import Derived.Stop.Joined
namespace Go.Proofs.YtapdfgkbhaoelaaGreatDoor
set_option maxRecDepth 100000
set_option maxHeartbeats 4000000
open Go.RowKit
set_option linter.unusedVariables false
set_option linter.unusedSimpArgs false
def Bent (H S : List Int) (f j : Nat) (bs : List Int) : Prop := ∃ T b, bs = H ++ T ∧ T.length = S.length ∧ IsB bs ∧ le T = le S ^^^ 2 ^ f * b ∧ b < 2 ^ j ∧ (1 ≤ j → b ≠ 0)
section
variable {H S bs : List Int} {f j : Nat}
theorem Bent.start (hB : IsB (H ++ S)) : Bent H S f 0 (H ++ S) := ⟨S, 0, rfl, rfl, hB, by simp, by simp, fun h => by omega⟩
theorem Bent.len (h : Bent H S f j bs) : bs.length = H.length + S.length := by
 obtain ⟨T, b, rfl, hT, _⟩ := h;rw [List.length_append, hT]
theorem Bent.isB (h : Bent H S f j bs) : IsB bs := by
 obtain ⟨T, b, rfl, hT, hB, _⟩ := h;exact hB
theorem Bent.skip (h : Bent H S f j bs) (hj : 1 ≤ j) : Bent H S f (j + 1) bs := by
 obtain ⟨T, b, rfl, hT, hB, hl, hb, h0⟩ := h;exact ⟨T, b, rfl, hT, hB, hl, Nat.lt_of_lt_of_le hb (Nat.pow_le_pow_right (by decide) (by omega)), fun _ => h0 hj⟩
theorem Bent.flip (h : Bent H S f j bs) (hH : H.length = 8) (hf : f + j < 8 * S.length) {q s : Nat} (hq : (64 + f + j) / 8 = q) (hs : (64 + f + j) % 8 = s) {z : Int} (hz : ((bs.getD q 0).toNat ^^^ 2 ^ s : Nat) = z) (cE : z < 256) : Bent H S f (j + 1) (bs.set q z) := by
 obtain ⟨T, b, rfl, hT, hB, hl, hb, h0⟩ := h
 have rp : (f + j) / 8 = q - 8 := by omega
 have EA : (f + j) % 8 = s := by omega
 have hg : (H ++ T).getD q 0 = T.getD (q - 8) 0 := by
  rw [List.getD_eq_getElem?_getD, List.getD_eq_getElem?_getD, List.getElem?_append_right (by omega), hH]
 rw [hg] at hz
 have lK : (H ++ T).set q z = H ++ T.set (q - 8) z := by
  rw [List.set_append_right _ _ (by omega), hH]
 have Ii := jcA b j hb;have uc := jeu T S f j b (by omega) hl;rw [rp, EA, hz] at uc;rw [lK];refine ⟨T.set (q - 8) z, b ^^^ 2 ^ j, rfl, by rw [List.length_set]; exact hT, ?_, uc, Ii.1, fun _ => Ii.2⟩;rw [← lK];intro y hy
 rcases List.mem_or_eq_of_mem_set hy with hy | rfl
 ·exact hB y hy
 ·exact ⟨by omega, by omega⟩
end
theorem jd7 {lsn ep : Int} {R bs : List Int} {f j : Nat} (hl : 1 ≤ lsn ∧ lsn ≤ 1099511627776) (he : 1 ≤ ep ∧ ep ≤ 4294967295) (hR : 13 ≤ R.length ∧ R.length ≤ 4111) (hB : IsB R)
  (h : Bent (OW (20 + (R.length : Int)) 4 ++ OW (Pp 0 (QB lsn ep R)) 4) (QB lsn ep R) f j bs) (hf : f ≤ 8 * (QB lsn ep R).length) (h1 : 1 ≤ j) (h2 : j ≤ 32) (l lo hi : Int) : QT bs l lo hi = Q9 2 := by
 obtain ⟨T, b, rfl, hT, _, ji, hb, h0⟩ := h;rw [List.append_assoc];exact jbT hl he hR hB T f b hT hf ji (Nat.lt_of_lt_of_le hb (Nat.le_trans (Nat.pow_le_pow_right (by decide) h2) (by decide))) (h0 h1) l lo hi
theorem jdi {lsn ep : Int} {R : List Int} (hl : 1 ≤ lsn ∧ lsn ≤ 1099511627776) (he : 1 ≤ ep ∧ ep ≤ 4294967295) (hR : 13 ≤ R.length ∧ R.length ≤ 4111) (hB : IsB R) :
  ∃ H S, frB lsn ep R = H ++ S ∧ H.length = 8 ∧ (frB lsn ep R).length = 8 + S.length ∧ ∀ f j bs, Bent H S f j bs → f ≤ 8 * S.length → 1 ≤ j → j ≤ 32 → ∀ l lo hi, (QT bs l lo hi).1 = 2 := by
 have hc := R6 0 (QB lsn ep R) (by omega) (by omega) (Sz hB);refine ⟨_, _, rfl, by rw [List.length_append, VU (by omega) (by omega), VU hc.1 (by omega)], by rw [jaL hl he hR hB, V4 hl he]; omega, fun f j bs h hf h1 h2 l lo hi => ?_⟩;rw [jd7 hl he hR hB h hf h1 h2];rfl
end Go.Proofs.YtapdfgkbhaoelaaGreatDoor

namespace Go.Proofs.YtapdfgkbhaoelaaGreatDoor
set_option maxRecDepth 100000
set_option maxHeartbeats 4000000
open Go.RowKit
set_option linter.unusedVariables false
set_option linter.unusedSimpArgs false
theorem jdj {k : IntKind} {w : World} {a : Option Addr} {n c : Nat} {bs : List Int} (h : Rd k w (.slice a n c) bs) (m : Nat) (hm : m ≤ n) : Rd k w (.slice a m c) (bs.take m) := by
 rcases h.2 with ⟨rfl, a', c', he, hn⟩ | ⟨b, off, c', he, hl, hc⟩
 ·injection he with h1 h2 h3
  subst h1 h2 h3
  obtain rfl : m = 0 := by omega
  exact ⟨by simp, .inl ⟨by simp, _, _, rfl, hn⟩⟩
 ·injection he with h1 h2 h3
  subst h1 h2 h3;exact h.front m hm
theorem jdk {k : IntKind} {w : World} {a : Option Addr} {n c : Nat} {bs : List Int} (h : Rd k w (.slice a n c) bs) (hn : bs.length = n) : n ≤ c := by
 rcases h.2 with ⟨h0, _⟩ | ⟨_, _, _, h1, h2, _⟩
 ·rw [h0] at hn
  rw [← hn];exact Nat.zero_le _
 ·injection h1 with _ h3 h4
  omega
theorem Yp (w : World) : Own 0 5 .u8 (w.alloc (.cells #[] 5)) (.slice (some ⟨w.heap.size, 0, none⟩) 0 0) [] :=
 Own.mono (base := w.heap.size) (World.ownsRow_made w #[] 0 (Nat.le_refl _) (by simp) (by simp)) (fun b _ => Nat.zero_le b)
theorem Xm {v : Value} {bs : List Int} {l m n c : Int} (hc : (QT bs l m n).1 = c) (w : World) (hB : IsB bs) (hI : IsI l) (hl : bs.length ≤ 1099511627776) (hv : Rd .u8 w v bs) :
  Calls Tryz.prog 19 #[v, Q1 l, Q1 m, Q1 n] w fun e w' => ∃ fs, e = .returned (.agg (Q1 c :: fs).toArray) ∧ fs.length = 16 ∧ Same w w' := by
 refine (jfy v bs l m n w hB hI hl hv).mono ?_;rintro e w' ⟨cs, rfl, h1, _, hk⟩;rw [hc];exact ⟨_, rfl, by rw [List.length_cons, List.length_cons, h1], hk⟩
theorem jd8 (c : Int) {f0 f1 : Value} {fs : List Value} (hl : fs.length = 14) (w : World) : (Instr.field 50 (.agg (Q1 c :: f0 :: f1 :: fs).toArray) 0).run Tryz.prog w = .ok (Q1 c) w := by
 obtain ⟨x0, x1, x2, x3, x4, x5, x6, x7, x8, x9, GI, Gi, IQ, FV, rfl⟩ := jcX hl
 kernel_rfl
theorem Xn (c : Int) {fs : List Value} (hl : fs.length = 16) (w : World) : (Instr.field 50 (.agg (Q1 c :: fs).toArray) 0).run Tryz.prog w = .ok (Q1 c) w := by
 match fs, hl with
 | f0 :: f1 :: fs, h => exact jd8 c (by simpa using h) w
end Go.Proofs.YtapdfgkbhaoelaaGreatDoor

namespace Go.Proofs.YtapdfgkbhaoelaaGreatDoor
set_option maxRecDepth 100000
set_option maxHeartbeats 16000000
open Go.RowKit
set_option linter.unusedVariables false
set_option linter.unusedSimpArgs false
theorem Y7 (v0 : Value) (cs : List Int) (v1 : Value) (ms : List Int) (a0 a1 a2 a3 a4 : Addr) (w : World) (hE : Errs5 w a0 a1 a2 a3 a4) (nu : Rd .u8 w v0 cs) (qh : IsB cs) (gl : Rd .u8 w v1 ms) (E1 : IsB ms) :
  Calls Tryz.prog 3 #[v0, v1] w fun e w' => e = .returned (.bool true) ∧ Same w w' := by
 obtain ⟨av, cv, rfl⟩ := nu.form;obtain ⟨bv, uH, rfl⟩ := gl.form;have yM := nu.1;have i6 := gl.1;unfold maxLen at yM i6
 by_cases h0 : (1048576 : Int) < (cs.length : Int)
 ·go_enter Tryz.func3, Tryz.ntmps3
  go_wp2;go_ret;exact ⟨rfl, kZ0⟩
 by_cases h1 : (1048576 : Int) < (ms.length : Int)
 ·go_enter Tryz.func3, Tryz.ntmps3
  go_wp2;go_ret;exact ⟨rfl, kZ0⟩
 have kD := jaS (.slice av cs.length cv) cs w qh (by omega) nu;have kN := hid (fun wx (hx : Same w wx) => jaW (.slice bv ms.length uH) ms wx E1 (by omega) (gl.same hx));have kM := hid (fun wx (hx : Same w wx) => jaV (.slice av cs.length cv) cs wx qh (by omega) (nu.same hx));have uK := hid hE;have nj := hid gl;have bQ := hid E1;clear nu gl qh E1 yM i6 hE;generalize cs.length = cn at kD kM h0
 go_enter Tryz.func3, Tryz.ntmps3
 go_wp2_with fail
 refine kD.mono ?_;rintro e w1 ⟨p, q, y, rfl, hp, hq, b9, dQ, rj, ah⟩;clear kD;have hR : RecAt w1 (O8 y) y.dat := ⟨y, rfl, rfl, dQ, by omega, b9⟩;generalize O8 y = xs at *;generalize y.dat = d at *;have HR := hid hR;have HL : Hid (xs.length = 14) := hR.len;have HO : Hid (xs.toArray.all (·.oneCell') = true) := hR.cells;have HK := hid ah;clear hR b9 dQ rj ah
 go_upto_region 4 with (refine wpList_store_mid rfl 28 _ _ rfl w1.heap.size 0 xs.toArray rfl rfl ((Blk.new w1 _ _).there 0 _ (by rw [List.size_toArray, HL.out]; decide)) (by rw [List.size_toArray, HL.out]; kernel_rfl) HO.out ?_; rw [List.toList_toArray])
 generalize hW : World.setCells _ w1.heap.size 0 xs = w2
 have cC : Blk w2 w1.heap.size 28 xs ∧ Same w1 w2 := by rw [← hW]; exact U6 w1 _ xs _ (by rw [HL.out]; rfl)
 clear hW;obtain ⟨Y, hY⟩ : ∃ Y, w1.heap.size = Y := ⟨_, rfl⟩;rw [hY] at cC ⊢;clear hY;have HY := hid cC.1;replace HK := hid (HK.out.trans cC.2);replace HR := hid (HR.out.same cC.2);clear cC;have HI := (show Hid ((Tryz.prog.info? 28).map (·.size) = some xs.length) from by unfold Hid; rw [HL.out]; kernel_rfl);have Em := hid HR.out.bytes;have nD := hid (ja7 HR.out.flat);have gq := hid (U3 d)
 go_wp2_with (refine wpList_load_mid rfl 28 _ rfl Y 0 rfl xs _ HY.out.rangeAll Tryz.underlying28 rfl HI.out ?_)
 refine (HR.out.enc).mono ?_;rintro e w3 ⟨ea, ec, rfl, uE, hk⟩;replace HK := hid (HK.out.trans hk);replace HY := hid (HY.out.same hk);replace HR := hid (HR.out.same hk);have rx := hid uE;clear uE hk;obtain ⟨E, Dq⟩ : ∃ E, P8 d = E := ⟨_, rfl⟩;rw [Dq] at Em nD gq rx ⊢;have NM := hid Dq;clear Dq;obtain ⟨g, d2, fq⟩ : ∃ g d2, QU E = (g, d2) := ⟨_, _, rfl⟩
 have HG := (show Hid ((g = true ∧ O9 d = 0 ∧ d2 = d) ∨ (g = false ∧ ¬ O9 d = 0)) from by
  have h := nD.out;rw [fq] at h
  by_cases h0 : O9 d = 0
  ·rw [if_pos h0] at h
   injection h with h1 h2
   exact .inl ⟨h1, h0, h2⟩
  ·rw [if_neg h0] at h
   injection h with h1 h2
   exact .inr ⟨h1, h0⟩)
 have kd := jef (.slice ea E.length ec) E w3 Em.out (by have := gq.out; omega) rx.out.rd;rw [fq] at kd;clear fq nD;generalize E.length = En at kd rx gq ⊢
 go_wp2_with fail
 refine kd.mono ?_;rintro e w4 ⟨ds, rfl, gM, b9, hk⟩;clear kd;dsimp only at b9 ⊢;replace HK := hid (HK.out.trans hk);replace HY := hid (HY.out.same hk);replace HR := hid (HR.out.same hk);replace rx := hid (rx.out.same hk);have HD := hid b9;have jF := hid gM;have oc : Hid ((Value.bool g :: ds).toArray.all (·.oneCell') = true) := Ud rfl b9.cells;clear b9 gM hk
 go_upto_region 6 with (refine wpList_store_mid rfl 33 _ _ rfl w4.heap.size 0 (Value.bool g :: ds).toArray rfl rfl ((Blk.new w4 _ _).there 0 _ (by rw [List.size_toArray, List.length_cons, jF.out]; decide)) (by rw [List.size_toArray, List.length_cons, jF.out]; kernel_rfl) oc.out ?_; rw [List.toList_toArray])
 generalize hW : World.setCells _ w4.heap.size 0 (Value.bool g :: ds) = w5
 have cC : Blk w5 w4.heap.size 33 (.bool g :: ds) ∧ Same w4 w5 := by rw [← hW]; exact U6 w4 _ (.bool g :: ds) _ (by show 15 = ds.length + 1; rw [jF.out])
 clear hW;obtain ⟨Z, hZ⟩ : ∃ Y, w4.heap.size = Y := ⟨_, rfl⟩;rw [hZ] at cC ⊢;clear hZ;have HZ := hid cC.1;replace HK := hid (HK.out.trans cC.2);replace HY := hid (HY.out.same cC.2);replace HR := hid (HR.out.same cC.2);replace rx := hid (rx.out.same cC.2);replace HD := hid (HD.out.same cC.2);clear cC;have HJ : Hid ((Tryz.prog.info? 28).map (·.size) = some ds.length) := by unfold Hid; rw [jF.out]; kernel_rfl
 try simp only [Act.put]
 go_cut [54] (fun v wx => v = .bool false ∧ Hid (Same w5 wx))
 case first =>
  as_aux_lemma =>
  have HS := (show Hid (∀ wx, Same w5 wx → (D0 wx Z 0 (.bool g) ∧ wx.rangeAt Z 1 ds ∧ wx.rangeAt Y 0 xs)) from fun wx h => ⟨(HZ.out.same h).cell 0, (HZ.out.same h).range 1 ds (fun j v hv => by rw [Nat.add_comm, List.getElem?_cons_succ]; exact hv), (HY.out.same h).rangeAll⟩);have HV : Hid (Same w5 w5.drew) := kZ0.drew;refine O0 (fun wx : World => D0 wx Z 0 (.bool g) ∧ wx.rangeAt Z 1 ds ∧ wx.rangeAt Y 0 xs) 99 17 ?_;refine tk 0 38 (HS.out _ HV.out) ?_;refine tkV 1 39 (.bool g) (HS.out _ HV.out) ?_;refine tkV 2 40 (.agg xs.toArray) (HS.out _ HV.out) ?_ (hy := fun wx aR => Q6 rfl rfl aR.2.2 Tryz.underlying28 rfl HI.out);refine tkE 3 (w7 := w5) (A := fun _ v _ => v = Q1 (O9 d)) (fun wx h => (HR.out.same h).flt.mono (fun e w' ⟨a, b⟩ => ⟨_, a, rfl, b⟩)) HS.out HV.out ?_;rintro _ u1 rfl hk hS
  rcases HG.out with ⟨rfl, h0, rfl⟩ | ⟨rfl, h0⟩
  ·rw [h0]
   refine tkV 4 42 (.bool true) hS ?_;refine tkV 5 43 (.bool false) hS ?_;refine tk 6 44 hS ?_;refine tk 7 45 hS ?_;refine tkV 8 46 (.bool true) hS ?_;refine tk 9 47 hS ?_;refine tk 10 48 hS ?_;refine tkV 11 49 (.agg ds.toArray) hS ?_ (hy := fun wx aR => Q6 rfl rfl aR.2.1 Tryz.underlying28 rfl HJ.out);refine tkV 12 50 (.agg xs.toArray) hS ?_ (hy := fun wx aR => Q6 rfl rfl aR.2.2 Tryz.underlying28 rfl HI.out);refine tkE 13 (w7 := w5) (A := fun _ v _ => v = .bool true) (fun wx h => ((HD.out.same h).one (HR.out.same h)).mono (fun e w' ⟨a, b⟩ => ⟨_, a, rfl, b⟩)) HS.out hk ?_;rintro _ u2 rfl aj hS;refine tkV 14 52 (.bool false) hS ?_;refine tkV 15 53 (.bool false) hS ?_;refine tkV 16 54 (.bool false) hS ?_;refine OZ ?_;have HQ := hid aj;clear hS hk aj
   go_wp2_with fail
   go_meet
   case rel => exact ⟨rfl, HQ⟩
  ·have e0 : (O9 d == 0) = false := by simp [h0]
   refine tkV 4 42 (.bool false) hS ?_;refine tkV 5 43 (.bool false) hS ?_;refine tk 6 44 hS ?_;refine tk 7 45 hS ?_;refine tkV 8 46 (.bool false) hS ?_;refine tk 9 47 hS ?_;refine tkS 10 48 hS ?_;refine tkS 11 49 hS ?_;refine tkS 12 50 hS ?_;refine tkS 13 51 hS ?_;refine tkS 14 52 hS ?_;refine tkV 15 53 (.bool false) hS ?_;refine tkV 16 54 (.bool false) hS ?_;refine OZ ?_;have HQ := hid hk;clear hS hk
   go_wp2_with fail
   go_meet
   case rel => exact ⟨rfl, HQ⟩
 case rest =>
 as_aux_lemma =>
 obtain ⟨w6, rfl⟩ : ∃ x, x = wc := ⟨wc, rfl⟩;obtain ⟨rfl, dX⟩ := hcut;replace HK := hid (HK.out.trans dX.out);replace HY := hid (HY.out.same dX.out);replace HR := hid (HR.out.same dX.out);clear dX HZ HD jF oc HJ rx
 go_wp2_with fail
 refine (kN.out _ HK.out).mono ?_;rintro e w7 ⟨na, nn, nc, ys, rfl, rfl, dQ, qZ, b9, hk⟩;replace HK := hid (HK.out.trans hk);replace HY := hid (HY.out.same hk);replace HR := hid (HR.out.same hk);have HN := hid b9;have kx := hid dQ;clear b9 dQ hk;obtain ⟨g2, d3, fq⟩ : ∃ g d2, QU ys = (g, d2) := ⟨_, _, rfl⟩
 have uh := (show Hid (g2 = true → P8 d3 = ys) from fun h => by
  have h1 : (QU ys).1 = true := by rw [fq]; exact h
  obtain ⟨h2, h3⟩ := jcR h1;rw [fq] at h2 h3;rw [P9 h2]
  exact h3)
 have kd := jef (.slice na ys.length nc) ys w7 kx.out (by omega) HN.out
 have kS := fun wx (h : Rd .u8 wx (.slice na ys.length nc) ys) => jeW (.slice na ys.length nc) ys wx kx.out (by omega) h
 rw [fq] at kd kS;clear fq;obtain ⟨yn, uz⟩ : ∃ n, ys.length = n := ⟨_, rfl⟩;have KN := hid uz;rw [uz] at kd kS HN qZ ⊢;clear uz
 go_wp2_with fail
 refine kd.mono ?_;rintro e w8 ⟨es, rfl, gM, b9, hk⟩;clear kd;dsimp only at b9 kS ⊢;replace HK := hid (HK.out.trans hk);replace HY := hid (HY.out.same hk);replace HR := hid (HR.out.same hk);replace HN := hid (HN.out.same hk);have HD := hid b9;have jF := hid gM;have oc : Hid ((Value.bool g2 :: es).toArray.all (·.oneCell') = true) := Ud rfl b9.cells;clear b9 gM hk
 go_upto_region 10 with (refine wpList_store_mid rfl 33 _ _ rfl w8.heap.size 0 (Value.bool g2 :: es).toArray rfl rfl ((Blk.new w8 _ _).there 0 _ (by rw [List.size_toArray, List.length_cons, jF.out]; decide)) (by rw [List.size_toArray, List.length_cons, jF.out]; kernel_rfl) oc.out ?_; rw [List.toList_toArray])
 generalize hW : World.setCells _ w8.heap.size 0 (Value.bool g2 :: es) = w9
 have cC : Blk w9 w8.heap.size 33 (.bool g2 :: es) ∧ Same w8 w9 := by rw [← hW]; exact U6 w8 _ (.bool g2 :: es) _ (by show 15 = es.length + 1; rw [jF.out])
 clear hW;obtain ⟨Z2, hZ⟩ : ∃ Y, w8.heap.size = Y := ⟨_, rfl⟩;rw [hZ] at cC ⊢;clear hZ;have HZ := hid cC.1;replace HK := hid (HK.out.trans cC.2);replace HY := hid (HY.out.same cC.2);replace HR := hid (HR.out.same cC.2);replace HN := hid (HN.out.same cC.2);replace HD := hid (HD.out.same cC.2);clear cC;have HJ : Hid ((Tryz.prog.info? 28).map (·.size) = some es.length) := by unfold Hid; rw [jF.out]; kernel_rfl
 try simp only [Act.put]
 go_cut [76] (fun v wx => v = .bool false ∧ Hid (Same w9 wx))
 case first =>
  as_aux_lemma =>
  have HS := (show Hid (∀ wx, Same w9 wx → (D0 wx Z2 0 (.bool g2) ∧ wx.rangeAt Z2 1 es)) from fun wx h => ⟨(HZ.out.same h).cell 0, (HZ.out.same h).range 1 es (fun j v hv => by rw [Nat.add_comm, List.getElem?_cons_succ]; exact hv)⟩);have HV : Hid (Same w9 w9.drew) := kZ0.drew;refine O0 (fun wx : World => D0 wx Z2 0 (.bool g2) ∧ wx.rangeAt Z2 1 es) 99 18 ?_;have hS := HS.out _ HV.out;refine tk 0 59 hS ?_;refine tkV 1 60 (.bool g2) hS ?_;refine tk 2 61 hS ?_
  cases g2
  ·refine tkS 3 62 hS ?_
   refine tkS 4 63 hS ?_;refine tkS 5 64 hS ?_;refine tkS 6 65 hS ?_;refine tkS 7 66 hS ?_;refine tkS 8 67 hS ?_;refine tkV 9 68 (.bool false) hS ?_;refine tk 10 69 hS ?_;refine tk 11 70 hS ?_;refine tkV 12 71 (.bool false) hS ?_;refine tk 13 72 hS ?_;refine tkE 14 (w7 := w9) (A := fun _ v _ => ∃ fs, v = .agg (.bool false :: fs).toArray ∧ fs.length = 14) (fun wx h => (kS wx (HN.out.same h)).mono (fun e w' ⟨fs, a, l, b⟩ => ⟨_, a, ⟨fs, rfl, l⟩, b⟩)) HS.out HV.out ?_;rintro _ u4 ⟨fs, rfl, oD⟩ cS hS;refine tkV 15 74 (.bool false) hS ?_ (hy := fun wx _ => Xe rfl rfl (jcY _ oD wx));refine tkV 16 75 (.bool false) hS ?_;refine tkV 17 76 (.bool false) hS ?_;refine OZ ?_;have HQ := hid cS;clear hS cS
   go_wp2_with fail
   go_meet
   case rel => exact ⟨rfl, HQ⟩
  ·refine tk 3 62 hS ?_
   refine tkV 4 63 (.agg es.toArray) hS ?_ (hy := fun wx aR => Q6 rfl rfl aR.2 Tryz.underlying28 rfl HJ.out);refine tk 6 65 hS ?_;refine tkE 5 (w7 := w9) (A := fun _ v w' => Rd .u8 w' v ys) (fun wx h => (HD.out.same h).enc.mono (fun e w' ⟨a, c, e1, ho, b⟩ => ⟨_, e1, by rw [uh.out rfl] at ho ⊢; exact ho.rd, b⟩)) HS.out HV.out ?_;rintro v1 u1 du ah hS;refine tkE 7 (w7 := u1) (A := fun _ v _ => v = .bool true) (fun wx h => (Yh v1 _ ys ys wx kx.out kx.out (du.same h) (HN.out.same (ah.trans h))).mono (fun e w' ⟨a, b⟩ => ⟨_, a, by rw [decide_eq_true rfl], b⟩)) (fun wx h => HS.out _ (ah.trans h)) kZ0 ?_;rintro _ u2 rfl aj hS;have aO := hid (ah.trans aj);clear du ah aj;refine tkV 8 67 (.bool false) hS ?_;refine tkV 9 68 (.bool false) hS ?_;refine tk 10 69 hS ?_;refine tk 11 70 hS ?_;refine tkV 12 71 (.bool true) hS ?_;refine tk 13 72 hS ?_;refine tkE 14 (w7 := w9) (A := fun _ v _ => ∃ fs, v = .agg (.bool true :: fs).toArray ∧ fs.length = 14) (fun wx h => (kS wx (HN.out.same h)).mono (fun e w' ⟨fs, a, l, b⟩ => ⟨_, a, ⟨fs, rfl, l⟩, b⟩)) HS.out aO.out ?_;rintro _ u4 ⟨fs, rfl, oD⟩ cS hS;refine tkV 15 74 (.bool true) hS ?_ (hy := fun wx _ => Xe rfl rfl (jcY _ oD wx));refine tkV 16 75 (.bool false) hS ?_;refine tkV 17 76 (.bool false) hS ?_;refine OZ ?_;have HQ := hid cS;clear hS cS
   go_wp2_with fail
   go_meet
   case rel => exact ⟨rfl, HQ⟩
 case rest =>
 as_aux_lemma =>
 obtain ⟨mQ, rfl⟩ : ∃ x, x = wc := ⟨wc, rfl⟩;obtain ⟨rfl, dX⟩ := hcut;replace HK := hid (HK.out.trans dX.out);replace HY := hid (HY.out.same dX.out);replace HR := hid (HR.out.same dX.out);clear dX HZ HD jF oc HJ HN kx uh kS KN
 go_wp2_with fail
 refine (kM.out _ HK.out).mono ?_;rintro e lN ⟨s, ep, c, l, rfl, hk⟩;replace HK := hid (HK.out.trans hk);replace HY := hid (HY.out.same hk);replace HR := hid (HR.out.same hk);clear hk;have fo : Same lN (lN.alloc (.cells #[Q1 s, Q1 ep, Q1 c, Q1 l] 40)) := kZ0.alloc _;have HM := hid (Blk.new lN #[Q1 s, Q1 ep, Q1 c, Q1 l] 40);replace HK := hid (HK.out.trans fo);replace HY := hid (HY.out.same fo);replace HR := hid (HR.out.same fo);obtain ⟨M, hM⟩ : ∃ D, lN.heap.size = D := ⟨_, rfl⟩;rw [hM] at HM;have IY := hid hM;clear hM fo
 go_upto_region 13 with fail
 try rw [IY.out]
 generalize lN.alloc (.cells #[Q1 s, Q1 ep, Q1 c, Q1 l] 40) = vn at HM HK HY HR ⊢;clear IY;obtain ⟨m0, m1, m2, m3⟩ := HM.out.all4;have kE := jaU s ep c l a0 a1 a2 vn (uK.out.same HK.out).errs
 have AJ := (show Hid ((mF s ep c l = 0 ∧ (Uw s ep c l).length = 512 ∧ jb5 (Uw s ep c l) = .agg #[.bool true, Q1 0, Q1 s, Q1 ep, Q1 c, Q1 l]) ∨ (¬ mF s ep c l = 0 ∧ (Uw s ep c l).length = 0)) from by
  unfold Hid;unfold Uw
  by_cases h : mF s ep c l = 0
  ·obtain ⟨d1, d2, d3, d4, d5⟩ := je0 h
   rw [if_pos h];refine .inl ⟨h, QF _ _ _ _, ?_⟩;rw [jah d5, d1, d2, d3, d4];rfl
  ·rw [if_neg h]
   exact .inr ⟨h, rfl⟩)
 have C3 := hid (jdh s ep c l);obtain ⟨bs, mI⟩ : ∃ x, Uw s ep c l = x := ⟨_, rfl⟩;rw [mI] at kE AJ C3;clear mI;obtain ⟨bn, iJ⟩ : ∃ n, bs.length = n := ⟨_, rfl⟩;rw [iJ] at kE AJ;have vh := hid iJ;clear iJ
 go_wp2_with fail
 refine kE.mono ?_;rintro e om ⟨ma, mc, rfl, _, Ey, hk⟩;have FU := hid Ey.rd;clear kE Ey m0 m1 m2 m3;replace HK := hid (HK.out.trans hk);replace HY := hid (HY.out.same hk);replace HR := hid (HR.out.same hk);replace HM := hid (HM.out.same hk);clear hk
 go_upto_region 14 with fail
 try simp only [Act.put]
 go_cut [99] (fun v wx => v = .bool false ∧ Hid (Same om wx))
 case first =>
  as_aux_lemma =>
  have HS := (show Hid (∀ wx, Same om wx → (fun wx : World => D0 wx M 0 (Q1 s) ∧ D0 wx M 1 (Q1 ep) ∧ D0 wx M 2 (Q1 c) ∧ D0 wx M 3 (Q1 l)) wx) from fun wx h => (HM.out.same h).all4);have HV : Hid (Same om om.drew) := kZ0.drew;refine O0 (fun wx : World => D0 wx M 0 (Q1 s) ∧ D0 wx M 1 (Q1 ep) ∧ D0 wx M 2 (Q1 c) ∧ D0 wx M 3 (Q1 l)) 99 19 ?_;have hS := HS.out _ HV.out;refine tk 0 81 hS ?_;refine tkV 1 82 (Q1 (bn : Int)) hS ?_;refine tkV 3 84 (.agg #[Q1 s, Q1 ep, Q1 c, Q1 l]) hS ?_
  rcases AJ.out with ⟨h0, rfl, M6⟩ | ⟨h0, rfl⟩
  ·refine tkV 2 83 (.bool true) hS ?_
   refine tkE 4 (w7 := om) (A := fun _ v _ => v = Q1 0) (fun wx h => (Wz s ep c l wx).mono (fun e w' ⟨a, b⟩ => ⟨_, a, by rw [h0], b⟩)) HS.out HV.out ?_;rintro _ u1 rfl hk hS;refine tkV 5 86 (.bool true) hS ?_;refine tkV 6 87 (.bool false) hS ?_;refine tk 7 88 hS ?_;refine tk 8 89 hS ?_;refine tkV 9 90 (Q1 512) hS ?_;refine tkV 10 91 (.bool true) hS ?_;refine tk 11 92 hS ?_;refine tk 12 93 hS ?_;refine tkV 14 95 (.agg #[Q1 s, Q1 ep, Q1 c, Q1 l]) hS ?_;refine tkV 15 96 (.agg #[.bool true, Q1 0, Q1 s, Q1 ep, Q1 c, Q1 l]) hS ?_;refine tkE 13 (w7 := om) (A := fun _ v _ => v = .agg #[.bool true, Q1 0, Q1 s, Q1 ep, Q1 c, Q1 l]) (fun wx h => (Y0 _ bs a0 a1 a2 a3 a4 wx (uK.out.same (HK.out.trans h)) C3.out (by have := FU.out.same h; exact this)).mono (fun e w' ⟨a, b⟩ => ⟨_, a, M6, b⟩)) HS.out hk ?_;rintro _ u2 rfl aj hS;refine tkV 16 97 (.bool false) hS ?_;refine tkV 17 98 (.bool false) hS ?_;refine tkV 18 99 (.bool false) hS ?_;refine OZ ?_;have HQ := hid aj;clear hS hk aj
   go_wp2_with fail
   go_meet
   case rel => exact ⟨rfl, HQ⟩
  ·refine tkV 2 83 (.bool false) hS ?_
   refine tkE 4 (w7 := om) (A := fun _ v _ => v = Q1 (mF s ep c l)) (fun wx h => (Wz s ep c l wx).mono (fun e w' ⟨a, b⟩ => ⟨_, a, rfl, b⟩)) HS.out HV.out ?_;rintro _ u1 rfl hk hS
   have e0 : (mF s ep c l == 0) = false := by simp [h0]
   refine tkV 5 86 (.bool false) hS ?_;refine tkV 6 87 (.bool false) hS ?_;refine tk 7 88 hS ?_;refine tk 8 89 hS ?_;refine tkV 9 90 (Q1 0) hS ?_;refine tkV 10 91 (.bool false) hS ?_;refine tk 11 92 hS ?_;refine tkS 12 93 hS ?_;refine tkS 13 94 hS ?_;refine tkS 14 95 hS ?_;refine tkS 15 96 hS ?_;refine tkS 16 97 hS ?_;refine tkV 17 98 (.bool false) hS ?_;refine tkV 18 99 (.bool false) hS ?_;refine OZ ?_;have HQ := hid hk;clear hS hk
   go_wp2_with fail
   go_meet
   case rel => exact ⟨rfl, HQ⟩
 case rest =>
 as_aux_lemma =>
 obtain ⟨zQ, rfl⟩ : ∃ x, x = wc := ⟨wc, rfl⟩;obtain ⟨rfl, dX⟩ := hcut;replace HK := hid (HK.out.trans dX.out);replace HY := hid (HY.out.same dX.out);replace HR := hid (HR.out.same dX.out);clear dX HM AJ C3 vh FU
 by_cases hy : O9 d = 0 ∧ (1 ≤ p ∧ p ≤ 1099511627776) ∧ (1 ≤ q ∧ q ≤ 4294967295)
 case neg =>
  have kF := HR.out.frm p q hp hq;have kG := hid (fun wx (h : Same zQ wx) => (HR.out.same h).frs p q hp hq);rw [YV hy] at kF kG;unfold Yl at kF;rw [List.length_nil] at kF;clear hy
  go_wp2_with (refine wpList_load_mid rfl 28 _ rfl Y 0 rfl xs _ HY.out.rangeAll Tryz.underlying28 rfl HI.out ?_)
  refine kF.mono ?_;rintro e l7 ⟨fa, fc, rfl, _, hk⟩;clear kF;replace HY := hid (HY.out.same hk);have kH := kG.out l7 hk;replace HK := hid (HK.out.trans hk);clear hk kG HR;unfold Yl at kH;rw [List.length_nil] at kH
  go_wp2_with (refine wpList_load_mid rfl 28 _ rfl Y 0 rfl xs _ HY.out.rangeAll Tryz.underlying28 rfl HI.out ?_)
  refine kH.mono ?_;rintro e yZ ⟨Og, OM, rfl, _, hk⟩;replace HK := hid (HK.out.trans hk);clear kH hk;go_wp2;go_ret;exact ⟨rfl, HK.out⟩
 have pD := Yg hy.1
 have qv : IsB (Pe d) := by have := HR.out.bytes; rwa [P9 hy.1] at this
 have kF := HR.out.frm p q hp hq;rw [WZ hy] at kF;unfold Yl at kF;have mb := hid (jaL hy.2.1 hy.2.2 pD qv);have zy := hid (show IsB (frB p q (Pe d)) from ((PU _ _).app (PU _ _)).app (Sz qv));have lv := hid pD;have fN := hid qv
 have Bo := (show Hid (QU (Pe d) = (true, d)) from by
  have h := ja7 HR.out.flat
  rwa [if_pos hy.1, P9 hy.1] at h)
 have js := hy.2.1;have fj := hy.2.2;have xM : Hid (WY d = 20 + ((Pe d).length : Int)) := Um hy.1;clear hy pD qv;obtain ⟨R, hR⟩ : ∃ R, Pe d = R := ⟨_, rfl⟩;rw [hR] at kF mb zy lv fN Bo xM;clear hR;obtain ⟨F, hF⟩ : ∃ F, frB p q R = F := ⟨_, rfl⟩;rw [hF] at kF mb zy;have us := hid hF;clear hF;obtain ⟨fn, yO⟩ : ∃ n, F.length = n := ⟨_, rfl⟩;have oz := hid yO;rw [yO] at kF mb;clear yO
 have Dp : ¬ fn = 0 := by have := mb.out; omega
 go_wp2_with (refine wpList_load_mid rfl 28 _ rfl Y 0 rfl xs _ HY.out.rangeAll Tryz.underlying28 rfl HI.out ?_)
 refine kF.mono ?_;rintro e l7 ⟨fa, fc, rfl, IR, hk⟩;have ir := hid IR;clear kF IR;replace HK := hid (HK.out.trans hk);replace HY := hid (HY.out.same hk);replace HR := hid (HR.out.same hk);clear hk
 have Jb : ¬ (fn : Int) = 0 := by omega
 go_upto_region 19 with fail
 have nE := jdk nj.out rfl;have kL := hid (fun wx (hx : Same w wx) => Xl (.slice bv ms.length uH) ms 0 ((ms.length : Int) + 1) wx bQ.out (by omega) (by omega) ⟨by omega, by omega⟩ (nj.out.same hx));have nK := hid (Yp l7);have iW := hid (ir.out.rd.same ((Kept.refl _ l7).alloc (.cells #[] 5)))
 go_wp2_with (at_builtin; refine QJ rfl (.tmp 113) (.tmp 114) rfl (.slice (some ⟨l7.heap.size, 0, none⟩) 0 0) (.slice fa fn fc) [] F rfl rfl nK.out iW.out (by have := oz.out; have := mb.out; have := lv.out; simp; omega) ?_; intro a3 n3 c3 yZ ag nY; have HS := hid (nY.same ((Kept.refl _ l7).alloc (.cells #[] 5)) (fun b hb => by cases hb; exact Nat.le_refl _)); have wd := hid (nY.fresh ((Kept.refl _ l7).alloc (.cells #[] 5)) (fun b hb => by cases hb; exact Nat.le_refl _)); have HA := hid (show Own 0 5 .u8 yZ (.slice a3 n3 c3) F from ag); clear ag nY)
 clear nK iW;refine (kL.out _ (HK.out.trans HS.out)).mono ?_;rintro e um ⟨r, rfl, hr, hk⟩;clear kL
 obtain ⟨rn, rfl, I8⟩ : ∃ f0 : Nat, r = f0 ∧ f0 ≤ ms.length := by
  by_cases h : (ms.length : Int) + 1 ≤ 1
  ·exact ⟨0, hr.1 h, by omega⟩
  ·have := hr.2 (by omega)
   exact ⟨r.toNat, by omega, by omega⟩
 replace HS := hid (HS.out.trans hk);replace HA := hid (HA.out.same hk);clear hr hk
 have LB : (rn : Int) ≤ (uH : Int) := by omega
 have KE : (0 : Int) ≤ (rn : Int) := by omega
 have HP := hid (jdj (nj.out.same (HK.out.trans HS.out)) rn I8);have uI := hid (show (ms.take rn).length ≤ 1048576 by rw [List.length_take]; omega);have Db := hid (Qz bQ.out rn);generalize ms.take rn = C at HP uI Db;clear I8 nE
 go_wp2_with (at_builtin; refine QJ rfl (.tmp 115) (.tmp 122) rfl (.slice a3 n3 c3) (.slice bv rn uH) F C rfl rfl HA.out HP.out (by have := oz.out; have := mb.out; have := lv.out; have := uI.out; omega) ?_; intro a4 n4 c4 vK ag nY; replace HS := hid (nY.same HS.out wd.out); have HG := hid ag; clear ag nY)
 replace HK := hid (HK.out.trans HS.out);replace HY := hid (HY.out.same HS.out);replace HR := hid (HR.out.same HS.out);replace ir := hid (ir.out.same HS.out);clear HA wd HP HS LB KE;have oD := oz.out;have oO := hid ((zy.out.app Db.out));have uG : Hid ((F ++ C).length ≤ 1099511627776) := by have := mb.out; have := lv.out; have := uI.out; unfold Hid; rw [List.length_append]; omega
 have pH := (show Hid (QT (F ++ C) p q q = (0, (fn : Int), q, d)) from by
  unfold Hid
  rw [← us.out, V5 js fj lv.out fN.out, if_neg (by omega), if_neg (by omega), Bo.out, if_pos rfl, mb.out])
 have s5 := (show Hid ((QT (F ++ C) (p + 1) q q).1 = 3) from by
  unfold Hid;rw [← us.out, V5 js fj lv.out fN.out, if_pos (by omega)]
  rfl)
 have sa := (show Hid ((QT (F ++ C) p (q + 1) (q + 2)).1 = 4) from by
  unfold Hid;rw [← us.out, V5 js fj lv.out fN.out, if_neg (by omega), if_pos (by omega)]
  rfl)
 have zD := (show Hid ((QT (F ++ C) p 0 (q - 1)).1 = 4) from by
  unfold Hid;rw [← us.out, V5 js fj lv.out fN.out, if_neg (by omega), if_pos (by omega)]
  rfl)
 have CL := (show Hid ((QT (F.take (fn - 1)) p q q).1 = 1) from by
  unfold Hid;rw [← oz.out, ← us.out, jcS js fj lv.out fN.out]
  rfl)
 generalize F ++ C = G at HG oO uG pH s5 sa zD;have kr := hid HG.out.rd;clear HG uI Db oD;have kd := jfy (.slice a4 n4 c4) G p q q vK oO.out hp uG.out kr.out;rw [pH.out] at kd;clear pH
 go_wp2_with fail
 refine kd.mono ?_;rintro e oJ ⟨ds, rfl, gM, b9, hk⟩;clear kd;dsimp only at b9 ⊢;replace HK := hid (HK.out.trans hk);replace HY := hid (HY.out.same hk);replace HR := hid (HR.out.same hk);replace ir := hid (ir.out.same hk);replace kr := hid (kr.out.same hk);have HD := hid b9;have jF := hid gM;have oc : Hid ((Value.int .i64 0 :: Value.int .i64 (fn : Int) :: Value.int .i64 q :: ds).toArray.all (·.oneCell') = true) := Ud rfl (Ud rfl (Ud rfl b9.cells));have uQ := (show Hid ((Value.int .i64 0 :: Value.int .i64 (fn : Int) :: Value.int .i64 q :: ds).length = 17) from by unfold Hid; rw [List.length_cons, List.length_cons, List.length_cons, gM]);clear b9 gM hk
 go_upto_region 21 with (refine wpList_store_mid rfl 50 _ _ rfl oJ.heap.size 0 (Value.int .i64 0 :: Value.int .i64 (fn : Int) :: Value.int .i64 q :: ds).toArray rfl rfl ((Blk.new oJ _ _).there 0 _ (by rw [List.size_toArray, uQ.out]; decide)) (by rw [List.size_toArray, uQ.out]; kernel_rfl) oc.out ?_; rw [List.toList_toArray])
 generalize hW : World.setCells _ oJ.heap.size 0 (Value.int .i64 0 :: Value.int .i64 (fn : Int) :: Value.int .i64 q :: ds) = lI
 have cC : Blk lI oJ.heap.size 50 (Value.int .i64 0 :: Value.int .i64 (fn : Int) :: Value.int .i64 q :: ds) ∧ Same oJ lI := by rw [← hW]; exact U6 oJ _ (Value.int .i64 0 :: Value.int .i64 (fn : Int) :: Value.int .i64 q :: ds) _ (by rw [uQ.out]; rfl)
 clear hW;obtain ⟨Z, hZ⟩ : ∃ Y, oJ.heap.size = Y := ⟨_, rfl⟩;rw [hZ] at cC ⊢;clear hZ;have HZ := hid cC.1;replace HK := hid (HK.out.trans cC.2);replace HY := hid (HY.out.same cC.2);replace HR := hid (HR.out.same cC.2);replace ir := hid (ir.out.same cC.2);replace kr := hid (kr.out.same cC.2);replace HD := hid (HD.out.same cC.2);clear cC;have HJ : Hid ((Tryz.prog.info? 28).map (·.size) = some ds.length) := by unfold Hid; rw [jF.out]; kernel_rfl
 try simp only [Act.put]
 go_cut [158] (fun v wx => v = .bool false ∧ Hid (Same lI wx))
 case first =>
  as_aux_lemma =>
  have HS := (show Hid (∀ wx, Same lI wx → (D0 wx Z 0 (Q1 0) ∧ D0 wx Z 1 (Q1 (fn : Int)) ∧ D0 wx Z 2 (Q1 q) ∧ wx.rangeAt Z 3 ds ∧ wx.rangeAt Y 0 xs)) from fun wx h => ⟨(HZ.out.same h).cell 0, (HZ.out.same h).cell 1, (HZ.out.same h).cell 2, (HZ.out.same h).range 3 ds (fun j v hv => by rw [Nat.add_comm, List.getElem?_cons_succ, List.getElem?_cons_succ, List.getElem?_cons_succ]; exact hv), (HY.out.same h).rangeAll⟩);have HV : Hid (Same lI lI.drew) := kZ0.drew;refine O0 (fun wx : World => D0 wx Z 0 (Q1 0) ∧ D0 wx Z 1 (Q1 (fn : Int)) ∧ D0 wx Z 2 (Q1 q) ∧ wx.rangeAt Z 3 ds ∧ wx.rangeAt Y 0 xs) 99 30 ?_;have hS := HS.out _ HV.out;refine tk 0 129 hS ?_;refine tkV 1 130 (Q1 0) hS ?_;refine tkV 2 131 (.bool false) hS ?_;refine tk 3 132 hS ?_;refine tk 4 133 hS ?_;refine tkV 5 134 (Q1 (fn : Int)) hS ?_;refine tk 6 135 hS ?_;refine tkV 7 136 (Q1 (fn : Int)) hS ?_;refine tkV 8 137 (.bool false) hS ?_;refine tkV 9 138 (.bool false) hS ?_;refine tk 10 139 hS ?_;refine tk 11 140 hS ?_;refine tkV 12 141 (Q1 (fn : Int)) hS ?_;refine tkV 13 142 (.agg xs.toArray) hS ?_ (hy := fun wx aR => Q6 rfl rfl aR.2.2.2.2 Tryz.underlying28 rfl HI.out);refine tkE 14 (w7 := lI) (A := fun _ v _ => v = Q1 (fn : Int)) (fun wx h => (HR.out.same h).fsz.mono (fun e w' ⟨a, b⟩ => ⟨_, a, (by rw [xM.out, mb.out]; first | done | rfl | (congr 1; omega)), b⟩)) HS.out HV.out ?_;rintro _ u1 rfl hk hS;refine tkV 15 144 (.bool false) hS ?_;refine tkV 16 145 (.bool false) hS ?_;refine tk 17 146 hS ?_;refine tk 18 147 hS ?_;refine tkV 19 148 (Q1 q) hS ?_;refine tk 20 149 hS ?_;refine tkV 21 150 (.bool false) hS ?_;refine tkV 22 151 (.bool false) hS ?_;refine tk 23 152 hS ?_;refine tk 24 153 hS ?_;refine tkV 25 154 (.agg ds.toArray) hS ?_ (hy := fun wx aR => Q6 rfl rfl aR.2.2.2.1 Tryz.underlying28 rfl HJ.out);refine tkV 26 155 (.agg xs.toArray) hS ?_ (hy := fun wx aR => Q6 rfl rfl aR.2.2.2.2 Tryz.underlying28 rfl HI.out);refine tkE 27 (w7 := lI) (A := fun _ v _ => v = .bool true) (fun wx h => ((HD.out.same h).one (HR.out.same h)).mono (fun e w' ⟨a, b⟩ => ⟨_, a, rfl, b⟩)) HS.out hk ?_;rintro _ u2 rfl aj hS;refine tkV 28 157 (.bool false) hS ?_;refine tkV 29 158 (.bool false) hS ?_;refine OZ ?_;have HQ := hid aj;clear hS hk aj
  go_wp2_with fail
  go_meet
  case rel => exact ⟨rfl, HQ⟩
 case rest =>
 as_aux_lemma =>
 obtain ⟨GM, rfl⟩ : ∃ x, x = wc := ⟨wc, rfl⟩;obtain ⟨rfl, dX⟩ := hcut;replace HK := hid (HK.out.trans dX.out);replace ir := hid (ir.out.same dX.out);replace kr := hid (kr.out.same dX.out);clear dX HZ HD jF oc uQ HJ HY HR HI HO HL xM Bo;obtain ⟨iK, Jm⟩ := js;obtain ⟨gV, sI⟩ := fj;have oD := mb.out;have pD := lv.out;obtain ⟨fm, rfl⟩ : ∃ m, fn = m + 1 := ⟨fn - 1, by omega⟩;have iW := hid (jdj ir.out.rd fm (by omega));have LJ := jdk ir.out.rd oz.out
 have Ds : (fm : Int) ≤ (fc : Int) := by omega
 have Cc : (0 : Int) ≤ (fm : Int) := by omega
 have EC : (fm : Int) ≤ 4131 := by omega
 clear oD pD LJ;have sq : Hid (IsB (F.take fm) ∧ (F.take fm).length ≤ 1099511627776) := ⟨Qz zy.out fm, by have := oz.out; have := mb.out; have := lv.out; rw [List.length_take]; omega⟩;rw [show fm + 1 - 1 = fm from rfl] at CL
 go_wp2_with fail
 refine (Xm s5.out GM oO.out ⟨by omega, by omega⟩ uG.out kr.out).mono ?_;rintro e Jk ⟨f1, rfl, dx, hk⟩;replace HK := hid (HK.out.trans hk);replace ir := hid (ir.out.same hk);replace kr := hid (kr.out.same hk);replace iW := hid (iW.out.same hk);clear hk s5;have hf := Xn 3 dx;generalize (Value.int .i64 3 :: f1).toArray = OG at hf ⊢;clear dx
 go_wp2_with fail
 clear hf;refine (Xm sa.out Jk oO.out hp uG.out kr.out).mono ?_;rintro e LU ⟨f1, rfl, dx, hk⟩;replace HK := hid (HK.out.trans hk);replace ir := hid (ir.out.same hk);replace kr := hid (kr.out.same hk);replace iW := hid (iW.out.same hk);clear hk sa;have hf := Xn 4 dx;generalize (Value.int .i64 4 :: f1).toArray = Nl at hf ⊢;clear dx
 go_wp2_with fail
 clear hf;refine (Xm zD.out LU oO.out hp uG.out kr.out).mono ?_;rintro e LC ⟨f1, rfl, dx, hk⟩;replace HK := hid (HK.out.trans hk);replace ir := hid (ir.out.same hk);replace iW := hid (iW.out.same hk);clear hk zD kr uG oO;have hf := Xn 4 dx;generalize (Value.int .i64 4 :: f1).toArray = Nt at hf ⊢;clear dx
 go_wp2_with fail
 clear hf;refine (Xm CL.out LC sq.out.1 hp sq.out.2 iW.out).mono ?_;rintro e zF ⟨f1, rfl, dx, hk⟩;replace HK := hid (HK.out.trans hk);replace ir := hid (ir.out.same hk);clear hk CL iW sq Ds Cc EC;have hf := Xn 1 dx;generalize (Value.int .i64 1 :: f1).toArray = N7 at hf ⊢;clear dx
 go_upto_region 25 with fail
 clear hf Jb Dp;generalize fm + 1 = fn at *
 have El : 33 ≤ fn ∧ fn ≤ 4131 := by have := mb.out; have := lv.out; omega
 obtain ⟨J1, Ji⟩ := El;have nK := hid (Yp zF);have iW := hid (ir.out.rd.same ((Kept.refl _ zF).alloc (.cells #[] 5)));have kL := hid (fun wx (hx : Same w wx) => Xl (.slice bv ms.length uH) ms 1 (8 * (fn : Int) - 64) wx bQ.out (by omega) (by omega) ⟨by omega, by omega⟩ (nj.out.same hx));obtain ⟨H, S, BE, ID, Az, Ic⟩ := jdi ⟨iK, Jm⟩ ⟨gV, sI⟩ lv.out fN.out;rw [us.out] at BE Az;rw [oz.out] at Az;have Gm := hid BE;have si := hid ID;have i9 := hid Az;have fp := hid Ic;clear BE ID Az Ic
 go_wp2_with (at_builtin; refine QJ rfl (.tmp 200) (.tmp 201) rfl (.slice (some ⟨zF.heap.size, 0, none⟩) 0 0) (.slice fa fn fc) [] F rfl rfl nK.out iW.out (by have := oz.out; simp; omega) ?_; intro a5 n5 c5 J0 ag nY; have HS := hid (nY.same ((Kept.refl _ zF).alloc (.cells #[] 5)) (fun b hb => by cases hb; exact Nat.le_refl _)); have FW := hid (nY.fresh ((Kept.refl _ zF).alloc (.cells #[] 5)) (fun b hb => by cases hb; exact Nat.le_refl _)); have HA := hid (show Own 0 5 .u8 J0 (.slice a5 n5 c5) F from ag); clear ag nY)
 obtain ⟨gb, rfl, rfl⟩ : ∃ gb, a5 = some ⟨gb, 0, none⟩ ∧ fn = n5 := by
  rcases HA.out.form with ⟨_, h'⟩ | ⟨g2, cap, h, _⟩
  ·have h2 := oz.out
   rw [h'] at h2;simp at h2;omega
  ·injection h with h1 h2 h3
   exact ⟨g2, h1, (h2.trans oz.out).symm⟩
 have oO : Hid (w.heap.size ≤ gb) := Nat.le_trans HK.out.size (FW.out gb rfl);have bR := hid (HK.out.trans HS.out);clear nK iW FW HS HK ir;refine (kL.out _ bR.out).mono ?_;rintro e NQ ⟨r, rfl, hr, hk⟩;clear kL;obtain ⟨fr, rfl⟩ : ∃ f0 : Nat, r = f0 := ⟨r.toNat, by have := hr.2 (by omega); omega⟩;have CR := (hr.2 (by omega)).2;obtain ⟨g, hg⟩ : ∃ g : Nat, 64 + fr = g := ⟨_, rfl⟩;have l9 := hid hg
 have My : (64 : Int) + (fr : Int) = (g : Int) := by omega
 have nv : (g : Int) < 8 * (fn : Int) := by omega
 have oD : fr ≤ 8 * S.length := by have := i9.out; omega
 have Bf := hid oD;have La := hid (HA.out.same hk);have dD := hid (bR.out.trans hk)
 have dO := (show Hid (Bent H S fr 0 F) from by
  rw [Gm.out]
  exact Bent.start (by rw [← Gm.out]; exact zy.out))
 clear hr hk HA bR hg CR oD
 go_wp2_with fail
 clear My
 go_loopw [19] (fun i wr => ∃ (j : Nat) (bs : List Int), j ≤ 32 ∧ g + j ≤ 8 * fn ∧ i = Q1 j ∧ Hid (Bent H S fr j bs) ∧ Hid (Own 0 5 .u8 wr (Q3 gb fn c5) bs) ∧ Hid (Same w wr)) (fun i _ => 32 - (intOf i).toNat)
 case atStart => exact ⟨0, F, by omega, by omega, rfl, dO, La, dD⟩
 case round =>
  as_aux_lemma =>
  obtain ⟨j, bs, hj, NI, rfl, lZ, HO, ni⟩ := hrel
  by_cases Aa : j < 32 ∧ g + j < 8 * fn
  ·obtain ⟨Ad, As⟩ := Aa
   have JI : (g : Int) + (j : Int) < 8 * (fn : Int) := by omega
   by_cases hj0 : j = 0
   ·have Nv : ((j : Int) == 0) = true := by subst hj0; rfl
    have Jx : j ≤ 0 := by omega
    clear hj0
    have hq : (g + j) / 8 < bs.length := by have := lZ.out.len; have := i9.out; have := si.out; omega
    have hX := lZ.out.isB.at ((g + j) / 8) hq;have Le := Yi ((g + j) % 8) (by omega)
    have mj : (2 : Int) ^ ((g + j) % 8) ≤ 128 := by
     have h2 : 2 ^ ((g + j) % 8) ≤ 2 ^ 7 := Nat.pow_le_pow_right (by decide) (by omega)
     have e : ((2 ^ ((g + j) % 8) : Nat) : Int) = (2 : Int) ^ ((g + j) % 8) := by simp
     rw [← e];omega
    have hx := u8_xor (bs.getD ((g + j) / 8) 0) (2 ^ ((g + j) % 8)) hX.1 (by have := hX.2; omega) (by omega) (by omega)
    have wM : ((2 : Int) ^ ((g + j) % 8)).toNat = 2 ^ ((g + j) % 8) := by
     have e : ((2 ^ ((g + j) % 8) : Nat) : Int) = (2 : Int) ^ ((g + j) % 8) := by simp
     rw [← e, Int.toNat_natCast]
    rw [wM] at hx
    have sH : (((bs.getD ((g + j) / 8) 0).toNat ^^^ 2 ^ ((g + j) % 8) : Nat)) < 256 := by
     refine Nat.xor_lt_two_pow (n := 8) (by omega) ?_;have h2 : 2 ^ ((g + j) % 8) ≤ 2 ^ 7 := Nat.pow_le_pow_right (by decide) (by omega);exact Nat.lt_of_le_of_lt h2 (by decide)
    have wR := hid (lZ.out.flip si.out (by have := i9.out; have := l9.out; omega) (show (64 + fr + j) / 8 = (g + j) / 8 by rw [l9.out]) (show (64 + fr + j) % 8 = (g + j) % 8 by rw [l9.out]) rfl (by omega));have np := (show Hid (fn = bs.length) from by have := lZ.out.len; have := i9.out; have := si.out; unfold Hid; omega);have c1 := HO.out.cell np.out ((g + j) / 8) (by omega);have f1 := HO.out.frozen np.out ((g + j) / 8);have Ed : Hid (∀ z, Own 0 5 .u8 (wr.setCell ⟨gb, (g + j) / 8, none⟩ (.int .u8 z)) (Q3 gb fn c5) (bs.set ((g + j) / 8) z)) := fun z => HO.out.stored np.out _ z
    have m1 : ((g : Int) + (j : Int)) % 8 = (((g + j) % 8 : Nat) : Int) := by omega
    have m2 : ((g : Int) + (j : Int)) / 8 = (((g + j) / 8 : Nat) : Int) := by omega
    have l1 : (((g + j) / 8 : Nat) : Int) < (fn : Int) := by omega
    have l2 : (g + j) % 8 < 8 := by omega
    generalize bs.getD ((g + j) / 8) 0 = X at *;generalize hgs : (g + j) % 8 = tJ at *;generalize hgq : (g + j) / 8 = qq at *;clear hgs hgq wM hq np;obtain ⟨Z, hZ⟩ : ∃ Z : Nat, X.toNat ^^^ 2 ^ tJ = Z := ⟨_, rfl⟩;rw [hZ] at hx sH wR;clear hZ;have E4 : (2 : Int) ^ tJ % 256 = (2 : Int) ^ tJ := Int.emod_eq_of_lt (by omega) (by omega);go_wp2;go_roundw
    case rel =>
     refine ⟨j + 1, bs.set qq (Z : Int), by omega, by omega, by go_num, wR, Ed.out _, ?_⟩;exact ni.out.setCell (.inl oO.out) _
    case measure => simp [intOf]; omega
   ·have Oh : ¬ (j : Int) = 0 := by omega
    go_wp2_with fail
    have uu : IsI (2 : Int) := ⟨by decide, by decide⟩;refine (Xl (.slice bv ms.length uH) ms (2 + j) 2 _ bQ.out (by omega) (by omega) uu (nj.out.same ni.out)).mono ?_;rintro e Ms ⟨r, rfl, hr, hk⟩;have aS := hr.2 (by decide);have dG := hid (ni.out.trans hk);have lm := hid (HO.out.same hk);clear hk hr uu
    by_cases jK : r = 0
    ·subst jK
     have hq : (g + j) / 8 < bs.length := by have := lZ.out.len; have := i9.out; have := si.out; omega
     have hX := lZ.out.isB.at ((g + j) / 8) hq;have Le := Yi ((g + j) % 8) (by omega)
     have mj : (2 : Int) ^ ((g + j) % 8) ≤ 128 := by
      have h2 : 2 ^ ((g + j) % 8) ≤ 2 ^ 7 := Nat.pow_le_pow_right (by decide) (by omega)
      have e : ((2 ^ ((g + j) % 8) : Nat) : Int) = (2 : Int) ^ ((g + j) % 8) := by simp
      rw [← e];omega
     have hx := u8_xor (bs.getD ((g + j) / 8) 0) (2 ^ ((g + j) % 8)) hX.1 (by have := hX.2; omega) (by omega) (by omega)
     have wM : ((2 : Int) ^ ((g + j) % 8)).toNat = 2 ^ ((g + j) % 8) := by
      have e : ((2 ^ ((g + j) % 8) : Nat) : Int) = (2 : Int) ^ ((g + j) % 8) := by simp
      rw [← e, Int.toNat_natCast]
     rw [wM] at hx
     have sH : (((bs.getD ((g + j) / 8) 0).toNat ^^^ 2 ^ ((g + j) % 8) : Nat)) < 256 := by
      refine Nat.xor_lt_two_pow (n := 8) (by omega) ?_;have h2 : 2 ^ ((g + j) % 8) ≤ 2 ^ 7 := Nat.pow_le_pow_right (by decide) (by omega);exact Nat.lt_of_le_of_lt h2 (by decide)
     have wR := hid (lZ.out.flip si.out (by have := i9.out; have := l9.out; omega) (show (64 + fr + j) / 8 = (g + j) / 8 by rw [l9.out]) (show (64 + fr + j) % 8 = (g + j) % 8 by rw [l9.out]) rfl (by omega));have np := (show Hid (fn = bs.length) from by have := lZ.out.len; have := i9.out; have := si.out; unfold Hid; omega);have c1 := lm.out.cell np.out ((g + j) / 8) (by omega);have f1 := lm.out.frozen np.out ((g + j) / 8);have Ed : Hid (∀ z, Own 0 5 .u8 (Ms.setCell ⟨gb, (g + j) / 8, none⟩ (.int .u8 z)) (Q3 gb fn c5) (bs.set ((g + j) / 8) z)) := fun z => lm.out.stored np.out _ z
     have m1 : ((g : Int) + (j : Int)) % 8 = (((g + j) % 8 : Nat) : Int) := by omega
     have m2 : ((g : Int) + (j : Int)) / 8 = (((g + j) / 8 : Nat) : Int) := by omega
     have l1 : (((g + j) / 8 : Nat) : Int) < (fn : Int) := by omega
     have l2 : (g + j) % 8 < 8 := by omega
     generalize bs.getD ((g + j) / 8) 0 = X at *;generalize hgs : (g + j) % 8 = tJ at *;generalize hgq : (g + j) / 8 = qq at *;clear hgs hgq wM hq np;obtain ⟨Z, hZ⟩ : ∃ Z : Nat, X.toNat ^^^ 2 ^ tJ = Z := ⟨_, rfl⟩;rw [hZ] at hx sH wR;clear hZ;have E4 : (2 : Int) ^ tJ % 256 = (2 : Int) ^ tJ := Int.emod_eq_of_lt (by omega) (by omega);go_wp2;go_roundw
     case rel =>
      refine ⟨j + 1, bs.set qq (Z : Int), by omega, by omega, by go_num, wR, Ed.out _, ?_⟩;exact dG.out.setCell (.inl oO.out) _
     case measure => simp [intOf]; omega
    ·have kh : (r == 0) = false := by simpa using jK
     go_wp2;go_roundw
     case rel => exact ⟨j + 1, bs, by omega, by omega, by go_num, lZ.out.skip (by omega), lm, dG⟩
     case measure => simp [intOf]; omega
  ·have iz := hid (fp.out fr j bs lZ.out Bf.out (by omega) hj p q q)
   have rC := hid lZ.out.isB;have MP := (show Hid (bs.length ≤ 1099511627776) from by have := lZ.out.len; have := i9.out; have := si.out; unfold Hid; omega);have AF := hid HO.out.rd
   go_wp2_with (go_at_call 19; refine (Xm iz.out _ rC.out hp MP.out AF.out).mono ?_; rintro e N2 ⟨f1, rfl, dx, hk⟩; have hf := Xn 2 dx; generalize (Value.int .i64 2 :: f1).toArray = N8 at hf ⊢; clear dx)
   all_goals
    go_ret;exact ⟨rfl, ni.out.trans hk⟩
end Go.Proofs.YtapdfgkbhaoelaaGreatDoor
