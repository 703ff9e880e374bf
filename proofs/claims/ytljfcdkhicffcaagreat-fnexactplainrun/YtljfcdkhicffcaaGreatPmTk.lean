import Derived.Test.YtljfcdkhicffcaaGreatG28
namespace Go.Proofs.YtljfcdkhicffcaaGreat
set_option maxRecDepth 100000
set_option maxHeartbeats 8000000
set_option linter.unusedVariables false
set_option linter.unusedSimpArgs false
open Go Go.RowKit Go.MapKept
def OkA (a : AnD) : Prop := IsB a.2.2.2.1 ∧ OkR a.2.2.2.2.1
theorem Vd (c : Int) (st : PlS) : OkA (Us c st).1 := ⟨fun x hx => (by cases hx), fun r hr => (by cases hr)⟩
theorem jg7 {gp : Int} {n : Nat} {st : PlS} {s : StD} {tx id : Int} (h : OkS gp n st) : ∀ q ∈ Zj gp st s tx id, OkA q.1 := by
 have i9 : ∀ (a b c d : Int), OkA (a, b, c, [], [], d) := fun a b c d => ⟨fun x hx => (by cases hx), fun r hr => (by cases hr)⟩
 have cL : ∀ D, OkR D → OkA (upA st D).1 := fun D hD => ⟨fun x hx => (by cases hx), hD⟩
 have yY : OkW ((Uw st.txns s.2.1).getD []) := by
  cases hl : Uw st.txns s.2.1 with
  | none => exact fun r hr => by cases hr
  | some ws =>
   obtain ⟨y, hy, _, rfl⟩ := Xp hl;exact (h.okw y hy).ok
 have C7 : ∀ q ∈ Wn gp st s tx id, OkA q.1 := by
  unfold Wn
  split
  ·unfold Wh
   split
   ·intro q hq; rw [List.mem_singleton.1 hq]; exact Vd _ _
   split
   ·intro q hq; cases hq
   ·intro q hq; rw [List.mem_singleton.1 hq]; exact i9 _ _ _ _
  split
  ·intro q hq
   simp only [List.mem_cons, List.not_mem_nil, or_false] at hq
   rcases hq with rfl | rfl <;> exact Vd _ _
  split
  ·intro q hq
   rcases List.mem_append.1 hq with hq | hq
   ·unfold VP at hq
    repeat' split at hq
    all_goals simp only [List.mem_cons, List.not_mem_nil, or_false] at hq
    all_goals first | (rcases hq with rfl | rfl <;> exact Vd _ _) | (rw [hq]; exact Vd _ _)
   ·unfold Vp at hq
    split at hq
    ·split at hq
     ·cases hq
     ·rw [List.mem_singleton.1 hq]; exact i9 _ _ _ _
    split at hq
    ·rw [List.mem_singleton.1 hq]; exact Vd _ _
    split at hq
    ·rw [List.mem_singleton.1 hq]; exact Vd _ _
    split at hq
    ·rw [List.mem_singleton.1 hq]; exact ⟨(jf3 h.okr yY _).1, fun r hr => (by cases hr)⟩
    ·rw [List.mem_singleton.1 hq]; exact Vd _ _
  split
  ·intro q hq; rw [List.mem_singleton.1 hq]; exact Vd _ _
  ·intro q hq; rw [List.mem_singleton.1 hq]; exact Vd _ _
 unfold Zj
 split
 ·intro q hq; rw [List.mem_singleton.1 hq]; exact Vd _ _
 split
 ·intro q hq; rw [List.mem_singleton.1 hq]; exact Vd _ _
 split
 ·unfold VH
  split
  ·intro q hq; rw [List.mem_singleton.1 hq]; exact Vd _ _
  ·intro q hq
   simp only [List.mem_cons, List.not_mem_nil, or_false] at hq
   rcases hq with rfl | rfl | rfl | rfl
   ·exact Vd _ _
   ·exact Vd _ _
   ·exact cL _ h.okr
   ·exact cL _ (X9 _ _ h.okc.ok h.okr)
 split
 ·intro q hq; rw [List.mem_singleton.1 hq]; exact Vd _ _
 ·intro q hq
  rcases List.mem_append.1 hq with hq | hq
  ·exact C7 q hq
  ·rw [List.mem_singleton.1 hq]; exact Vd _ _
def UR (a : AnD) : List (AnD × PlS) → Option PlS
 | [] => none
 | o :: os => if Va o.1 a = true then some o.2 else UR a os
theorem jdk (a : AnD) : ∀ (L : List (AnD × PlS)) (k : Nat) (hk : k < L.length), (∀ j (hj : j < k), Va (L[j]'(by omega)).1 a = false) → Va L[k].1 a = true → UR a L = some L[k].2
 | [], k, hk, _, _ => by simp at hk
 | o :: os, 0, hk, _, h => by
  show (if Va o.1 a = true then some o.2 else UR a os) = some o.2
  exact if_pos h
 | o :: os, k + 1, hk, h, h2 => by
  have e0 : Va o.1 a = false := h 0 (by omega)
  show (if Va o.1 a = true then some o.2 else UR a os) = _
  rw [if_neg (by rw [e0]; decide)];exact jdk a os k (by simpa using hk) (fun j hj => h (j + 1) (by omega)) h2
theorem jaR (a : AnD) : ∀ (L : List (AnD × PlS)), (∀ j (hj : j < L.length), Va L[j].1 a = false) → UR a L = none
 | [], _ => rfl
 | o :: os, h => by
  have e0 : Va o.1 a = false := h 0 (by simp)
  show (if Va o.1 a = true then some o.2 else UR a os) = _
  rw [if_neg (by rw [e0]; decide)];exact jaR a os (fun j hj => h (j + 1) (by simpa using hj))
def TkO (lo M : Nat) (gp gf gl : Int) (w w' : World) (e : Ending) : Option PlS → Prop
 | none => e = .returned (.bool false) ∧ Same w w'
 | some st => e = .returned (.bool true) ∧ PmS w' lo M gp gf gl st ∧ PmK lo w w'
theorem jfF (lo M : Nat) (gp gf gl : Int) (x : PmX) (st : PlS) (n0 : Nat) (kd stx ah cnt : Int) (sa : Option Addr) (sn sc : Nat) (ka : Option Addr) (kn kc : Nat) (sd kb : List Int) (bW bC b6 : Int) (da : Option Addr) (dn dc : Nat) (ra : Option Addr) (rn rc : Nat) (bY : Int) (db : List Int) (qs : List EHeapRecord) (w : World) (h : PmI w lo M gp gf gl x) (hd : PmD x st) (bd : OkS gp n0 st) (hn : n0 < 4096) (hg : 0 ≤ gp ∧ gp ≤ 16) (dN : 1 ≤ kd ∧ kd ≤ 11) (gD : RdL lo w (.slice sa sn sc) sd) (dk : sd.length = sn) (AI : Rd .u8 w (.slice da dn dc) db) (p9 : RdR kHeapRecord w (.slice ra rn rc) qs) (On : IsB db) (NL : ∀ p ∈ qs, IsB p.bs) :
  Calls Tryz.prog 34 #[Q3 M 0, .agg #[V kd, V stx, V ah, V cnt, .slice sa sn sc, .slice ka kn kc], .agg #[V bW, V bC, V b6, .slice da dn dc, .slice ra rn rc, V bY]] w fun e w' => TkO lo M gp gf gl w w' e (UR (bW, bC, b6, db, jZ9 qs, bY) (Zj gp st (kd, stx, ah, cnt, sd, kb) bC b6)) := by
 obtain ⟨L, hL⟩ : ∃ z, Zj gp st (kd, stx, ah, cnt, sd, kb) bC b6 = z := ⟨_, rfl⟩
 have N8 : ∀ q ∈ L, OkA q.1 := by rw [← hL]; exact jg7 bd
 have KO := (show Hid (∀ wx, Same w wx → Calls Tryz.prog 68 #[Q3 M 0, .agg #[V kd, V stx, V ah, V cnt, .slice sa sn sc, .slice ka kn kc], .agg #[V bW, V bC, V b6, .slice da dn dc, .slice ra rn rc, V bY]] wx fun e w' => OuL lo M gp gf gl wx w' e L) from fun wx hx => by
  rw [← hL]
  exact jbd lo M gp gf gl x st n0 kd stx ah cnt sa sn sc ka kn kc sd kb bW bC b6 da dn dc ra rn rc bY wx (h.same hx) hd bd hn hg dN (gD.onL (OuK.same (lo := lo) hx).2) dk)
 rw [hL];have Fo := hid N8;have nm := hid AI;have CQ := hid p9;have FV := hid On;have Sx := hid NL;obtain ⟨RP, bS⟩ : ∃ z, UR (bW, bC, b6, db, jZ9 qs, bY) L = z := ⟨_, rfl⟩;have bj := hid bS;rw [bS];have iw := Blk.newL w [V kd, V stx, V ah, V cnt, .slice sa sn sc, .slice ka kn kc] 71;obtain ⟨X, aQ⟩ : ∃ X, w.heap.size = X := ⟨_, rfl⟩;obtain ⟨wa, cg⟩ : ∃ z, w.alloc (.cells #[V kd, V stx, V ah, V cnt, .slice sa sn sc, .slice ka kn kc] 71) = z := ⟨_, rfl⟩
 have cX : Same w wa := by rw [← cg]; exact kZ0.alloc _
 have dE : wa.heap.size = X + 1 := by rw [← cg, World.size_alloc, aQ]
 rw [aQ, cg] at iw;have mY := Blk.newL wa [V bW, V bC, V b6, .slice da dn dc, .slice ra rn rc, V bY] 73;obtain ⟨wb, cE⟩ : ∃ z, wa.alloc (.cells #[V bW, V bC, V b6, .slice da dn dc, .slice ra rn rc, V bY] 73) = z := ⟨_, rfl⟩
 have dD : Same wa wb := by rw [← cE]; exact kZ0.alloc _
 rw [dE, cE] at mY;have pZ := hid (cX.trans dD);have NI := hid mY;obtain ⟨s0, s1, s2, s3, s4, s5⟩ := (iw.same dD).all6;obtain ⟨t0, t1, t2, t3, t4, t5⟩ := mY.all6;have kO := KO.out wb pZ.out;clear h hd bd hn hg dN gD dk AI p9 On NL hL N8 bS iw mY cX dD KO
 go_enter Tryz.func34, Tryz.ntmps34
 go_upto_region 1 with fail
 try rw [cg]
 try rw [cE]
 try rw [aQ]
 try rw [dE]
 clear cg cE aQ dE wa
 go_wp2_with fail
 refine kO.mono ?_;rintro e w2 ⟨la, ln, lc, os, rfl, oG, hO⟩;have ap := hid (pZ.out.trans hO.same);have zI := hid (NI.out.same hO.same);have HO := hid hO;have ni := hid oG
 have nc : os.length = ln := by
  rcases hO.row.2 with ⟨e, h1⟩ | ⟨_, _, _, e, _, _, hc, _⟩
  ·injection e with _ e e2
   omega
  ·injection e with _ e e2
   exact e.symm
 have lN : ln ≤ 9223372036854775807 := by
  rcases hO.row.2 with ⟨e, h1⟩ | ⟨_, _, _, e, _, _, hc, hm, _⟩
  ·omega
  ·unfold maxLen at hm; omega
 have bH := hid nc;clear kO hO oG nc s0 s1 s2 s3 s4 s5 t0 t1 t2 t3 t4 t5 pZ NI
 go_wp2_with fail
 go_loopw [14] (fun i wr => ∃ k : Nat, k ≤ ln ∧ i = V k ∧ Hid ((∀ j (hj : j < L.length), j < k → Va L[j].1 (bW, bC, b6, db, jZ9 qs, bY) = false) ∧ Same w2 wr)) (fun i _ => ln - (intOf i).toNat)
 case atStart => exact ⟨0, Nat.zero_le _, rfl, fun j _ h => absurd h (Nat.not_lt_zero _), kZ0⟩
 case round =>
  obtain ⟨k, hk, rfl, HK⟩ := hrel
  by_cases aG : k < ln
  case neg =>
   obtain rfl : ln = k := by omega
   have HR := (show Hid (TkO lo M gp gf gl w wr (.returned (.bool false)) RP) from by
    have hr : RP = none := by
     rw [← bj.out];exact jaR _ _ (fun j hj => HK.out.1 j hj (by rw [← bH.out, ← List.length_map EOu.dat, ni.out]; exact hj))
    rw [hr]
    exact ⟨rfl, ap.out.trans HK.out.2⟩)
   go_wp2;go_ret;exact HR.out
  have h1 : k < os.length := by rw [bH.out]; exact aG
  have Jg : k < L.length := by rw [← ni.out, List.length_map]; exact h1
  have Ad : L[k] = os[k].dat := by
   have : L = os.map EOu.dat := ni.out.symm;subst this;rw [List.getElem_map]
  obtain ⟨g, eg⟩ : ∃ g, la = some ⟨g, 0, none⟩ := by
   rcases HO.out.row.2 with ⟨e, h2⟩ | ⟨g, _, _, e, _⟩
   ·injection e with _ e2 _
    omega
   ·injection e with e _ _
    exact ⟨g, e⟩
  subst eg
  have oq : ∀ i v, i < 7 → (EOu.cells os[k])[i]? = some v → wr.cell? ⟨g, k * 7 + i, none⟩ = some v := fun i v hi hv => by
   have h3 := VE (K := kOu) HO.out.row k i h1 hi;rw [show k * kOu.m + i = k * 7 + i from rfl, show (kOu.cells os[k])[i]? = (EOu.cells os[k])[i]? from rfl, hv] at h3;exact HK.out.2.cellOf h3 (fun e => e)
  have iO := HO.out.each _ (List.getElem_mem h1);have EH := Fo.out _ (List.getElem_mem Jg);rw [Ad] at EH;obtain ⟨oe, LN⟩ : ∃ y, os[k] = y := ⟨_, rfl⟩;rw [LN] at oq iO EH Ad;obtain ⟨rW, rq, sw, An, Bb, A9, Gn, AG, Ba, A6, FK, fid, Qw, Rw, IH⟩ := oe;obtain ⟨Jv, Nv, Hb, Dj⟩ := iO;dsimp only at Jv Nv Hb Dj;obtain ⟨fb, Af⟩ : ∃ y, Qw.toArray = y := ⟨_, rfl⟩;obtain ⟨fc, DK⟩ : ∃ y, Rw.toArray = y := ⟨_, rfl⟩;rw [Af, DK] at Dj;have c0 : wr.cell? ⟨g, k * 7, none⟩ = some (V rW) := oq 0 _ (by decide) rfl;have c1 : wr.cell? ⟨g, k * 7 + 1, none⟩ = some (V rq) := oq 1 _ (by decide) rfl;have c2 : wr.cell? ⟨g, k * 7 + 2, none⟩ = some (V sw) := oq 2 _ (by decide) rfl;have c3 : wr.cell? ⟨g, k * 7 + 3, none⟩ = some (.slice An Bb A9) := oq 3 _ (by decide) rfl;have c4 : wr.cell? ⟨g, k * 7 + 4, none⟩ = some (.slice AG Ba A6) := oq 4 _ (by decide) rfl;have c5 : wr.cell? ⟨g, k * 7 + 5, none⟩ = some (V 0) := oq 5 _ (by decide) rfl
  have c6 : wr.cell? ⟨g, k * 7 + 6, none⟩ = some (.func (.func fid) fb fc) := by
   rw [← Af, ← DK];exact oq 6 _ (by decide) rfl
  have cz : ∀ (args : Array Value) (wx : World), (callFunc fid args).run Tryz.prog wx = .ok (.enter fid args) wx := Dj.1;have JM := (show Hid (∀ wx, Same w2 wx → Calls Tryz.prog fid (fb ++ fc) wx fun e w' => e = .returned (.tuple #[]) ∧ PmS w' lo M gp gf gl IH ∧ PmK lo wx w') from fun wx hx => Dj.2 wx (OuK.same hx));have IP := (show Hid (∀ wx, Same w2 wx → _) from fun wx hx => jc6 rW rq sw An Bb A9 AG Ba A6 0 bW bC b6 da dn dc ra rn rc bY Gn db FK qs wx EH.1 FV.out (OkR.of EH.2 rfl · · |>.1) Sx.out (Jv.here.same hx) (nm.out.same (ap.out.trans hx)) (Hb.rd.same hx) (CQ.out.same (ap.out.trans hx)));obtain ⟨SV, yZ⟩ : ∃ z, Va (rW, rq, sw, Gn, jZ9 FK, 0) (bW, bC, b6, db, jZ9 qs, bY) = z := ⟨_, rfl⟩;rw [yZ] at IP
  have HT := (show Hid (SV = true → RP = some IH) from fun e => by
   rw [← bj.out];have h5 := jdk (bW, bC, b6, db, jZ9 qs, bY) L k Jg (fun j hj => HK.out.1 j (by omega) hj) (by rw [Ad]; show Va (rW, rq, sw, Gn, jZ9 FK, 0) _ = true; rw [yZ]; exact e);rw [Ad] at h5
   exact h5)
  have HF := (show Hid (SV = false → ∀ j (hj : j < L.length), j < k + 1 → Va L[j].1 (bW, bC, b6, db, jZ9 qs, bY) = false) from fun e j hj h2 => by
   rcases Nat.lt_succ_iff_lt_or_eq.1 h2 with h3 | h3
   ·exact HK.out.1 j hj h3
   ·subst h3
    rw [Ad]
    show Va (rW, rq, sw, Gn, jZ9 FK, 0) _ = false
    rw [yZ]; exact e)
  have yF := hid HK.out.2;clear EH Ad oq Jv Nv Hb Dj Af DK yZ HK LN h1 Jg;have aV := Blk.newL wr [V rW, V rq, V sw, .slice An Bb A9, .slice AG Ba A6, V 0, .func (.func fid) fb fc] 124;have ae : Same wr (wr.alloc (.cells #[V rW, V rq, V sw, .slice An Bb A9, .slice AG Ba A6, V 0, .func (.func fid) fb fc] 124)) := kZ0.alloc _;obtain ⟨Z, hZ⟩ : ∃ X, wr.heap.size = X := ⟨_, rfl⟩;rw [hZ] at aV
  go_upto_region 4 with fail
  try rw [hZ]
  generalize wr.alloc (.cells #[V rW, V rq, V sw, .slice An Bb A9, .slice AG Ba A6, V 0, .func (.func fid) fb fc] 124) = w3 at aV ae ⊢;have eN := hid aV;have ax := hid (yF.out.trans ae);have x0 : w3.cell? ⟨Z, 0, none⟩ = some (V rW) := aV.cell 0;have x1 : w3.cell? ⟨Z, 1, none⟩ = some (V rq) := aV.cell 1;have x2 : w3.cell? ⟨Z, 2, none⟩ = some (V sw) := aV.cell 2;have x3 : w3.cell? ⟨Z, 3, none⟩ = some (.slice An Bb A9) := aV.cell 3;have x4 : w3.cell? ⟨Z, 4, none⟩ = some (.slice AG Ba A6) := aV.cell 4;have x5 : w3.cell? ⟨Z, 5, none⟩ = some (V 0) := aV.cell 5;obtain ⟨t0, t1, t2, t3, t4, t5⟩ := (zI.out.same ax.out).all6;have kS := IP.out w3 ax.out;clear aV ae hZ c0 c1 c2 c3 c4 c5 c6 IP yF
  go_wp2_with fail
  refine kS.mono ?_;rintro e w4 ⟨rfl, aM⟩;have aR := hid (ax.out.trans aM);have mg := hid (eN.out.same aM);clear kS aM x0 x1 x2 x3 x4 x5 t0 t1 t2 t3 t4 t5 eN ax
  cases SV with
  | false =>
   have HR := hid (HF.out rfl);clear HF HT JM cz;go_wp2;go_roundw
   case rel => exact ⟨k + 1, by omega, by go_num, HR.out, aR.out⟩
   case measure => simp [intOf]; omega
  | true =>
   have HR := (show Hid (RP = some IH) from HT.out rfl);have kT := JM.out w4 aR.out;have x6 : w4.cell? ⟨Z, 6, none⟩ = some (.func (.func fid) fb fc) := mg.out.cell 6;clear HF HT JM
   go_wp2_with fail
   refine kT.mono ?_;rintro e w5 ⟨rfl, iN, aP⟩
   have HQ := (show Hid (TkO lo M gp gf gl w w5 (.returned (.bool true)) RP) from by
    rw [HR.out]
    exact ⟨rfl, iN, (PmK.same (ap.out.trans aR.out)).trans aP⟩)
   clear kT iN aP x6 cz;go_wp2;go_ret;exact HQ.out
end Go.Proofs.YtljfcdkhicffcaaGreat
