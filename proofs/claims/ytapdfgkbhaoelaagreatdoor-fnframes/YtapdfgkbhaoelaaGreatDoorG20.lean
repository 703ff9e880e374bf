import Derived.Test.YtapdfgkbhaoelaaGreatDoorG19
import Derived.Test.YtapdfgkbhaoelaaGreatDoorEncTyped
namespace Go.Proofs.YtapdfgkbhaoelaaGreatDoor
set_option maxRecDepth 100000
set_option maxHeartbeats 4000000
set_option linter.unusedVariables false
set_option linter.unusedSimpArgs false
open Go.RowKit
theorem kS0 {a b : World} {Z i : Nat} {u : Value} (h : Kept (fun b => b = Z) a b) : Kept (fun b => b = Z) a (b.setCell ⟨Z, i, none⟩ u) := h.setCell (.inr rfl) _
theorem Own.sizedR {base : Nat} {e : TypeId} {k : IntKind} {w : World} {aa : Option Addr} {nn cc : Nat} {bs : List Int} (h : Own base e k w (.slice aa nn cc) bs) : nn = bs.length := by
 obtain ⟨_, _, h'⟩ := h.rd.form; injection h' with _ h' _
theorem Yc {e : TypeId} {g n c m : Nat} {bs : List Int} {b : Nat} (h : O6 (FR.rows m ⟨e, some ⟨g, 0, none⟩, n, c, bs⟩) b) : g = b := by
 have h := (PD _ _).1 h
 simpa [FR.v, Value.ownBlock] using h
theorem Yd {w : World} {b off : Nat} {bs : List Int} (hc : ∀ i, i < bs.length → w.cell? ⟨b, off + i, none⟩ = some (Q1 (bs.getD i 0))) (j : Nat) (u : Value) (h : (vals .i64 bs)[j]? = some u) : w.cell? ((⟨b, off, none⟩ : Addr).add j) = some u := by
 have hj : j < bs.length := by have := (List.getElem?_eq_some_iff.1 h).1; rwa [O1] at this
 rw [Qp _ _ _ hj] at h;rw [Addr.add_lit, hc j hj];exact h
theorem jaE {e : TypeId} {w : World} {v : Value} {n base : Nat} {bs : List Int} (h : w.ownsRow base e 4 v n (vals .i64 bs)) : ∃ a c, v = .slice a n c ∧ OwnL w (FR.rows 4 ⟨e, a, n, c, bs⟩) ∧ (∀ b, O6 (FR.rows 4 ⟨e, a, n, c, bs⟩) b → base ≤ b) := by
 have h0 : w.ownsRow 0 e 4 v n (vals .i64 bs) := ⟨h.1, by
  rcases h.2 with h | ⟨g, cap, cur, h1, hb, h3⟩
  ·exact .inl h
  ·exact .inr ⟨g, cap, cur, h1, Nat.zero_le _, h3⟩⟩
 rcases h.2 with ⟨rfl, h2⟩ | ⟨g, cap, cur, rfl, hb, mm, hc, hm, hs, ht⟩
 ·obtain rfl : n = 0 := by
   have := h.1; rw [h2] at this; simp at this; omega
  exact ⟨none, 0, rfl, ⟨fun r hr => by rw [List.mem_singleton.1 hr]; exact h0, List.pairwise_singleton _ _⟩, fun b hb => by have := (PD _ _).1 hb; simp [FR.v, Value.ownBlock] at this⟩
 ·exact ⟨some ⟨g, 0, none⟩, cap, rfl, ⟨fun r hr => by rw [List.mem_singleton.1 hr]; exact h0, List.pairwise_singleton _ _⟩, fun b iu => by have := Yc iu; omega⟩
theorem jaF (x : FR) (w : World) (hn : x.n ≤ 1048576) (hv : RdF 4 w x) :
  Calls Tryz.prog 68 #[x.v] w fun e w' => ∃ a c, e = .returned (.slice a x.n c) ∧ OwnL w' (FR.rows 4 ⟨79, a, x.n, c, x.bs⟩) ∧ (∀ b, O6 (FR.rows 4 ⟨79, a, x.n, c, x.bs⟩) b → w.heap.size ≤ b) ∧ Same w w' := by
 obtain ⟨i0, hi, b8, cE, cP⟩ := info_parts ZJ;have ik := fun (wx : World) (a : Option Addr) (n c : Nat) => Lib.run_eql_slice_nil (P := Tryz.prog) wx 25 79 a n c 0 0 Tryz.underlying25;obtain ⟨xe, xa, n, xc, bs⟩ := x;dsimp only [FR.v] at hn ⊢;have hl : bs.length = n * 4 := hv.2.1
 cases xa with
 | none =>
  obtain rfl : n = 0 := by
   rcases hv.2.2 with h | ⟨b, off, h, _⟩
   ·exact h
   ·cases h
  obtain rfl : bs = [] := List.length_eq_zero_iff.1 (by omega);clear hv hn hl
  go_enter Tryz.func68, Tryz.ntmps68
  go_wp2;go_ret;exact ⟨_, _, rfl, RH _ _ _, fun b hb => by have := (PD _ _).1 hb; simp [FR.v, Value.ownBlock] at this, kZ0⟩
 | some ad =>
  obtain ⟨b0, j8, vw⟩ := ad
  have Cu : Hid (∀ j u, (vals .i64 bs)[j]? = some u → (w.alloc (.cells #[] 79)).cell? ((⟨b0, j8, vw⟩ : Addr).add j) = some u) := by
   rcases hv.2.2 with h | ⟨b, off, h, _, hc⟩
   ·dsimp only at h
    subst h;obtain rfl : bs = [] := List.length_eq_zero_iff.1 (by omega);intro j u hj;simp [vals] at hj
   ·dsimp only at h hc
    injection h with h
    injection h with h1 h2 h3
    subst h1 h2 h3
    have lM : ∀ i, i < bs.length → (w.alloc (.cells #[] 79)).cell? ⟨b0, j8 + i, none⟩ = some (Q1 (bs.getD i 0)) := fun i hi => ((Kept.refl (fun _ => False) w).alloc _).cellOf (hc i (by omega)) (fun h => h)
    exact Yd lM
  clear hv
  go_enter Tryz.func68, Tryz.ntmps68
  go_wp2_with (at_builtin; refine wpList_append_own _ rfl (.tmp 5) (.tmp 6) 25 rfl w.heap.size 79 i0 _ 4 32 Tryz.underlying25 hi b8 cE cP rfl (by decide) (.slice (some ⟨w.heap.size, 0, none⟩) 0 0) 0 [] rfl (World.ownsRow_made w #[] 0 (Nat.le_refl _) (by simp) (by simp)) ⟨b0, j8, vw⟩ n xc (vals .i64 bs) rfl (by rw [O1]; exact hl) Cu.out Qy (by unfold maxLen; omega) (by omega) (by simp) ?_; intro v' w1 bm aV _; have HF : Hid (w1.ownsRow w.heap.size 79 4 v' n (vals .i64 bs)) := (by simpa [Hid] using bm); have HK : Hid (Same w w1) := (kZ0.alloc _).grown aV (fun k e => .inl (by simp [Value.ownBlock] at e; omega)); obtain ⟨aa, ca, rfl, ho, hb⟩ := jaE HF.out; have HO := hid ho; have HB := hid hb; clear bm aV ho hb)
  go_ret;exact ⟨_, _, rfl, HO.out, HB.out, HK.out⟩
theorem jaG {e : TypeId} {w : World} {v : Value} {n base : Nat} {bs : List Int} (h : w.ownsRow base e 2 v n (vals .i64 bs)) : ∃ a c, v = .slice a n c ∧ OwnL w (FR.rows 2 ⟨e, a, n, c, bs⟩) ∧ (∀ b, O6 (FR.rows 2 ⟨e, a, n, c, bs⟩) b → base ≤ b) := by
 have h0 : w.ownsRow 0 e 2 v n (vals .i64 bs) := ⟨h.1, by
  rcases h.2 with h | ⟨g, cap, cur, h1, hb, h3⟩
  ·exact .inl h
  ·exact .inr ⟨g, cap, cur, h1, Nat.zero_le _, h3⟩⟩
 rcases h.2 with ⟨rfl, h2⟩ | ⟨g, cap, cur, rfl, hb, mm, hc, hm, hs, ht⟩
 ·obtain rfl : n = 0 := by
   have := h.1; rw [h2] at this; simp at this; omega
  exact ⟨none, 0, rfl, ⟨fun r hr => by rw [List.mem_singleton.1 hr]; exact h0, List.pairwise_singleton _ _⟩, fun b hb => by have := (PD _ _).1 hb; simp [FR.v, Value.ownBlock] at this⟩
 ·exact ⟨some ⟨g, 0, none⟩, cap, rfl, ⟨fun r hr => by rw [List.mem_singleton.1 hr]; exact h0, List.pairwise_singleton _ _⟩, fun b iu => by have := Yc iu; omega⟩
theorem jaH (x : FR) (w : World) (hn : x.n ≤ 1048576) (hv : RdF 2 w x) :
  Calls Tryz.prog 69 #[x.v] w fun e w' => ∃ a c, e = .returned (.slice a x.n c) ∧ OwnL w' (FR.rows 2 ⟨81, a, x.n, c, x.bs⟩) ∧ (∀ b, O6 (FR.rows 2 ⟨81, a, x.n, c, x.bs⟩) b → w.heap.size ≤ b) ∧ Same w w' := by
 obtain ⟨i0, hi, b8, cE, cP⟩ := info_parts WW;have ik := fun (wx : World) (a : Option Addr) (n c : Nat) => Lib.run_eql_slice_nil (P := Tryz.prog) wx 26 81 a n c 0 0 Tryz.underlying26;obtain ⟨xe, xa, n, xc, bs⟩ := x;dsimp only [FR.v] at hn ⊢;have hl : bs.length = n * 2 := hv.2.1
 cases xa with
 | none =>
  obtain rfl : n = 0 := by
   rcases hv.2.2 with h | ⟨b, off, h, _⟩
   ·exact h
   ·cases h
  obtain rfl : bs = [] := List.length_eq_zero_iff.1 (by omega);clear hv hn hl
  go_enter Tryz.func69, Tryz.ntmps69
  go_wp2;go_ret;exact ⟨_, _, rfl, RH _ _ _, fun b hb => by have := (PD _ _).1 hb; simp [FR.v, Value.ownBlock] at this, kZ0⟩
 | some ad =>
  obtain ⟨b0, j8, vw⟩ := ad
  have Cu : Hid (∀ j u, (vals .i64 bs)[j]? = some u → (w.alloc (.cells #[] 81)).cell? ((⟨b0, j8, vw⟩ : Addr).add j) = some u) := by
   rcases hv.2.2 with h | ⟨b, off, h, _, hc⟩
   ·dsimp only at h
    subst h;obtain rfl : bs = [] := List.length_eq_zero_iff.1 (by omega);intro j u hj;simp [vals] at hj
   ·dsimp only at h hc
    injection h with h
    injection h with h1 h2 h3
    subst h1 h2 h3
    have lM : ∀ i, i < bs.length → (w.alloc (.cells #[] 81)).cell? ⟨b0, j8 + i, none⟩ = some (Q1 (bs.getD i 0)) := fun i hi => ((Kept.refl (fun _ => False) w).alloc _).cellOf (hc i (by omega)) (fun h => h)
    exact Yd lM
  clear hv
  go_enter Tryz.func69, Tryz.ntmps69
  go_wp2_with (at_builtin; refine wpList_append_own _ rfl (.tmp 5) (.tmp 6) 26 rfl w.heap.size 81 i0 _ 2 16 Tryz.underlying26 hi b8 cE cP rfl (by decide) (.slice (some ⟨w.heap.size, 0, none⟩) 0 0) 0 [] rfl (World.ownsRow_made w #[] 0 (Nat.le_refl _) (by simp) (by simp)) ⟨b0, j8, vw⟩ n xc (vals .i64 bs) rfl (by rw [O1]; exact hl) Cu.out Qy (by unfold maxLen; omega) (by omega) (by simp) ?_; intro v' w1 bm aV _; have HF : Hid (w1.ownsRow w.heap.size 81 2 v' n (vals .i64 bs)) := (by simpa [Hid] using bm); have HK : Hid (Same w w1) := (kZ0.alloc _).grown aV (fun k e => .inl (by simp [Value.ownBlock] at e; omega)); obtain ⟨aa, ca, rfl, ho, hb⟩ := jaG HF.out; have HO := hid ho; have HB := hid hb; clear bm aV ho hb)
  go_ret;exact ⟨_, _, rfl, HO.out, HB.out, HK.out⟩
structure OwI (w wx : World) (A B : Nat) (cs : List Value) (L : List Row) : Prop where
 box : Blk wx A 28 cs
 res : Blk wx B 28 [Q1 0, Q1 0, Q1 0, Q1 0, Q1 0, .bool false, Q4, .bool false, Q4, Q1 0, Q1 0, Q4, Q4, Q4]
 kept : Same w wx
 own : OwnL wx L
 foot : ∀ b, O6 L b → w.heap.size ≤ b ∧ b ≠ A ∧ b ≠ B
 pl : w.heap.size ≤ A ∧ w.heap.size ≤ B ∧ A ≠ B
theorem OwI.step {w wx wy : World} {A B : Nat} {cs Gz : List Value} {L q : List Row} (h : OwI w wx A B cs L) (hk : Same wx wy) (ho : OwnL wy q) (hf : ∀ b, O6 q b → wx.heap.size ≤ b) (j : Nat) (v : Value) (hc : Gz = cs.set j v) : OwI w (wy.setCell ⟨A, j, none⟩ v) A B Gz (L ++ q) := by
 have hs : Kept (fun b => b = A) wy (wy.setCell ⟨A, j, none⟩ v) := (Kept.refl (fun b => b = A) wy).setCell (p := ⟨A, j, none⟩) (.inr rfl) _;have e1 := h.box.lt;have e2 := h.res.lt;have e3 := h.kept.size;have e4 := h.pl;subst hc;refine ⟨(h.box.same hk).stored j v, (h.res.same hk).kept hs (fun e => e4.2.2 e.symm), (h.kept.trans hk).next hs (fun i hi e => by omega), ((h.own.same hk).append ho (fun b h1 h2 => by have := h.own.lt b h1; have := hf b h2; omega)).kept hs (fun b hb e => ?_), fun b hb => ?_, e4⟩
 ·rcases (OX _ _ _).1 hb with h1 | h1
  ·exact (h.foot b h1).2.1 e
  ·have := hf b h1; omega
 ·rcases (OX _ _ _).1 hb with h1 | h1
  ·exact h.foot b h1
  ·have := hf b h1; omega
theorem ZM (y : StLogRecord) (w : World) (hn : y.before.data.bs.length ≤ 1099511627776 ∧ y.after.data.bs.length ≤ 1099511627776 ∧ y.txns.n ≤ 1048576 ∧ y.dirty.n ≤ 1048576 ∧ y.image.bs.length ≤ 1099511627776) (hv : StLogRecord.rd w y) :
  Calls Tryz.prog 30 #[y.val] w fun e w' => ∃ z : StLogRecord, e = .returned z.val ∧ z.dat = y.dat ∧ (∀ b, O6 z.rows b → w.heap.size ≤ b) ∧ OwnL w' z.rows ∧ Same w w' := by
 obtain ⟨k, t, p, g, s, ⟨bu, ⟨be, ba, bc, bb⟩⟩, ⟨au, ⟨ae, aa, ac, ab⟩⟩, u, nt, ⟨te, ta, tn, tc, tb⟩, ⟨de, da, dn, dc, db⟩, ⟨ie, ia, ic, ib⟩⟩ := y;obtain ⟨n1, n2, n3, n4, n5⟩ := hn;have HV := hid hv;dsimp only [StLogRecord.val, StPageRecord.val, BS.v, FR.v] at n1 n2 n3 n4 n5 ⊢;obtain ⟨aP, G0, dO⟩ := new2 w [Q1 k, Q1 t, Q1 p, Q1 g, Q1 s, .bool bu, .slice ba bb.length bc, .bool au, .slice aa ab.length ac, Q1 u, Q1 nt, .slice ta tn tc, .slice da dn dc, .slice ia ib.length ic] 28 [Q1 0, Q1 0, Q1 0, Q1 0, Q1 0, .bool false, Q4, .bool false, Q4, Q1 0, Q1 0, Q4, Q4, Q4] 28;have pI : Hid (OwI w ((w.alloc (.cells #[Q1 k, Q1 t, Q1 p, Q1 g, Q1 s, .bool bu, .slice ba bb.length bc, .bool au, .slice aa ab.length ac, Q1 u, Q1 nt, .slice ta tn tc, .slice da dn dc, .slice ia ib.length ic] 28)).alloc (.cells #[Q1 0, Q1 0, Q1 0, Q1 0, Q1 0, .bool false, Q4, .bool false, Q4, Q1 0, Q1 0, Q4, Q4, Q4] 28)) w.heap.size (w.heap.size + 1) [Q1 k, Q1 t, Q1 p, Q1 g, Q1 s, .bool bu, .slice ba bb.length bc, .bool au, .slice aa ab.length ac, Q1 u, Q1 nt, .slice ta tn tc, .slice da dn dc, .slice ia ib.length ic] []) := ⟨G0.out, dO.out, aP.out, ⟨fun r hr => by simp at hr, List.Pairwise.nil⟩, fun b hb => by obtain ⟨r, hr, _⟩ := hb; simp at hr, Nat.le_refl _, by omega, by omega⟩;clear aP G0 dO hv
 go_enter Tryz.func30, Tryz.ntmps30
 go_upto_region 1 with fail
 generalize (w.alloc (.cells #[Q1 k, Q1 t, Q1 p, Q1 g, Q1 s, .bool bu, .slice ba bb.length bc, .bool au, .slice aa ab.length ac, Q1 u, Q1 nt, .slice ta tn tc, .slice da dn dc, .slice ia ib.length ic] 28)).alloc (.cells #[Q1 0, Q1 0, Q1 0, Q1 0, Q1 0, .bool false, Q4, .bool false, Q4, Q1 0, Q1 0, Q4, Q4, Q4] 28) = w0 at pI ⊢;obtain ⟨A, hA⟩ : ∃ A, w.heap.size = A := ⟨_, rfl⟩;have pI := (show Hid (OwI w w0 A (A + 1) [Q1 k, Q1 t, Q1 p, Q1 g, Q1 s, .bool bu, .slice ba bb.length bc, .bool au, .slice aa ab.length ac, Q1 u, Q1 nt, .slice ta tn tc, .slice da dn dc, .slice ia ib.length ic] []) from by have h := pI.out; rw [hA] at h; exact h);rw [hA];have LQ := hid hA;clear hA;have cc : w0.cell? ⟨A, 6, none⟩ = some (.slice ba bb.length bc) := pI.out.box.cell 6
 go_wp2_with fail
 refine (Vj _ bb _ n1 (HV.out.1.same pI.out.kept)).mono ?_;rintro e v1 ⟨a1, NE, c1, rfl, ag, hf, hk⟩;obtain rfl := ag.sizedR;have dU : Hid (OwnL v1 (BS.rows ⟨5, a1, c1, bb⟩)) := OwnL.one ag;have fa := (pI.out.box.same hk).frozen;have ca : v1.cell? ⟨A, 6, none⟩ = some (.slice ba bb.length bc) := (pI.out.box.same hk).cell 6;have bD := (show Hid (OwI w (v1.setCell ⟨A, 6, none⟩ (.slice a1 bb.length c1)) A (A + 1) _ _) from pI.out.step hk dU.out (fun b hb => hf b ((Pv _ _ _ _ _).1 hb)) 6 (.slice a1 bb.length c1) rfl);dsimp only [List.set_cons_succ, List.set_cons_zero] at bD;clear ag hf hk dU pI;clear cc
 go_upto_region 2 with fail
 generalize v1.setCell ⟨A, 6, none⟩ (.slice a1 bb.length c1) = w1 at bD ⊢;clear fa ca;have cc : w1.cell? ⟨A, 8, none⟩ = some (.slice aa ab.length ac) := bD.out.box.cell 8
 go_wp2_with fail
 refine (Vj _ ab _ n2 (HV.out.2.1.same bD.out.kept)).mono ?_;rintro e v2 ⟨a2, NF, c2, rfl, ag, hf, hk⟩;obtain rfl := ag.sizedR;have gi : Hid (OwnL v2 (BS.rows ⟨5, a2, c2, ab⟩)) := OwnL.one ag;have fa := (bD.out.box.same hk).frozen;have ca : v2.cell? ⟨A, 8, none⟩ = some (.slice aa ab.length ac) := (bD.out.box.same hk).cell 8;have bL := (show Hid (OwI w (v2.setCell ⟨A, 8, none⟩ (.slice a2 ab.length c2)) A (A + 1) _ _) from bD.out.step hk gi.out (fun b hb => hf b ((Pv _ _ _ _ _).1 hb)) 8 (.slice a2 ab.length c2) rfl);dsimp only [List.set_cons_succ, List.set_cons_zero] at bL;clear ag hf hk gi bD;clear cc
 go_upto_region 3 with fail
 generalize v2.setCell ⟨A, 8, none⟩ (.slice a2 ab.length c2) = w2 at bL ⊢;clear fa ca;have cc : w2.cell? ⟨A, 11, none⟩ = some (.slice ta tn tc) := bL.out.box.cell 11
 go_wp2_with fail
 refine (jaF ⟨te, ta, tn, tc, tb⟩ _ n3 (HV.out.2.2.1.same bL.out.kept)).mono ?_;rintro e v3 ⟨a3, c3, rfl, ag, hf, hk⟩;have fa := (bL.out.box.same hk).frozen;have ca : v3.cell? ⟨A, 11, none⟩ = some (.slice ta tn tc) := (bL.out.box.same hk).cell 11;have ct := (show Hid (OwI w (v3.setCell ⟨A, 11, none⟩ (.slice a3 tn c3)) A (A + 1) _ _) from bL.out.step hk ag hf 11 (.slice a3 tn c3) rfl);dsimp only [List.set_cons_succ, List.set_cons_zero] at ct;clear ag hf hk bL;clear cc
 go_upto_region 4 with fail
 generalize v3.setCell ⟨A, 11, none⟩ (.slice a3 tn c3) = w3 at ct ⊢;clear fa ca;have cc : w3.cell? ⟨A, 12, none⟩ = some (.slice da dn dc) := ct.out.box.cell 12
 go_wp2_with fail
 refine (jaH ⟨de, da, dn, dc, db⟩ _ n4 (HV.out.2.2.2.1.same ct.out.kept)).mono ?_;rintro e v4 ⟨a4, c4, rfl, ag, hf, hk⟩;have fa := (ct.out.box.same hk).frozen;have ca : v4.cell? ⟨A, 12, none⟩ = some (.slice da dn dc) := (ct.out.box.same hk).cell 12;have eE := (show Hid (OwI w (v4.setCell ⟨A, 12, none⟩ (.slice a4 dn c4)) A (A + 1) _ _) from ct.out.step hk ag hf 12 (.slice a4 dn c4) rfl);dsimp only [List.set_cons_succ, List.set_cons_zero] at eE;clear ag hf hk ct;clear cc
 go_upto_region 5 with fail
 generalize v4.setCell ⟨A, 12, none⟩ (.slice a4 dn c4) = w4 at eE ⊢;clear fa ca;have cc : w4.cell? ⟨A, 13, none⟩ = some (.slice ia ib.length ic) := eE.out.box.cell 13
 go_wp2_with fail
 refine (Vj _ ib _ n5 (HV.out.2.2.2.2.same eE.out.kept)).mono ?_;rintro e v5 ⟨a5, Ny, c5, rfl, ag, hf, hk⟩;obtain rfl := ag.sizedR;have jb : Hid (OwnL v5 (BS.rows ⟨5, a5, c5, ib⟩)) := OwnL.one ag;have fa := (eE.out.box.same hk).frozen;have ca : v5.cell? ⟨A, 13, none⟩ = some (.slice ia ib.length ic) := (eE.out.box.same hk).cell 13;have eQ := (show Hid (OwI w (v5.setCell ⟨A, 13, none⟩ (.slice a5 ib.length c5)) A (A + 1) _ _) from eE.out.step hk jb.out (fun b hb => hf b ((Pv _ _ _ _ _).1 hb)) 13 (.slice a5 ib.length c5) rfl);dsimp only [List.set_cons_succ, List.set_cons_zero] at eQ;clear ag hf hk jb eE;clear cc
 go_upto_region 6 with fail
 generalize v5.setCell ⟨A, 13, none⟩ (.slice a5 ib.length c5) = w5 at eQ ⊢;clear fa ca;obtain ⟨q0, q1, q2, q3, q4, q5, q6, q7, q8, q9, yY, vD, oF, wV⟩ := (show Blk w5 A 28 [Q1 k, Q1 t, Q1 p, Q1 g, Q1 s, .bool bu, .slice a1 bb.length c1, .bool au, .slice a2 ab.length c2, Q1 u, Q1 nt, .slice a3 tn c3, .slice a4 dn c4, .slice a5 ib.length c5] from eQ.out.box).all14;have fz := eQ.out.res.frozen;have fi := eQ.out.box.lt;have eL := eQ.out.res.lt;have z0 := eQ.out.res.cell 0;have z1 := eQ.out.res.cell 1;have z2 := eQ.out.res.cell 2;have z3 := eQ.out.res.cell 3;have z4 := eQ.out.res.cell 4;have z5 := eQ.out.res.cell 5;have z6 := eQ.out.res.cell 6;have z7 := eQ.out.res.cell 7;have z8 := eQ.out.res.cell 8;have z9 := eQ.out.res.cell 9;have bV := eQ.out.res.cell 10;have bW := eQ.out.res.cell 11;have bX := eQ.out.res.cell 12;have bY := eQ.out.res.cell 13;simp only [List.getElem?_cons_zero, List.getElem?_cons_succ] at z0 z1 z2 z3 z4 z5 z6 z7 z8 z9 bV bW bX bY;have HS : Hid (Kept (fun b => b = A + 1) w5 ((((((((((((((w5.setCell ⟨A + 1, 0, none⟩ (Q1 k)).setCell ⟨A + 1, 1, none⟩ (Q1 t)).setCell ⟨A + 1, 2, none⟩ (Q1 p)).setCell ⟨A + 1, 3, none⟩ (Q1 g)).setCell ⟨A + 1, 4, none⟩ (Q1 s)).setCell ⟨A + 1, 5, none⟩ (.bool bu)).setCell ⟨A + 1, 6, none⟩ (.slice a1 bb.length c1)).setCell ⟨A + 1, 7, none⟩ (.bool au)).setCell ⟨A + 1, 8, none⟩ (.slice a2 ab.length c2)).setCell ⟨A + 1, 9, none⟩ (Q1 u)).setCell ⟨A + 1, 10, none⟩ (Q1 nt)).setCell ⟨A + 1, 11, none⟩ (.slice a3 tn c3)).setCell ⟨A + 1, 12, none⟩ (.slice a4 dn c4)).setCell ⟨A + 1, 13, none⟩ (.slice a5 ib.length c5))) := (by show Kept _ _ _; (iterate 14 refine kS0 ?_); exact Kept.refl _ _);have HO := hid (eQ.out.own.kept HS.out (fun b hb e => (eQ.out.foot b hb).2.2 e));go_wp2;refine bodyPost_ret (v := .agg #[Q1 k, Q1 t, Q1 p, Q1 g, Q1 s, .bool bu, .slice a1 bb.length c1, .bool au, .slice a2 ab.length c2, Q1 u, Q1 nt, .slice a3 tn c3, .slice a4 dn c4, .slice a5 ib.length c5]) (by simp [results, Tryz.results30, go_sem, z0, z1, z2, z3, z4, z5, z6, z7, z8, z9, bV, bW, bX, bY]) rfl ⟨⟨k, t, p, g, s, ⟨bu, ⟨5, a1, c1, bb⟩⟩, ⟨au, ⟨5, a2, c2, ab⟩⟩, u, nt, ⟨79, a3, tn, c3, tb⟩, ⟨81, a4, dn, c4, db⟩, ⟨5, a5, c5, ib⟩⟩, rfl, rfl, fun b hb => ?_, ?_, ?_⟩
 ·refine (eQ.out.foot b ?_).1
  simp only [List.nil_append, List.append_assoc];exact hb
 ·have h := HO.out
  simp only [List.nil_append, List.append_assoc] at h;exact h
 ·exact eQ.out.kept.next HS.out (fun i hi e => by have := LQ.out; omega)
@[go_sem] theorem jfg (n : Nat) (txn : Int) (prev : Int) (page : Int) (slot : Int) (bU : Bool) (aU : Bool) (ax : Option Addr) (ay : Nat) (aI : List Int) (ao : Option Addr) (al : Nat) (aG : List Int)  (w : World) : (method (n + 1) 104 (.agg #[Q1 txn, Q1 prev, Q1 page, Q1 slot, .bool bU, .slice ax aI.length ay, .bool aU, .slice ao aG.length al]) "loop.example/s02544/impl.fault").run Tryz.prog w = .ok (162, .agg #[Q1 txn, Q1 prev, Q1 page, Q1 slot, .bool bU, .slice ax aI.length ay, .bool aU, .slice ao aG.length al]) w := by kernel_rfl
@[go_sem] theorem jfh (n : Nat) (txn : Int) (prev : Int) (page : Int) (slot : Int) (uN : Int) (aU : Bool) (ao : Option Addr) (al : Nat) (aG : List Int)  (w : World) : (method (n + 1) 106 (.agg #[Q1 txn, Q1 prev, Q1 page, Q1 slot, .bool aU, .slice ao aG.length al, Q1 uN]) "loop.example/s02544/impl.fault").run Tryz.prog w = .ok (168, .agg #[Q1 txn, Q1 prev, Q1 page, Q1 slot, .bool aU, .slice ao aG.length al, Q1 uN]) w := by kernel_rfl
@[go_sem] theorem jfi (n : Nat) (txn : Int) (prev : Int)  (w : World) : (method (n + 1) 108 (.agg #[Q1 txn, Q1 prev]) "loop.example/s02544/impl.fault").run Tryz.prog w = .ok (155, .agg #[Q1 txn, Q1 prev]) w := by kernel_rfl
@[go_sem] theorem jfj (n : Nat) (txn : Int) (prev : Int)  (w : World) : (method (n + 1) 109 (.agg #[Q1 txn, Q1 prev]) "loop.example/s02544/impl.fault").run Tryz.prog w = .ok (155, .agg #[Q1 txn, Q1 prev]) w := by kernel_rfl
@[go_sem] theorem jfk (n : Nat) (txn : Int) (prev : Int)  (w : World) : (method (n + 1) 110 (.agg #[Q1 txn, Q1 prev]) "loop.example/s02544/impl.fault").run Tryz.prog w = .ok (155, .agg #[Q1 txn, Q1 prev]) w := by kernel_rfl
@[go_sem] theorem jfl (n : Nat)  (w : World) : (method (n + 1) 111 (.agg #[Q1 0, Q1 0]) "loop.example/s02544/impl.fault").run Tryz.prog w = .ok (169, .agg #[Q1 0, Q1 0]) w := by kernel_rfl
@[go_sem] theorem jfm (n : Nat) (nT : Int) (aJ : Option Addr) (ak : Nat) (aK : Nat) (aM : Option Addr) (aw : Nat) (aH : Nat)  (w : World) : (method (n + 1) 113 (.agg #[Q1 0, Q1 0, Q1 nT, .slice aJ ak aK, .slice aM aw aH]) "loop.example/s02544/impl.fault").run Tryz.prog w = .ok (171, .agg #[Q1 0, Q1 0, Q1 nT, .slice aJ ak aK, .slice aM aw aH]) w := by kernel_rfl
@[go_sem] theorem jfn (n : Nat) (page : Int) (aF : Option Addr) (aD : Nat) (aL : List Int)  (w : World) : (method (n + 1) 115 (.agg #[Q1 0, Q1 0, Q1 page, .slice aF aL.length aD]) "loop.example/s02544/impl.fault").run Tryz.prog w = .ok (175, .agg #[Q1 0, Q1 0, Q1 page, .slice aF aL.length aD]) w := by kernel_rfl
theorem U2 {k t p : Int} {r : List Int} (h : IsB r) : IsB (Pt nI (fun rs n => rs.take n) k t p r).2.2.2.2.2.1.2 ∧ IsB (Pt nI (fun rs n => rs.take n) k t p r).2.2.2.2.2.2.1.2 ∧ IsB (Pt nI (fun rs n => rs.take n) k t p r).2.2.2.2.2.2.2.2.2.2.2 ∧ (Pt nI (fun rs n => rs.take n) k t p r).2.2.2.2.2.1.2.length ≤ 65535 ∧ (Pt nI (fun rs n => rs.take n) k t p r).2.2.2.2.2.2.1.2.length ≤ 65535 ∧ (Pt nI (fun rs n => rs.take n) k t p r).2.2.2.2.2.2.2.2.2.1.length ≤ 1020 ∧ (Pt nI (fun rs n => rs.take n) k t p r).2.2.2.2.2.2.2.2.2.2.1.length ≤ 510 ∧ (Pt nI (fun rs n => rs.take n) k t p r).2.2.2.2.2.2.2.2.2.2.2.length ≤ 4096 := by
 have s1 := Vs (h.dropI 4);have s2 := Vs s1.2.1
 have nl : IsB [] := fun x hx => by simp at hx
 have l0 : ([] : List Int).length ≤ 510 := by simp
 unfold Pt
 split
 ·exact ⟨s1.1, s2.1, nl, s1.2.2.1, s2.2.2.1, by simp, by simp, by simp⟩
 split
 ·exact ⟨nl, s1.1, nl, by simp, s1.2.2.1, by simp, by simp, by simp⟩
 split
 ·have h1 := YQ (h.dropI 4)
  have h2 := YQ ((h.dropI 5).dropI (21 * (nI (r.drop 4) 1).toNat));refine ⟨nl, nl, nl, by simp, by simp, ?_, ?_, by simp⟩
  ·show (txL nI _ _).length ≤ 1020
   unfold txL;rw [Rh (m := 4) (fun i => rfl)];omega
  ·show (dyL nI _ _).length ≤ 510
   unfold dyL;rw [Rh (m := 2) (fun i => rfl)];omega
 split
 ·exact ⟨nl, nl, fun x hx => h.dropI 2 x (List.mem_of_mem_take hx), by simp, by simp, by simp, by simp, by simp only [List.length_take]; omega⟩
 ·exact ⟨nl, nl, nl, by simp, by simp, by simp, by simp, by simp⟩
theorem jex {y : StLogRecord} {bs : List Int} (hB : IsB bs) (hd : y.dat = Sy bs) : IsB y.before.data.bs ∧ IsB y.after.data.bs ∧ IsB y.image.bs := by
 obtain ⟨h1, h2, h3, h4, h5, h6, h7, h8⟩ := U2 (k := nI bs 1) (t := if nI bs 1 ≤ 5 then nI (bs.drop 1) 4 else 0) (p := if nI bs 1 ≤ 5 then nI (bs.drop 5) 8 else 0) (hB.dropI 13)
 change y.dat = Pt nI (fun rs n => rs.take n) (nI bs 1) (if nI bs 1 ≤ 5 then nI (bs.drop 1) 4 else 0) (if nI bs 1 ≤ 5 then nI (bs.drop 5) 8 else 0) (bs.drop 13) at hd
 rw [← hd] at h1 h2 h3;exact ⟨h1, h2, h3⟩
def Bnd (y : StLogRecord) : Prop := (y.before.data.bs.length ≤ 1099511627776 ∧ y.after.data.bs.length ≤ 1099511627776 ∧ y.txns.n ≤ 1048576 ∧ y.dirty.n ≤ 1048576 ∧ y.image.bs.length ≤ 1099511627776) ∧ IsB y.image.bs
def XC (y : StLogRecord) : Prop := y.image.bs.length ≤ 1099511627776 ∧ IsB y.image.bs
theorem jey {y : StLogRecord} {wx : World} {bs : List Int} (hB : IsB bs) (hd : y.dat = Sy bs) (hr : StLogRecord.rd wx y) : Bnd y := by
 obtain ⟨h1, h2, h3, h4, h5, h6, h7, h8⟩ := U2 (k := nI bs 1) (t := if nI bs 1 ≤ 5 then nI (bs.drop 1) 4 else 0) (p := if nI bs 1 ≤ 5 then nI (bs.drop 5) 8 else 0) (hB.dropI 13)
 change y.dat = Pt nI (fun rs n => rs.take n) (nI bs 1) (if nI bs 1 ≤ 5 then nI (bs.drop 1) 4 else 0) (if nI bs 1 ≤ 5 then nI (bs.drop 5) 8 else 0) (bs.drop 13) at hd
 rw [← hd] at h1 h2 h3 h4 h5 h6 h7 h8;have l1 := hr.2.2.1.2.1;have l2 := hr.2.2.2.1.2.1;simp only [StLogRecord.dat, StPageRecord.dat] at h3 h4 h5 h6 h7 h8;exact ⟨⟨by omega, by omega, by omega, by omega, by omega⟩, h3⟩
theorem YT {y : StLogRecord} (h : ¬ (1 ≤ y.kind ∧ y.kind ≤ 8)) : tyV y = .nilIface := by
 unfold tyV;rw [if_neg (by omega), if_neg (by omega), if_neg (by omega), if_neg (by omega), if_neg (by omega), if_neg (by omega), if_neg (by omega), if_neg (by omega)]
def jez (ri : Nat) (rc : Value) (F : Int) (w : World) : Prop := ∀ wx, Same w wx → Calls Tryz.prog ri #[rc] wx fun e w' => e = .returned (Q1 F) ∧ Same wx w'
def jcN (A : Value) (xs : List Int) (w : World) : Prop := ∀ wx, Same w wx → Calls Tryz.prog 26 #[A] wx fun e w' => ∃ aa nn cc, e = .returned (.slice aa nn cc) ∧ Own 0 5 .u8 w' (.slice aa nn cc) xs ∧ (∀ b, (Value.slice aa nn cc).ownBlock = some b → wx.heap.size ≤ b) ∧ Same wx w'
def jeA (A pv : Value) (w : World) : Prop := ∀ wx, Same w wx → Calls Tryz.prog 31 #[A] wx fun e w' => e = .returned pv ∧ Same wx w'
def TyP (y : StLogRecord) (w : World) : Prop := ∃ (T : TypeId) (A rc : Value) (ri : Nat), tyV y = .iface T A ∧ (∀ n wx, (method (n + 1) T A "loop.example/s02544/impl.fault").run Tryz.prog wx = .ok (ri, rc) wx) ∧ (∀ (args : Array Value) (wx : World), (callFunc ri args).run Tryz.prog wx = .ok (.enter ri args) wx) ∧ jez ri rc (O9 y.dat) w ∧ (O9 y.dat = 0 → jcN (.iface T A) (Pe y.dat) w) ∧ jeA (.iface T A) y.val w
theorem jeB (t p g s : Int) (bu : Bool) (be : TypeId) (ba : Option Addr) (bc : Nat) (bb : List Int) (au : Bool) (ae : TypeId) (aa : Option Addr) (ac : Nat) (ab : List Int) (w : World) (hn : XC { Pj 1 t p with page := g, slot := s, before := ⟨bu, be, ba, bc, bb⟩, after := ⟨au, ae, aa, ac, ab⟩ }) (hr : StLogRecord.rd w { Pj 1 t p with page := g, slot := s, before := ⟨bu, be, ba, bc, bb⟩, after := ⟨au, ae, aa, ac, ab⟩ }) : TyP { Pj 1 t p with page := g, slot := s, before := ⟨bu, be, ba, bc, bb⟩, after := ⟨au, ae, aa, ac, ab⟩ } w := by
 have hF : O9 (StLogRecord.dat { Pj 1 t p with page := g, slot := s, before := ⟨bu, be, ba, bc, bb⟩, after := ⟨au, ae, aa, ac, ab⟩ }) = orF (PO t p) (Px g s) (Zx bu au bb.length ab.length) := by
  simp [O9, Pw, StLogRecord.dat, StPageRecord.dat, Pj, nlB, nlF, Vk]
 refine ⟨104, (.agg #[Q1 t, Q1 p, Q1 g, Q1 s, .bool bu, .slice ba bb.length bc, .bool au, .slice aa ab.length ac]), (.agg #[Q1 t, Q1 p, Q1 g, Q1 s, .bool bu, .slice ba bb.length bc, .bool au, .slice aa ab.length ac]), 162, rfl, fun n wx => jfg n t p g s bu au ba bc bb aa ac ab wx, fun args wx => by simp [callFunc, go_sem, Tryz.func162, Tryz.f162], fun wx hk => ?_, fun hz wx hk => ?_, fun wx hk => ?_⟩
 ·rw [hF]
  exact VX t p g s bu au ba aa bb.length bc ab.length ac wx hr.1.1 hr.2.1.1
 ·have hg : Pw 1 t p g s bu bb au ab 0 0 [] [] [] = 0 := hz
  obtain ⟨⟨iX, gg⟩, ⟨js, iK⟩, aY, dJ⟩ := X7 hg
  have cU : Pe (StLogRecord.dat { Pj 1 t p with page := g, slot := s, before := ⟨bu, be, ba, bc, bb⟩, after := ⟨au, ae, aa, ac, ab⟩ }) = Pf 1 t p ++ (((OW g 2 ++ OW s 2) ++ Pn bu bb) ++ Pn au ab) := by simp [Pe, Pq, StLogRecord.dat, StPageRecord.dat, Pj, nlB, nlF]
  rw [cU];exact Wo t p g s bu ba bc bb au aa ac ab _ (by omega) (by omega) (by unfold IsI; omega) (by unfold IsI; omega) aY dJ (Rd.same hr.1 hk) (Rd.same hr.2.1 hk)
 ·exact XH t p g s bu ba bb.length bc au aa ab.length ac 0 0 none 0 0 none 0 0 none 0 0 wx
theorem jeC (t p g s u : Int) (au : Bool) (ae : TypeId) (aa : Option Addr) (ac : Nat) (ab : List Int) (w : World) (hn : XC { Pj 2 t p with page := g, slot := s, after := ⟨au, ae, aa, ac, ab⟩, uN := u }) (hr : StLogRecord.rd w { Pj 2 t p with page := g, slot := s, after := ⟨au, ae, aa, ac, ab⟩, uN := u }) : TyP { Pj 2 t p with page := g, slot := s, after := ⟨au, ae, aa, ac, ab⟩, uN := u } w := by
 have hF : O9 (StLogRecord.dat { Pj 2 t p with page := g, slot := s, after := ⟨au, ae, aa, ac, ab⟩, uN := u }) = orF (PO t p) (Px g s) (Zy au ab.length u) := by
  simp [O9, Pw, StLogRecord.dat, StPageRecord.dat, Pj, nlB, nlF, Vl]
 refine ⟨106, (.agg #[Q1 t, Q1 p, Q1 g, Q1 s, .bool au, .slice aa ab.length ac, Q1 u]), (.agg #[Q1 t, Q1 p, Q1 g, Q1 s, .bool au, .slice aa ab.length ac, Q1 u]), 168, rfl, fun n wx => jfh n t p g s u au aa ac ab wx, fun args wx => by simp [callFunc, go_sem, Tryz.func168, Tryz.f168], fun wx hk => ?_, fun hz wx hk => ?_, fun wx hk => ?_⟩
 ·rw [hF]
  exact XB t p g s au aa ab.length ac u wx hr.2.1.1
 ·have hg : Pw 2 t p g s false [] au ab u 0 [] [] [] = 0 := hz
  obtain ⟨⟨iX, gg⟩, ⟨js, iK⟩, aY, dJ⟩ := X8 hg
  have cU : Pe (StLogRecord.dat { Pj 2 t p with page := g, slot := s, after := ⟨au, ae, aa, ac, ab⟩, uN := u }) = Pf 2 t p ++ (((OW g 2 ++ OW s 2) ++ Pn au ab) ++ OW u 8) := by simp [Pe, Pq, StLogRecord.dat, StPageRecord.dat, Pj, nlB, nlF]
  rw [cU];exact Wp t p g s au aa ac ab u _ (by omega) (by omega) (by unfold IsI; omega) (by unfold IsI; omega) (by unfold IsI; omega) aY (Rd.same hr.2.1 hk)
 ·exact XI t p g s false none 0 0 au aa ab.length ac u 0 none 0 0 none 0 0 none 0 0 wx
theorem jeD (t p : Int) (w : World) (hn : XC (Pj 3 t p)) (hr : StLogRecord.rd w (Pj 3 t p)) : TyP (Pj 3 t p) w := by
 have hF : O9 (StLogRecord.dat (Pj 3 t p)) = PO t p := by
  simp [O9, Pw, StLogRecord.dat, StPageRecord.dat, Pj, nlB, nlF, Vm]
 refine ⟨108, (.agg #[Q1 t, Q1 p]), (.agg #[Q1 t, Q1 p]), 155, rfl, fun n wx => jfi n t p wx, fun args wx => by simp [callFunc, go_sem, Tryz.func155, Tryz.f155], fun wx hk => ?_, fun hz wx hk => ?_, fun wx hk => ?_⟩
 ·rw [hF]
  exact P5 t p wx
 ·have hg : Pw 3 t p 0 0 false [] false [] 0 0 [] [] [] = 0 := hz
  obtain ⟨iX, gg⟩ := ZA hg
  have cU : Pe (StLogRecord.dat (Pj 3 t p)) = Pf 3 t p ++ ([]) := by simp [Pe, Pq, StLogRecord.dat, StPageRecord.dat, Pj, nlB, nlF]
  rw [cU];exact Wq t p _ (by omega) (by omega)
 ·exact XJ t p 0 0 false none 0 0 false none 0 0 0 0 none 0 0 none 0 0 none 0 0 wx
theorem jeE (t p : Int) (w : World) (hn : XC (Pj 4 t p)) (hr : StLogRecord.rd w (Pj 4 t p)) : TyP (Pj 4 t p) w := by
 have hF : O9 (StLogRecord.dat (Pj 4 t p)) = PO t p := by
  simp [O9, Pw, StLogRecord.dat, StPageRecord.dat, Pj, nlB, nlF, Vn]
 refine ⟨109, (.agg #[Q1 t, Q1 p]), (.agg #[Q1 t, Q1 p]), 155, rfl, fun n wx => jfj n t p wx, fun args wx => by simp [callFunc, go_sem, Tryz.func155, Tryz.f155], fun wx hk => ?_, fun hz wx hk => ?_, fun wx hk => ?_⟩
 ·rw [hF]
  exact P5 t p wx
 ·have hg : Pw 4 t p 0 0 false [] false [] 0 0 [] [] [] = 0 := hz
  obtain ⟨iX, gg⟩ := ZB hg
  have cU : Pe (StLogRecord.dat (Pj 4 t p)) = Pf 4 t p ++ ([]) := by simp [Pe, Pq, StLogRecord.dat, StPageRecord.dat, Pj, nlB, nlF]
  rw [cU];exact Ws t p _ (by omega) (by omega)
 ·exact XK t p 0 0 false none 0 0 false none 0 0 0 0 none 0 0 none 0 0 none 0 0 wx
theorem jeF (t p : Int) (w : World) (hn : XC (Pj 5 t p)) (hr : StLogRecord.rd w (Pj 5 t p)) : TyP (Pj 5 t p) w := by
 have hF : O9 (StLogRecord.dat (Pj 5 t p)) = PO t p := by
  simp [O9, Pw, StLogRecord.dat, StPageRecord.dat, Pj, nlB, nlF, Vo]
 refine ⟨110, (.agg #[Q1 t, Q1 p]), (.agg #[Q1 t, Q1 p]), 155, rfl, fun n wx => jfk n t p wx, fun args wx => by simp [callFunc, go_sem, Tryz.func155, Tryz.f155], fun wx hk => ?_, fun hz wx hk => ?_, fun wx hk => ?_⟩
 ·rw [hF]
  exact P5 t p wx
 ·have hg : Pw 5 t p 0 0 false [] false [] 0 0 [] [] [] = 0 := hz
  obtain ⟨iX, gg⟩ := ZC hg
  have cU : Pe (StLogRecord.dat (Pj 5 t p)) = Pf 5 t p ++ ([]) := by simp [Pe, Pq, StLogRecord.dat, StPageRecord.dat, Pj, nlB, nlF]
  rw [cU];exact Wt t p _ (by omega) (by omega)
 ·exact XL t p 0 0 false none 0 0 false none 0 0 0 0 none 0 0 none 0 0 none 0 0 wx
theorem jeG  (w : World) (hn : XC (Pj 6 0 0)) (hr : StLogRecord.rd w (Pj 6 0 0)) : TyP (Pj 6 0 0) w := by
 have hF : O9 (StLogRecord.dat (Pj 6 0 0)) = 0 := by
  simp [O9, Pw, StLogRecord.dat, StPageRecord.dat, Pj, nlB, nlF, UG]
 refine ⟨111, (.agg #[Q1 0, Q1 0]), (.agg #[Q1 0, Q1 0]), 169, rfl, fun n wx => jfl n wx, fun args wx => by simp [callFunc, go_sem, Tryz.func169, Tryz.f169], fun wx hk => ?_, fun hz wx hk => ?_, fun wx hk => ?_⟩
 ·rw [hF]
  exact WV wx
 ·skip
  have cU : Pe (StLogRecord.dat (Pj 6 0 0)) = Pf 6 0 0 ++ ([]) := by simp [Pe, Pq, StLogRecord.dat, StPageRecord.dat, Pj, nlB, nlF]
  rw [cU];exact Wu 0 0 _ (by omega) (by omega)
 ·exact XM 0 0 0 0 false none 0 0 false none 0 0 0 0 none 0 0 none 0 0 none 0 0 wx
theorem jeH (u : Int) (te : TypeId) (ta : Option Addr) (tn tc : Nat) (tb : List Int) (de : TypeId) (da : Option Addr) (dn dc : Nat) (db : List Int) (w : World) (hn : XC { Pj 7 0 0 with nT := u, txns := ⟨te, ta, tn, tc, tb⟩, dirty := ⟨de, da, dn, dc, db⟩ }) (hr : StLogRecord.rd w { Pj 7 0 0 with nT := u, txns := ⟨te, ta, tn, tc, tb⟩, dirty := ⟨de, da, dn, dc, db⟩ }) : TyP { Pj 7 0 0 with nT := u, txns := ⟨te, ta, tn, tc, tb⟩, dirty := ⟨de, da, dn, dc, db⟩ } w := by
 have e1 : tb.length / 4 = tn := by have : tb.length = tn * 4 := hr.2.2.1.2.1; omega
 have e2 : db.length / 2 = dn := by have : db.length = dn * 2 := hr.2.2.2.1.2.1; omega
 have hF : O9 (StLogRecord.dat { Pj 7 0 0 with nT := u, txns := ⟨te, ta, tn, tc, tb⟩, dirty := ⟨de, da, dn, dc, db⟩ }) = jbD u tb tn db dn := by
  simp [O9, Pw, StLogRecord.dat, StPageRecord.dat, Pj, nlB, nlF, UH, e1, e2]
 refine ⟨113, (.agg #[Q1 0, Q1 0, Q1 u, .slice ta tn tc, .slice da dn dc]), (.agg #[Q1 0, Q1 0, Q1 u, .slice ta tn tc, .slice da dn dc]), 171, rfl, fun n wx => jfm n u ta tn tc da dn dc wx, fun args wx => by simp [callFunc, go_sem, Tryz.func171, Tryz.f171], fun wx hk => ?_, fun hz wx hk => ?_, fun wx hk => ?_⟩
 ·rw [hF]
  have h := VR u ⟨te, ta, tn, tc, tb⟩ ⟨de, da, dn, dc, db⟩ wx (RdF.same hr.2.2.1 hk) (RdF.same hr.2.2.2.1 hk);exact h
 ·have hg : Pw 7 0 0 0 0 false [] false [] 0 u tb db [] = 0 := hz
  obtain ⟨jG, jI, iX, gg, oa⟩ := VH hg;rw [e1] at gg;rw [e2] at oa;obtain ⟨kz, lw⟩ := Vq gg;obtain ⟨gm, ll⟩ := Vr oa
  have cU : Pe (StLogRecord.dat { Pj 7 0 0 with nT := u, txns := ⟨te, ta, tn, tc, tb⟩, dirty := ⟨de, da, dn, dc, db⟩ }) = Pf 7 0 0 ++ ((((OW u 4 ++ OW (tn : Nat) 1) ++ PI tb tn) ++ OW (dn : Nat) 1) ++ QK db dn) := by simp [Pe, Pq, StLogRecord.dat, StPageRecord.dat, Pj, nlB, nlF, e1, e2]
  rw [cU];exact Wv 0 0 u te ta tn tc tb de da dn dc db _ (by omega) (by omega) iX kz gm lw ll (RdF.same hr.2.2.1 hk) (RdF.same hr.2.2.2.1 hk)
 ·exact XO 0 0 0 0 false none 0 0 false none 0 0 0 u ta tn tc da dn dc none 0 0 wx
theorem jeI (g : Int) (ie : TypeId) (ia : Option Addr) (ic : Nat) (ib : List Int) (w : World) (hn : XC { Pj 8 0 0 with page := g, image := ⟨ie, ia, ic, ib⟩ }) (hr : StLogRecord.rd w { Pj 8 0 0 with page := g, image := ⟨ie, ia, ic, ib⟩ }) : TyP { Pj 8 0 0 with page := g, image := ⟨ie, ia, ic, ib⟩ } w := by
 have hF : O9 (StLogRecord.dat { Pj 8 0 0 with page := g, image := ⟨ie, ia, ic, ib⟩ }) = jbC g ib := by
  simp [O9, Pw, StLogRecord.dat, StPageRecord.dat, Pj, nlB, nlF, UI]
 refine ⟨115, (.agg #[Q1 0, Q1 0, Q1 g, .slice ia ib.length ic]), (.agg #[Q1 0, Q1 0, Q1 g, .slice ia ib.length ic]), 175, rfl, fun n wx => jfn n g ia ic ib wx, fun args wx => by simp [callFunc, go_sem, Tryz.func175, Tryz.f175], fun wx hk => ?_, fun hz wx hk => ?_, fun wx hk => ?_⟩
 ·rw [hF]
  exact WU g ia ic ib wx hn.2 hn.1 (Rd.same hr.2.2.2.2 hk)
 ·have hg : Pw 8 0 0 g 0 false [] false [] 0 0 [] [] ib = 0 := hz
  obtain ⟨jG, jI, js, iK⟩ := VI hg
  have cU : Pe (StLogRecord.dat { Pj 8 0 0 with page := g, image := ⟨ie, ia, ic, ib⟩ }) = Pf 8 0 0 ++ (OW g 2 ++ ib) := by simp [Pe, Pq, StLogRecord.dat, StPageRecord.dat, Pj, nlB, nlF]
  rw [cU];exact Ww 0 0 g ia ic ib _ (by omega) (by omega) (by unfold IsI; omega) (by omega) (Rd.same hr.2.2.2.2 hk)
 ·exact XP 0 0 g 0 false none 0 0 false none 0 0 0 0 none 0 0 none 0 0 ia ib.length ic wx
theorem ZN {y : StLogRecord} (ht : Typed y) (hk : 1 ≤ y.kind ∧ y.kind ≤ 8) (w : World) (hn : XC y) (hr : StLogRecord.rd w y) : TyP y w := by
 rcases ht with ⟨t, p, g, s, q1, q2, rfl⟩ | ⟨t, p, g, s, u, q, rfl⟩ | ⟨t, p, rfl⟩ | ⟨t, p, rfl⟩ | ⟨t, p, rfl⟩ | rfl | ⟨u, tx, dy, rfl⟩ | ⟨g, im, rfl⟩ | ⟨k, t, p, h, rfl⟩
 ·obtain ⟨bu, ⟨be, ba, bc, bb⟩⟩ := q1; obtain ⟨au, ⟨ae, aa, ac, ab⟩⟩ := q2; exact jeB t p g s bu be ba bc bb au ae aa ac ab w hn hr
 ·obtain ⟨au, ⟨ae, aa, ac, ab⟩⟩ := q; exact jeC t p g s u au ae aa ac ab w hn hr
 ·exact jeD t p w hn hr
 ·exact jeE t p w hn hr
 ·exact jeF t p w hn hr
 ·exact jeG w hn hr
 ·obtain ⟨te, ta, tn, tc, tb⟩ := tx; obtain ⟨de, da, dn, dc, db⟩ := dy; exact jeH u te ta tn tc tb de da dn dc db w hn hr
 ·obtain ⟨ie, ia, ic, ib⟩ := im; exact jeI g ie ia ic ib w hn hr
 ·exact absurd hk h
end Go.Proofs.YtapdfgkbhaoelaaGreatDoor
