import Derived.Test.YtapdfgkbhaoelaaGreatDoorG38
import Derived.Test.YtapdfgkbhaoelaaGreatDoorG39
namespace Go.Proofs.YtapdfgkbhaoelaaGreatDoor
set_option maxRecDepth 100000
set_option maxHeartbeats 8000000
set_option linter.unusedVariables false
set_option linter.unusedSimpArgs false
open Go.RowKit
theorem jaj (x : Int) (w : World) (h0 : 0 ≤ x) (h1 : x ≤ 9223372036854775807) : Calls Tryz.prog 52 #[Q1 x, Q1 8] w fun e w' => ∃ a c, e = .returned (.slice a 8 c) ∧ Rd .u8 w' (.slice a 8 c) (O5 x 8) ∧ Same w w' := by
 refine (QV x 8 w ⟨by omega, by omega⟩ ⟨by omega, by omega⟩).mono ?_;rintro e w' ⟨a, c, rfl, hf, ho, hk⟩
 have e8 : OW x 8 = O5 x 8 := by unfold OW; simp; omega
 rw [e8, OY] at ho ⊢;exact ⟨a, c, rfl, ho.rd, hk⟩
theorem jak (v : Value) (raw : List Int) (s : Int) (u : Bool) (ta : Option Addr) (tc : Nat) (d : List Int) (lsn : Int) (w : World) (hB : IsB raw) (hn : raw.length ≤ 1099511627776) (hv : Rd .u8 w v raw) (qz : d.length ≤ 1099511627776) (hd : Rd .u8 w (.slice ta d.length tc) d) :
    Calls Tryz.prog 101 #[v, Q1 s, .agg #[.bool u, .slice ta d.length tc], Q1 lsn] w fun e w' => SetAns 5 w w' e (Ru raw s u d lsn).1 (Ru raw s u d lsn).2 := by
  obtain ⟨n, tf⟩ : ∃ n, d.length = n := ⟨_, rfl⟩;have HN := hid tf;rw [tf] at hd qz ⊢;have k0 := (((Kept.refl (fun _ => False) w).alloc (.cells #[.bool u, .slice ta n tc] 24)).alloc (.cells #[Q1 0, Q4] 145));have jK := hv.same k0;have br := (Blk.new w #[.bool u, .slice ta n tc] 24).same ((Kept.refl (fun _ => False) _).alloc (.cells #[Q1 0, Q4] 145));have ba := Blk.new (w.alloc (.cells #[.bool u, .slice ta n tc] 24)) #[Q1 0, Q4] 145;rw [show (w.alloc (.cells #[.bool u, .slice ta n tc] 24)).heap.size = w.heap.size + 1 from by simp] at ba;have bQ := (show Hid (∀ wx, Same ((w.alloc (.cells #[.bool u, .slice ta n tc] 24)).alloc (.cells #[Q1 0, Q4] 145)) wx → Same w wx ∧ (D0 wx w.heap.size 0 (.bool u) ∧ D0 wx w.heap.size 1 (.slice ta n tc)) ∧ D0 wx (w.heap.size + 1) 0 (Q1 0) ∧ D0 wx (w.heap.size + 1) 1 (Q4) ∧ wx.frozen? ⟨w.heap.size + 1, 0, none⟩ = false ∧ wx.frozen? ⟨w.heap.size + 1, 1, none⟩ = false) from fun wx h => ⟨k0.trans h, ⟨(br.same h).cell 0, (br.same h).cell 1⟩, (ba.same h).cell 0, (ba.same h).cell 1, (ba.same h).frozen 0, (ba.same h).frozen 1⟩);have fX := (show Hid (∀ wx x y, Same w wx → Same w ((wx.setCell ⟨w.heap.size + 1, 0, none⟩ x).setCell ⟨w.heap.size + 1, 1, none⟩ y)) from fun wx x y h => (h.setCell (p := ⟨w.heap.size + 1, 0, none⟩) (.inl (Nat.le_succ _)) x).setCell (p := ⟨w.heap.size + 1, 1, none⟩) (.inl (Nat.le_succ _)) y);have pH := (show Hid (Rd .u8 _ (.slice ta n tc) d) from hd.same k0);have aP := hid k0;clear k0 br ba tf;have oX : Rk raw s u d lsn = true → Ru raw s u d lsn = (1, []) := fun h => if_pos h;have oZ := hid oX;clear oX;have kO := Uk v raw _ hB hn jK
  cases bj : PK raw with
  | false =>
    rw [bj] at kO;rw [oZ.out (by unfold Rk; rw [bj]; rfl)];clear hv hB jK hd
    go_enter Tryz.func101, Tryz.ntmps101
    go_wp2_with (go_at_call 107; refine kO.mono ?_; rintro e w1 ⟨rfl, ah⟩; obtain ⟨fi, ⟨r0, r1⟩, c0, c1, f0, f1⟩ := bQ.out w1 ah)
    refine bodyPost_ret (v := .agg #[Q1 1, Q4]) (by simp [results, Tryz.results101, go_sem, c0, c1]) rfl (SetAns.none 1 (fX.out _ _ _ fi))
  | true =>
  rw [bj] at kO
  by_cases b1 : s < 0
  · rw [oZ.out (by unfold Rk; rw [bj, HN.out]; simp; omega)]
    clear hv hB jK hd
    go_enter Tryz.func101, Tryz.ntmps101
    go_wp2_with (go_at_call 107; refine kO.mono ?_; rintro e w1 ⟨rfl, ah⟩; obtain ⟨fi, ⟨r0, r1⟩, c0, c1, f0, f1⟩ := bQ.out w1 ah)
    refine bodyPost_ret (v := .agg #[Q1 1, Q4]) (by simp [results, Tryz.results101, go_sem, c0, c1]) rfl (SetAns.none 1 (fX.out _ _ _ fi))
  by_cases b2 : 32 ≤ s
  · rw [oZ.out (by unfold Rk; rw [bj, HN.out]; simp; omega)]
    clear hv hB jK hd
    go_enter Tryz.func101, Tryz.ntmps101
    go_wp2_with (go_at_call 107; refine kO.mono ?_; rintro e w1 ⟨rfl, ah⟩; obtain ⟨fi, ⟨r0, r1⟩, c0, c1, f0, f1⟩ := bQ.out w1 ah)
    refine bodyPost_ret (v := .agg #[Q1 1, Q4]) (by simp [results, Tryz.results101, go_sem, c0, c1]) rfl (SetAns.none 1 (fX.out _ _ _ fi))
  by_cases b3 : lsn < 0
  · rw [oZ.out (by unfold Rk; rw [bj, HN.out]; simp; omega)]
    clear hv hB jK hd
    go_enter Tryz.func101, Tryz.ntmps101
    go_wp2_with (go_at_call 107; refine kO.mono ?_; rintro e w1 ⟨rfl, ah⟩; obtain ⟨fi, ⟨r0, r1⟩, c0, c1, f0, f1⟩ := bQ.out w1 ah)
    refine bodyPost_ret (v := .agg #[Q1 1, Q4]) (by simp [results, Tryz.results101, go_sem, c0, c1]) rfl (SetAns.none 1 (fX.out _ _ _ fi))
  by_cases b4 : 1099511627776 < lsn
  · rw [oZ.out (by unfold Rk; rw [bj, HN.out]; simp; omega)]
    clear hv hB jK hd
    go_enter Tryz.func101, Tryz.ntmps101
    go_wp2_with (go_at_call 107; refine kO.mono ?_; rintro e w1 ⟨rfl, ah⟩; obtain ⟨fi, ⟨r0, r1⟩, c0, c1, f0, f1⟩ := bQ.out w1 ah)
    refine bodyPost_ret (v := .agg #[Q1 1, Q4]) (by simp [results, Tryz.results101, go_sem, c0, c1]) rfl (SetAns.none 1 (fX.out _ _ _ fi))
  by_cases b5 : 1000 < (n : Int)
  · rw [oZ.out (by unfold Rk; rw [bj, HN.out]; simp; omega)]
    clear hv hB jK hd
    go_enter Tryz.func101, Tryz.ntmps101
    go_wp2_with (go_at_call 107; refine kO.mono ?_; rintro e w1 ⟨rfl, ah⟩; obtain ⟨fi, ⟨r0, r1⟩, c0, c1, f0, f1⟩ := bQ.out w1 ah)
    refine bodyPost_ret (v := .agg #[Q1 1, Q4]) (by simp [results, Tryz.results101, go_sem, c0, c1]) rfl (SetAns.none 1 (fX.out _ _ _ fi))
  have b6 : ¬ 1000 < n := by omega
  by_cases b7 : u = false ∧ 0 < (n : Int)
  · obtain ⟨rfl, b7⟩ := b7
    rw [oZ.out (by unfold Rk; rw [bj, HN.out]; simp; omega)];clear hv hB jK hd
    go_enter Tryz.func101, Tryz.ntmps101
    go_wp2_with (go_at_call 107; refine kO.mono ?_; rintro e w1 ⟨rfl, ah⟩; obtain ⟨fi, ⟨r0, r1⟩, c0, c1, f0, f1⟩ := bQ.out w1 ah)
    refine bodyPost_ret (v := .agg #[Q1 1, Q4]) (by simp [results, Tryz.results101, go_sem, c0, c1]) rfl (SetAns.none 1 (fX.out _ _ _ fi))
  have hl := Qx bj;obtain ⟨k, rfl⟩ : ∃ k : Nat, s = k := ⟨s.toNat, by omega⟩
  have eJ : k < 32 := by omega
  have F9 : (k : Int) < 32 := by omega
  have hL : QM lsn = true := by simp [QM]; omega
  obtain ⟨b, off, c, rfl, i5⟩ : ∃ b off c, v = .slice (some ⟨b, off, none⟩) 4096 c ∧ True := by
    rcases hv.2 with ⟨e, _⟩ | ⟨b, off, c, e, _⟩
    · rw [e] at hl; cases hl
    · exact ⟨b, off, c, by rw [e, hl], trivial⟩
  have AA : 4096 ≤ c := by
    rcases hv.2 with ⟨e, _⟩ | ⟨_, _, _, he, ji, _⟩
    · rw [e] at hl; cases hl
    · injection he; omega
  have kS := fun wx (h : Same w wx) => SK b off c raw wx hB hl (hv.same h);have kU := fun wx (h : Same w wx) => YE (.slice (some ⟨b, off, none⟩) 4096 c) raw wx hB hn (hv.same h);rw [show Q8 raw = PS (slotsOf raw) 32 from if_pos bj] at kU;have cw := TH hB bj;have nZ := Qv raw hB hl
  have oX : Rk raw k u d lsn = false := by unfold Rk; rw [bj, HN.out]; cases u <;> simp at b7 ⊢ <;> omega
  have rO := (show Hid (Ru raw k u d lsn = if 3948 < PS (slotsOf raw) 32 - (slotsOf raw).getD (2 * k + 1) 0 + (n : Int) then (2, []) else (0, Tt raw k u d lsn)) from by
    show Ru raw k u d lsn = _
    unfold Ru;rw [oX, if_neg (by simp), Int.toNat_natCast]
    by_cases hf : R5 raw k d
    · rw [if_pos hf, if_pos (by unfold R5 at hf; rw [HN.out] at hf; exact hf)]
    · rw [if_neg hf, if_neg (by unfold R5 at hf; rw [HN.out] at hf; exact hf)])
  have hu := cw.room 32 (Nat.le_refl _);have hx := nZ.at (2 * k + 1);have BM := (show Hid (PS (sl0 (slotsOf raw) k) 32 = PS (slotsOf raw) 32 - (slotsOf raw).getD (2 * k + 1) 0) from by show PS (sl0 (slotsOf raw) k) 32 = _; rw [UM, if_pos eJ]);have Ht := (cw.zero k).room 32 (Nat.le_refl _);rw [BM.out] at Ht;obtain ⟨U, hU⟩ : ∃ U, PS (slotsOf raw) 32 = U := ⟨_, rfl⟩;obtain ⟨X, hX⟩ : ∃ X, (slotsOf raw).getD (2 * k + 1) 0 = X := ⟨_, rfl⟩;have HX := hid hX;rw [hU, hX] at BM Ht rO;rw [hU] at hu kU;rw [hX] at hx;clear hU hX
  have q1 : IntKind.i64.wrap (U - X) = U - X := by rw [IntKind.wrap_i64]; omega
  have q2 : IntKind.i64.wrap (U - X + n) = U - X + n := by rw [IntKind.wrap_i64]; omega
  cases u with
  | false =>
    have KI : ¬ 0 < (n : Int) := fun h => b7 ⟨rfl, h⟩
    go_enter Tryz.func101, Tryz.ntmps101
    go_wp2_with (go_at_call 107; refine kO.mono ?_; rintro e w1 ⟨rfl, ah⟩; obtain ⟨fi, ⟨r0, r1⟩, c0, c1, f0, f1⟩ := bQ.out w1 ah)
    refine (kS w1 fi).mono ?_;rintro e w2 ⟨g2, DO, rfl, As, cf, rZ⟩;have aj := ah.trans rZ
    have qm : w2.cell? ⟨g2, 2 * k + 1, none⟩ = some (Q1 X) := by rw [show 2 * k + 1 = k * 2 + 1 from by omega, (Ti cf (Pb raw)).at1 k eJ, HX.out]
    rw [show 2 * k + 1 = k * 2 + 1 from by omega] at qm;clear r0 r1 c0 c1 f0 f1;obtain ⟨eL, ⟨r0, r1⟩, c0, c1, f0, f1⟩ := bQ.out w2 aj
    go_wp2_with fail
    refine (kU w2 eL).mono ?_;rintro e w3 ⟨rfl, mq⟩;have aZ := aj.trans mq;clear r0 r1 c0 c1 f0 f1 qm;obtain ⟨iP, ⟨r0, r1⟩, c0, c1, f0, f1⟩ := bQ.out w3 aZ
    by_cases hfull : 3948 < U - X + (n : Int)
    · exfalso; omega
    · have HF : Hid (U - X + (n : Int) ≤ 3948) := by show U - X + (n : Int) ≤ 3948; omega
      have HV := hid hv;have bo := hid aZ;have kY := hid iP;clear mq
      go_wp2_with fail
      refine (TG _ raw _ hn (HV.out.same kY.out)).mono ?_;rintro e w4 ⟨a4, n4, c4, rfl, gY, m4, nC⟩
      obtain ⟨g, e1, e2⟩ : ∃ g, a4 = some ⟨g, 0, none⟩ ∧ n4 = 4096 := by
        rcases gY.form with ⟨_, h⟩ | ⟨g, cap, h, _⟩
        · rw [h] at hl; simp at hl
        · cases h; exact ⟨g, rfl, hl⟩
      subst e1;subst e2;have dV := hid gY;have ot : w3.heap.size ≤ g := m4 g rfl;have bp := hid (bo.out.trans nC);have HL := hid hl;have oS := bo.out.size;have Cz : 4096 ≤ c4 := dV.out.caps.2
      have n1 : ¬ c4 = 4 := by omega
      have g1 : (4 : Int) ≤ (c4 : Int) := by omega
      have jy := RO hL;have kP := fun wx => jaj lsn wx jy.1 jy.2;clear gY m4 nC hl hfull aZ iP aj ah fi eL hv kU kS kO r0 r1 c0 c1 f0 f1
      go_wp2_with fail
      have hS : (fun _ : World => True) w4.drew := by trivial
      refine O0 (fun _ : World => True) 99 5 ?_;refine tk 0 69 hS ?_;refine tkV 1 70 (.slice (some ⟨g, 4, none⟩) (4096 - 4) (c4 - 4)) hS ?_;refine tk 2 71 hS ?_;refine o1Q 3 (fun K hK => ?_);go_simp;refine (kP _).mono ?_;rintro e w5 ⟨a5, c5, rfl, vP, bF⟩;have cd : Hid (Same w4 w5) := kZ0.drew.trans bF;have dZ := hid (dV.out.same cd.out);have nW := Ql (P := Tryz.prog) 3 Tryz.underlying22 Rj dZ.out HL.out.symm 4 (by rw [OY]; omega) vP;rw [show behind g c4 4 = some ⟨g, 4, none⟩ from if_neg n1, OY] at nW;have gW := hid (dZ.out.laid HL.out.symm 4 (O5 lsn 8) (by rw [OY]; omega));refine hK.out _ _ (fun _ => trivial) ?_;clear hK K bF vP
      try simp only [Sp]
      refine o1Q 4 (fun K hK => ?_);go_simp;refine hK.out _ _ (fun _ => trivial) ?_;clear hK K
      try simp only [Sp]
      refine OZ ?_;rw [jbc bj] at gW
      have Mn : w.heap.size + 2 ≤ g := by have : w.heap.size + 2 ≤ w3.heap.size := (by simpa using oS); omega
      have bR : Hid (Same ((w.alloc (.cells #[.bool false, .slice ta n tc] 24)).alloc (.cells #[Q1 0, Q4] 145)) (w5.setCells g 4 (vals .u8 (O5 lsn 8)))) := Kept.setCells (.inl (by simp; omega)) _ _ (bp.out.trans cd.out);clear nW dV dZ n1 g1 cd bp bo kY kP;generalize w5.setCells g 4 (vals .u8 (O5 lsn 8)) = w6 at gW bR ⊢;have H4 := (show Hid ((raw.take 4).length = 4) from by show (raw.take 4).length = 4; rw [List.length_take, HL.out]; rfl);have mA := Pb raw;have gw : (Py (raw.take 4) lsn (O4 raw 12 4) (O4 raw 16 2) (slotsOf raw) raw).length = 4096 := Qu H4.out mA HL.out;have kZ := RY g c4 _ k 0 0 w6 gw eJ (by omega) (by omega) gW.out;rw [Xf H4.out mA k eJ] at kZ;clear mA gw gW
      go_wp2_with fail
      refine kZ.mono ?_;rintro e w7 ⟨rfl, lW, cL⟩;have gh : Hid (Own 0 5 .u8 w7 (Q3 g 4096 c4) (Py (raw.take 4) lsn (O4 raw 12 4) (O4 raw 16 2) (sl0 (slotsOf raw) k) raw)) := lW;have dD := hid (bR.out.next cL (fun i hi e => by simp at hi; omega));obtain ⟨mj, ⟨r0, r1⟩, c0, c1, f0, f1⟩ := bQ.out w7 dD.out;have oH := hid mj;clear lW cL kZ bR mj
      have xP : ¬ g = w.heap.size + 1 := by omega
      have gq : Hid ((Py (raw.take 4) lsn (O4 raw 12 4) (O4 raw 16 2) (sl0 (slotsOf raw) k) raw).length = 4096) := Qu H4.out (by rw [TK, Pb]) HL.out;have oW : Hid (Tt raw k false d lsn = Py (raw.take 4) lsn (O4 raw 12 4) (O4 raw 16 2) (sl0 (slotsOf raw) k) raw) := rfl;obtain ⟨out, jC⟩ : ∃ x, Py (raw.take 4) lsn (O4 raw 12 4) (O4 raw 16 2) (sl0 (slotsOf raw) k) raw = x := ⟨_, rfl⟩;rw [jC] at gq oW gh;clear jC;go_wp2;have tr : Kept (fun b => b = w.heap.size + 1) w7 ((w7.setCell ⟨w.heap.size + 1, 0, none⟩ (Q1 0)).setCell ⟨w.heap.size + 1, 1, none⟩ (Q3 g 4096 c4)) := ((Kept.refl (fun b => b = w.heap.size + 1) w7).setCell (p := ⟨w.heap.size + 1, 0, none⟩) (.inr rfl) _).setCell (p := ⟨w.heap.size + 1, 1, none⟩) (.inr rfl) _;refine bodyPost_ret (v := .agg #[Q1 0, Q3 g 4096 c4]) (by simp [results, Tryz.results101, go_sem, c0, c1]) rfl ?_;rw [rO.out, if_neg (by have := HF.out; omega)];refine ⟨some ⟨g, 0, none⟩, c4, by simp only [oW.out, gq.out], fun b hb => ?_, ?_, fX.out _ _ _ oH.out⟩
      · have h : g = b := (by simpa [Value.ownBlock] using hb)
        omega
      · simp only [oW.out, gq.out]
        exact gh.out.kept tr (fun b hb e => by have h : g = b := (by simpa [Value.ownBlock] using hb); omega)
  | true =>
    go_enter Tryz.func101, Tryz.ntmps101
    go_wp2_with (go_at_call 107; refine kO.mono ?_; rintro e w1 ⟨rfl, ah⟩; obtain ⟨fi, ⟨r0, r1⟩, c0, c1, f0, f1⟩ := bQ.out w1 ah)
    refine (kS w1 fi).mono ?_;rintro e w2 ⟨g2, DO, rfl, As, cf, rZ⟩;have aj := ah.trans rZ
    have qm : w2.cell? ⟨g2, 2 * k + 1, none⟩ = some (Q1 X) := by rw [show 2 * k + 1 = k * 2 + 1 from by omega, (Ti cf (Pb raw)).at1 k eJ, HX.out]
    rw [show 2 * k + 1 = k * 2 + 1 from by omega] at qm;clear r0 r1 c0 c1 f0 f1;obtain ⟨eL, ⟨r0, r1⟩, c0, c1, f0, f1⟩ := bQ.out w2 aj
    go_wp2_with fail
    refine (kU w2 eL).mono ?_;rintro e w3 ⟨rfl, mq⟩;have aZ := aj.trans mq;clear r0 r1 c0 c1 f0 f1 qm;obtain ⟨iP, ⟨r0, r1⟩, c0, c1, f0, f1⟩ := bQ.out w3 aZ
    by_cases hfull : 3948 < U - X + (n : Int)
    · go_wp2
      refine bodyPost_ret (v := .agg #[Q1 2, Q4]) (by simp [results, Tryz.results101, go_sem, c0, c1]) rfl (by rw [rO.out, if_pos hfull]; exact SetAns.none 2 (fX.out _ _ _ iP))
    · have HF : Hid (U - X + (n : Int) ≤ 3948) := by show U - X + (n : Int) ≤ 3948; omega
      have HV := hid hv;have bo := hid aZ;have kY := hid iP;clear mq
      go_wp2_with fail
      refine (TG _ raw _ hn (HV.out.same kY.out)).mono ?_;rintro e w4 ⟨a4, n4, c4, rfl, gY, m4, nC⟩
      obtain ⟨g, e1, e2⟩ : ∃ g, a4 = some ⟨g, 0, none⟩ ∧ n4 = 4096 := by
        rcases gY.form with ⟨_, h⟩ | ⟨g, cap, h, _⟩
        · rw [h] at hl; simp at hl
        · cases h; exact ⟨g, rfl, hl⟩
      subst e1;subst e2;have dV := hid gY;have ot : w3.heap.size ≤ g := m4 g rfl;have bp := hid (bo.out.trans nC);have HL := hid hl;have oS := bo.out.size;have Cz : 4096 ≤ c4 := dV.out.caps.2
      have n1 : ¬ c4 = 4 := by omega
      have g1 : (4 : Int) ≤ (c4 : Int) := by omega
      have jy := RO hL;have kP := fun wx => jaj lsn wx jy.1 jy.2;clear gY m4 nC hl hfull aZ iP aj ah fi eL hv kU kS kO r0 r1 c0 c1 f0 f1
      go_wp2_with fail
      have hS : (fun _ : World => True) w4.drew := by trivial
      refine O0 (fun _ : World => True) 99 5 ?_;refine tk 0 69 hS ?_;refine tkV 1 70 (.slice (some ⟨g, 4, none⟩) (4096 - 4) (c4 - 4)) hS ?_;refine tk 2 71 hS ?_;refine o1Q 3 (fun K hK => ?_);go_simp;refine (kP _).mono ?_;rintro e w5 ⟨a5, c5, rfl, vP, bF⟩;have cd : Hid (Same w4 w5) := kZ0.drew.trans bF;have dZ := hid (dV.out.same cd.out);have nW := Ql (P := Tryz.prog) 3 Tryz.underlying22 Rj dZ.out HL.out.symm 4 (by rw [OY]; omega) vP;rw [show behind g c4 4 = some ⟨g, 4, none⟩ from if_neg n1, OY] at nW;have gW := hid (dZ.out.laid HL.out.symm 4 (O5 lsn 8) (by rw [OY]; omega));refine hK.out _ _ (fun _ => trivial) ?_;clear hK K bF vP
      try simp only [Sp]
      refine o1Q 4 (fun K hK => ?_);go_simp;refine hK.out _ _ (fun _ => trivial) ?_;clear hK K
      try simp only [Sp]
      refine OZ ?_;rw [jbc bj] at gW
      have Mn : w.heap.size + 2 ≤ g := by have : w.heap.size + 2 ≤ w3.heap.size := (by simpa using oS); omega
      have bR : Hid (Same ((w.alloc (.cells #[.bool true, .slice ta n tc] 24)).alloc (.cells #[Q1 0, Q4] 145)) (w5.setCells g 4 (vals .u8 (O5 lsn 8)))) := Kept.setCells (.inl (by simp; omega)) _ _ (bp.out.trans cd.out);clear nW dV dZ n1 g1 cd bp bo kY kP;generalize w5.setCells g 4 (vals .u8 (O5 lsn 8)) = w6 at gW bR ⊢;have H4 := (show Hid ((raw.take 4).length = 4) from by show (raw.take 4).length = 4; rw [List.length_take, HL.out]; rfl);have mA := Pb raw;have gw : (Py (raw.take 4) lsn (O4 raw 12 4) (O4 raw 16 2) (slotsOf raw) raw).length = 4096 := Qu H4.out mA HL.out;have kZ := RY g c4 _ k 0 0 w6 gw eJ (by omega) (by omega) gW.out;rw [Xf H4.out mA k eJ] at kZ;clear mA gw gW
      go_wp2_with fail
      refine kZ.mono ?_;rintro e w7 ⟨rfl, lW, cL⟩;have gh : Hid (Own 0 5 .u8 w7 (Q3 g 4096 c4) (Py (raw.take 4) lsn (O4 raw 12 4) (O4 raw 16 2) (sl0 (slotsOf raw) k) raw)) := lW;have dD := hid (bR.out.next cL (fun i hi e => by simp at hi; omega));obtain ⟨mj, ⟨r0, r1⟩, c0, c1, f0, f1⟩ := bQ.out w7 dD.out;have oH := hid mj;clear lW cL kZ bR mj;have Fw := Rx bj
      have iM : (sl0 (slotsOf raw) k).length = 64 := by rw [TK, Pb]
      obtain ⟨lS, I4⟩ := jc6 hB bj k lsn hL;have dH := V8 (lsn := lsn) (num := O4 raw 12 4) (bot := O4 raw 16 2) H4.out iM (Qz hB 4) hB;have kB := RF g 0 c4 _ w7 dH lS.len gh.out.rd;rw [lS.dec.2.2] at kB;have b8 := cw.zero k;have oC := hid (jc5 lS b8 I4);have zW := b8.bot 32 (Nat.le_refl _);have AP := (show Hid (QC (sl0 (slotsOf raw) k) 32 = 4096 - (U - X)) from by show 4096 - PS (sl0 (slotsOf raw) k) 32 = _; rw [BM.out]);have lH : Hid ((Py (raw.take 4) lsn (O4 raw 12 4) (QC (sl0 (slotsOf raw) k) 32) (cSl (sl0 (slotsOf raw) k) 32) (Qf raw (sl0 (slotsOf raw) k) 32)).length = 4096) := Qu H4.out (by rw [Qa, iM]) (b8.body raw HL.out 32 (Nat.le_refl _));have gq := hid lS.len;have Hl : Hid (IsB (Py (raw.take 4) lsn (O4 raw 12 4) (QC (sl0 (slotsOf raw) k) 32) (cSl (sl0 (slotsOf raw) k) 32) (Qf raw (sl0 (slotsOf raw) k) 32))) := V8 H4.out (by rw [Qa, iM]) (Qz hB 4) (Tv hB _ _);have Fv : Hid (EncOK (raw.take 4) lsn (O4 raw 12 4) (QC (sl0 (slotsOf raw) k) 32) (cSl (sl0 (slotsOf raw) k) 32) (Qf raw (sl0 (slotsOf raw) k) 32)) := ⟨H4.out, by rw [Qa, iM], b8.body raw HL.out 32 (Nat.le_refl _), lS.lsn, lS.num, by omega, (b8.comp iM).1.all (by rw [Qa, iM])⟩
      have qX := (show Hid (∀ bn : Nat, QC (sl0 (slotsOf raw) k) 32 - (n : Int) = bn → 148 ≤ bn → bn + n ≤ 4096 → O4 raw 16 2 - 148 < (n : Int) → PX (PX (PX (PX (Py (raw.take 4) lsn (O4 raw 12 4) (QC (sl0 (slotsOf raw) k) 32) (cSl (sl0 (slotsOf raw) k) 32) (Qf raw (sl0 (slotsOf raw) k) 32)) bn d) 16 (O5 (bn : Int) 2)) (20 + 4 * k) (O5 (bn : Int) 2)) (20 + 4 * k + 2) (O5 (n : Int) 2) = Tt raw k true d lsn) from fun bn h1 h2 h3 h4 => by
        rw [← HN.out] at h1 h3 h4 ⊢;rw [jbd H4.out (by rw [Qa, iM]) (b8.body raw HL.out 32 (Nat.le_refl _)) k eJ d bn h1 h2 h3];unfold Tt
        rw [if_neg (by simp), if_pos h4])
      have lq := (show Hid (∀ bn : Nat, O4 raw 16 2 - (n : Int) = bn → 148 ≤ bn → bn + n ≤ 4096 → ¬ O4 raw 16 2 - 148 < (n : Int) → PX (PX (PX (PX (Py (raw.take 4) lsn (O4 raw 12 4) (O4 raw 16 2) (sl0 (slotsOf raw) k) raw) bn d) 16 (O5 (bn : Int) 2)) (20 + 4 * k) (O5 (bn : Int) 2)) (20 + 4 * k + 2) (O5 (n : Int) 2) = Tt raw k true d lsn) from fun bn h1 h2 h3 h4 => by
        rw [← HN.out] at h1 h3 h4 ⊢;rw [jbd H4.out iM HL.out k eJ d bn h1 h2 h3];unfold Tt
        rw [if_neg (by simp), if_neg h4])
      obtain ⟨Y, hY⟩ : ∃ x, Py (raw.take 4) lsn (O4 raw 12 4) (O4 raw 16 2) (sl0 (slotsOf raw) k) raw = x := ⟨_, rfl⟩;obtain ⟨Z, hZ⟩ : ∃ x, Py (raw.take 4) lsn (O4 raw 12 4) (QC (sl0 (slotsOf raw) k) 32) (cSl (sl0 (slotsOf raw) k) 32) (Qf raw (sl0 (slotsOf raw) k) 32) = x := ⟨_, rfl⟩;have Aw := (show Hid (O4 Z 16 2 = QC (sl0 (slotsOf raw) k) 32) from by rw [← hZ]; exact Fv.out.dec.2.2);have Gt := (show Hid (O4 Y 16 2 = O4 raw 16 2) from by rw [← hY]; exact lS.dec.2.2);rw [hY] at gh oC gq lq dH;rw [hZ] at oC lH Hl qX;obtain ⟨bt, Dk⟩ : ∃ x, O4 raw 16 2 = x := ⟨_, rfl⟩;obtain ⟨cb, jm⟩ : ∃ x, QC (sl0 (slotsOf raw) k) 32 = x := ⟨_, rfl⟩;rw [Dk] at kB Fw qX lq Gt;rw [jm] at zW AP qX Aw;have jn := hid dH;clear hY hZ Dk jm lS I4 b8 iM Fv dH cw nZ;obtain ⟨js, iK, _⟩ := Fw
      have q3 : IntKind.i64.wrap (bt - 148) = bt - 148 := by rw [IntKind.wrap_i64]; omega
      go_wp2_with fail
      refine kB.mono ?_;rintro e w8 ⟨rfl, fo⟩;have dG := hid (dD.out.trans fo);have lm := hid (gh.out.same fo);clear r0 r1 c0 c1 f0 f1;obtain ⟨EA, ⟨r0, r1⟩, c0, c1, f0, f1⟩ := bQ.out w8 dG.out;clear fo kB EA gh dD oH
      by_cases hc : bt - 148 < (n : Int)
      · have kC := U8 (Q3 g 4096 c4) Y w8 jn.out (by rw [gq.out]; decide) lm.out.rd
        rw [oC.out, lH.out] at kC;obtain ⟨bn, iJ⟩ : ∃ bn : Nat, cb - (n : Int) = bn := ⟨(cb - n).toNat, by have := HF.out; have := AP.out; omega⟩
        have mo : 148 ≤ bn ∧ bn + n ≤ 4096 := by have := HF.out; have := AP.out; omega
        have l6 := hid (qX.out bn iJ mo.1 mo.2 (by omega))
        have q4 : IntKind.i64.wrap (cb - (n : Int)) = (bn : Int) := by rw [IntKind.wrap_i64]; omega
        have Lw : w.heap.size + 2 ≤ w8.heap.size := by have := dG.out.size; simpa using this
        clear qX lq iJ
        go_wp2_with fail
        refine kC.mono ?_;rintro e w9 ⟨a9, c9, rfl, Hr, pV, cA⟩
        obtain ⟨G, e9⟩ : ∃ G, a9 = some ⟨G, 0, none⟩ := by
          rcases pV.form with ⟨h, _⟩ | ⟨G, cap, h, _⟩
          · cases h
          · injection h with h1; exact ⟨G, h1⟩
        subst e9;have hG := Hr G rfl;have jw := hid pV;have gy := hid (dG.out.trans cA);clear r0 r1 c0 c1 f0 f1;obtain ⟨cW, ⟨r0, r1⟩, c0, c1, f0, f1⟩ := bQ.out w9 gy.out;have rQ := RF G 0 c9 Z w9 Hl.out lH.out jw.out.rd;rw [Aw.out] at rQ;clear pV cA Hr kC cW lm dG
        go_wp2_with fail
        refine rQ.mono ?_;rintro e x1 ⟨rfl, lR⟩;have fV := hid (gy.out.trans lR);have jP := hid (jw.out.same lR);clear r0 r1 c0 c1 f0 f1;obtain ⟨sN, ⟨r0, r1⟩, c0, c1, f0, f1⟩ := bQ.out x1 fV.out;clear lR rQ sN jw gy;have Ma : 4096 ≤ c9 := jP.out.caps.2
        have g3 : (bn : Int) ≤ (c9 : Int) := by omega
        have g4 : (bn : Int) ≤ 4096 := by omega
        obtain ⟨ab, qH⟩ : ∃ ab : Option Addr, (if c9 = bn then some (⟨G, 0, none⟩ : Addr) else some ⟨G, bn, none⟩) = ab := ⟨_, rfl⟩;have vz : Hid (behind G c9 bn = ab) := qH
        go_wp2_with fail
        have hS : (fun wx : World => D0 wx w.heap.size 1 (.slice ta n tc)) x1.drew := r1;refine O0 (fun wx : World => D0 wx w.heap.size 1 (.slice ta n tc)) 99 6 ?_;refine tk 0 90 hS ?_;refine tk 1 91 hS ?_;refine tkV 2 92 (.slice ab (4096 - bn) (c9 - bn)) hS ?_;refine tk 3 93 hS ?_;refine tk 4 94 hS ?_;have dZ := hid (jP.out.same kZ0.drew);have iL := Ql (P := Tryz.prog) 3 Tryz.underlying22 Rj dZ.out lH.out.symm bn (by rw [HN.out]; omega) ((pH.out.same fV.out).same kZ0.drew);rw [vz.out, HN.out] at iL;have gW := hid (dZ.out.laid lH.out.symm bn d (by rw [HN.out]; omega));refine o1Q 5 (fun K hK => ?_);go_simp;have bR : Hid (Same ((w.alloc (.cells #[.bool true, .slice ta n tc] 24)).alloc (.cells #[Q1 0, Q4] 145)) (x1.drew.setCells G bn (vals .u8 d))) := Kept.setCells (.inl (by simp; omega)) _ _ (fV.out.drew);have m1 := (bQ.out _ bR.out).2.1.2;refine hK.out _ _ (fun _ => m1) ?_;clear hK K iL m1
        try simp only [Sp]
        refine OZ ?_;clear hS r0 r1 c0 c1 f0 f1 dZ jP fV;generalize x1.drew.setCells G bn (vals .u8 d) = x6 at gW bR ⊢;obtain ⟨rS, ⟨r0, r1⟩, c0, c1, f0, f1⟩ := bQ.out x6 bR.out;have mz := (show Hid ((PX Z bn d).length = 4096) from by show (PX Z bn d).length = 4096; rw [Pk _ _ _ (by rw [HN.out, lH.out]; omega), lH.out]);have E7 := hid (OY (bn : Int) 2);have lh := (show Hid ((PX (PX Z bn d) 16 (O5 (bn : Int) 2)).length = 4096) from by show (PX (PX Z bn d) 16 (O5 (bn : Int) 2)).length = 4096; rw [Pk _ _ _ (by rw [OY, mz.out]; omega), mz.out]);obtain ⟨Y6, xx⟩ : ∃ Zq, PX Z bn d = Zq := ⟨_, rfl⟩;rw [xx] at gW mz lh l6
        have kP := fun wx => Ui (bn : Int) wx (by omega) (by omega)
        have n16 : ¬ c9 = 16 := by omega
        have Di : (16 : Int) ≤ (c9 : Int) := by omega
        clear xx rS
        go_wp2_with fail
        have hS : (fun _ : World => True) x6.drew := by trivial
        refine O0 (fun _ : World => True) 99 5 ?_;refine tk 0 96 hS ?_;refine tkV 1 97 (.slice (some ⟨G, 16, none⟩) (4096 - 16) (c9 - 16)) hS ?_;refine tk 2 98 hS ?_;refine o1Q 3 (fun K hK => ?_);go_simp;refine (kP _).mono ?_;rintro e x7 ⟨a7, c7, rfl, pX, cL⟩;have dD : Hid (Same x6 x7) := kZ0.drew.trans cL;have gh := hid (gW.out.same dD.out);have mM := Ql (P := Tryz.prog) 3 Tryz.underlying22 Rj gh.out mz.out.symm 16 (by rw [OY]; omega) pX;rw [show behind G c9 16 = some ⟨G, 16, none⟩ from if_neg n16, OY] at mM;have rW := hid (gh.out.laid mz.out.symm 16 (O5 (bn : Int) 2) (by rw [OY]; omega));refine hK.out _ _ (fun _ => trivial) ?_;clear hK K cL pX
        try simp only [Sp]
        refine o1Q 4 (fun K hK => ?_);go_simp;refine hK.out _ _ (fun _ => trivial) ?_;clear hK K
        try simp only [Sp]
        refine OZ ?_;have dG : Hid (Same ((w.alloc (.cells #[.bool true, .slice ta n tc] 24)).alloc (.cells #[Q1 0, Q4] 145)) (x7.setCells G 16 (vals .u8 (O5 (bn : Int) 2)))) := Kept.setCells (.inl (by simp; omega)) _ _ (bR.out.trans dD.out);clear mM gh gW bR dD kP n16 Di r0 r1 c0 c1 f0 f1;generalize x7.setCells G 16 (vals .u8 (O5 (bn : Int) 2)) = x8 at rW dG ⊢;have tS := RY G c9 _ k (bn : Int) (n : Int) x8 lh.out eJ (by omega) (by omega) rW.out;rw [l6.out] at tS;clear rW
        go_wp2_with fail
        refine tS.mono ?_;rintro e x9 ⟨rfl, pV, cA⟩;have jw := hid pV;have gy := hid (dG.out.next cA (fun i hi e => by simp at hi; omega));obtain ⟨cW, ⟨r0, r1⟩, c0, c1, f0, f1⟩ := bQ.out x9 gy.out;have cx := hid cW;clear pV cA tS dG cW;have i9 := (show Hid ((Tt raw k true d lsn).length = 4096) from by show (Tt raw k true d lsn).length = 4096; rw [← l6.out, Pk _ _ _ (by rw [Pk _ _ _ (by rw [OY, lh.out]; omega), OY, lh.out]; omega), Pk _ _ _ (by rw [OY, lh.out]; omega), lh.out]);clear l6
        have xP : ¬ G = w.heap.size + 1 := by omega
        obtain ⟨out, jC⟩ : ∃ x, Tt raw k true d lsn = x := ⟨_, rfl⟩;rw [jC] at i9 jw rO;clear jC;go_wp2;have tr : Kept (fun b => b = w.heap.size + 1) x9 ((x9.setCell ⟨w.heap.size + 1, 0, none⟩ (Q1 0)).setCell ⟨w.heap.size + 1, 1, none⟩ (Q3 G 4096 c9)) := ((Kept.refl (fun b => b = w.heap.size + 1) x9).setCell (p := ⟨w.heap.size + 1, 0, none⟩) (.inr rfl) _).setCell (p := ⟨w.heap.size + 1, 1, none⟩) (.inr rfl) _;refine bodyPost_ret (v := .agg #[Q1 0, Q3 G 4096 c9]) (by simp [results, Tryz.results101, go_sem, c0, c1]) rfl ?_;rw [rO.out, if_neg (by have := HF.out; omega)];refine ⟨some ⟨G, 0, none⟩, c9, by simp only [i9.out], fun b hb => ?_, ?_, fX.out _ _ _ cx.out⟩
        · have h : G = b := (by simpa [Value.ownBlock] using hb)
          omega
        · simp only [i9.out]
          exact jw.out.kept tr (fun b hb e => by have h : G = b := (by simpa [Value.ownBlock] using hb); omega)
      · obtain ⟨bn, iJ⟩ : ∃ bn : Nat, bt - (n : Int) = bn := ⟨(bt - n).toNat, by omega⟩
        have mo : 148 ≤ bn ∧ bn + n ≤ 4096 := by omega
        have l6 := hid (lq.out bn iJ mo.1 mo.2 (by omega))
        have q4 : IntKind.i64.wrap (bt - (n : Int)) = (bn : Int) := by rw [IntKind.wrap_i64]; omega
        have rQ := RF g 0 c4 Y w8 jn.out gq.out lm.out.rd;rw [Gt.out] at rQ;clear qX lq iJ
        go_wp2_with fail
        refine rQ.mono ?_;rintro e x1 ⟨rfl, lR⟩;have fV := hid (dG.out.trans lR);have jP := hid (lm.out.same lR);clear r0 r1 c0 c1 f0 f1;obtain ⟨sN, ⟨r0, r1⟩, c0, c1, f0, f1⟩ := bQ.out x1 fV.out;clear lR rQ sN lm dG;have Ma : 4096 ≤ c4 := jP.out.caps.2
        have g3 : (bn : Int) ≤ (c4 : Int) := by omega
        have g4 : (bn : Int) ≤ 4096 := by omega
        obtain ⟨ab, qH⟩ : ∃ ab : Option Addr, (if c4 = bn then some (⟨g, 0, none⟩ : Addr) else some ⟨g, bn, none⟩) = ab := ⟨_, rfl⟩;have vz : Hid (behind g c4 bn = ab) := qH
        go_wp2_with fail
        have hS : (fun wx : World => D0 wx w.heap.size 1 (.slice ta n tc)) x1.drew := r1;refine O0 (fun wx : World => D0 wx w.heap.size 1 (.slice ta n tc)) 99 6 ?_;refine tk 0 90 hS ?_;refine tk 1 91 hS ?_;refine tkV 2 92 (.slice ab (4096 - bn) (c4 - bn)) hS ?_;refine tk 3 93 hS ?_;refine tk 4 94 hS ?_;have dZ := hid (jP.out.same kZ0.drew);have iL := Ql (P := Tryz.prog) 3 Tryz.underlying22 Rj dZ.out gq.out.symm bn (by rw [HN.out]; omega) ((pH.out.same fV.out).same kZ0.drew);rw [vz.out, HN.out] at iL;have gW := hid (dZ.out.laid gq.out.symm bn d (by rw [HN.out]; omega));refine o1Q 5 (fun K hK => ?_);go_simp;have bR : Hid (Same ((w.alloc (.cells #[.bool true, .slice ta n tc] 24)).alloc (.cells #[Q1 0, Q4] 145)) (x1.drew.setCells g bn (vals .u8 d))) := Kept.setCells (.inl (by simp; omega)) _ _ (fV.out.drew);have m1 := (bQ.out _ bR.out).2.1.2;refine hK.out _ _ (fun _ => m1) ?_;clear hK K iL m1
        try simp only [Sp]
        refine OZ ?_;clear hS r0 r1 c0 c1 f0 f1 dZ jP fV;generalize x1.drew.setCells g bn (vals .u8 d) = x6 at gW bR ⊢;obtain ⟨rS, ⟨r0, r1⟩, c0, c1, f0, f1⟩ := bQ.out x6 bR.out;have mz := (show Hid ((PX Y bn d).length = 4096) from by show (PX Y bn d).length = 4096; rw [Pk _ _ _ (by rw [HN.out, gq.out]; omega), gq.out]);have E7 := hid (OY (bn : Int) 2);have lh := (show Hid ((PX (PX Y bn d) 16 (O5 (bn : Int) 2)).length = 4096) from by show (PX (PX Y bn d) 16 (O5 (bn : Int) 2)).length = 4096; rw [Pk _ _ _ (by rw [OY, mz.out]; omega), mz.out]);obtain ⟨Y6, xx⟩ : ∃ Zq, PX Y bn d = Zq := ⟨_, rfl⟩;rw [xx] at gW mz lh l6
        have kP := fun wx => Ui (bn : Int) wx (by omega) (by omega)
        have n16 : ¬ c4 = 16 := by omega
        have Di : (16 : Int) ≤ (c4 : Int) := by omega
        clear xx rS
        go_wp2_with fail
        have hS : (fun _ : World => True) x6.drew := by trivial
        refine O0 (fun _ : World => True) 99 5 ?_;refine tk 0 96 hS ?_;refine tkV 1 97 (.slice (some ⟨g, 16, none⟩) (4096 - 16) (c4 - 16)) hS ?_;refine tk 2 98 hS ?_;refine o1Q 3 (fun K hK => ?_);go_simp;refine (kP _).mono ?_;rintro e x7 ⟨a7, c7, rfl, pX, cL⟩;have dD : Hid (Same x6 x7) := kZ0.drew.trans cL;have gh := hid (gW.out.same dD.out);have mM := Ql (P := Tryz.prog) 3 Tryz.underlying22 Rj gh.out mz.out.symm 16 (by rw [OY]; omega) pX;rw [show behind g c4 16 = some ⟨g, 16, none⟩ from if_neg n16, OY] at mM;have rW := hid (gh.out.laid mz.out.symm 16 (O5 (bn : Int) 2) (by rw [OY]; omega));refine hK.out _ _ (fun _ => trivial) ?_;clear hK K cL pX
        try simp only [Sp]
        refine o1Q 4 (fun K hK => ?_);go_simp;refine hK.out _ _ (fun _ => trivial) ?_;clear hK K
        try simp only [Sp]
        refine OZ ?_;have dG : Hid (Same ((w.alloc (.cells #[.bool true, .slice ta n tc] 24)).alloc (.cells #[Q1 0, Q4] 145)) (x7.setCells g 16 (vals .u8 (O5 (bn : Int) 2)))) := Kept.setCells (.inl (by simp; omega)) _ _ (bR.out.trans dD.out);clear mM gh gW bR dD kP n16 Di r0 r1 c0 c1 f0 f1;generalize x7.setCells g 16 (vals .u8 (O5 (bn : Int) 2)) = x8 at rW dG ⊢;have tS := RY g c4 _ k (bn : Int) (n : Int) x8 lh.out eJ (by omega) (by omega) rW.out;rw [l6.out] at tS;clear rW
        go_wp2_with fail
        refine tS.mono ?_;rintro e x9 ⟨rfl, pV, cA⟩;have jw := hid pV;have gy := hid (dG.out.next cA (fun i hi e => by simp at hi; omega));obtain ⟨cW, ⟨r0, r1⟩, c0, c1, f0, f1⟩ := bQ.out x9 gy.out;have cx := hid cW;clear pV cA tS dG cW;have i9 := (show Hid ((Tt raw k true d lsn).length = 4096) from by show (Tt raw k true d lsn).length = 4096; rw [← l6.out, Pk _ _ _ (by rw [Pk _ _ _ (by rw [OY, lh.out]; omega), OY, lh.out]; omega), Pk _ _ _ (by rw [OY, lh.out]; omega), lh.out]);clear l6
        have xP : ¬ g = w.heap.size + 1 := by omega
        obtain ⟨out, jC⟩ : ∃ x, Tt raw k true d lsn = x := ⟨_, rfl⟩;rw [jC] at i9 jw rO;clear jC;go_wp2;have tr : Kept (fun b => b = w.heap.size + 1) x9 ((x9.setCell ⟨w.heap.size + 1, 0, none⟩ (Q1 0)).setCell ⟨w.heap.size + 1, 1, none⟩ (Q3 g 4096 c4)) := ((Kept.refl (fun b => b = w.heap.size + 1) x9).setCell (p := ⟨w.heap.size + 1, 0, none⟩) (.inr rfl) _).setCell (p := ⟨w.heap.size + 1, 1, none⟩) (.inr rfl) _;refine bodyPost_ret (v := .agg #[Q1 0, Q3 g 4096 c4]) (by simp [results, Tryz.results101, go_sem, c0, c1]) rfl ?_;rw [rO.out, if_neg (by have := HF.out; omega)];refine ⟨some ⟨g, 0, none⟩, c4, by simp only [i9.out], fun b hb => ?_, ?_, fX.out _ _ _ cx.out⟩
        · have h : g = b := (by simpa [Value.ownBlock] using hb)
          omega
        · simp only [i9.out]
          exact jw.out.kept tr (fun b hb e => by have h : g = b := (by simpa [Value.ownBlock] using hb); omega)
end Go.Proofs.YtapdfgkbhaoelaaGreatDoor
