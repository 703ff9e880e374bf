import Derived.Test.YtbilnlgjpchgiaaDoorG05
import Derived.Test.YtbilnlgjpchgiaaDoorG00
import Derived.Test.YtbilnlgjpchgiaaDoorG01
import Derived.Test.YtbilnlgjpchgiaaDoorG02
import Derived.Test.YtbilnlgjpchgiaaDoorG03
import Derived.Deep.DeepCutAuto
namespace Go.Proofs.YtbilnlgjpchgiaaDoor
set_option maxRecDepth 100000
set_option maxHeartbeats 8000000
set_option linter.unusedVariables false
set_option linter.unusedSimpArgs false
open Go.RowKit Go.ChangeShapes Go.WideShapes Go.ChangeAt
theorem datAn_take (ps : List EAn) (k : Nat) (h : k < ps.length) : datAn (ps.take (k + 1)) = datAn (ps.take k) ++ [ps[k].dat] := by
 unfold datAn
 rw [List.take_succ_eq_append_getElem h, List.map_append]
 rfl
theorem lines_len (ps : List EAn) (h : ∀ x ∈ ps, x.ok) (k : Nat) : ((((datAn (ps.take k)).flatMap anL).length : Nat) : Int) ≤ 120 * (ps.take k).length + 50 * sizeAn (ps.take k) := by
 have key : ∀ qs : List EAn, (∀ x ∈ qs, x.ok) → ((((datAn qs).flatMap anL).length : Nat) : Int) ≤ 120 * qs.length + 50 * sizeAn qs := fun qs => by
  induction qs with
  | nil => intro _; simp [datAn, sizeAn]
  | cons q qs ih =>
   intro h
   have h1 := ih (fun x hx => h x (List.mem_cons_of_mem _ hx))
   have h2 := anL_len q (h q (List.mem_cons_self ..))
   have e : datAn (q :: qs) = q.dat :: datAn qs := rfl
   rw [e, List.flatMap_cons, List.length_append]
   simp only [List.length_cons, sizeAn]
   push_cast
   omega
 exact key _ (fun x hx => h x (List.mem_of_mem_take hx))
structure RepOk (x : StRep) : Prop where
 fa : IsI' x.fa
 fr : IsI' x.fr
 an : ∀ y ∈ x.xs, y.ok
 rm : ∀ z ∈ x.rm.bs, IsI' z
theorem specAnswers_any (x : StRep) (w : World) (hok : RepOk x) (h : StRep.rd w x) (hz : x.szs ≤ 1048576) :
  Calls Tryd.prog 12 #[x.val] w fun e w' => e = .returned (.string (Tx (rpT x.fa (datAn x.xs) x.up x.fr x.rm.bs))) ∧ Same w w' := by
 obtain ⟨fa, av, xs, dv0, pv0, dur, ps, up, ⟨le, la, ln, lc, lb⟩, ⟨he, ha, hn, hc, hb⟩, ⟨re, ra, rn, rc, rb⟩, fr⟩ := x
 obtain ⟨ofa, ofr, oan, orm⟩ := hok
 obtain ⟨ran, rdk, rlk, rhd, rrm⟩ := h
 dsimp only at ofa ofr oan orm ran rdk rlk rhd rrm
 obtain ⟨da, dc, rfl⟩ := rdk.dur.form
 obtain ⟨pa, pc, rfl⟩ := rdk.pend.form
 obtain ⟨ka, kc, rfl⟩ := ran.form
 have hnn := sizeAn_nonneg xs
 simp only [StRep.szs] at hz
 dsimp only [StRep.val, FR.v]
 have hrl : rb.length = rn := by have := rrm.2.1; dsimp only at this; omega
 have HRL := hid hrl
 have HAN := hid ran
 have HOK := (show Hid (∀ y ∈ xs, y.ok) from oan)
 have HRM := (show Hid (∀ j, (h : j < rb.length) → ∃ b off, ra = some ⟨b, off, none⟩ ∧ w.cell? ⟨b, off + j, none⟩ = some (.int .i64 rb[j])) from fun j h => by
  rcases rrm.2.2 with h0 | ⟨b, off, e, _, hc⟩
  ·dsimp only at h0; omega
  ·refine ⟨b, off, e, ?_⟩
   have h2 := hc j (by dsimp only; omega)
   dsimp only at h2
   rw [h2, List.getD_eq_getElem?_getD, List.getElem?_eq_getElem h]
   rfl)
 have HORM := (show Hid (∀ z ∈ rb, IsI' z) from orm)
 have HC := (show Hid (∀ k, (h : k < xs.length) → ∃ b off, ka = some ⟨b, off, none⟩ ∧ ∀ i, i < 6 → w.cell? ⟨b, off + (k * 6 + i), none⟩ = (kAn.cells xs[k])[i]?) from fun k h => by
  rcases ran.row.row with ⟨e, a, c, e2⟩ | ⟨b, off, c, e2, hc⟩
  ·rw [e] at h; simp at h
  ·injection e2 with e2
   exact ⟨b, off, e2, fun i hi => hc k i h hi⟩)
 have HSZ := (show Hid ((xs.length : Int) + sizeAn xs ≤ 1048576 ∧ (rn : Int) ≤ 1048576) from ⟨by omega, by omega⟩)
 have hxl : xs.length ≤ 1048576 := by omega
 have hrn : rn ≤ 1048576 := by omega
 generalize hl : xs.length = len at hxl HAN ⊢
 have HL := hid hl
 clear hl hrl ran rdk rlk rhd rrm oan orm hz hnn
 have HK0 := hid (sameA w [.int .i64 fa, .slice ka len kc, .slice da dur.length dc, .slice pa ps.length pc, .bool up, .slice la ln lc, .slice ha hn hc, .slice ra rn rc, .int .i64 fr] 52)
 have HB0 := hid (Blk.newL w [.int .i64 fa, .slice ka len kc, .slice da dur.length dc, .slice pa ps.length pc, .bool up, .slice la ln lc, .slice ha hn hc, .slice ra rn rc, .int .i64 fr] 52)
 have c0 := HB0.out.cell 0
 dsimp only [List.getElem?_cons_zero, List.getElem?_cons_succ] at c0
 by_cases hf : fa = 0
 case neg =>
  have hf' : (fa != 0) = true := by simpa using hf
  have k0 := fun wx => numS_any fa ofa.1 ofa.2 wx
  have l0 := itoa_len fa ofa.1 ofa.2
  have HE := (show Hid ((⟨#[102, 97, 117, 108, 116, 32]⟩ : ByteArray) ++ Tx (Lib.itoa fa) ++ ⟨#[10]⟩ = Tx (rpT fa (datAn xs) up fr rb)) from by
   unfold Hid rpT
   rw [if_pos hf, show (⟨#[102, 97, 117, 108, 116, 32]⟩ : ByteArray) = Tx [102, 97, 117, 108, 116, 32] from rfl, show (⟨#[10]⟩ : ByteArray) = Tx [10] from rfl]
   simp only [tx_app])
  obtain ⟨T0, hT0⟩ : ∃ T, Lib.itoa fa = T := ⟨_, rfl⟩
  rw [hT0] at k0 l0 HE
  have z1 : ¬ 9223372036854775807 < 6 + T0.length := by omega
  have z2 : ¬ 9223372036854775807 < 6 + T0.length + 1 := by omega
  clear hf hT0
  go_enter Tryd.func12, Tryd.ntmps12
  go_wp2_with (first | (go_at_call 19; (with_reducible refine (k0 _).mono ?_); rintro e w1 ⟨rfl, hk1⟩; have HK1 := hid (HK0.out.trans hk1); clear hk1 k0))
  go_ret
  exact ⟨by rw [HE.out]; rfl, HK1.out⟩
 case pos =>
 subst hf
 have HRP := (show Hid (rpT 0 (datAn xs) up fr rb = (datAn xs).flatMap anL ++ stL up fr rb) from if_neg (by simp))
 have HOFR := hid ofr
 clear ofa ofr
 have HBE := hid (Buf.empty (w.alloc (.cells ([.int .i64 0, .slice ka len kc, .slice da dur.length dc, .slice pa ps.length pc, .bool up, .slice la ln lc, .slice ha hn hc, .slice ra rn rc, .int .i64 fr]).toArray 52)))
 rw [World.size_alloc] at HBE
 have HK1 := hid (HK0.out.alloc (.cells #[] 5))
 have HB1 := hid (HB0.out.alloc (.cells #[] 5))
 have hw1 : w.heap.size + 1 < ((w.alloc (.cells ([.int .i64 0, .slice ka len kc, .slice da dur.length dc, .slice pa ps.length pc, .bool up, .slice la ln lc, .slice ha hn hc, .slice ra rn rc, .int .i64 fr]).toArray 52)).alloc (.cells #[] 5)).heap.size := by simp only [World.size_alloc]; omega
 go_enter Tryd.func12, Tryd.ntmps12
 go_upto_region 4 with fail
 generalize (w.alloc (.cells #[.int .i64 0, .slice ka len kc, .slice da dur.length dc, .slice pa ps.length pc, .bool up, .slice la ln lc, .slice ha hn hc, .slice ra rn rc, .int .i64 fr] 52)).alloc (.cells #[] 5) = w1 at HBE HK1 HB1 hw1 ⊢
 clear HK0 HB0 c0
 go_wp2
 go_loopw [3, 4] (fun o i wx => ∃ (k g cap : Nat) (L : List UInt8), k ≤ len ∧ i = .int .i64 (k : Int) ∧ o = .slice (some ⟨g, 0, none⟩) L.length cap ∧ w.heap.size < g ∧ Hid (L = (datAn (xs.take k)).flatMap anL ∧ Buf wx g cap L ∧ Same w wx ∧ Blk wx w.heap.size 52 [.int .i64 0, .slice ka len kc, .slice da dur.length dc, .slice pa ps.length pc, .bool up, .slice la ln lc, .slice ha hn hc, .slice ra rn rc, .int .i64 fr] ∧ g < wx.heap.size)) (fun _ i _ => len - (intOf i).toNat)
 case atStart => exact ⟨0, w.heap.size + 1, 0, [], Nat.zero_le _, rfl, rfl, by omega, by simp [datAn], HBE.out, HK1.out, HB1.out, hw1⟩
 case round =>
  obtain ⟨k, g, cap, L, hk, rfl, rfl, hgn, HI⟩ := hrel
  have r1 := HI.out.2.2.2.1.cell 1
  dsimp only [List.getElem?_cons_zero, List.getElem?_cons_succ] at r1
  by_cases hlt : k < len
  ·have hlp : k < xs.length := by rw [HL.out]; exact hlt
   have hki : (k : Int) < (len : Int) := by omega
   obtain ⟨hLe, hBf, hKx, hBx, hgs⟩ := HI.out
   obtain ⟨b, off, rfl, hc⟩ := HC.out k hlp
   have hrd := (show Rd .u8 w xs[k].dv xs[k].db from HAN.out.row.data _ (List.getElem_mem hlp)).same hKx
   have hrr := HAN.out.recs _ (List.getElem_mem hlp)
   have hokP := HOK.out _ (List.getElem_mem hlp)
   have HDT := hid (datAn_take xs k hlp)
   have HLL := (show Hid (L.length ≤ 178257920 ∧ ((L ++ anL xs[k].dat).length : Int) ≤ 178257920) from by
    have h0 := HSZ.out.1
    have h7 := sizeAn_nonneg xs
    have h1 := lines_len xs HOK.out k
    have h2 := lines_len xs HOK.out (k + 1)
    have h3 : sizeAn (xs.take (k + 1)) ≤ sizeAn xs := by
     have e := sizeAn_append (xs.take (k + 1)) (xs.drop (k + 1))
     rw [List.take_append_drop] at e
     have := sizeAn_nonneg (xs.drop (k + 1))
     omega
    have h5 : sizeAn (xs.take k) ≤ sizeAn xs := by
     have e := sizeAn_append (xs.take k) (xs.drop k)
     rw [List.take_append_drop] at e
     have := sizeAn_nonneg (xs.drop k)
     omega
    have h4 : (xs.take (k + 1)).length ≤ xs.length := by rw [List.length_take]; omega
    have h6 : (xs.take k).length ≤ xs.length := by rw [List.length_take]; omega
    rw [datAn_take xs k hlp, List.flatMap_append, ← hLe] at h2
    rw [← hLe] at h1
    simp only [List.flatMap_cons, List.flatMap_nil, List.append_nil] at h2
    exact ⟨by omega, by omega⟩)
   have HDB := (show Hid ((xs[k].db.length : Int) + (xs[k].rs.length : Int) + (sizeHeapRecordS xs[k].rs : Int) ≤ sizeAn xs) from sizeAn_mem xs xs[k] (List.getElem_mem hlp))
   obtain ⟨P, hP⟩ : ∃ P, xs[k] = P := ⟨_, rfl⟩
   rw [hP] at hc hrd hrr hokP HDT HLL HDB
   obtain ⟨d1, d2, ed⟩ := hrd.form
   obtain ⟨e1, e2, er⟩ := hrr.form
   have c0 : wr.cell? ⟨b, off + k * 6, none⟩ = some (.int .i64 P.cd) := hKx.cellOf (p := ⟨b, off + k * 6, none⟩) (hc 0 (by decide)) id
   have c1 : wr.cell? ⟨b, off + k * 6 + 1, none⟩ = some (.int .i64 P.tx) := hKx.cellOf (p := ⟨b, off + k * 6 + 1, none⟩) (by have h := hc 1 (by decide); rw [← Nat.add_assoc] at h; exact h) id
   have c2 : wr.cell? ⟨b, off + k * 6 + 2, none⟩ = some (.int .i64 P.rid) := hKx.cellOf (p := ⟨b, off + k * 6 + 2, none⟩) (by have h := hc 2 (by decide); rw [← Nat.add_assoc] at h; exact h) id
   have c3 : wr.cell? ⟨b, off + k * 6 + 3, none⟩ = some (.slice d1 P.db.length d2) := hKx.cellOf (p := ⟨b, off + k * 6 + 3, none⟩) (by have h := hc 3 (by decide); rw [← Nat.add_assoc] at h; exact h.trans (congrArg some ed)) id
   have c4 : wr.cell? ⟨b, off + k * 6 + 4, none⟩ = some (.slice e1 P.rs.length e2) := hKx.cellOf (p := ⟨b, off + k * 6 + 4, none⟩) (by have h := hc 4 (by decide); rw [← Nat.add_assoc] at h; exact h.trans (congrArg some er)) id
   have c5 : wr.cell? ⟨b, off + k * 6 + 5, none⟩ = some (.int .i64 P.us) := hKx.cellOf (p := ⟨b, off + k * 6 + 5, none⟩) (by have h := hc 5 (by decide); rw [← Nat.add_assoc] at h; exact h) id
   rw [ed] at hrd
   rw [er] at hrr
   have HRD := hid hrd
   have HRR := hid hrr
   have HA2 := hid (Blk.newL wr [.int .i64 P.cd, .int .i64 P.tx, .int .i64 P.rid, .slice d1 P.db.length d2, .slice e1 P.rs.length e2, .int .i64 P.us] 85)
   have HS2 := hid (sameA wr [.int .i64 P.cd, .int .i64 P.tx, .int .i64 P.rid, .slice d1 P.db.length d2, .slice e1 P.rs.length e2, .int .i64 P.us] 85)
   have HK2 := hid (hKx.trans HS2.out)
   have HF2 := hid (hBf.same HS2.out)
   have HX2 := hid (hBx.same HS2.out)
   have hwa : w.heap.size < wr.heap.size := by have := hBx.lt; omega
   have HLE := hid hLe
   have HOP := hid hokP
   clear hc hP ed er hrd hrr hBf hKx hBx hLe hokP
   go_upto_region 8 with fail
   generalize wr.alloc (.cells #[.int .i64 P.cd, .int .i64 P.tx, .int .i64 P.rid, .slice d1 P.db.length d2, .slice e1 P.rs.length e2, .int .i64 P.us] 85) = u0 at HA2 HS2 HK2 HF2 HX2 ⊢
   generalize wr.heap.size = A at HA2 hwa hgs ⊢
   have HN0 := (show Hid (∀ wx, Calls Tryd.prog 19 #[.int .i64 P.cd] wx fun e w' => e = .returned (.string (Tx (Lib.itoa P.cd))) ∧ Same wx w') from fun wx => numS_any P.cd HOP.out.cd.1 HOP.out.cd.2 wx)
   have HN1 := (show Hid (∀ wx, Calls Tryd.prog 19 #[.int .i64 P.tx] wx fun e w' => e = .returned (.string (Tx (Lib.itoa P.tx))) ∧ Same wx w') from fun wx => numS_any P.tx HOP.out.tx.1 HOP.out.tx.2 wx)
   have HN2 := (show Hid (∀ wx, Calls Tryd.prog 19 #[.int .i64 P.rid] wx fun e w' => e = .returned (.string (Tx (Lib.itoa P.rid))) ∧ Same wx w') from fun wx => numS_any P.rid HOP.out.rid.1 HOP.out.rid.2 wx)
   have hdl : P.db.length ≤ 178257920 := by
    have h1 := HLL.out.2
    have h2 : P.db.length ≤ (hxW P.db).length := by unfold hxW u8s encH; rw [List.length_map]; split; (simp; omega); rw [hexB_length]; omega
    unfold anL anF at h1
    simp only [EAn.dat, List.length_append] at h1
    omega
   have hd20 : P.db.length ≤ 1048576 := by
    have h1 := HSZ.out.1
    have h2 := sizeAn_nonneg xs
    have h3 := HDB.out
    omega
   have HN3 := (show Hid (∀ wx, Same u0 wx → Calls Tryd.prog 36 #[.slice d1 P.db.length d2] wx fun e w' => e = .returned (.string (Tx (hxW P.db))) ∧ Same wx w') from fun wx hk => specHex_any _ P.db wx HOP.out.db hd20 ((HRD.out.same HS2.out).same hk))
   have HN4 := (show Hid (∀ wx, Calls Tryd.prog 19 #[.int .i64 P.us] wx fun e w' => e = .returned (.string (Tx (Lib.itoa P.us))) ∧ Same wx w') from fun wx => numS_any P.us HOP.out.us.1 HOP.out.us.2 wx)
   have t0 := itoa_len P.cd HOP.out.cd.1 HOP.out.cd.2
   have t1 := itoa_len P.tx HOP.out.tx.1 HOP.out.tx.2
   have t2 := itoa_len P.rid HOP.out.rid.1 HOP.out.rid.2
   have t3 := hxW_len P.db
   have t4 := itoa_len P.us HOP.out.us.1 HOP.out.us.2
   have HTX := (show Hid (anF P.dat = Lib.itoa P.cd ++ [32] ++ Lib.itoa P.tx ++ [32] ++ Lib.itoa P.rid ++ [32] ++ hxW P.db ++ [32] ++ Lib.itoa P.us) from rfl)
   obtain ⟨T0, hT0⟩ : ∃ T, Lib.itoa P.cd = T := ⟨_, rfl⟩
   obtain ⟨T1, hT1⟩ : ∃ T, Lib.itoa P.tx = T := ⟨_, rfl⟩
   obtain ⟨T2, hT2⟩ : ∃ T, Lib.itoa P.rid = T := ⟨_, rfl⟩
   obtain ⟨T3, hT3⟩ : ∃ T, hxW P.db = T := ⟨_, rfl⟩
   obtain ⟨T4, hT4⟩ : ∃ T, Lib.itoa P.us = T := ⟨_, rfl⟩
   rw [hT0, hT1, hT2, hT3, hT4] at HTX
   rw [hT0] at HN0 t0
   rw [hT1] at HN1 t1
   rw [hT2] at HN2 t2
   rw [hT3] at HN3 t3
   rw [hT4] at HN4 t4
   clear hT0 hT1 hT2 hT3 hT4 c0 c1 c2 c3 c4 c5 r1
   have HSS := (show Hid (∀ wx, Same u0 wx → wx.cell? ⟨A, 0, none⟩ = some (.int .i64 P.cd) ∧ wx.cell? ⟨A, 1, none⟩ = some (.int .i64 P.tx) ∧ wx.cell? ⟨A, 2, none⟩ = some (.int .i64 P.rid) ∧ wx.cell? ⟨A, 3, none⟩ = some (.slice d1 P.db.length d2) ∧ wx.cell? ⟨A, 5, none⟩ = some (.int .i64 P.us)) from fun wx h => ⟨(HA2.out.same h).cell 0, (HA2.out.same h).cell 1, (HA2.out.same h).cell 2, (HA2.out.same h).cell 3, (HA2.out.same h).cell 5⟩)
   have HW0 := (show Hid (Same u0 u0.drew) from (Kept.refl _ _).drew)
   have hS := HSS.out _ HW0.out
   refine wp_region_V (fun wx : World => wx.cell? ⟨A, 0, none⟩ = some (.int .i64 P.cd) ∧ wx.cell? ⟨A, 1, none⟩ = some (.int .i64 P.tx) ∧ wx.cell? ⟨A, 2, none⟩ = some (.int .i64 P.rid) ∧ wx.cell? ⟨A, 3, none⟩ = some (.slice d1 P.db.length d2) ∧ wx.cell? ⟨A, 5, none⟩ = some (.int .i64 P.us)) 99 26 rfl (by kernel_rfl) ?_
   generalize u0.drew = q0 at HW0 hS ⊢
   refine tk 0 30 hS ?_
   refine tk 1 31 hS ?_
   refine tk 2 32 hS ?_
   refine tk 5 35 hS ?_
   refine tk 6 36 hS ?_
   refine tk 10 40 hS ?_
   refine tk 11 41 hS ?_
   refine tk 15 45 hS ?_
   refine tk 16 46 hS ?_
   refine tk 20 50 hS ?_
   refine tk 21 51 hS ?_
   refine wpAnyV_one (i := 3) (by kernel_rfl) rfl (fun K hK => ?_)
   go_simp
   refine (HN0.out _).mono ?_
   rintro e q1 ⟨rfl, hk1⟩
   have HW1 := hid (HW0.out.trans hk1)
   have hS := HSS.out _ HW1.out
   refine hK.out _ _ (fun _ => hS) ?_
   clear hK K hk1
   try simp only [Act.put, sA, s0, sS]
   have z1 : ¬ 9223372036854775807 < T0.length + 1 := by omega
   refine tkV 4 34 (.string (Tx T0 ++ ⟨#[32]⟩)) hS ?_
   refine wpAnyV_one (i := 7) (by kernel_rfl) rfl (fun K hK => ?_)
   go_simp
   refine (HN1.out _).mono ?_
   rintro e q2 ⟨rfl, hk1⟩
   have HW2 := hid (HW1.out.trans hk1)
   have hS := HSS.out _ HW2.out
   refine hK.out _ _ (fun _ => hS) ?_
   clear hK K hk1
   try simp only [Act.put, sA, s0, sS]
   have z2 : ¬ 9223372036854775807 < T0.length + 1 + T1.length := by omega
   refine tkV 8 38 (.string (Tx T0 ++ ⟨#[32]⟩ ++ Tx T1)) hS ?_
   have z3 : ¬ 9223372036854775807 < T0.length + 1 + T1.length + 1 := by omega
   refine tkV 9 39 (.string (Tx T0 ++ ⟨#[32]⟩ ++ Tx T1 ++ ⟨#[32]⟩)) hS ?_
   refine wpAnyV_one (i := 12) (by kernel_rfl) rfl (fun K hK => ?_)
   go_simp
   refine (HN2.out _).mono ?_
   rintro e q3 ⟨rfl, hk1⟩
   have HW3 := hid (HW2.out.trans hk1)
   have hS := HSS.out _ HW3.out
   refine hK.out _ _ (fun _ => hS) ?_
   clear hK K hk1
   try simp only [Act.put, sA, s0, sS]
   have z4 : ¬ 9223372036854775807 < T0.length + 1 + T1.length + 1 + T2.length := by omega
   refine tkV 13 43 (.string (Tx T0 ++ ⟨#[32]⟩ ++ Tx T1 ++ ⟨#[32]⟩ ++ Tx T2)) hS ?_
   have z5 : ¬ 9223372036854775807 < T0.length + 1 + T1.length + 1 + T2.length + 1 := by omega
   refine tkV 14 44 (.string (Tx T0 ++ ⟨#[32]⟩ ++ Tx T1 ++ ⟨#[32]⟩ ++ Tx T2 ++ ⟨#[32]⟩)) hS ?_
   refine wpAnyV_one (i := 17) (by kernel_rfl) rfl (fun K hK => ?_)
   go_simp
   refine (HN3.out _ HW3.out).mono ?_
   rintro e q4 ⟨rfl, hk1⟩
   have HW4 := hid (HW3.out.trans hk1)
   have hS := HSS.out _ HW4.out
   refine hK.out _ _ (fun _ => hS) ?_
   clear hK K hk1
   try simp only [Act.put, sA, s0, sS]
   have z6 : ¬ 9223372036854775807 < T0.length + 1 + T1.length + 1 + T2.length + 1 + T3.length := by omega
   refine tkV 18 48 (.string (Tx T0 ++ ⟨#[32]⟩ ++ Tx T1 ++ ⟨#[32]⟩ ++ Tx T2 ++ ⟨#[32]⟩ ++ Tx T3)) hS ?_
   have z7 : ¬ 9223372036854775807 < T0.length + 1 + T1.length + 1 + T2.length + 1 + T3.length + 1 := by omega
   refine tkV 19 49 (.string (Tx T0 ++ ⟨#[32]⟩ ++ Tx T1 ++ ⟨#[32]⟩ ++ Tx T2 ++ ⟨#[32]⟩ ++ Tx T3 ++ ⟨#[32]⟩)) hS ?_
   refine wpAnyV_one (i := 22) (by kernel_rfl) rfl (fun K hK => ?_)
   go_simp
   refine (HN4.out _).mono ?_
   rintro e q5 ⟨rfl, hk1⟩
   have HW5 := hid (HW4.out.trans hk1)
   have hS := HSS.out _ HW5.out
   refine hK.out _ _ (fun _ => hS) ?_
   clear hK K hk1
   try simp only [Act.put, sA, s0, sS]
   have z8 : ¬ 9223372036854775807 < T0.length + 1 + T1.length + 1 + T2.length + 1 + T3.length + 1 + T4.length := by omega
   refine tkV 23 53 (.string (Tx T0 ++ ⟨#[32]⟩ ++ Tx T1 ++ ⟨#[32]⟩ ++ Tx T2 ++ ⟨#[32]⟩ ++ Tx T3 ++ ⟨#[32]⟩ ++ Tx T4)) hS ?_
   have ht : (Tx T0 ++ ⟨#[32]⟩ ++ Tx T1 ++ ⟨#[32]⟩ ++ Tx T2 ++ ⟨#[32]⟩ ++ Tx T3 ++ ⟨#[32]⟩ ++ Tx T4) = Tx (anF P.dat) := by
    rw [HTX.out, show (⟨#[32]⟩ : ByteArray) = Tx [32] from rfl]
    simp only [tx_app]
   rw [ht]
   have HML := (show Hid (L.length + (anF P.dat).length ≤ 178257920) from by have h1 := HLL.out.2; unfold anL at h1; simp only [List.length_append] at h1; unfold Hid; omega)
   have hpos : 0 < (anF P.dat).length := by rw [HTX.out]; simp only [List.length_append, List.length_cons]; omega
   generalize hM : anF P.dat = M at HML hpos ⊢
   have HM := hid hM
   have HF5 := hid (HF2.out.same HW5.out)
   have HX5 := hid (HX2.out.same HW5.out)
   have HA5 := hid (HA2.out.same HW5.out)
   have HK5 := hid (HK2.out.trans HW5.out)
   have hA5 := HA5.out.lt
   clear hM ht z1 z2 z3 z4 z5 z6 z7 z8 t0 t1 t2 t3 t4 HN0 HN1 HN2 HN3 HN4 HW0 HW1 HW2 HW3 HW4
   refine wpAnyV_one (i := 24) (by kernel_rfl) rfl (fun K hK => ?_)
   refine step_appS (by rfl) (.tmp 30) (.tmp 53) (by rfl) g cap L M (by rfl) (by rfl) HF5.out (by have := HML.out; omega) ?_
   intro g6 cap6 q6 hb6 hk6 hg6
   have HF6 := hid hb6
   have hgl6 : g6 < q6.heap.size := hb6.lt (by simp; omega)
   have HK6 := (show Hid (Same w q6) from HK5.out.next hk6 (fun i hi e => by omega))
   have HX6 := hid (HX5.out.kept hk6 (by omega))
   have HA6 := hid (HA5.out.kept hk6 (by omega))
   have hg6w : w.heap.size < g6 := by have := HK5.out.size; omega
   have hg6a : g6 ≠ A := by omega
   have hS6 := (show q6.cell? ⟨A, 0, none⟩ = some (.int .i64 P.cd) ∧ q6.cell? ⟨A, 1, none⟩ = some (.int .i64 P.tx) ∧ q6.cell? ⟨A, 2, none⟩ = some (.int .i64 P.rid) ∧ q6.cell? ⟨A, 3, none⟩ = some (.slice d1 P.db.length d2) ∧ q6.cell? ⟨A, 5, none⟩ = some (.int .i64 P.us) from ⟨HA6.out.cell 0, HA6.out.cell 1, HA6.out.cell 2, HA6.out.cell 3, HA6.out.cell 5⟩)
   clear hb6 hk6
   refine hK.out _ _ (fun _ => hS6) ?_
   clear hK K hS
   try simp only [Act.put, sA, s0, sS]
   refine tk 25 3 hS6 ?_
   refine wpAnyV_done (by kernel_rfl) ?_
   clear hS6 HSS
   have HCR := (show Hid (∀ j, (h : j < P.rs.length) → ∃ b off, e1 = some ⟨b, off, none⟩ ∧ ∀ i, i < 2 → w.cell? ⟨b, off + (j * 2 + i), none⟩ = (kHeapRecord.cells P.rs[j])[i]?) from fun j h => by
    rcases HRR.out.row with ⟨e, a, c, e2⟩ | ⟨b, off, c, e2, hc⟩
    ·rw [e] at h; simp at h
    ·injection e2 with e2
     exact ⟨b, off, e2, fun i hi => hc j i h hi⟩)
   have HRL2 := (show Hid (∀ j, ((L ++ M ++ ((datHeapRecordS P.rs).take j).flatMap recT).length : Int) + 1 ≤ 178257920) from fun j => by
    have h1 := HLL.out.2
    have h2 : ((datHeapRecordS P.rs).take j).flatMap recT ++ ((datHeapRecordS P.rs).drop j).flatMap recT = (datHeapRecordS P.rs).flatMap recT := by rw [← List.flatMap_append, List.take_append_drop]
    have h3 := congrArg List.length h2
    rw [List.length_append] at h3
    unfold anL at h1
    rw [HM.out] at h1
    simp only [EAn.dat, List.length_append, List.length_cons, List.length_nil] at h1 ⊢
    omega)
   have hrs : P.rs.length ≤ 1048576 := by have h1 := HDB.out; have h2 := HSZ.out.1; omega
   have HRD2 := (show Hid (∀ j, (h : j < P.rs.length) → Rd .u8 w P.rs[j].v P.rs[j].bs ∧ P.rs[j].bs.length ≤ 1048576 ∧ IsI' P.rs[j].id ∧ IsB P.rs[j].bs) from fun j h => by
    have h1 := HRR.out.data _ (List.getElem_mem h)
    have h2 := sizeHeapRecordS_mem P.rs _ (List.getElem_mem h)
    have h3 := HDB.out
    have h4 := HSZ.out.1
    exact ⟨h1, by omega, (HOP.out.rs _ (List.getElem_mem h)).1, (HOP.out.rs _ (List.getElem_mem h)).2⟩)
   generalize hrn2 : P.rs.length = rl at hrs HX6 HA6 ⊢
   have HRN2 := hid hrn2
   clear hrn2 HRR
   go_wp2_with fail
   go_loopw [3, 6] (fun o i wx => ∃ (j g cap : Nat) (N : List UInt8), j ≤ rl ∧ i = .int .i64 (j : Int) ∧ o = .slice (some ⟨g, 0, none⟩) N.length cap ∧ w.heap.size < g ∧ g ≠ A ∧ Hid (N = L ++ M ++ ((datHeapRecordS P.rs).take j).flatMap recT ∧ Buf wx g cap N ∧ Same w wx ∧ Blk wx w.heap.size 52 [.int .i64 0, .slice (some ⟨b, off, none⟩) len kc, .slice da dur.length dc, .slice pa ps.length pc, .bool up, .slice la ln lc, .slice ha hn hc, .slice ra rn rc, .int .i64 fr] ∧ Blk wx A 85 [.int .i64 P.cd, .int .i64 P.tx, .int .i64 P.rid, .slice d1 P.db.length d2, .slice e1 rl e2, .int .i64 P.us] ∧ g < wx.heap.size)) (fun _ i _ => rl - (intOf i).toNat)
   case atStart => exact ⟨0, g6, cap6, L ++ M, Nat.zero_le _, rfl, by simp, hg6w, hg6a, by simp, HF6.out, HK6.out, HX6.out, HA6.out, hgl6⟩
   case round =>
    obtain ⟨j, g7, cap7, N, hj, rfl, rfl, hg7, hga7, HI7⟩ := hrel
    obtain ⟨hNe, hNb, hNk, hNx, hNa, hNg⟩ := HI7.out
    have a4 := hNa.cell 4
    dsimp only [List.getElem?_cons_zero, List.getElem?_cons_succ] at a4
    by_cases hjl : j < rl
    ·have hjp : j < P.rs.length := by rw [HRN2.out]; exact hjl
     have hji : (j : Int) < (rl : Int) := by omega
     obtain ⟨b2, off2, rfl, hc2⟩ := HCR.out j hjp
     obtain ⟨hr1, hr2, hr3, hr4⟩ := HRD2.out j hjp
     have HTK := (show Hid ((datHeapRecordS P.rs).take (j + 1) = (datHeapRecordS P.rs).take j ++ [P.rs[j].dat]) from by
      have h : j < (datHeapRecordS P.rs).length := by rw [datHeapRecordS_length]; exact hjp
      unfold Hid
      rw [List.take_succ_eq_append_getElem h]
      simp [datHeapRecordS])
     obtain ⟨r, hr⟩ : ∃ r, P.rs[j] = r := ⟨_, rfl⟩
     rw [hr] at hc2 hr1 hr2 hr3 hr4 HTK
     obtain ⟨v1, v2, ev⟩ := hr1.form
     have s0 : wr.cell? ⟨b2, off2 + j * 2, none⟩ = some (.int .i64 r.id) := hNk.cellOf (p := ⟨b2, off2 + j * 2, none⟩) (hc2 0 (by decide)) id
     have s1 : wr.cell? ⟨b2, off2 + j * 2 + 1, none⟩ = some (.slice v1 r.bs.length v2) := hNk.cellOf (p := ⟨b2, off2 + j * 2 + 1, none⟩) (by have h := hc2 1 (by decide); rw [← Nat.add_assoc] at h; exact h.trans (congrArg some ev)) id
     rw [ev] at hr1
     have HN0 := (show Hid (∀ wx, Calls Tryd.prog 19 #[.int .i64 r.id] wx fun e w' => e = .returned (.string (Tx (Lib.itoa r.id))) ∧ Same wx w') from fun wx => numS_any r.id hr3.1 hr3.2 wx)
     have HN1 := (show Hid (∀ wx, Same w wx → Calls Tryd.prog 36 #[.slice v1 r.bs.length v2] wx fun e w' => e = .returned (.string (Tx (hxW r.bs))) ∧ Same wx w') from fun wx hk => specHex_any _ r.bs wx hr4 hr2 (hr1.same hk))
     have t0 := itoa_len r.id hr3.1 hr3.2
     have t1 := hxW_len r.bs
     have HTX := (show Hid (recT r.dat = [32] ++ Lib.itoa r.id ++ [32] ++ hxW r.bs) from by unfold Hid recT; simp [EHeapRecord.dat])
     have HB2 := hid hr2
     obtain ⟨T0, hT0⟩ : ∃ T, Lib.itoa r.id = T := ⟨_, rfl⟩
     obtain ⟨T1, hT1⟩ : ∃ T, hxW r.bs = T := ⟨_, rfl⟩
     rw [hT0, hT1] at HTX
     rw [hT0] at HN0 t0
     rw [hT1] at HN1 t1
     have HNL := (show Hid (N.length + (recT r.dat).length + 1 ≤ 178257920) from by
      have h1 := HRL2.out (j + 1)
      rw [HTK.out, List.flatMap_append, ← List.append_assoc, ← hNe] at h1
      simp only [List.flatMap_cons, List.flatMap_nil, List.append_nil, List.length_append] at h1
      unfold Hid
      omega)
     have HFL := (show Hid (N ++ recT r.dat = L ++ M ++ ((datHeapRecordS P.rs).take (j + 1)).flatMap recT) from by unfold Hid; rw [HTK.out, List.flatMap_append, ← List.append_assoc, ← hNe]; simp)
     have HNB := hid hNb
     have HNK := hid hNk
     have HNX := hid hNx
     have HNA := hid hNa
     have HREC := (show ∀ wx, Same w wx → wx.cell? ⟨b2, off2 + j * 2, none⟩ = some (.int .i64 r.id) ∧ wx.cell? ⟨b2, off2 + j * 2 + 1, none⟩ = some (.slice v1 r.bs.length v2) from fun wx h => ⟨h.cellOf (p := ⟨b2, off2 + j * 2, none⟩) (hc2 0 (by decide)) id, h.cellOf (p := ⟨b2, off2 + j * 2 + 1, none⟩) (by have h := hc2 1 (by decide); rw [← Nat.add_assoc] at h; exact h.trans (congrArg some ev)) id⟩)
     clear hT0 hT1 hr hc2 ev hr1 hr3 hr4 hNe hNb hNk hNx hNa HTK hr2
     have HSS := (show Hid (∀ wx, Same wr wx → wx.cell? ⟨A, 4, none⟩ = some (.slice (some ⟨b2, off2, none⟩) rl e2) ∧ wx.cell? ⟨b2, off2 + j * 2, none⟩ = some (.int .i64 r.id) ∧ wx.cell? ⟨b2, off2 + j * 2 + 1, none⟩ = some (.slice v1 r.bs.length v2)) from fun wx h => ⟨h.cellOf a4 id, h.cellOf s0 id, h.cellOf s1 id⟩)
     go_upto_region 12 with fail
     have HW0 := (show Hid (Same wr wr.drew) from (Kept.refl _ _).drew)
     have hS := HSS.out _ HW0.out
     refine wp_region_V (fun wx : World => wx.cell? ⟨A, 4, none⟩ = some (.slice (some ⟨b2, off2, none⟩) rl e2) ∧ wx.cell? ⟨b2, off2 + j * 2, none⟩ = some (.int .i64 r.id) ∧ wx.cell? ⟨b2, off2 + j * 2 + 1, none⟩ = some (.slice v1 r.bs.length v2)) 99 20 rfl (by kernel_rfl) ?_
     clear a4 s0 s1
     generalize wr.drew = q0 at HW0 hS ⊢
     refine tk 0 62 hS ?_
     refine tk 1 63 hS ?_
     refine tk 2 64 hS ?_
     refine tk 3 65 hS ?_
     refine tk 4 66 hS ?_
     refine tk 5 67 hS ?_
     refine tk 6 68 hS ?_
     refine tk 10 72 hS ?_
     refine tk 11 73 hS ?_
     refine tk 12 74 hS ?_
     refine tk 13 75 hS ?_
     refine tk 14 76 hS ?_
     refine tk 15 77 hS ?_
     refine wpAnyV_one (i := 7) (by kernel_rfl) rfl (fun K hK => ?_)
     go_simp
     refine (HN0.out _).mono ?_
     rintro e q1 ⟨rfl, hk1⟩
     have HW1 := hid (HW0.out.trans hk1)
     have hS := HSS.out _ HW1.out
     refine hK.out _ _ (fun _ => hS) ?_
     clear hK K hk1
     try simp only [Act.put, sA, s0, sS]
     have z1 : ¬ 9223372036854775807 < 1 + T0.length := by have := HB2.out; omega
     refine tkV 8 70 (.string ((⟨#[32]⟩ : ByteArray) ++ Tx T0)) hS ?_
     have z2 : ¬ 9223372036854775807 < 1 + T0.length + 1 := by have := HB2.out; omega
     refine tkV 9 71 (.string ((⟨#[32]⟩ : ByteArray) ++ Tx T0 ++ ⟨#[32]⟩)) hS ?_
     refine wpAnyV_one (i := 16) (by kernel_rfl) rfl (fun K hK => ?_)
     go_simp
     refine (HN1.out _ (HNK.out.trans HW1.out)).mono ?_
     rintro e q2 ⟨rfl, hk1⟩
     have HW2 := hid (HW1.out.trans hk1)
     have hS := HSS.out _ HW2.out
     refine hK.out _ _ (fun _ => hS) ?_
     clear hK K hk1
     try simp only [Act.put, sA, s0, sS]
     have z3 : ¬ 9223372036854775807 < 1 + T0.length + 1 + T1.length := by have := HB2.out; omega
     refine tkV 17 79 (.string ((⟨#[32]⟩ : ByteArray) ++ Tx T0 ++ ⟨#[32]⟩ ++ Tx T1)) hS ?_
     have ht : ((⟨#[32]⟩ : ByteArray) ++ Tx T0 ++ ⟨#[32]⟩ ++ Tx T1) = Tx (recT r.dat) := by
      rw [HTX.out, show (⟨#[32]⟩ : ByteArray) = Tx [32] from rfl]
      simp only [tx_app]
     rw [ht]
     have hpos : 0 < (recT r.dat).length := by rw [HTX.out]; simp only [List.length_append, List.length_cons]; omega
     generalize recT r.dat = M2 at HNL HFL hpos ⊢
     have HF5 := hid (HNB.out.same HW2.out)
     have HX5 := hid (HNX.out.same HW2.out)
     have HA5 := hid (HNA.out.same HW2.out)
     have HK5 := hid (HNK.out.trans HW2.out)
     have hA5 := HA5.out.lt
     clear ht z1 z2 z3 t0 t1 HN0 HN1 HW0 HW1 HW2 HTX
     refine wpAnyV_one (i := 18) (by kernel_rfl) rfl (fun K hK => ?_)
     refine step_appS (by rfl) (.tmp 62) (.tmp 79) (by rfl) g7 cap7 N M2 (by rfl) (by rfl) HF5.out (by have := HNL.out; omega) ?_
     intro g8 cap8 q8 hb8 hk8 hg8
     have HF8 := hid hb8
     have hgl8 : g8 < q8.heap.size := hb8.lt (by simp; omega)
     have HK8 := (show Hid (Same w q8) from HK5.out.next hk8 (fun i hi e => by omega))
     have HX8 := hid (HX5.out.kept hk8 (by omega))
     have HA8 := hid (HA5.out.kept hk8 (by omega))
     have hg8w : w.heap.size < g8 := by have := HK5.out.size; omega
     have hg8a : g8 ≠ A := by omega
     have a4 := HA8.out.cell 4
     dsimp only [List.getElem?_cons_zero, List.getElem?_cons_succ] at a4
     have hS8 := (show q8.cell? ⟨A, 4, none⟩ = some (.slice (some ⟨b2, off2, none⟩) rl e2) ∧ q8.cell? ⟨b2, off2 + j * 2, none⟩ = some (.int .i64 r.id) ∧ q8.cell? ⟨b2, off2 + j * 2 + 1, none⟩ = some (.slice v1 r.bs.length v2) from ⟨a4, HREC q8 HK8.out⟩)
     clear hb8 hk8 a4
     refine hK.out _ _ (fun _ => hS8) ?_
     clear hK K hS
     try simp only [Act.put, sA, s0, sS]
     refine tk 19 3 hS8 ?_
     refine wpAnyV_done (by kernel_rfl) ?_
     clear hS8 HSS
     go_wp2_with fail
     go_roundw
     case rel => exact ⟨j + 1, g8, cap8, N ++ M2, by omega, by go_num, by simp, hg8w, hg8a, HFL.out, HF8.out, HK8.out, HX8.out, HA8.out, hgl8⟩
     case measure => simp [intOf]; omega
    ·have hji : ¬ (j : Int) < (rl : Int) := by omega
     have HNL := (show Hid (N.length + 1 ≤ 178257920) from by have h1 := HRL2.out j; rw [← hNe] at h1; unfold Hid; omega)
     have HFN := (show Hid (N ++ [10] = (datAn (xs.take (k + 1))).flatMap anL) from by
      have h1 : j = P.rs.length := by have := HRN2.out; omega
      unfold Hid
      rw [HDT.out, List.flatMap_append, ← HLE.out, hNe, h1, ← datHeapRecordS_length, List.take_length, ← HM.out]
      simp [anL, EAn.dat])
     have hk9 : Same wr (wr.alloc (.cells #[.int .u8 10] 5)) := (Kept.refl _ _).alloc _
     have HY9 := (show Hid (Blk (wr.alloc (.cells #[.int .u8 10] 5)) wr.heap.size 5 [.int .u8 (((10 : UInt8).toNat : Nat) : Int)]) from Blk.newL wr [.int .u8 10] 5)
     have HF9 := hid (hNb.same hk9)
     have HK9 := hid (hNk.trans hk9)
     have HX9 := hid (hNx.same hk9)
     have hw9 := HX9.out.lt
     clear hNb hNk hNx hNa hk9 hNe
     go_wp2_with (first | (at_builtin; refine wpList_app1 rfl (.tmp 81) (.tmp 82) rfl g7 cap7 wr.heap.size 5 N 10 (by rfl) (by rfl) HF9.out HY9.out (by have := HNL.out; omega) ?_; intro g8 cap8 q8 hb8 hk8 hg8; have HF8 := hid hb8; have hgl8 : g8 < q8.heap.size := hb8.lt (by simp); have HK8 := (show Hid (Same w q8) from HK9.out.next hk8 (fun i hi e => by omega)); have HX8 := hid (HX9.out.kept hk8 (by omega)); have hg8w : w.heap.size < g8 := (by omega); clear hb8 hk8 hg8))
     go_roundw
     case rel => exact ⟨k + 1, g8, cap8, N ++ [10], by omega, by go_num, by simp, hg8w, HFN.out, HF8.out, HK8.out, HX8.out, hgl8⟩
     case measure => simp [intOf]; omega
  ·have hge : ¬ (k : Int) < (len : Int) := by omega
   obtain ⟨hLe, hBf, hKx, hBx, hgs⟩ := HI.out
   have hkl : k = xs.length := by have := HL.out; omega
   have HLL := (show Hid (L.length ≤ 125829120) from by
    have h1 := lines_len xs HOK.out k
    have h0 := HSZ.out.1
    have h2 := sizeAn_nonneg xs
    rw [← hLe, hkl, List.take_length] at h1
    unfold Hid
    omega)
   have HLE := (show Hid (L = (datAn xs).flatMap anL) from by rw [hkl, List.take_length] at hLe; exact hLe)
   have HF1 := hid hBf
   have HKx := hid hKx
   have HX1 := hid hBx
   have r4 := hBx.cell 4
   have r8 := hBx.cell 8
   dsimp only [List.getElem?_cons_zero, List.getElem?_cons_succ] at r4 r8
   have HN0 := (show Hid (∀ wx, Calls Tryd.prog 19 #[.int .i64 fr] wx fun e w' => e = .returned (.string (Tx (Lib.itoa fr))) ∧ Same wx w') from fun wx => numS_any fr HOFR.out.1 HOFR.out.2 wx)
   have t0 := itoa_len fr HOFR.out.1 HOFR.out.2
   have HST := (show Hid (stL up fr rb = upW up ++ [32] ++ Lib.itoa fr ++ rb.flatMap rmT ++ [10]) from rfl)
   obtain ⟨T0, hT0⟩ : ∃ T, Lib.itoa fr = T := ⟨_, rfl⟩
   rw [hT0] at HN0 t0 HST
   have z1 : ¬ 9223372036854775807 < 5 + T0.length := by omega
   have z2 : ¬ 9223372036854775807 < 3 + T0.length := by omega
   have HUP := (show Hid ((if up = true then (⟨#[117, 112, 32]⟩ : ByteArray) else ⟨#[100, 111, 119, 110, 32]⟩) ++ Tx T0 = Tx (upW up ++ [32] ++ T0)) from by
    unfold Hid upW
    cases up
    ·exact tx_app [100, 111, 119, 110, 32] T0
    ·exact tx_app [117, 112, 32] T0)
   have hpos : 0 < (upW up ++ [32] ++ T0).length := by simp; omega
   have HUL := (show Hid ((upW up ++ [32] ++ T0).length ≤ 30) from by unfold Hid upW; cases up <;> (simp; omega))
   clear hT0 hkl hLe hBf hKx hBx HAN HC HOK HSZ
   obtain ⟨U, hU⟩ : ∃ U, upW up ++ [32] ++ T0 = U := ⟨_, rfl⟩
   rw [hU] at HUP hpos HUL HST
   clear hU
   have HRM3 := (show Hid (∀ j, ((rb.take j).flatMap rmT).length ≤ 22 * (rb.take j).length) from fun j => by
    have key : ∀ qs : List Int, (∀ z ∈ qs, IsI' z) → (qs.flatMap rmT).length ≤ 22 * qs.length := fun qs => by
     induction qs with
     | nil => intro _; simp
     | cons q qs ih =>
      intro h
      have h1 := ih (fun x hx => h x (List.mem_cons_of_mem _ hx))
      have h2 := h q (List.mem_cons_self ..)
      have h3 := itoa_len q h2.1 h2.2
      rw [List.flatMap_cons, List.length_append]
      simp only [rmT, List.length_cons] at h1 ⊢
      omega
    exact key _ (fun z hz => HORM.out z (List.mem_of_mem_take hz)))
   have HRB := (show Hid (rb.length ≤ 1048576) from by have := HRL.out; unfold Hid; omega)
   cases up with
   | true =>
    rw [if_pos rfl] at HUP
    go_upto_region 18 with (first
     | (go_at_call 19; (with_reducible refine (HN0.out _).mono ?_); rintro e w3 ⟨rfl, hk3⟩; have HK3 := hid (HKx.out.trans hk3); have HF3 := hid (HF1.out.same hk3); have HX3 := hid (HX1.out.same hk3); clear hk3)
     | (at_builtin; refine wpList_appS rfl (.tmp 86) (.tmp 91) rfl g cap L U (by rfl) (by exact congrArg Value.string HUP.out) HF3.out (by have := HLL.out; have := HUL.out; omega) ?_; intro g4 cap4 w4 hb4 hk4 hg4; have HF4 := hid hb4; have hgl4 : g4 < w4.heap.size := hb4.lt (by simp; omega); have HK4 := (show Hid (Same w w4) from HK3.out.next hk4 (fun i hi e => by omega)); have HX4 := hid (HX3.out.kept hk4 (by omega)); have hg4w : w.heap.size < g4 := (by have := HK3.out.size; have := HX3.out.lt; omega); clear hb4 hk4 hg4))
    go_wp2
    go_loopw [3, 8] (fun o i wx => ∃ (j g cap : Nat) (N : List UInt8), j ≤ rn ∧ i = .int .i64 (j : Int) ∧ o = .slice (some ⟨g, 0, none⟩) N.length cap ∧ w.heap.size < g ∧ Hid (N = L ++ U ++ (rb.take j).flatMap rmT ∧ Buf wx g cap N ∧ Same w wx ∧ Blk wx w.heap.size 52 [.int .i64 0, .slice ka len kc, .slice da dur.length dc, .slice pa ps.length pc, .bool true, .slice la ln lc, .slice ha hn hc, .slice ra rn rc, .int .i64 fr] ∧ g < wx.heap.size)) (fun _ i _ => rn - (intOf i).toNat)
    case atStart => exact ⟨0, g4, cap4, L ++ U, Nat.zero_le _, rfl, by simp, hg4w, by simp, HF4.out, HK4.out, HX4.out, hgl4⟩
    case round =>
     obtain ⟨j, g7, cap7, N, hj, rfl, rfl, hg7, HI7⟩ := hrel
     obtain ⟨hNe, hNb, hNk, hNx, hNg⟩ := HI7.out
     have r7 := hNx.cell 7
     dsimp only [List.getElem?_cons_zero, List.getElem?_cons_succ] at r7
     have HNL := (show Hid (N.length ≤ 148897900) from by
      have h1 := HRM3.out j
      have h2 := HRB.out
      have h3 := HLL.out
      have h4 := HUL.out
      have h5 : (rb.take j).length ≤ rb.length := by rw [List.length_take]; omega
      unfold Hid
      rw [hNe]
      simp only [List.length_append]
      omega)
     by_cases hjl : j < rn
     ·have hjp : j < rb.length := by rw [HRL.out]; exact hjl
      have hji : (j : Int) < (rn : Int) := by omega
      obtain ⟨b2, off2, rfl, hc2⟩ := HRM.out j hjp
      have hzj := HORM.out _ (List.getElem_mem hjp)
      have HTK := hid (List.take_succ_eq_append_getElem hjp)
      obtain ⟨z, hzz⟩ : ∃ z, rb[j] = z := ⟨_, rfl⟩
      rw [hzz] at hc2 hzj HTK
      have s0 : wr.cell? ⟨b2, off2 + j, none⟩ = some (.int .i64 z) := hNk.cellOf hc2 id
      have HN2 := (show Hid (∀ wx, Calls Tryd.prog 19 #[.int .i64 z] wx fun e w' => e = .returned (.string (Tx (Lib.itoa z))) ∧ Same wx w') from fun wx => numS_any z hzj.1 hzj.2 wx)
      have t2 := itoa_len z hzj.1 hzj.2
      have HFL := (show Hid (N ++ rmT z = L ++ U ++ (rb.take (j + 1)).flatMap rmT) from by unfold Hid; rw [HTK.out, List.flatMap_append, ← List.append_assoc, ← hNe]; simp)
      have HT2 := (show Hid ((⟨#[32]⟩ : ByteArray) ++ Tx (Lib.itoa z) = Tx (rmT z)) from tx_app [32] (Lib.itoa z))
      have HML := (show Hid ((rmT z).length ≤ 22 ∧ 0 < (rmT z).length) from by unfold Hid rmT; simp only [List.length_cons]; omega)
      obtain ⟨T2, hT2⟩ : ∃ T, Lib.itoa z = T := ⟨_, rfl⟩
      rw [hT2] at HN2 t2 HT2
      obtain ⟨M2, hM2⟩ : ∃ T, rmT z = T := ⟨_, rfl⟩
      rw [hM2] at HT2 HFL HML
      have z9 : ¬ 9223372036854775807 < 1 + T2.length := by omega
      have HNB := hid hNb
      have HNK := hid hNk
      have HNX := hid hNx
      clear hT2 hM2 hzz hc2 hzj HTK hNe hNb hNk hNx
      go_wp2_with (first
       | (go_at_call 19; (with_reducible refine (HN2.out _).mono ?_); rintro e w5 ⟨rfl, hk5⟩; have HK5 := hid (HNK.out.trans hk5); have HF5 := hid (HNB.out.same hk5); have HX5 := hid (HNX.out.same hk5); clear hk5)
       | (at_builtin; refine wpList_appS rfl (.tmp 100) (.tmp 107) rfl g7 cap7 N M2 (by rfl) (by exact congrArg Value.string HT2.out) HF5.out (by have := HNL.out; have := HML.out; omega) ?_; intro g8 cap8 w8 hb8 hk8 hg8; have HF8 := hid hb8; have hgl8 : g8 < w8.heap.size := hb8.lt (by have := HML.out; simp; omega); have HK8 := (show Hid (Same w w8) from HK5.out.next hk8 (fun i hi e => by omega)); have HX8 := hid (HX5.out.kept hk8 (by omega)); have hg8w : w.heap.size < g8 := (by have := HX5.out.lt; omega); clear hb8 hk8 hg8))
      go_roundw
      case rel => exact ⟨j + 1, g8, cap8, N ++ M2, by omega, by go_num, by simp, hg8w, HFL.out, HF8.out, HK8.out, HX8.out, hgl8⟩
      case measure => simp [intOf]; omega
     ·have hji : ¬ (j : Int) < (rn : Int) := by omega
      have HFN := (show Hid (N ++ [10] = rpT 0 (datAn xs) true fr rb) from by
       have h1 : j = rb.length := by have := HRL.out; omega
       unfold Hid
       rw [HRP.out, HST.out, hNe, h1, List.take_length, HLE.out]
       simp only [List.append_assoc])
      have hk9 : Same wr (wr.alloc (.cells #[.int .u8 10] 5)) := (Kept.refl _ _).alloc _
      have HY9 := (show Hid (Blk (wr.alloc (.cells #[.int .u8 10] 5)) wr.heap.size 5 [.int .u8 (((10 : UInt8).toNat : Nat) : Int)]) from Blk.newL wr [.int .u8 10] 5)
      have HF9 := hid (hNb.same hk9)
      have HK9 := hid (hNk.trans hk9)
      clear hNb hNk hNx hk9 hNe
      go_wp2_with (first | (at_builtin; refine wpList_app1 rfl (.tmp 109) (.tmp 110) rfl g7 cap7 wr.heap.size 5 N 10 (by rfl) (by rfl) HF9.out HY9.out (by have := HNL.out; omega) ?_; intro g8 cap8 q8 hb8 hk8 hg8; have HK8 := (show Hid (Same w q8) from HK9.out.next hk8 (fun i hi e => by omega)); have hcv := conv_buf hb8; simp only [List.length_append, List.length_cons, List.length_nil, Nat.zero_add] at hcv; clear hb8 hk8 hg8))
      go_ret
      exact ⟨by rw [HFN.out]; rfl, HK8.out⟩
   | false =>
    rw [if_neg (by decide)] at HUP
    go_upto_region 18 with (first
     | (go_at_call 19; (with_reducible refine (HN0.out _).mono ?_); rintro e w3 ⟨rfl, hk3⟩; have HK3 := hid (HKx.out.trans hk3); have HF3 := hid (HF1.out.same hk3); have HX3 := hid (HX1.out.same hk3); clear hk3)
     | (at_builtin; refine wpList_appS rfl (.tmp 86) (.tmp 91) rfl g cap L U (by rfl) (by exact congrArg Value.string HUP.out) HF3.out (by have := HLL.out; have := HUL.out; omega) ?_; intro g4 cap4 w4 hb4 hk4 hg4; have HF4 := hid hb4; have hgl4 : g4 < w4.heap.size := hb4.lt (by simp; omega); have HK4 := (show Hid (Same w w4) from HK3.out.next hk4 (fun i hi e => by omega)); have HX4 := hid (HX3.out.kept hk4 (by omega)); have hg4w : w.heap.size < g4 := (by have := HK3.out.size; have := HX3.out.lt; omega); clear hb4 hk4 hg4))
    go_wp2
    go_loopw [3, 8] (fun o i wx => ∃ (j g cap : Nat) (N : List UInt8), j ≤ rn ∧ i = .int .i64 (j : Int) ∧ o = .slice (some ⟨g, 0, none⟩) N.length cap ∧ w.heap.size < g ∧ Hid (N = L ++ U ++ (rb.take j).flatMap rmT ∧ Buf wx g cap N ∧ Same w wx ∧ Blk wx w.heap.size 52 [.int .i64 0, .slice ka len kc, .slice da dur.length dc, .slice pa ps.length pc, .bool false, .slice la ln lc, .slice ha hn hc, .slice ra rn rc, .int .i64 fr] ∧ g < wx.heap.size)) (fun _ i _ => rn - (intOf i).toNat)
    case atStart => exact ⟨0, g4, cap4, L ++ U, Nat.zero_le _, rfl, by simp, hg4w, by simp, HF4.out, HK4.out, HX4.out, hgl4⟩
    case round =>
     obtain ⟨j, g7, cap7, N, hj, rfl, rfl, hg7, HI7⟩ := hrel
     obtain ⟨hNe, hNb, hNk, hNx, hNg⟩ := HI7.out
     have r7 := hNx.cell 7
     dsimp only [List.getElem?_cons_zero, List.getElem?_cons_succ] at r7
     have HNL := (show Hid (N.length ≤ 148897900) from by
      have h1 := HRM3.out j
      have h2 := HRB.out
      have h3 := HLL.out
      have h4 := HUL.out
      have h5 : (rb.take j).length ≤ rb.length := by rw [List.length_take]; omega
      unfold Hid
      rw [hNe]
      simp only [List.length_append]
      omega)
     by_cases hjl : j < rn
     ·have hjp : j < rb.length := by rw [HRL.out]; exact hjl
      have hji : (j : Int) < (rn : Int) := by omega
      obtain ⟨b2, off2, rfl, hc2⟩ := HRM.out j hjp
      have hzj := HORM.out _ (List.getElem_mem hjp)
      have HTK := hid (List.take_succ_eq_append_getElem hjp)
      obtain ⟨z, hzz⟩ : ∃ z, rb[j] = z := ⟨_, rfl⟩
      rw [hzz] at hc2 hzj HTK
      have s0 : wr.cell? ⟨b2, off2 + j, none⟩ = some (.int .i64 z) := hNk.cellOf hc2 id
      have HN2 := (show Hid (∀ wx, Calls Tryd.prog 19 #[.int .i64 z] wx fun e w' => e = .returned (.string (Tx (Lib.itoa z))) ∧ Same wx w') from fun wx => numS_any z hzj.1 hzj.2 wx)
      have t2 := itoa_len z hzj.1 hzj.2
      have HFL := (show Hid (N ++ rmT z = L ++ U ++ (rb.take (j + 1)).flatMap rmT) from by unfold Hid; rw [HTK.out, List.flatMap_append, ← List.append_assoc, ← hNe]; simp)
      have HT2 := (show Hid ((⟨#[32]⟩ : ByteArray) ++ Tx (Lib.itoa z) = Tx (rmT z)) from tx_app [32] (Lib.itoa z))
      have HML := (show Hid ((rmT z).length ≤ 22 ∧ 0 < (rmT z).length) from by unfold Hid rmT; simp only [List.length_cons]; omega)
      obtain ⟨T2, hT2⟩ : ∃ T, Lib.itoa z = T := ⟨_, rfl⟩
      rw [hT2] at HN2 t2 HT2
      obtain ⟨M2, hM2⟩ : ∃ T, rmT z = T := ⟨_, rfl⟩
      rw [hM2] at HT2 HFL HML
      have z9 : ¬ 9223372036854775807 < 1 + T2.length := by omega
      have HNB := hid hNb
      have HNK := hid hNk
      have HNX := hid hNx
      clear hT2 hM2 hzz hc2 hzj HTK hNe hNb hNk hNx
      go_wp2_with (first
       | (go_at_call 19; (with_reducible refine (HN2.out _).mono ?_); rintro e w5 ⟨rfl, hk5⟩; have HK5 := hid (HNK.out.trans hk5); have HF5 := hid (HNB.out.same hk5); have HX5 := hid (HNX.out.same hk5); clear hk5)
       | (at_builtin; refine wpList_appS rfl (.tmp 100) (.tmp 107) rfl g7 cap7 N M2 (by rfl) (by exact congrArg Value.string HT2.out) HF5.out (by have := HNL.out; have := HML.out; omega) ?_; intro g8 cap8 w8 hb8 hk8 hg8; have HF8 := hid hb8; have hgl8 : g8 < w8.heap.size := hb8.lt (by have := HML.out; simp; omega); have HK8 := (show Hid (Same w w8) from HK5.out.next hk8 (fun i hi e => by omega)); have HX8 := hid (HX5.out.kept hk8 (by omega)); have hg8w : w.heap.size < g8 := (by have := HX5.out.lt; omega); clear hb8 hk8 hg8))
      go_roundw
      case rel => exact ⟨j + 1, g8, cap8, N ++ M2, by omega, by go_num, by simp, hg8w, HFL.out, HF8.out, HK8.out, HX8.out, hgl8⟩
      case measure => simp [intOf]; omega
     ·have hji : ¬ (j : Int) < (rn : Int) := by omega
      have HFN := (show Hid (N ++ [10] = rpT 0 (datAn xs) false fr rb) from by
       have h1 : j = rb.length := by have := HRL.out; omega
       unfold Hid
       rw [HRP.out, HST.out, hNe, h1, List.take_length, HLE.out]
       simp only [List.append_assoc])
      have hk9 : Same wr (wr.alloc (.cells #[.int .u8 10] 5)) := (Kept.refl _ _).alloc _
      have HY9 := (show Hid (Blk (wr.alloc (.cells #[.int .u8 10] 5)) wr.heap.size 5 [.int .u8 (((10 : UInt8).toNat : Nat) : Int)]) from Blk.newL wr [.int .u8 10] 5)
      have HF9 := hid (hNb.same hk9)
      have HK9 := hid (hNk.trans hk9)
      clear hNb hNk hNx hk9 hNe
      go_wp2_with (first | (at_builtin; refine wpList_app1 rfl (.tmp 109) (.tmp 110) rfl g7 cap7 wr.heap.size 5 N 10 (by rfl) (by rfl) HF9.out HY9.out (by have := HNL.out; omega) ?_; intro g8 cap8 q8 hb8 hk8 hg8; have HK8 := (show Hid (Same w q8) from HK9.out.next hk8 (fun i hi e => by omega)); have hcv := conv_buf hb8; simp only [List.length_append, List.length_cons, List.length_nil, Nat.zero_add] at hcv; clear hb8 hk8 hg8))
      go_ret
      exact ⟨by rw [HFN.out]; rfl, HK8.out⟩
theorem array9 {cs : Array Value} (h : cs.size = 9) : ∃ c0 c1 c2 c3 c4 c5 c6 c7 c8, cs = #[c0, c1, c2, c3, c4, c5, c6, c7, c8] := by
 obtain ⟨l⟩ := cs
 match l, h with
 | [c0, c1, c2, c3, c4, c5, c6, c7, c8], _ => exact ⟨c0, c1, c2, c3, c4, c5, c6, c7, c8, rfl⟩
theorem list2 {cs : List Value} (h : cs.length = 2) : ∃ c0 c1, cs = [c0, c1] := by
 match cs, h with
 | [c0, c1], _ => exact ⟨c0, c1, rfl⟩
section
variable {H : Type} {enc : TypeId × Value → H} {w : World} {base : Nat} {spare : Nat → Bool} {held : Bool}
theorem read_rec (n : Nat) (cs : List Value) (x : DataW H × List MemPlace) (hl : cs.length = 2) (h : DataW.trod enc Tryd.prog w base spare held n 163 cs = some x) :
  ∃ p : EHeapRecord, cs = kHeapRecord.cells p ∧ Rd .u8 w (kHeapRecord.v p) (kHeapRecord.bs p) ∧ (IsI' p.id ∧ IsB p.bs) := by
 obtain ⟨c0, c1, rfl⟩ := list2 hl
 obtain ⟨xs, n, _, _, _, hxl, hg⟩ := DataW.trod_struct Tryd.underlying163 h
 have g0 : ∃ x, DataW.trod enc Tryd.prog w base spare held n 2 [c0] = some x := ⟨xs[0]'(by rw [hxl]; decide), by have h := hg 0 _ rfl; rw [List.getElem?_eq_getElem (by rw [hxl]; decide)] at h; exact h⟩
 obtain ⟨x0, g0⟩ := g0
 obtain ⟨z0, e0, _, B0⟩ := DataW.trod_int Tryd.underlying2 g0
 simp at e0
 subst e0
 have g1 : ∃ x, DataW.trod enc Tryd.prog w base spare held n 34 [c1] = some x := ⟨xs[1]'(by rw [hxl]; decide), by have h := hg 1 _ rfl; rw [List.getElem?_eq_getElem (by rw [hxl]; decide)] at h; exact h⟩
 obtain ⟨x1, g1⟩ := g1
 obtain ⟨b1, r1, B1⟩ := read_intsB Tryd.underlying34 Tryd.underlying5 (by kernel_rfl) g1
 exact ⟨⟨z0, c1, b1⟩, rfl, r1, int_bounds B0, fun x hx => by have := B1 x hx; exact ⟨this.1, this.2⟩⟩
theorem read_answer (n : Nat) (cs : List Value) (x : DataW H × List MemPlace) (hl : cs.length = 6) (h : DataW.trod enc Tryd.prog w base spare held n 119 cs = some x) :
  ∃ p : EAn, cs = kAn.cells p ∧ Rd .u8 w (kAn.v p) (kAn.bs p) ∧ (RdR kHeapRecord w p.rv p.rs ∧ p.ok) := by
 obtain ⟨c0, c1, c2, c3, c4, c5, rfl⟩ := list6 hl
 obtain ⟨xs, n, _, _, _, hxl, hg⟩ := DataW.trod_struct Tryd.underlying119 h
 have g0 : ∃ x, DataW.trod enc Tryd.prog w base spare held n 2 [c0] = some x := ⟨xs[0]'(by rw [hxl]; decide), by have h := hg 0 _ rfl; rw [List.getElem?_eq_getElem (by rw [hxl]; decide)] at h; exact h⟩
 obtain ⟨x0, g0⟩ := g0
 obtain ⟨z0, e0, _, B0⟩ := DataW.trod_int Tryd.underlying2 g0
 simp at e0
 subst e0
 have g1 : ∃ x, DataW.trod enc Tryd.prog w base spare held n 2 [c1] = some x := ⟨xs[1]'(by rw [hxl]; decide), by have h := hg 1 _ rfl; rw [List.getElem?_eq_getElem (by rw [hxl]; decide)] at h; exact h⟩
 obtain ⟨x1, g1⟩ := g1
 obtain ⟨z1, e1, _, B1⟩ := DataW.trod_int Tryd.underlying2 g1
 simp at e1
 subst e1
 have g2 : ∃ x, DataW.trod enc Tryd.prog w base spare held n 2 [c2] = some x := ⟨xs[2]'(by rw [hxl]; decide), by have h := hg 2 _ rfl; rw [List.getElem?_eq_getElem (by rw [hxl]; decide)] at h; exact h⟩
 obtain ⟨x2, g2⟩ := g2
 obtain ⟨z2, e2, _, B2⟩ := DataW.trod_int Tryd.underlying2 g2
 simp at e2
 subst e2
 have g3 : ∃ x, DataW.trod enc Tryd.prog w base spare held n 34 [c3] = some x := ⟨xs[3]'(by rw [hxl]; decide), by have h := hg 3 _ rfl; rw [List.getElem?_eq_getElem (by rw [hxl]; decide)] at h; exact h⟩
 obtain ⟨x3, g3⟩ := g3
 obtain ⟨b3, r3, B3⟩ := read_intsB Tryd.underlying34 Tryd.underlying5 (by kernel_rfl) g3
 have g4 : ∃ x, DataW.trod enc Tryd.prog w base spare held n 117 [c4] = some x := ⟨xs[4]'(by rw [hxl]; decide), by have h := hg 4 _ rfl; rw [List.getElem?_eq_getElem (by rw [hxl]; decide)] at h; exact h⟩
 obtain ⟨x4, g4⟩ := g4
 have iE : Inhabited EHeapRecord := ⟨⟨0, .slice none 0 0, []⟩⟩
 obtain ⟨rs, r4, B4⟩ := read_rows kHeapRecord (fun p => IsI' p.id ∧ IsB p.bs) (by decide) Tryd.underlying117 (by kernel_rfl) (fun n cs x hl h => read_rec n cs x hl h) g4
 have g5 : ∃ x, DataW.trod enc Tryd.prog w base spare held n 2 [c5] = some x := ⟨xs[5]'(by rw [hxl]; decide), by have h := hg 5 _ rfl; rw [List.getElem?_eq_getElem (by rw [hxl]; decide)] at h; exact h⟩
 obtain ⟨x5, g5⟩ := g5
 obtain ⟨z5, e5, _, B5⟩ := DataW.trod_int Tryd.underlying2 g5
 simp at e5
 subst e5
 exact ⟨⟨z0, z1, z2, c3, b3, c4, rs, z5⟩, rfl, r3, r4, ⟨int_bounds B0, int_bounds B1, int_bounds B2, int_bounds B5, fun x hx => by have := B3 x hx; exact ⟨this.1, this.2⟩, B4⟩⟩
theorem open_report {r : Reach} {b0 : Nat} {v : Value} {d : DataW H} {p : List MemPlace} (hv : Value.okWide Tryd.prog w r b0 42 v) (h : DataW.Trod enc Tryd.prog w base spare held 42 v d p) :
  ∃ x : StRep, v = x.val ∧ StRep.rd w x ∧ RepOk x := by
 obtain ⟨cs, rfl, hsz⟩ := okWide_struct Tryd.underlying42 hv
 obtain ⟨c0, c1, c2, c3, c4, c5, c6, c7, c8, rfl⟩ := array9 (hsz.trans (by kernel_rfl))
 obtain ⟨fuel, hf⟩ := h
 obtain ⟨xs, n, _, _, _, hxl, hg⟩ := DataW.trod_struct Tryd.underlying42 hf
 have g0 : ∃ x, DataW.trod enc Tryd.prog w base spare held n 2 [c0] = some x := ⟨xs[0]'(by rw [hxl]; decide), by have h := hg 0 _ rfl; rw [List.getElem?_eq_getElem (by rw [hxl]; decide)] at h; exact h⟩
 obtain ⟨x0, g0⟩ := g0
 obtain ⟨z0, e0, _, B0⟩ := DataW.trod_int Tryd.underlying2 g0
 simp at e0
 subst e0
 have g1 : ∃ x, DataW.trod enc Tryd.prog w base spare held n 33 [c1] = some x := ⟨xs[1]'(by rw [hxl]; decide), by have h := hg 1 _ rfl; rw [List.getElem?_eq_getElem (by rw [hxl]; decide)] at h; exact h⟩
 obtain ⟨x1, g1⟩ := g1
 have iE : Inhabited EAn := ⟨zAn⟩
 obtain ⟨ans, r1, B1⟩ := read_rows kAn (fun p => RdR kHeapRecord w p.rv p.rs ∧ p.ok) (by decide) Tryd.underlying33 (by kernel_rfl) (fun n cs x hl h => read_answer n cs x hl h) g1
 have gd : ∃ x, DataW.trod enc Tryd.prog w base spare held n 37 [c2, c3] = some x := ⟨xs[2]'(by rw [hxl]; decide), by have h := hg 2 _ rfl; rw [List.getElem?_eq_getElem (by rw [hxl]; decide)] at h; exact h⟩
 obtain ⟨xd, gd⟩ := gd
 have gk : ∃ m y0 y1, DataW.trod enc Tryd.prog w base spare held m 34 [c2] = some y0 ∧ DataW.trod enc Tryd.prog w base spare held m 35 [c3] = some y1 := by
  obtain ⟨ys, m, _, _, _, hxl, hg⟩ := DataW.trod_struct Tryd.underlying37 gd
  exact ⟨m, ys[0]'(by rw [hxl]; decide), ys[1]'(by rw [hxl]; decide), by have h := hg 0 _ rfl; rw [List.getElem?_eq_getElem (by rw [hxl]; decide)] at h; exact h, by have h := hg 1 _ rfl; rw [List.getElem?_eq_getElem (by rw [hxl]; decide)] at h; exact h⟩
 obtain ⟨m, y0, y1, k0, k1⟩ := gk
 obtain ⟨dur, rdur, _⟩ := read_intsB Tryd.underlying34 Tryd.underlying5 (by kernel_rfl) k0
 obtain ⟨ps, rps, _⟩ := read_pendB k1
 have g3 : ∃ x, DataW.trod enc Tryd.prog w base spare held n 4 [c4] = some x := ⟨xs[3]'(by rw [hxl]; decide), by have h := hg 3 _ rfl; rw [List.getElem?_eq_getElem (by rw [hxl]; decide)] at h; exact h⟩
 obtain ⟨x3, g3⟩ := g3
 obtain ⟨up, e3, _⟩ := DataW.trod_bool Tryd.underlying4 g3
 simp at e3
 subst e3
 have g4 : ∃ x, DataW.trod enc Tryd.prog w base spare held n 38 [c5] = some x := ⟨xs[4]'(by rw [hxl]; decide), by have h := hg 4 _ rfl; rw [List.getElem?_eq_getElem (by rw [hxl]; decide)] at h; exact h⟩
 obtain ⟨x4, g4⟩ := g4
 have g5 : ∃ x, DataW.trod enc Tryd.prog w base spare held n 39 [c6] = some x := ⟨xs[5]'(by rw [hxl]; decide), by have h := hg 5 _ rfl; rw [List.getElem?_eq_getElem (by rw [hxl]; decide)] at h; exact h⟩
 obtain ⟨x5, g5⟩ := g5
 obtain ⟨lk, rfl, rl, _⟩ := read_flatB (m := 3) (by decide) Tryd.underlying38 (by kernel_rfl) (ints_cellsB 3 Tryd.underlying126 rfl (by kernel_rfl) (fun i f hi => by
  match i, hi with
  | 0, hi => simp at hi; subst hi; exact ⟨rfl, rfl⟩
  | 1, hi => simp at hi; subst hi; exact ⟨rfl, rfl⟩
  | 2, hi => simp at hi; subst hi; exact ⟨rfl, rfl⟩
  | j + 3, hi => simp at hi)) g4
 obtain ⟨hd, rfl, rh, _⟩ := read_flatB (m := 3) (by decide) Tryd.underlying39 (by kernel_rfl) (ints_cellsB 3 Tryd.underlying130 rfl (by kernel_rfl) (fun i f hi => by
  match i, hi with
  | 0, hi => simp at hi; subst hi; exact ⟨rfl, rfl⟩
  | 1, hi => simp at hi; subst hi; exact ⟨rfl, rfl⟩
  | 2, hi => simp at hi; subst hi; exact ⟨rfl, rfl⟩
  | j + 3, hi => simp at hi)) g5
 have g6 : ∃ x, DataW.trod enc Tryd.prog w base spare held n 40 [c7] = some x := ⟨xs[6]'(by rw [hxl]; decide), by have h := hg 6 _ rfl; rw [List.getElem?_eq_getElem (by rw [hxl]; decide)] at h; exact h⟩
 obtain ⟨x6, g6⟩ := g6
 obtain ⟨rm, r6, B6⟩ := read_intsB Tryd.underlying40 Tryd.underlying2 (by kernel_rfl) g6
 obtain ⟨a6, k6, rfl, f6⟩ := r6.flat
 have g7 : ∃ x, DataW.trod enc Tryd.prog w base spare held n 2 [c8] = some x := ⟨xs[7]'(by rw [hxl]; decide), by have h := hg 7 _ rfl; rw [List.getElem?_eq_getElem (by rw [hxl]; decide)] at h; exact h⟩
 obtain ⟨x7, g7⟩ := g7
 obtain ⟨z7, e7, _, B7⟩ := DataW.trod_int Tryd.underlying2 g7
 simp at e7
 subst e7
 exact ⟨⟨z0, c1, ans, c2, c3, dur, ps, up, lk, hd, ⟨0, a6, rm.length, k6, rm⟩, z7⟩, rfl, ⟨⟨r1, fun p hp => (B1 p hp).1⟩, ⟨rdur, rps⟩, rl, rh, f6⟩, ⟨int_bounds B0, int_bounds B7, fun p hp => (B1 p hp).2, fun z hz => by have h := B6 z hz; have e : IntKind.i64.min = -9223372036854775808 := (by decide); rw [e] at h; exact h⟩⟩
end
structure StStep.ln (w : World) (x : StStep) : Prop where
 ok : x.ok
 rd : StStep.rd w x
 dl : x.data.bs.length ≤ 1048576
 kl : x.keep.bs.length ≤ 1048576
 dig : ∀ k ∈ x.keep.bs, k = 0 ∨ k = 1
theorem StStep.ln.same {w w' : World} {x : StStep} (h : StStep.ln w x) (hk : Same w w') : StStep.ln w' x := ⟨h.ok, h.rd.same hk, h.dl, h.kl, h.dig⟩
end Go.Proofs.YtbilnlgjpchgiaaDoor
