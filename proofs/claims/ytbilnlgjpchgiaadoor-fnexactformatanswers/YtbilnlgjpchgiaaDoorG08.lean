import Derived.Test.YtbilnlgjpchgiaaDoorG07
import Derived.Test.YtbilnlgjpchgiaaDoorG06
import Derived.Test.YtbilnlgjpchgiaaDoorG00
import Derived.Test.YtbilnlgjpchgiaaDoorG01
import Derived.Test.YtbilnlgjpchgiaaDoorG02
import Derived.Test.YtbilnlgjpchgiaaDoorCards
import Derived.Test.YtbilnlgjpchgiaaDoorTie
import Derived.Deep.DeepCutAuto
import Derived.ChangeSame
import Derived.ChangeVars
import Derived.JoinedOf
import Derived.RowKit
import Derived.RowKitTokens
import Derived.Stop.Joined
import Derived.SevenTiedAt
namespace Go.Proofs.YtbilnlgjpchgiaaDoor
set_option maxRecDepth 100000
set_option maxHeartbeats 8000000
open Go.RowKit
set_option linter.unusedVariables false
set_option linter.unusedSimpArgs false
theorem implAnswers_any (x : StRep) (w : World) (hok : RepOk x) (h : StRep.rd w x) (hz : x.szs ≤ 1048576) (ht : TabP w) :
    Calls Tryd.prog 14 #[x.val] w fun e w' => e = .returned (.string (Tx (rpT x.fa (datAn x.xs) x.up x.fr x.rm.bs))) ∧ Same w w' := by
  obtain ⟨fa, av, xs, dv0, pv0, dur, ps, up, ⟨le, la, ln, lc, lb⟩, ⟨he, ha, hn, hc, hb⟩, ⟨re, ra, rn, rc, rb⟩, fr⟩ := x
  obtain ⟨ofa, ofr, oan, orm⟩ := hok
  obtain ⟨ran, rdk, rlk, rhd, rrm⟩ := h
  dsimp only at ofa ofr oan orm ran rdk rlk rhd rrm
  obtain ⟨da, dc, rfl⟩ := rdk.dur.form
  obtain ⟨pa, pc, rfl⟩ := rdk.pend.form
  obtain ⟨ka, kc, rfl⟩ := ran.form
  have hnn := sizeAn_nonneg xs
  simp only [StRep.szs] at hz
  dsimp only [StRep.val, FR.v]
  have HAN := hid ran
  have HOK := (show Hid (∀ y ∈ xs, y.ok) from oan)
  have HT := hid ht
  have HSTL := (show Hid (∀ wx, Same w wx → Calls Tryd.prog 45 #[.agg #[.int .i64 fa, .slice ka xs.length kc, .slice da dur.length dc, .slice pa ps.length pc, .bool up, .slice la ln lc, .slice ha hn hc, .slice ra rn rc, .int .i64 fr]] wx fun e w' => e = .returned (.string (Tx (stL up fr rb))) ∧ Same wx w') from fun wx hk => by
    cases up
    · exact stateI_false fa fr ka da pa la ha ra xs.length kc dc pc ln lc hn hc rn rc dur ps re rb wx ofr orm (rrm.same hk) (by omega) (tabP_same ht hk)
    · exact stateI_true fa fr ka da pa la ha ra xs.length kc dc pc ln lc hn hc rn rc dur ps re rb wx ofr orm (rrm.same hk) (by omega) (tabP_same ht hk))
  have HC := (show Hid (∀ k, (h : k < xs.length) → ∃ b off, ka = some ⟨b, off, none⟩ ∧ ∀ i, i < 6 → w.cell? ⟨b, off + (k * 6 + i), none⟩ = (kAn.cells xs[k])[i]?) from fun k h => by
    rcases ran.row.row with ⟨e, a, c, e2⟩ | ⟨b, off, c, e2, hc⟩
    · rw [e] at h; simp at h
    · injection e2 with e2
      exact ⟨b, off, e2, fun i hi => hc k i h hi⟩)
  have HSZ := (show Hid ((xs.length : Int) + sizeAn xs ≤ 1048576 ∧ (rn : Int) ≤ 1048576) from ⟨by omega, by omega⟩)
  have HSLN := (show Hid ((stL up fr rb).length ≤ 30000000) from by
    have key : ∀ qs : List Int, (∀ z ∈ qs, IsI' z) → (qs.flatMap rmT).length ≤ 22 * qs.length := fun qs => by
      induction qs with
      | nil => intro _; simp
      | cons q qs ih =>
        intro h
        have h1 := ih (fun x hx => h x (List.mem_cons_of_mem _ hx))
        have h2 := h q (List.mem_cons_self ..)
        have h3 := itoa_len q h2.1 h2.2
        rw [List.flatMap_cons, List.length_append]
        simp only [rmT, List.length_cons] at h1 ⊢
        omega
    have h1 := key rb orm
    have h2 := itoa_len fr ofr.1 ofr.2
    have h3 : (stL up fr rb).length = (upW up).length + 1 + (Lib.itoa fr).length + (rb.flatMap rmT).length + 1 := by unfold stL; simp only [List.length_append, List.length_cons, List.length_nil]
    have h4 : (upW up).length ≤ 4 := by cases up <;> decide
    have h5 : rb.length = rn := by have := rrm.2.1; dsimp only at this; omega
    unfold Hid
    omega)
  have hxl : xs.length ≤ 1048576 := by omega
  generalize hl : xs.length = len at hxl HAN HSTL ⊢
  have HL := hid hl
  clear hl ran rdk rlk rhd rrm oan orm hz hnn ofr ht
  have HK0 := hid (sameA w [.int .i64 fa, .slice ka len kc, .slice da dur.length dc, .slice pa ps.length pc, .bool up, .slice la ln lc, .slice ha hn hc, .slice ra rn rc, .int .i64 fr] 52)
  have HB0 := hid (Blk.newL w [.int .i64 fa, .slice ka len kc, .slice da dur.length dc, .slice pa ps.length pc, .bool up, .slice la ln lc, .slice ha hn hc, .slice ra rn rc, .int .i64 fr] 52)
  have c0 := HB0.out.cell 0
  dsimp only [List.getElem?_cons_zero, List.getElem?_cons_succ] at c0
  by_cases hf : fa = 0
  case neg =>
    have hf' : (fa != 0) = true := by simpa using hf
    have k0 := fun wx hk => numP_any fa ofa wx (tabP_same HT.out hk)
    have l0 := itoa_len fa ofa.1 ofa.2
    have HE := (show Hid (Lib.join [[102, 97, 117, 108, 116], Lib.itoa fa] [32] ++ [10] = rpT fa (datAn xs) up fr rb) from by
      unfold Hid rpT
      rw [if_pos hf, join2]
      simp)
    obtain ⟨T0, hT0⟩ : ∃ T, Lib.itoa fa = T := ⟨_, rfl⟩
    rw [hT0] at k0 l0 HE
    clear hf hT0
    have HLN := (show Hid (∀ wx : World, Calls Tryd.prog 42 #[.slice (some ⟨wx.heap.size, 0, none⟩) 2 2] (wx.alloc (.cells #[.string ⟨#[102, 97, 117, 108, 116]⟩, .string (Tx T0)] 9)) fun e w' => e = .returned (.string (Tx (Lib.join [[102, 97, 117, 108, 116], T0] [32] ++ [10]))) ∧ Same (wx.alloc (.cells #[.string ⟨#[102, 97, 117, 108, 116]⟩, .string (Tx T0)] 9)) w') from fun wx => by
      have hb := Blk.newL wx (wcs [[102, 97, 117, 108, 116], T0]) 9
      have hn := (show Same wx (wx.alloc (.cells (wcs [[102, 97, 117, 108, 116], T0]).toArray 9)) from (Kept.refl _ _).alloc _)
      refine lineI_any wx.heap.size 0 2 [[102, 97, 117, 108, 116], T0] _ (fun j x hx => ?_) hb.lt (by simp) (by simp) (by rw [join2]; simp only [List.length_append, List.length_cons, List.length_nil]; omega)
      rw [Nat.zero_add]
      refine (hb.cell j).trans ?_
      simp only [wcs, List.getElem?_map, hx]
      rfl)
    go_enter Tryd.func14, Tryd.ntmps14
    go_wp2_with (first
      | (go_at_call 43; (with_reducible refine (k0 _ HK0.out).mono ?_); rintro e w1 ⟨rfl, hk1⟩; have HK1 := hid (HK0.out.trans hk1); have HK2 := hid (HK1.out.alloc (.cells #[.string ⟨#[102, 97, 117, 108, 116]⟩, .string (Tx T0)] 9)); clear hk1 k0)
      | (go_at_call 42; (with_reducible refine (HLN.out _).mono ?_); rintro e w3 ⟨rfl, hk3⟩; have HK3 := hid (HK2.out.trans hk3); clear hk3))
    go_ret
    exact ⟨by rw [HE.out]; rfl, HK3.out⟩
  case pos =>
  subst hf
  have HRP := (show Hid (rpT 0 (datAn xs) up fr rb = (datAn xs).flatMap anL ++ stL up fr rb) from if_neg (by simp))
  clear ofa
  have HBL := hid (Bld.new (w.alloc (.cells ([.int .i64 0, .slice ka len kc, .slice da dur.length dc, .slice pa ps.length pc, .bool up, .slice la ln lc, .slice ha hn hc, .slice ra rn rc, .int .i64 fr]).toArray 52)))
  rw [World.size_alloc] at HBL
  have HK1 := hid (HK0.out.alloc (.cells #[.pointer none, .slice none 0 0] 70))
  have HB1 := hid (HB0.out.alloc (.cells #[.pointer none, .slice none 0 0] 70))
  go_enter Tryd.func14, Tryd.ntmps14
  go_upto_region 4 with fail
  generalize (w.alloc (.cells #[.int .i64 0, .slice ka len kc, .slice da dur.length dc, .slice pa ps.length pc, .bool up, .slice la ln lc, .slice ha hn hc, .slice ra rn rc, .int .i64 fr] 52)).alloc (.cells #[.pointer none, .slice none 0 0] 70) = w1 at HBL HK1 HB1 ⊢
  have r1 := HB1.out.cell 1
  dsimp only [List.getElem?_cons_zero, List.getElem?_cons_succ] at r1
  clear HK0 HB0 c0
  go_wp2
  go_loopw [5, 17] (fun y i wx => ∃ (k : Nat) (L : List UInt8), k ≤ len ∧ i = .int .i64 (k : Int) ∧ Hid (L = (datAn (xs.take k)).flatMap anL ∧ Bld wx (w.heap.size + 1) L ∧ Same w wx ∧ Blk wx w.heap.size 52 [.int .i64 0, .slice ka len kc, .slice da dur.length dc, .slice pa ps.length pc, .bool up, .slice la ln lc, .slice ha hn hc, .slice ra rn rc, .int .i64 fr])) (fun _ i _ => len - (intOf i).toNat)
  case atStart => exact ⟨0, [], Nat.zero_le _, rfl, by simp [datAn], HBL.out, HK1.out, HB1.out⟩
  case round =>
    obtain ⟨k, L, hk, rfl, HI⟩ := hrel
    obtain ⟨hLe, hBf, hKx, hBx⟩ := HI.out
    have HLL := (show Hid ((L.length : Int) ≤ 125829120) from by
      have h1 := lines_len xs HOK.out k
      have h0 := HSZ.out.1
      have h7 := sizeAn_nonneg xs
      have h5 : sizeAn (xs.take k) ≤ sizeAn xs := by
        have e := sizeAn_append (xs.take k) (xs.drop k)
        rw [List.take_append_drop] at e
        have := sizeAn_nonneg (xs.drop k)
        omega
      have h6 : (xs.take k).length ≤ xs.length := by rw [List.length_take]; omega
      rw [← hLe] at h1
      unfold Hid
      omega)
    by_cases hlt : k < len
    · have hlp : k < xs.length := by rw [HL.out]; exact hlt
      have hki : (k : Int) < (len : Int) := by omega
      obtain ⟨b, off, rfl, hc⟩ := HC.out k hlp
      have hrd := (show Rd .u8 w xs[k].dv xs[k].db from HAN.out.row.data _ (List.getElem_mem hlp)).same hKx
      have hrr := (HAN.out.recs _ (List.getElem_mem hlp)).same hKx
      have hokP := HOK.out _ (List.getElem_mem hlp)
      have hszP : xs[k].szs ≤ 1048576 := by have h1 := sizeAn_mem xs _ (List.getElem_mem hlp); have h2 := HSZ.out.1; omega
      have HDT := hid (datAn_take xs k hlp)
      obtain ⟨P, hP⟩ : ∃ P, xs[k] = P := ⟨_, rfl⟩
      rw [hP] at hc hrd hrr hokP HDT hszP
      have hll := anL_len P hokP
      have ka2 : ∀ wx, Same wr wx → Calls Tryd.prog 44 #[.agg #[.int .i64 P.cd, .int .i64 P.tx, .int .i64 P.rid, P.dv, P.rv, .int .i64 P.us]] wx fun e w' => e = .returned (.string (Tx (anL P.dat))) ∧ Same wx w' := fun wx hk2 => answerI_any P wx hokP hszP (hrd.same hk2) (hrr.same hk2) (tabP_same HT.out (hKx.trans hk2))
      obtain ⟨d1, d2, ed⟩ := hrd.form
      obtain ⟨e1, e2, er⟩ := hrr.form
      rw [ed, er] at ka2
      have c0 : wr.cell? ⟨b, off + k * 6, none⟩ = some (.int .i64 P.cd) := hKx.cellOf (p := ⟨b, off + k * 6, none⟩) (hc 0 (by decide)) id
      have c1 : wr.cell? ⟨b, off + k * 6 + 1, none⟩ = some (.int .i64 P.tx) := hKx.cellOf (p := ⟨b, off + k * 6 + 1, none⟩) (by have h := hc 1 (by decide); rw [← Nat.add_assoc] at h; exact h) id
      have c2 : wr.cell? ⟨b, off + k * 6 + 2, none⟩ = some (.int .i64 P.rid) := hKx.cellOf (p := ⟨b, off + k * 6 + 2, none⟩) (by have h := hc 2 (by decide); rw [← Nat.add_assoc] at h; exact h) id
      have c3 : wr.cell? ⟨b, off + k * 6 + 3, none⟩ = some (.slice d1 P.db.length d2) := hKx.cellOf (p := ⟨b, off + k * 6 + 3, none⟩) (by have h := hc 3 (by decide); rw [← Nat.add_assoc] at h; exact h.trans (congrArg some ed)) id
      have c4 : wr.cell? ⟨b, off + k * 6 + 4, none⟩ = some (.slice e1 P.rs.length e2) := hKx.cellOf (p := ⟨b, off + k * 6 + 4, none⟩) (by have h := hc 4 (by decide); rw [← Nat.add_assoc] at h; exact h.trans (congrArg some er)) id
      have c5 : wr.cell? ⟨b, off + k * 6 + 5, none⟩ = some (.int .i64 P.us) := hKx.cellOf (p := ⟨b, off + k * 6 + 5, none⟩) (by have h := hc 5 (by decide); rw [← Nat.add_assoc] at h; exact h) id
      have HFL := (show Hid (L ++ anL P.dat = (datAn (xs.take (k + 1))).flatMap anL) from by unfold Hid; rw [HDT.out, List.flatMap_append, ← hLe]; simp)
      have HML := (show Hid (((anL P.dat).length : Int) ≤ 60000000) from by unfold Hid; omega)
      obtain ⟨M, hM⟩ : ∃ M, anL P.dat = M := ⟨_, rfl⟩
      rw [hM] at ka2 HFL HML
      have HBf := hid hBf
      have HKx := hid hKx
      have HBx := hid hBx
      clear hc hrd hrr hokP hP hM hLe hBf hKx hBx hll ed er hszP
      have HS8 := hid (sameA wr [.int .i64 P.cd, .int .i64 P.tx, .int .i64 P.rid, .slice d1 P.db.length d2, .slice e1 P.rs.length e2, .int .i64 P.us] 85)
      go_upto_region 7 with fail
      go_wp2_with (first
        | (go_at_call 44; (with_reducible refine (ka2 _ HS8.out).mono ?_); rintro e w7 ⟨rfl, hk7⟩; have HS7 := hid (HS8.out.trans hk7); have HK7 := hid (HKx.out.trans HS7.out); have HL7 := hid (HBf.out.same HS7.out); have HX7 := hid (HBx.out.same HS7.out); clear hk7 ka2 c0 c1 c2 c3 c4 c5)
        | (go_at_call 26; (with_reducible refine (writeB_any (w.heap.size + 1) L M _ HL7.out (by have := HLL.out; have := HML.out; omega)).mono ?_); rintro e w9 ⟨rfl, hb9, hk9⟩; have HK9 := hid (same_from HK7.out hk9 (by omega)); have HX9 := hid (HX7.out.kept hk9 (by omega)); have HL9 := hid hb9; clear hb9 hk9))
      go_roundw
      case rel => exact ⟨k + 1, L ++ M, by omega, by go_num, HFL.out, HL9.out, HK9.out, HX9.out⟩
      case measure => simp [intOf]; omega
    · have hge2 : ¬ (k : Int) < (len : Int) := by omega
      have hkl : k = xs.length := by have := HL.out; omega
      obtain ⟨c0, c1, c2, c3, c4, c5, c6, c7, c8⟩ := hBx.all9
      have HFIN := (show Hid (L ++ stL up fr rb = rpT 0 (datAn xs) up fr rb) from by unfold Hid; rw [HRP.out, hLe, hkl, List.take_length])
      have kst := HSTL.out wr hKx
      obtain ⟨ST, hST⟩ : ∃ S, stL up fr rb = S := ⟨_, rfl⟩
      rw [hST] at kst HFIN HSLN
      have HBf := hid hBf
      have HKx := hid hKx
      clear hLe hBf hKx hBx hkl hST
      go_wp2_with (first
        | (go_at_call 45; (with_reducible refine kst.mono ?_); rintro e w7 ⟨rfl, hk7⟩; have HK7 := hid (HKx.out.trans hk7); have HL7 := hid (HBf.out.same hk7); clear hk7 kst c0 c1 c2 c3 c4 c5 c6 c7 c8)
        | (go_at_call 26; (with_reducible refine (writeB_any (w.heap.size + 1) L ST _ HL7.out (by have := HLL.out; have := HSLN.out; omega)).mono ?_); rintro e w9 ⟨rfl, hb9, hk9⟩; have HK9 := hid (same_from HK7.out hk9 (by omega)); have HL9 := hid hb9; clear hb9 hk9)
        | (go_at_call 29; (with_reducible refine (strB_any (w.heap.size + 1) (L ++ ST) _ HL9.out).mono ?_); rintro e w10 ⟨rfl, hk10⟩; have HK10 := hid (same_from HK9.out hk10 (by omega)); clear hk10))
      go_ret
      exact ⟨by rw [HFIN.out]; rfl, HK10.out⟩
end Go.Proofs.YtbilnlgjpchgiaaDoor

namespace Go.Proofs.YtbilnlgjpchgiaaDoor
set_option maxRecDepth 100000
set_option maxHeartbeats 16000000
open Go.RowKit
set_option linter.unusedVariables false
set_option linter.unusedSimpArgs false
theorem rec_dat {r q : EHeapRecord} (h : (r.id, r.bs) = (q.id, q.bs)) (hq : IsI' q.id ∧ IsB q.bs) : IsI' r.id ∧ IsB r.bs := by
  obtain ⟨h1, h2⟩ := Prod.mk.injEq .. ▸ h
  rw [h1, h2]
  exact hq
theorem EAn.ok_dat {x y : EAn} (h : x.dat = y.dat) (hy : y.ok) : x.ok := by
  simp only [EAn.dat, Prod.mk.injEq] at h
  obtain ⟨h1, h2, h3, h4, h5, h6⟩ := h
  obtain ⟨k1, k2, k3, k4, k5, k6⟩ := hy
  refine ⟨by rw [h1]; exact k1, by rw [h2]; exact k2, by rw [h3]; exact k3, by rw [h6]; exact k4, by rw [h4]; exact k5, fun r hr => ?_⟩
  have h7 : (r.id, r.bs) ∈ datHeapRecordS y.rs := by rw [← h5]; exact List.mem_map.2 ⟨r, hr, rfl⟩
  obtain ⟨q, hq, e⟩ := List.mem_map.1 h7
  exact rec_dat e.symm (k6 q hq)
theorem RepOk.dat {x y : StRep} (h : y.dat = x.dat) (hx : RepOk x) : RepOk y := by
  simp only [StRep.dat, Prod.mk.injEq] at h
  obtain ⟨h1, h2, _, _, _, _, _, h8, h9⟩ := h
  obtain ⟨k1, k2, k3, k4⟩ := hx
  refine ⟨by rw [h1]; exact k1, by rw [h9]; exact k2, fun z hz => ?_, by rw [h8]; exact k4⟩
  have h7 : z.dat ∈ datAn x.xs := by rw [← h2]; exact List.mem_map.2 ⟨z, hz, rfl⟩
  obtain ⟨q, hq, e⟩ := List.mem_map.1 h7
  exact EAn.ok_dat e.symm (k3 q hq)
theorem rpT_dat {x y : StRep} (h : y.dat = x.dat) : rpT y.fa (datAn y.xs) y.up y.fr y.rm.bs = rpT x.fa (datAn x.xs) x.up x.fr x.rm.bs := by
  simp only [StRep.dat, Prod.mk.injEq] at h
  obtain ⟨h1, h2, _, _, h5, _, _, h8, h9⟩ := h
  rw [h1, h2, h5, h8, h9]
theorem StRep.rd.form {w : World} {x : StRep} (h : StRep.rd w x) : ∃ fa a1 n1 c1 a2 n2 c2 a3 n3 c3 up a5 n5 c5 a6 n6 c6 a7 n7 c7 fr, x.val = .agg #[.int .i64 fa, .slice a1 n1 c1, .slice a2 n2 c2, .slice a3 n3 c3, .bool up, .slice a5 n5 c5, .slice a6 n6 c6, .slice a7 n7 c7, .int .i64 fr] := by
  obtain ⟨fa, av, xs, dv, pv, dur, ps, up, ⟨le, la, ln, lc, lb⟩, ⟨he, ha, hn, hc, hb⟩, ⟨re, ra, rn, rc, rb⟩, fr⟩ := x
  obtain ⟨ran, rdk, rlk, rhd, rrm⟩ := h
  dsimp only at ran rdk
  obtain ⟨ka, kc, rfl⟩ := ran.form
  obtain ⟨da, dc, rfl⟩ := rdk.dur.form
  obtain ⟨pa, pc, rfl⟩ := rdk.pend.form
  exact ⟨_, _, _, _, _, _, _, _, _, _, _, _, _, _, _, _, _, _, _, _, _, rfl⟩
theorem formatAnswers_law (x : StRep) (w : World) (hv : StRep.rd w x) (hok : RepOk x) (ht : TabP w) :
    Calls Tryd.prog 4 #[x.val] w fun e w' => e = .returned (.bool true) ∧ Same w w' := by
  obtain ⟨fa, a1, n1, c1, a2, n2, c2, a3, n3, c3, up, a5, n5, c5, a6, n6, c6, a7, n7, c7, fr, hX⟩ := hv.form
  have kz := fun wx hk => szReport_any x 1048576 wx (by omega) (by omega) (hv.same hk)
  rw [hX] at kz ⊢
  have HK0 := hid (sameA w [.int .i64 fa, .slice a1 n1 c1, .slice a2 n2 c2, .slice a3 n3 c3, .bool up, .slice a5 n5 c5, .slice a6 n6 c6, .slice a7 n7 c7, .int .i64 fr] 42)
  have b0 := Blk.newL w [.int .i64 fa, .slice a1 n1 c1, .slice a2 n2 c2, .slice a3 n3 c3, .bool up, .slice a5 n5 c5, .slice a6 n6 c6, .slice a7 n7 c7, .int .i64 fr] 42
  have HB0 := hid b0
  have d0 := b0.cell 0
  have d1 := b0.cell 1
  have d2 := b0.cell 2
  have d3 := b0.cell 3
  have d4 := b0.cell 4
  have d5 := b0.cell 5
  have d6 := b0.cell 6
  have d7 := b0.cell 7
  have d8 := b0.cell 8
  dsimp only [List.getElem?_cons_zero, List.getElem?_cons_succ] at d0 d1 d2 d3 d4 d5 d6 d7 d8
  clear b0
  have HX := hid hX
  have HV := hid hv
  have HOK := hid hok
  have HT := hid ht
  clear hok ht hv hX
  go_enter Tryd.func4, Tryd.ntmps4
  go_wp2_with fail
  refine (kz _ HK0.out).mono ?_
  rintro e w1 ⟨r, rfl, hr, hk1⟩
  have HK1 := hid (HK0.out.trans hk1)
  have HB1 := hid (HB0.out.same hk1)
  clear hk1 kz d0 d1 d2 d3 d4 d5 d6 d7 d8
  rcases hr with rfl | ⟨hr, hr0⟩
  · go_wp2
    go_ret
    exact ⟨rfl, HK1.out⟩
  have hn : x.szs ≤ 1048576 := by omega
  have HN := (show Hid (x.szs ≤ 1048576) from hn)
  have hr1 : ¬ r < 0 := by omega
  clear hr hn
  have kt := (show ∀ wx, Same w wx → Calls Tryd.prog 13 #[.agg #[.int .i64 fa, .slice a1 n1 c1, .slice a2 n2 c2, .slice a3 n3 c3, .bool up, .slice a5 n5 c5, .slice a6 n6 c6, .slice a7 n7 c7, .int .i64 fr]] wx fun e w' => ∃ y : StRep, e = .returned y.val ∧ y.dat = x.dat ∧ y.szs = x.szs ∧ StRep.own w' y ∧ Same wx w' from fun wx hk => by
    have h := toReport_any x wx HN.out (HV.out.same hk)
    rw [HX.out] at h
    exact h)
  obtain ⟨S, hS⟩ : ∃ S, rpT x.fa (datAn x.xs) x.up x.fr x.rm.bs = S := ⟨_, rfl⟩
  have HS := hid hS
  clear hS
  have ks := (show ∀ wx (y : StRep), y.dat = x.dat → y.szs = x.szs → StRep.rd wx y → Calls Tryd.prog 12 #[y.val] wx fun e w' => e = .returned (.string (Tx S)) ∧ Same wx w' from fun wx y h1 h2 h3 => by
    have h := specAnswers_any y wx (RepOk.dat h1 HOK.out) h3 (by rw [h2]; exact HN.out)
    rw [rpT_dat h1, HS.out] at h
    exact h)
  have ki := (show ∀ wx (y : StRep), y.dat = x.dat → y.szs = x.szs → StRep.rd wx y → Same w wx → Calls Tryd.prog 14 #[y.val] wx fun e w' => e = .returned (.string (Tx S)) ∧ Same wx w' from fun wx y h1 h2 h3 hk => by
    have h := implAnswers_any y wx (RepOk.dat h1 HOK.out) h3 (by rw [h2]; exact HN.out) (tabP_same HT.out hk)
    rw [rpT_dat h1, HS.out] at h
    exact h)
  have d0 := HB1.out.cell 0
  have d1 := HB1.out.cell 1
  have d2 := HB1.out.cell 2
  have d3 := HB1.out.cell 3
  have d4 := HB1.out.cell 4
  have d5 := HB1.out.cell 5
  have d6 := HB1.out.cell 6
  have d7 := HB1.out.cell 7
  have d8 := HB1.out.cell 8
  dsimp only [List.getElem?_cons_zero, List.getElem?_cons_succ] at d0 d1 d2 d3 d4 d5 d6 d7 d8
  go_wp2_with fail
  refine (kt _ HK1.out).mono ?_
  rintro e w2 ⟨y2, rfl, hd2, hz2, ho2, hk2⟩
  have HK2 := hid (HK1.out.trans hk2)
  have HB2 := hid (HB1.out.same hk2)
  clear d0 d1 d2 d3 d4 d5 d6 d7 d8
  have k2 := ks _ y2 hd2 hz2 ho2.rd
  obtain ⟨Y2, hY2⟩ : ∃ Y, y2.val = Y := ⟨_, rfl⟩
  rw [hY2] at k2 ⊢
  clear hk2 hd2 hz2 ho2 ks hY2
  go_wp2_with fail
  refine k2.mono ?_
  rintro e w3 ⟨rfl, hk3⟩
  have HK3 := hid (HK2.out.trans hk3)
  have HB3 := hid (HB2.out.same hk3)
  clear hk3 k2
  have d0 := HB3.out.cell 0
  have d1 := HB3.out.cell 1
  have d2 := HB3.out.cell 2
  have d3 := HB3.out.cell 3
  have d4 := HB3.out.cell 4
  have d5 := HB3.out.cell 5
  have d6 := HB3.out.cell 6
  have d7 := HB3.out.cell 7
  have d8 := HB3.out.cell 8
  dsimp only [List.getElem?_cons_zero, List.getElem?_cons_succ] at d0 d1 d2 d3 d4 d5 d6 d7 d8
  go_wp2_with fail
  refine (kt _ HK3.out).mono ?_
  rintro e w4 ⟨y4, rfl, hd4, hz4, ho4, hk4⟩
  have HK4 := hid (HK3.out.trans hk4)
  have HB4 := hid (HB3.out.same hk4)
  clear d0 d1 d2 d3 d4 d5 d6 d7 d8
  have HD4 := hid hd4
  have HZ4 := hid hz4
  have HO4 := hid ho4
  obtain ⟨ga, e1, m1, q1, e2, m2, q2, e3, m3, q3, gp, e5, m5, q5, e6, m6, q6, e7, m7, q7, gr, hY4⟩ := ho4.rd.form
  have hka := sameA w4 [.int .i64 ga, .slice e1 m1 q1, .slice e2 m2 q2, .slice e3 m3 q3, .bool gp, .slice e5 m5 q5, .slice e6 m6 q6, .slice e7 m7 q7, .int .i64 gr] 52
  have HKA := hid hka
  have HBA := hid (HB4.out.same hka)
  have HXA := hid (Blk.newL w4 [.int .i64 ga, .slice e1 m1 q1, .slice e2 m2 q2, .slice e3 m3 q3, .bool gp, .slice e5 m5 q5, .slice e6 m6 q6, .slice e7 m7 q7, .int .i64 gr] 52)
  have HOA := hid (ho4.same hka)
  have k4 := ki _ y4 hd4 hz4 (ho4.same hka).rd (HK4.out.trans hka)
  rw [hY4] at k4 ⊢
  have HY4 := hid hY4
  clear hk4 hd4 hz4 ho4 ki hY4 hka
  go_wp2_with fail
  refine k4.mono ?_
  rintro e w5 ⟨rfl, hk5⟩
  have HK5 := hid ((HK4.out.trans HKA.out).trans hk5)
  have HB5 := hid (HBA.out.same hk5)
  have HX5 := hid (HXA.out.same hk5)
  have HO5 := hid (HOA.out.same hk5)
  clear hk5 k4
  go_wp2_with fail
  refine wp_region_V (fun wx : World => wx.cell? ⟨w4.heap.size, 0, none⟩ = some (.int .i64 ga) ∧ wx.cell? ⟨w4.heap.size, 1, none⟩ = some (.slice e1 m1 q1) ∧ wx.cell? ⟨w4.heap.size, 2, none⟩ = some (.slice e2 m2 q2) ∧ wx.cell? ⟨w4.heap.size, 3, none⟩ = some (.slice e3 m3 q3) ∧ wx.cell? ⟨w4.heap.size, 4, none⟩ = some (.bool gp) ∧ wx.cell? ⟨w4.heap.size, 5, none⟩ = some (.slice e5 m5 q5) ∧ wx.cell? ⟨w4.heap.size, 6, none⟩ = some (.slice e6 m6 q6) ∧ wx.cell? ⟨w4.heap.size, 7, none⟩ = some (.slice e7 m7 q7) ∧ wx.cell? ⟨w4.heap.size, 8, none⟩ = some (.int .i64 gr) ∧ wx.cell? ⟨w.heap.size, 0, none⟩ = some (.int .i64 fa) ∧ wx.cell? ⟨w.heap.size, 1, none⟩ = some (.slice a1 n1 c1) ∧ wx.cell? ⟨w.heap.size, 2, none⟩ = some (.slice a2 n2 c2) ∧ wx.cell? ⟨w.heap.size, 3, none⟩ = some (.slice a3 n3 c3) ∧ wx.cell? ⟨w.heap.size, 4, none⟩ = some (.bool up) ∧ wx.cell? ⟨w.heap.size, 5, none⟩ = some (.slice a5 n5 c5) ∧ wx.cell? ⟨w.heap.size, 6, none⟩ = some (.slice a6 n6 c6) ∧ wx.cell? ⟨w.heap.size, 7, none⟩ = some (.slice a7 n7 c7) ∧ wx.cell? ⟨w.heap.size, 8, none⟩ = some (.int .i64 fr)) 99 5 rfl (by kernel_rfl) ?_
  generalize hwd : World.drew w5 = w6
  have hk : Same w5 w6 := by rw [← hwd]; exact (Kept.refl _ _).drew
  clear hwd
  have HK6 := hid (HK5.out.trans hk)
  have HB6 := hid (HB5.out.same hk)
  have HX6 := hid (HX5.out.same hk)
  have HO6 := hid (HO5.out.same hk)
  clear hk
  have hS : (fun wx : World => wx.cell? ⟨w4.heap.size, 0, none⟩ = some (.int .i64 ga) ∧ wx.cell? ⟨w4.heap.size, 1, none⟩ = some (.slice e1 m1 q1) ∧ wx.cell? ⟨w4.heap.size, 2, none⟩ = some (.slice e2 m2 q2) ∧ wx.cell? ⟨w4.heap.size, 3, none⟩ = some (.slice e3 m3 q3) ∧ wx.cell? ⟨w4.heap.size, 4, none⟩ = some (.bool gp) ∧ wx.cell? ⟨w4.heap.size, 5, none⟩ = some (.slice e5 m5 q5) ∧ wx.cell? ⟨w4.heap.size, 6, none⟩ = some (.slice e6 m6 q6) ∧ wx.cell? ⟨w4.heap.size, 7, none⟩ = some (.slice e7 m7 q7) ∧ wx.cell? ⟨w4.heap.size, 8, none⟩ = some (.int .i64 gr) ∧ wx.cell? ⟨w.heap.size, 0, none⟩ = some (.int .i64 fa) ∧ wx.cell? ⟨w.heap.size, 1, none⟩ = some (.slice a1 n1 c1) ∧ wx.cell? ⟨w.heap.size, 2, none⟩ = some (.slice a2 n2 c2) ∧ wx.cell? ⟨w.heap.size, 3, none⟩ = some (.slice a3 n3 c3) ∧ wx.cell? ⟨w.heap.size, 4, none⟩ = some (.bool up) ∧ wx.cell? ⟨w.heap.size, 5, none⟩ = some (.slice a5 n5 c5) ∧ wx.cell? ⟨w.heap.size, 6, none⟩ = some (.slice a6 n6 c6) ∧ wx.cell? ⟨w.heap.size, 7, none⟩ = some (.slice a7 n7 c7) ∧ wx.cell? ⟨w.heap.size, 8, none⟩ = some (.int .i64 fr)) w6 := ⟨HX6.out.cell 0, HX6.out.cell 1, HX6.out.cell 2, HX6.out.cell 3, HX6.out.cell 4, HX6.out.cell 5, HX6.out.cell 6, HX6.out.cell 7, HX6.out.cell 8, HB6.out.cell 0, HB6.out.cell 1, HB6.out.cell 2, HB6.out.cell 3, HB6.out.cell 4, HB6.out.cell 5, HB6.out.cell 6, HB6.out.cell 7, HB6.out.cell 8⟩
  refine tk 0 22 hS ?_
  refine tk 1 23 hS ?_
  refine wpAnyV_one (i := 2) (by kernel_rfl) rfl (fun K hK => ?_)
  go_simp
  refine (kt _ HK6.out).mono ?_
  rintro e w7 ⟨y6, rfl, hd6, hz6, ho6, hk⟩
  have HK7 := hid (HK6.out.trans hk)
  have HB7 := hid (HB6.out.same hk)
  have HX7 := hid (HX6.out.same hk)
  have ke := eqReport_own y4 y6 w7 (by rw [HZ4.out]; exact HN.out) (by rw [hz6]; exact HN.out) (by rw [HD4.out, hd6]) (HO6.out.same hk) ho6
  rw [HY4.out] at ke
  obtain ⟨Y6, hY6⟩ : ∃ Y, y6.val = Y := ⟨_, rfl⟩
  rw [hY6] at ke ⊢
  clear hk hd6 hz6 ho6 hY6
  have hS : (fun wx : World => wx.cell? ⟨w4.heap.size, 0, none⟩ = some (.int .i64 ga) ∧ wx.cell? ⟨w4.heap.size, 1, none⟩ = some (.slice e1 m1 q1) ∧ wx.cell? ⟨w4.heap.size, 2, none⟩ = some (.slice e2 m2 q2) ∧ wx.cell? ⟨w4.heap.size, 3, none⟩ = some (.slice e3 m3 q3) ∧ wx.cell? ⟨w4.heap.size, 4, none⟩ = some (.bool gp) ∧ wx.cell? ⟨w4.heap.size, 5, none⟩ = some (.slice e5 m5 q5) ∧ wx.cell? ⟨w4.heap.size, 6, none⟩ = some (.slice e6 m6 q6) ∧ wx.cell? ⟨w4.heap.size, 7, none⟩ = some (.slice e7 m7 q7) ∧ wx.cell? ⟨w4.heap.size, 8, none⟩ = some (.int .i64 gr) ∧ wx.cell? ⟨w.heap.size, 0, none⟩ = some (.int .i64 fa) ∧ wx.cell? ⟨w.heap.size, 1, none⟩ = some (.slice a1 n1 c1) ∧ wx.cell? ⟨w.heap.size, 2, none⟩ = some (.slice a2 n2 c2) ∧ wx.cell? ⟨w.heap.size, 3, none⟩ = some (.slice a3 n3 c3) ∧ wx.cell? ⟨w.heap.size, 4, none⟩ = some (.bool up) ∧ wx.cell? ⟨w.heap.size, 5, none⟩ = some (.slice a5 n5 c5) ∧ wx.cell? ⟨w.heap.size, 6, none⟩ = some (.slice a6 n6 c6) ∧ wx.cell? ⟨w.heap.size, 7, none⟩ = some (.slice a7 n7 c7) ∧ wx.cell? ⟨w.heap.size, 8, none⟩ = some (.int .i64 fr)) w7 := ⟨HX7.out.cell 0, HX7.out.cell 1, HX7.out.cell 2, HX7.out.cell 3, HX7.out.cell 4, HX7.out.cell 5, HX7.out.cell 6, HX7.out.cell 7, HX7.out.cell 8, HB7.out.cell 0, HB7.out.cell 1, HB7.out.cell 2, HB7.out.cell 3, HB7.out.cell 4, HB7.out.cell 5, HB7.out.cell 6, HB7.out.cell 7, HB7.out.cell 8⟩
  refine hK.out _ _ (fun _ => hS) ?_
  clear hK K
  try simp only [Act.put, sA, s0, sS]
  refine wpAnyV_one (i := 3) (by kernel_rfl) rfl (fun K hK => ?_)
  go_simp
  refine ke.mono ?_
  rintro e w8 ⟨rfl, hk⟩
  have HK8 := hid (HK7.out.trans hk)
  have HB8 := hid (HB7.out.same hk)
  have HX8 := hid (HX7.out.same hk)
  clear hk ke
  have hS : (fun wx : World => wx.cell? ⟨w4.heap.size, 0, none⟩ = some (.int .i64 ga) ∧ wx.cell? ⟨w4.heap.size, 1, none⟩ = some (.slice e1 m1 q1) ∧ wx.cell? ⟨w4.heap.size, 2, none⟩ = some (.slice e2 m2 q2) ∧ wx.cell? ⟨w4.heap.size, 3, none⟩ = some (.slice e3 m3 q3) ∧ wx.cell? ⟨w4.heap.size, 4, none⟩ = some (.bool gp) ∧ wx.cell? ⟨w4.heap.size, 5, none⟩ = some (.slice e5 m5 q5) ∧ wx.cell? ⟨w4.heap.size, 6, none⟩ = some (.slice e6 m6 q6) ∧ wx.cell? ⟨w4.heap.size, 7, none⟩ = some (.slice e7 m7 q7) ∧ wx.cell? ⟨w4.heap.size, 8, none⟩ = some (.int .i64 gr) ∧ wx.cell? ⟨w.heap.size, 0, none⟩ = some (.int .i64 fa) ∧ wx.cell? ⟨w.heap.size, 1, none⟩ = some (.slice a1 n1 c1) ∧ wx.cell? ⟨w.heap.size, 2, none⟩ = some (.slice a2 n2 c2) ∧ wx.cell? ⟨w.heap.size, 3, none⟩ = some (.slice a3 n3 c3) ∧ wx.cell? ⟨w.heap.size, 4, none⟩ = some (.bool up) ∧ wx.cell? ⟨w.heap.size, 5, none⟩ = some (.slice a5 n5 c5) ∧ wx.cell? ⟨w.heap.size, 6, none⟩ = some (.slice a6 n6 c6) ∧ wx.cell? ⟨w.heap.size, 7, none⟩ = some (.slice a7 n7 c7) ∧ wx.cell? ⟨w.heap.size, 8, none⟩ = some (.int .i64 fr)) w8 := ⟨HX8.out.cell 0, HX8.out.cell 1, HX8.out.cell 2, HX8.out.cell 3, HX8.out.cell 4, HX8.out.cell 5, HX8.out.cell 6, HX8.out.cell 7, HX8.out.cell 8, HB8.out.cell 0, HB8.out.cell 1, HB8.out.cell 2, HB8.out.cell 3, HB8.out.cell 4, HB8.out.cell 5, HB8.out.cell 6, HB8.out.cell 7, HB8.out.cell 8⟩
  refine hK.out _ _ (fun _ => hS) ?_
  clear hK K
  try simp only [Act.put, sA, s0, sS]
  refine tk 4 26 hS ?_
  refine wpAnyV_done (by kernel_rfl) ?_
  clear hS
  go_wp2
  go_ret
  exact ⟨rfl, HK8.out⟩
end Go.Proofs.YtbilnlgjpchgiaaDoor

namespace Go.Proofs.YtbilnlgjpchgiaaDoor.fnExactFormatAnswers
open Go.ChangeShapes Go.WideShapes Go.ChangeAt Go.RowKit
set_option linter.unusedVariables false
set_option maxRecDepth 100000 in
theorem tabP_of {W : World} (h : laidMet Tryd.prog [lt0, lt1, lt2] W) : TabP W := by
  have h2 : laidMet Tryd.prog [("internal/strconv.uint64pow10", Lib.tabData .u64 Lib.pow10Tab)] W := by rw [← powData]; exact h.tail.tail
  exact Lib.tabIs_of_head gnPow (by kernel_rfl) (t := 187) Tryd.underlying187 Tryd.underlying167 (by kernel_rfl) (by kernel_rfl) h2
theorem own : ownKnob Tryd.prog.godebug = none := by kernel_rfl
theorem laidOut : laidOutB Tryd.prog = true := by kernel_rfl
set_option maxRecDepth 100000 in
theorem door_met (os : Os) (args : Array Value) : laidMetH Tryd.prog [lt0, lt1, lt2] ((World.doorLaid Tryd.prog 400 os).forCall (fun _ _ => 0) ⟨#[], args, []⟩).memory :=
  laidMetH_of_parts3 (fuel := 8) (laidMet_of_run' 8 (by kernel_rfl) (by kernel_rfl)) (by kernel_rfl) (by kernel_rfl)
set_option maxRecDepth 100000 in
theorem lifted (os : Os) (started : os.Started) (H : Type) (enc : TypeId × Value → H) :
    ReturnsInHanded {} Tryd.checked os 4 .any (fun w args => (Rows.fnExactFormatAnswersSpec.pre enc Tryd.prog Tryd.f4 [] false w args ∧ laidMetH Tryd.prog [lt0, lt1, lt2] w) ∧ sizedMet enc Tryd.prog Tryd.f4 (OpenSpec.ofChange Rows.fnExactFormatAnswersSpec) false w args)
      (Rows.fnExactFormatAnswersSpec.post enc Tryd.prog Tryd.f4 false true false false) := by
  refine returnsInHanded_of_change_and (C := Tryd.checked) (X := fun w _ => laidMetH Tryd.prog [lt0, lt1, lt2] w) (fun _ _ _ hh h => h.of_heap hh) own started (by kernel_rfl) Tryd.func4
    (ChangeSpec.witness_shaped (enc := enc) (C := Tryd.checked) (os := os) (X := fun w _ => laidMetH Tryd.prog [lt0, lt1, lt2] w) false (World.doorLaid Tryd.prog 400 os) #[.agg #[.int .i64 0, .slice none 0 0, .slice none 0 0, .slice none 0 0, .bool false, .slice none 0 0, .slice none 0 0, .slice none 0 0, .int .i64 0]] 8 rfl (World.shaped_of_RefB (by kernel_rfl) (by kernel_rfl)) (by kernel_rfl) (by kernel_rfl) (by kernel_rfl) (door_met os _)) ?_
  intro W base args ds gs before hval0 hW _ _ hL _
  have hval : ∀ (j : Nat) t v, Tryd.f4.params[j]? = some t → args[j]? = some v → Value.okWide Tryd.prog W .any base t v := hval0
  have hW' := hW
  obtain ⟨p, q, hA0, hV0, rfl, hfz, hnd⟩ := hW
  have hA : DataW.TrodAll enc Tryd.prog W 0 (fun _ => true) true Tryd.f4.params.toList args.toList ds p := hA0
  have hL' : laidMet Tryd.prog [lt0, lt1, lt2] W := hL
  rw [Tryd.params4] at hA hval
  obtain ⟨v0, vs0, d0, ds0, p0, q0, hargs, rfl, rfl, h0, r0⟩ := trodAll_cons hA
  obtain ⟨rfl, rfl, rfl⟩ := trodAll_nil r0
  obtain rfl : args = #[v0] := by cases args; simp_all
  obtain ⟨rfl, rfl⟩ := trodVars_none hV0
  have k0 := h0
  have lt0' : ∀ x ∈ p0, x.block < W.heap.size := by obtain ⟨m, hm⟩ := k0; exact DataW.trod_lt m _ _ _ hm
  obtain ⟨x, rfl, rd, ok⟩ := open_report (hval 0 42 v0 rfl rfl) h0
  clear hA0 hval0
  refine (formatAnswers_law x W rd ok (tabP_of hL')).mono fun ex W' ⟨he, hk⟩ => ?_
  have bel : Below W.heap.size W W' := hk.below (Nat.le_refl _) (fun _ _ => id)
  subst he
  exact ⟨_, rfl, _, _, _, [], _, [], hW', trodAll_mk1 (shut_bool Tryd.underlying4 _), (trodAll_cons_mk (Below.trod laidOut (by kernel_rfl) (of_decide_eq_true (by kernel_rfl)) k0 bel lt0') trodAll_mk0), rfl, bel.frame _, fun h => by cases h⟩
theorem over : Rows.fnExactFormatAnswersRow.holds Tryd.pinned (OpenSpec.ofChange Rows.fnExactFormatAnswersSpec) :=
  OpenClaim.holds_of_wide 4 Tryd.f4 rfl rfl rfl rfl rfl rfl rfl ⟨rfl, rfl, rfl, rfl, rfl⟩ rfl rfl rfl rfl rfl (by kernel_rfl) Tryd.func4 (by kernel_rfl)
    (of_decide_eq_true (by kernel_rfl)) (by unfold Func.isWrapper; first | (rw [if_pos (by decide +kernel)]; kernel_rfl) | (rw [if_neg (by decide +kernel)]; exact ⟨rfl, rfl⟩))
    (fun os started H enc _ => lifted os started H enc)
end Go.Proofs.YtbilnlgjpchgiaaDoor.fnExactFormatAnswers
namespace Go.Proofs.YtbilnlgjpchgiaaDoor
open Go
theorem formatAnswers_proved : Rows.FnExactFormatAnswersCardSaid :=
  Claim7.holds_tied_plain_at .later [] [.data, .data, .data] true Rows.fnExactFormatAnswersCard.stood.harness false
    fnExactFormatAnswers.over (fun _ h => by cases h) (by kernel_rfl) (fun _ h => by cases h) fnExactFormatAnswers_row_tie rfl ⟨rfl, rfl⟩ (by kernel_rfl) rfl
    (fun f fn hf hfn => by
      obtain rfl : f = 4 := Option.some.inj ((show Tryd.prog.funcNamed "loop.example/s02544/laws.FnExactFormatAnswers" = some 4 by kernel_rfl).symm.trans hf) |>.symm
      obtain rfl : fn = Tryd.f4 := (Option.some.inj (Tryd.func4.symm.trans hfn)).symm
      exact ⟨by kernel_rfl, fun j t ht => by
        rw [Tryd.params4] at ht
        have h3 : t = 42 := by
          rcases j with _ | j
          · simpa using ht.symm
          · simp at ht
        subst h3
        exact (show Tryd.prog.wantsStandIn 42 = false by kernel_rfl)⟩)
    (by kernel_rfl)
#print axioms formatAnswers_proved
end Go.Proofs.YtbilnlgjpchgiaaDoor
