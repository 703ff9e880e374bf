import Derived.Test.YtlmcaodiiadlkaaG10
import Derived.Test.YtlmcaodiiadlkaaG11
import Derived.Deep.AppendLies
namespace Go.Proofs.Ytlmcaodiiadlkaa
set_option maxRecDepth 100000
set_option maxHeartbeats 16000000
set_option linter.unusedVariables false
set_option linter.unusedSimpArgs false
open Go.RowKit
def HeapE (w w' : World) (D : Bool × List (Int × List Int)) (e : Ending) : Prop :=
 ∃ a n c qs, e = .returned (.agg #[.bool D.1, .slice a n c]) ∧ datHeapRecordS qs = D.2 ∧ (∀ b, footR kHeapRecord (.slice a n c) qs b → w.heap.size ≤ b) ∧ OwnR kHeapRecord 0 72 5 w' (.slice a n c) qs ∧ Same w w'
theorem foot_none (b : Nat) (h : footR kHeapRecord (.slice none 0 0) [] b) : False := footR_nil b h
theorem slotRec_length (raw : List Int) (i s : Nat) : (slotRec raw i s).length ≤ 1 := by unfold slotRec; split <;> simp
theorem pageRecs_length (raw : List Int) (i : Nat) : ∀ k, (pageRecs raw i k).length ≤ k
 | 0 => by simp [pageRecs]
 | k + 1 => by rw [pageRecs_succ, List.length_append]; have := pageRecs_length raw i k; have := slotRec_length raw i k; omega
theorem heapRecs_length (R : Nat → List Int) : ∀ k, (heapRecs R k).length ≤ k * 32
 | 0 => by simp [heapRecs]
 | k + 1 => by rw [heapRecs_succ, List.length_append]; have := heapRecs_length R k; have := pageRecs_length (R k) k 32; omega
structure BoxF (w : World) (A : Nat) (d g z : List Value) : Prop where
 d : Blk w A 32 d
 g : Blk w (A + 1) 34 g
 z : Blk w (A + 1 + 1) 69 z
theorem BoxF.same {w w' : World} {A : Nat} {d g z : List Value} (h : BoxF w A d g z) (hk : Same w w') : BoxF w' A d g z := ⟨h.d.same hk, h.g.same hk, h.z.same hk⟩
theorem BoxF.kept {R : Nat → Prop} {w w' : World} {A : Nat} {d g z : List Value} (h : BoxF w A d g z) (hk : Kept R w w') (h0 : ¬ R A) (h1 : ¬ R (A + 1)) (h2 : ¬ R (A + 1 + 1)) : BoxF w' A d g z := ⟨h.d.kept hk h0, h.g.kept hk h1, h.z.kept hk h2⟩
theorem specHeap_any (p f l : Int) (dv pv : Value) (dur : List Int) (ps : List PW) (w : World) (hb : DiskB dur ps) (hv : RdD w dv pv dur ps) :
  Calls Try.prog 40 #[.agg #[dv, pv], .agg #[.int .i64 p, .int .i64 f, .int .i64 l]] w fun e w' => HeapE w w' (heapD p f l dur (dataP ps)) e := by
 have HV := hid hv
 have kF := fun wx hv => fits_any p f l dv pv dur ps wx hv
 have kP := fun (hF : fitD p f l dur.length (dataP ps)) g h1 h2 wx hv => pgSee_any p f l g dv pv dur ps wx hF h1 h2 hv
 obtain ⟨a1, c1, rfl⟩ := hv.dur.form
 obtain ⟨a2, c2, rfl⟩ := hv.pend.form
 clear hv
 obtain ⟨w0, hw0⟩ : ∃ x, ((w.alloc (.cells #[.slice a1 dur.length c1, .slice a2 ps.length c2] 32)).alloc (.cells #[.int .i64 p, .int .i64 f, .int .i64 l] 34)).alloc (.cells #[.bool false, .slice none 0 0] 69) = x := ⟨_, rfl⟩
 obtain ⟨HKn, HA0, HG0⟩ := new2 w [.slice a1 dur.length c1, .slice a2 ps.length c2] 32 [.int .i64 p, .int .i64 f, .int .i64 l] 34
 have HK0 := (show Hid (Same w w0) from by rw [← hw0]; exact HKn.out.alloc _)
 have HX0 := (show Hid (BoxF w0 w.heap.size [.slice a1 dur.length c1, .slice a2 ps.length c2] [.int .i64 p, .int .i64 f, .int .i64 l] [.bool false, .slice none 0 0]) from by
  rw [← hw0]
  refine ⟨HA0.out.alloc _, HG0.out.alloc _, ?_⟩
  have h := Blk.newL ((w.alloc (.cells #[.slice a1 dur.length c1, .slice a2 ps.length c2] 32)).alloc (.cells #[.int .i64 p, .int .i64 f, .int .i64 l] 34)) [.bool false, .slice none 0 0] 69
  rw [World.size_alloc, World.size_alloc] at h
  exact h)
 have HW0 := hid hw0
 clear hw0 HA0 HG0 HKn
 by_cases hF : fitD p f l dur.length (dataP ps)
 case neg =>
  have HD := hid (heapD_no (fun h : heapOK p f l dur (dataP ps) => hF h.1))
  go_enter Try.func40, Try.ntmps40
  go_wp2_with fail
  rw [HW0.out]
  refine (kF _ (HV.out.same HK0.out)).mono ?_
  rintro e w1 ⟨⟨B, rfl, hB⟩, hk1⟩
  obtain rfl : B = false := by
   cases B
   ·rfl
   ·exact absurd (hB.1 rfl) hF
  have HK1 := hid (HK0.out.trans hk1)
  have HX1 := hid (HX0.out.same hk1)
  obtain ⟨z0, z1⟩ := HX1.out.z.all2
  have fz := HX1.out.z.frozen
  clear hB hk1
  go_wp2
  have h4 : Blk ((w1.setCell ⟨w.heap.size + 1 + 1, 0, none⟩ (.bool false)).setCell ⟨w.heap.size + 1 + 1, 1, none⟩ (.slice none 0 0)) (w.heap.size + 1 + 1) 69 [.bool false, .slice none 0 0] := (HX1.out.z.stored 0 (.bool false)).stored 1 (.slice none 0 0)
  obtain ⟨y0, y1⟩ := h4.all2
  refine bodyPost_ret (v := .agg #[.bool false, .slice none 0 0]) (by simp [results, Try.results40, go_sem, y0, y1]) rfl ?_
  rw [HD.out]
  exact ⟨_, _, _, [], rfl, rfl, fun b h => (foot_none b h).elim, OwnR.nil _ _ _ _ _, (HK1.out.setCell (.inl (by dsimp only; omega)) _).setCell (.inl (by dsimp only; omega)) _⟩
 have hgeo := geo_good hF.1
 obtain ⟨N, hN⟩ : ∃ N : Nat, p = (N : Int) := ⟨p.toNat, by omega⟩
 have hIB : ∀ i, IsB (pgI l dur (dataP ps) i) := isB_pgI hb.1 (fun q hq => by obtain ⟨r, hr, rfl⟩ := List.mem_map.1 hq; exact hb.2 r hr)
 have HLEN : Hid (∀ i, i < N → (pgI l dur (dataP ps) i).length = 4096) := fun i hi => pgI_length hF i (by omega)
 have kP := fun (i : Nat) (hi : i < N) wx hv => kP hF (i : Int) (by omega) (by omega) wx hv
 have hpN : p.toNat = N := by omega
 have HPN := hid hpN
 have HFD := hid hF
 have HIB := hid hIB
 have hN16 : 1 ≤ N ∧ N ≤ 16 := by omega
 obtain ⟨i0, hi, hz0, hz1, hz2⟩ := info_parts Try.infoRHeapRecord
 clear hF hgeo hIB hpN hb
 subst hN
 obtain ⟨R, hR⟩ : ∃ R, pgI l dur (dataP ps) = R := ⟨_, rfl⟩
 have kP := (show ∀ (i : Nat), i < N → ∀ wx, RdD wx (.slice a1 dur.length c1) (.slice a2 ps.length c2) dur ps → Calls Try.prog 30 #[.agg #[.slice a1 dur.length c1, .slice a2 ps.length c2], .agg #[.int .i64 (N : Int), .int .i64 f, .int .i64 l], .int .i64 (i : Int)] wx fun e w' => ∃ a n c, e = .returned (.slice a n c) ∧ Own 0 5 .u8 w' (.slice a n c) (R i) ∧ (∀ b, (Value.slice a n c).ownBlock = some b → wx.heap.size ≤ b) ∧ Same wx w' from fun i hi wx hv => by rw [← hR]; exact kP i hi wx hv)
 rw [hR] at HLEN HIB
 have HR := hid hR
 clear hR
 have HBAD : Hid (∀ k, k < N → ¬ goodPg (R k) k = true → heapD (N : Int) f l dur (dataP ps) = (false, [])) := fun k hk hg => heapD_no (fun h => hg (by have h1 := h.2 k (by rw [HPN.out]; exact hk); rw [HR.out] at h1; exact h1))
 go_enter Try.func40, Try.ntmps40
 go_wp2_with fail
 rw [HW0.out]
 refine (kF _ (HV.out.same HK0.out)).mono ?_
 rintro e w1 ⟨⟨B, rfl, hB⟩, hk1⟩
 obtain rfl : B = true := hB.2 HFD.out
 have HK1 := hid ((HK0.out.trans hk1).alloc (.cells #[.bool true, .slice none 0 0] 69))
 have HX1 := hid ((HX0.out.same hk1).same ((Kept.refl _ _).alloc (.cells #[.bool true, .slice none 0 0] 69)))
 have HB1 := hid (Blk.newL w1 [.bool true, .slice none 0 0] 69)
 have hzB : w.heap.size + 1 + 1 < w1.heap.size := (HX0.out.same hk1).z.lt
 clear hB hk1 HK0 HX0 HW0 kF
 go_wp2_with fail
 generalize w1.alloc (.cells #[.bool true, .slice none 0 0] 69) = w2 at HK1 HX1 ⊢ HB1
 generalize w1.heap.size = B5 at *
 go_loopw [6] (fun i wr => ∃ (k : Nat) (aa : Option Addr) (na ca : Nat) (qs : List EHeapRecord), k ≤ N ∧ i = .int .i64 (k : Int) ∧ Hid (datHeapRecordS qs = heapRecs R k) ∧ Hid (Blk wr B5 69 [.bool true, .slice aa na ca]) ∧ Hid (OwnR kHeapRecord 0 72 5 wr (.slice aa na ca) qs) ∧ Hid (∀ b, footR kHeapRecord (.slice aa na ca) qs b → B5 < b) ∧
  Hid (allGood R k) ∧ Hid (BoxF wr w.heap.size [.slice a1 dur.length c1, .slice a2 ps.length c2] [.int .i64 (N : Int), .int .i64 f, .int .i64 l] [.bool false, .slice none 0 0]) ∧ Hid (Same w wr)) (fun i _ => N - (intOf i).toNat)
 case atStart => exact ⟨0, _, _, _, [], Nat.zero_le _, rfl, rfl, HB1, OwnR.nil _ _ _ _ _, fun b h => (foot_none b h).elim, fun i hi => by omega, HX1, HK1⟩
 case round =>
  obtain ⟨k, aa, na, ca, qs, hk, rfl, HQ, HB, HO, HF, HAG, HX, HK⟩ := hrel
  clear HB1 HX1 HK1
  obtain ⟨d0, d1⟩ := HX.out.d.all2
  obtain ⟨g0, g1, g2⟩ := HX.out.g.all3
  by_cases hlt : k < N
  case neg =>
   obtain rfl : k = N := by omega
   obtain ⟨z0, z1⟩ := HX.out.z.all2
   have fz := HX.out.z.frozen
   obtain ⟨b0, b1⟩ := HB.out.all2
   have HD := hid (heapD_yes (show heapOK (k : Int) f l dur (dataP ps) from ⟨HFD.out, by rw [HR.out, HPN.out]; exact HAG.out⟩))
   go_wp2
   have h4 : Blk ((wr.setCell ⟨w.heap.size + 1 + 1, 0, none⟩ (.bool true)).setCell ⟨w.heap.size + 1 + 1, 1, none⟩ (.slice aa na ca)) (w.heap.size + 1 + 1) 69 [.bool true, .slice aa na ca] := (HX.out.z.stored 0 (.bool true)).stored 1 (.slice aa na ca)
   obtain ⟨y0, y1⟩ := h4.all2
   have hk4 : Kept (fun b => b = w.heap.size + 1 + 1) wr ((wr.setCell ⟨w.heap.size + 1 + 1, 0, none⟩ (.bool true)).setCell ⟨w.heap.size + 1 + 1, 1, none⟩ (.slice aa na ca)) := Kept.setCell (R := fun b => b = w.heap.size + 1 + 1) (Kept.setCell (R := fun b => b = w.heap.size + 1 + 1) (Kept.refl _ _) (p := ⟨w.heap.size + 1 + 1, 0, none⟩) (.inr rfl) _) (p := ⟨w.heap.size + 1 + 1, 1, none⟩) (.inr rfl) _
   refine bodyPost_ret (v := .agg #[.bool true, .slice aa na ca]) (by simp [results, Try.results40, go_sem, y0, y1]) rfl ?_
   rw [HD.out, HR.out, HPN.out]
   exact ⟨aa, na, ca, qs, rfl, HQ.out, fun b h => by have := HF.out b h; omega, HO.out.kept hk4 (fun b h e => by have := HF.out b h; omega), (HK.out.setCell (.inl (by dsimp only; omega)) _).setCell (.inl (by dsimp only; omega)) _⟩
  have hrl := HLEN.out k hlt
  have hrb := HIB.out k
  obtain ⟨raw, hrw⟩ : ∃ raw, R k = raw := ⟨_, rfl⟩
  have kP := kP k hlt
  have HBADk := hid (HBAD.out k hlt)
  rw [hrw] at hrl hrb kP HBADk
  have HRW := hid hrw
  have HRL := hid hrl
  have HRB := hid hrb
  clear hrw hrl hrb
  go_wp2_with fail
  refine (kP _ (HV.out.same HK.out)).mono ?_
  rintro e w3 ⟨a3, n3, c3, rfl, ho3, hf3, hk3⟩
  obtain ⟨b3, hlo3, hle3, e1, e2⟩ : ∃ b, wr.heap.size ≤ b ∧ 4096 ≤ c3 ∧ a3 = some ⟨b, 0, none⟩ ∧ n3 = 4096 := by
   rcases ho3.form with ⟨_, h⟩ | ⟨g, cap, h, _, _, hc, _⟩
   ·have := HRL.out; rw [h] at this; simp at this
   ·cases h
    rw [HRL.out] at hc ⊢
    exact ⟨g, hf3 g rfl, hc, rfl, rfl⟩
  subst e1
  subst e2
  have HO3 := hid ho3
  have HK3 := hid (HK.out.trans hk3)
  have HX3 := hid (HX.out.same hk3)
  have HB3 := hid (HB.out.same hk3)
  have HOW3 := hid (HO.out.same hk3)
  have HFN : Hid (∀ b, footR kHeapRecord (.slice aa na ca) qs b → b < wr.heap.size) := fun b h => (HO.out.lt b h).2
  have hzr := HK.out.size
  have hBl := HB.out.lt
  clear ho3 hf3 hk3 d0 d1 g0 g1 g2 HX HB HO kP
  have kW := fun wx (hv : Rd .u8 wx (.slice (some ⟨b3, 0, none⟩) 4096 c3) raw) => specWhole_any (.slice (some ⟨b3, 0, none⟩) 4096 c3) raw wx HRB.out (by rw [HRL.out]; omega) hv
  have kT := fun wx (hv : Rd .u8 wx (.slice (some ⟨b3, 0, none⟩) 4096 c3) raw) => specFault_any (.slice (some ⟨b3, 0, none⟩) 4096 c3) raw (k : Int) wx HRB.out (by rw [HRL.out]; omega) hv
  have kL := fun wx (hv : Rd .u8 wx (.slice (some ⟨b3, 0, none⟩) 4096 c3) raw) => l3Slots_any b3 0 c3 raw wx HRB.out HRL.out hv
  obtain ⟨wh, hwh⟩ : ∃ b, pageWhole raw = b := ⟨_, rfl⟩
  obtain ⟨FT, hFT⟩ : ∃ x, pageFault raw (k : Int) = x := ⟨_, rfl⟩
  rw [hwh] at kW
  rw [hFT] at kT
  have HWH := hid hwh
  have HFT := hid hFT
  clear hwh hFT
  cases wh with
  | false =>
   have HD := hid (HBADk.out (fun h => by have := (good_parts h).1; rw [HWH.out] at this; cases this))
   go_wp2_with fail
   refine (kW _ HO3.out.rd).mono ?_
   rintro e w4 ⟨rfl, hk4⟩
   have HK4 := hid (HK3.out.trans hk4)
   have HX4 := hid (HX3.out.same hk4)
   obtain ⟨z0, z1⟩ := HX4.out.z.all2
   have fz := HX4.out.z.frozen
   clear hk4
   go_wp2
   have h4 : Blk ((w4.setCell ⟨w.heap.size + 1 + 1, 0, none⟩ (.bool false)).setCell ⟨w.heap.size + 1 + 1, 1, none⟩ (.slice none 0 0)) (w.heap.size + 1 + 1) 69 [.bool false, .slice none 0 0] := (HX4.out.z.stored 0 (.bool false)).stored 1 (.slice none 0 0)
   obtain ⟨y0, y1⟩ := h4.all2
   refine bodyPost_ret (v := .agg #[.bool false, .slice none 0 0]) (by simp [results, Try.results40, go_sem, y0, y1]) rfl ?_
   rw [HD.out]
   exact ⟨_, _, _, [], rfl, rfl, fun b h => (foot_none b h).elim, OwnR.nil _ _ _ _ _, (HK4.out.setCell (.inl (by dsimp only; omega)) _).setCell (.inl (by dsimp only; omega)) _⟩
  | true =>
  go_wp2_with fail
  refine (kW _ HO3.out.rd).mono ?_
  rintro e w4 ⟨rfl, hk4⟩
  have HK4 := hid (HK3.out.trans hk4)
  have HX4 := hid (HX3.out.same hk4)
  have HB4 := hid (HB3.out.same hk4)
  have HO4 := hid (HO3.out.same hk4)
  have HOW4 := hid (HOW3.out.same hk4)
  clear hk4 kW HX3 HB3 HO3 HOW3 HK3
  go_wp2_with fail
  refine (kT _ HO4.out.rd).mono ?_
  rintro e w5 ⟨rfl, hk5⟩
  have HK5 := hid (HK4.out.trans hk5)
  have HX5 := hid (HX4.out.same hk5)
  have HB5 := hid (HB4.out.same hk5)
  have HO5 := hid (HO4.out.same hk5)
  have HOW5 := hid (HOW4.out.same hk5)
  clear hk5 kT HX4 HB4 HO4 HOW4 HK4
  by_cases hF0 : FT = 0
  case neg =>
   have HD := hid (HBADk.out (fun h => hF0 (by have := (good_parts h).2; rw [HFT.out] at this; exact this)))
   obtain ⟨z0, z1⟩ := HX5.out.z.all2
   have fz := HX5.out.z.frozen
   have hF1 : (FT != 0) = true := by simpa using hF0
   go_wp2
   have h4 : Blk ((w5.setCell ⟨w.heap.size + 1 + 1, 0, none⟩ (.bool false)).setCell ⟨w.heap.size + 1 + 1, 1, none⟩ (.slice none 0 0)) (w.heap.size + 1 + 1) 69 [.bool false, .slice none 0 0] := (HX5.out.z.stored 0 (.bool false)).stored 1 (.slice none 0 0)
   obtain ⟨y0, y1⟩ := h4.all2
   refine bodyPost_ret (v := .agg #[.bool false, .slice none 0 0]) (by simp [results, Try.results40, go_sem, y0, y1]) rfl ?_
   rw [HD.out]
   exact ⟨_, _, _, [], rfl, rfl, fun b h => (foot_none b h).elim, OwnR.nil _ _ _ _ _, (HK5.out.setCell (.inl (by dsimp only; omega)) _).setCell (.inl (by dsimp only; omega)) _⟩
  subst hF0
  go_wp2_with fail
  refine (kL _ HO5.out.rd).mono ?_
  rintro e w6 ⟨gs, cs, rfl, hgs, hrow6, hk6⟩
  have HK6 := hid (HK5.out.trans hk6)
  have HX6 := hid (HX5.out.same hk6)
  have HB6 := hid (HB5.out.same hk6)
  have HO6 := hid (HO5.out.same hk6)
  have HOW6 := hid (HOW5.out.same hk6)
  have HR6 := hid hrow6
  have hz56 : wr.heap.size ≤ w5.heap.size := Nat.le_trans hlo3 (Nat.le_of_lt ((HO5.out.lt b3 rfl).2))
  have hb35 : b3 < w5.heap.size := (HO5.out.lt b3 rfl).2
  clear hk6 hrow6 kL HX5 HB5 HO5 HOW5 HK5
  have HGS : Hid (∀ s, s < 32 → ¬ sOff raw s = 0 → sLen raw s ≤ 1000 ∧ sOff raw s + sLen raw s ≤ 4096) := fun s hs h0 => good_slot HFT.out s hs h0
  have HQL : Hid ((heapRecs R k).length ≤ 512) := by have := heapRecs_length R k; unfold Hid; omega
  go_wp2_with fail
  go_loopw [9] (fun i wx => ∃ (s : Nat) (ab : Option Addr) (nb cb : Nat) (rs : List EHeapRecord), s ≤ 32 ∧ i = .int .i64 (s : Int) ∧ Hid (datHeapRecordS rs = heapRecs R k ++ pageRecs raw k s) ∧ Hid (Blk wx B5 69 [.bool true, .slice ab nb cb]) ∧ Hid (OwnR kHeapRecord 0 72 5 wx (.slice ab nb cb) rs) ∧ Hid (∀ b, footR kHeapRecord (.slice ab nb cb) rs b → B5 < b ∧ b ≠ b3 ∧ b ≠ gs) ∧
   Hid (Own 0 5 .u8 wx (.slice (some ⟨b3, 0, none⟩) 4096 c3) raw) ∧ Hid (wx.ownsRow 0 97 2 (.slice (some ⟨gs, 0, none⟩) 32 cs) 32 (vals .i64 (slotsOf raw))) ∧ Hid (BoxF wx w.heap.size [.slice a1 dur.length c1, .slice a2 ps.length c2] [.int .i64 (N : Int), .int .i64 f, .int .i64 l] [.bool false, .slice none 0 0]) ∧ Hid (Same w wx)) (fun i _ => 32 - (intOf i).toNat)
  case atStart => exact ⟨0, aa, na, ca, qs, Nat.zero_le _, rfl, by unfold Hid; rw [show pageRecs raw k 0 = [] from rfl, List.append_nil]; exact HQ.out, HB6, HOW6, fun b h => ⟨HF.out b h, by have := HFN.out b h; omega, by have := HFN.out b h; omega⟩, HO6, HR6, HX6, HK6⟩
  case round =>
   clear HB6 HOW6 HO6 HR6 HX6 HK6 HF HQ HFN
   obtain ⟨s, ab, nb, cb, rs, hs, rfl, HQ, HB, HOW, HF, HO, HRW6, HX, HK⟩ := hrel
   by_cases hs2 : s < 32
   case neg =>
    obtain rfl : s = 32 := by omega
    go_wp2
    go_roundw
    case rel =>
     refine ⟨k + 1, ab, nb, cb, rs, by omega, by go_num, by unfold Hid; rw [heapRecs_succ, HRW.out]; exact HQ.out, HB, HOW, fun b h => (HF.out b h).1, fun i hi => ?_, HX, HK⟩
     by_cases e : i < k
     ·exact HAG.out i e
     ·obtain rfl : i = k := by omega
      rw [HRW.out]
      unfold goodPg
      rw [HWH.out, HFT.out]
      rfl
    case measure => simp [intOf]; omega
   have hso := sOff_in HRB.out HRL.out s
   have hsl := sLen_in HRB.out HRL.out s
   obtain ⟨xn, hxn⟩ : ∃ n : Nat, sOff raw s = (n : Int) := ⟨(sOff raw s).toNat, by omega⟩
   obtain ⟨yn, hyn⟩ : ∃ n : Nat, sLen raw s = (n : Int) := ⟨(sLen raw s).toNat, by omega⟩
   have t0 : wr.cell? ⟨gs, s * 2, none⟩ = some (.int .i64 (xn : Int)) := by
    rw [World.ownsRow.cellAt HRW6.out (s * 2) (by omega), vals_at _ _ _ (by rw [slotsOf_length]; omega), ← hxn, sOff, Nat.mul_comm]
   have t1 : wr.cell? ⟨gs, s * 2 + 1, none⟩ = some (.int .i64 (yn : Int)) := by
    rw [World.ownsRow.cellAt HRW6.out (s * 2 + 1) (by omega), vals_at _ _ _ (by rw [slotsOf_length]; omega), ← hyn, sLen, Nat.mul_comm]
   have HSR := (show Hid (pageRecs raw k (s + 1) = pageRecs raw k s ++ slotRec raw k s) from pageRecs_succ raw k s)
   unfold slotRec at HSR
   have hgd := HGS.out s hs2
   rw [hxn, hyn] at HSR hgd
   rw [hxn] at hso
   rw [hyn] at hsl
   by_cases hx0 : xn = 0
   ·subst hx0
    rw [if_pos (by rfl), List.append_nil] at HSR
    clear hgd
    go_wp2
    go_roundw
    case rel => exact ⟨s + 1, ab, nb, cb, rs, by omega, by go_num, by unfold Hid; rw [HSR.out]; exact HQ.out, HB, HOW, HF, HO, HRW6, HX, HK⟩
    case measure => simp [intOf]; omega
   obtain ⟨hy1, hxy⟩ := hgd (by omega)
   rw [if_neg (by omega)] at HSR
   simp only [Int.toNat_natCast] at HSR
   obtain ⟨b0, b1⟩ := HB.out.all2
   have fB := HB.out.frozen
   have hlB := HB.out.lt
   have hlG : gs < wr.heap.size := World.block_lt_of_cell? wr _ t0
   have hl3 : b3 < wr.heap.size := (HO.out.lt b3 rfl).2
   have hrl : rs.length ≤ 544 := by
    have h1 := congrArg List.length HQ.out
    rw [datHeapRecordS_length, List.length_append] at h1
    have h2 := HQL.out
    have h3 := pageRecs_length raw k s
    omega
   obtain ⟨L, hL⟩ : ∃ L, rs.length = L := ⟨_, rfl⟩
   have HRS := hid hL
   rw [hL] at hrl
   have HCUT := hid (Rd.cut (b := b3) (off := 0) (c := c3) (by have h := HO.out.rd; rw [← HRL.out] at h; exact h) xn yn (by rw [HRL.out]; omega))
   obtain ⟨a7, ha7⟩ : ∃ a7 : Option Addr, (if c3 = xn then some (⟨b3, 0, none⟩ : Addr) else some ⟨b3, xn, none⟩) = a7 := ⟨_, rfl⟩
   have HCUT := (show Hid (Rd .u8 wr (.slice a7 yn (c3 - xn)) ((raw.drop xn).take yn)) from by
    have h := HCUT.out
    rw [← ha7]
    split
    ·rename_i hc; rw [if_pos hc] at h; exact h
    ·rename_i hc; rw [if_neg hc, Nat.zero_add] at h; exact h)
   have HCL : Hid (((raw.drop xn).take yn).length ≤ 1099511627776) := by unfold Hid; simp; omega
   have q1 : IntKind.i64.wrap ((k : Int) * 32) = (k : Int) * 32 := by rw [IntKind.wrap_i64]; omega
   have q2 : IntKind.i64.wrap ((k : Int) * 32 + (s : Int)) = (((k * 32 + s : Nat) : Int)) := by rw [IntKind.wrap_i64]; omega
   have q3 : IntKind.i64.wrap ((xn : Int) + (yn : Int)) = (xn : Int) + (yn : Int) := by rw [IntKind.wrap_i64]; omega
   have g1 : (xn : Int) + (yn : Int) ≤ (c3 : Int) := by omega
   have g2 : 0 ≤ (xn : Int) + (yn : Int) := by omega
   have g3 : ((xn : Int) + (yn : Int)).toNat = xn + yn := by omega
   have hxne : ¬ (xn : Int) = 0 := by omega
   clear hL hxn hyn hso hsl
   go_wp2_with fail
   have hS : (fun wx : World => wx.cell? ⟨B5, 1, none⟩ = some (.slice ab nb cb) ∧ wx.cell? ⟨gs, s * 2, none⟩ = some (.int .i64 (xn : Int)) ∧ wx.cell? ⟨gs, s * 2 + 1, none⟩ = some (.int .i64 (yn : Int))) wr.drew := ⟨b1, t0, t1⟩
   refine wp_region_V (fun wx : World => wx.cell? ⟨B5, 1, none⟩ = some (.slice ab nb cb) ∧ wx.cell? ⟨gs, s * 2, none⟩ = some (.int .i64 (xn : Int)) ∧ wx.cell? ⟨gs, s * 2 + 1, none⟩ = some (.int .i64 (yn : Int))) 29 30 rfl (by kernel_rfl) ?_
   refine tk 0 48 hS ?_
   refine tk 1 49 hS ?_
   refine tk 2 50 hS ?_
   refine tk 3 51 hS ?_
   refine tk 4 52 hS ?_
   refine tkV 5 53 (.int .i64 (((k * 32 + s : Nat) : Int))) hS ?_
   refine tk 6 54 hS ?_
   refine tk 7 55 hS ?_
   refine tk 8 56 hS ?_
   refine tk 9 57 hS ?_
   refine tk 10 58 hS ?_
   refine tk 11 59 hS ?_
   refine tk 12 60 hS ?_
   refine tk 13 61 hS ?_
   refine tk 14 62 hS ?_
   refine tk 15 63 hS ?_
   refine tk 16 64 hS ?_
   refine tk 17 65 hS ?_
   refine tk 18 66 hS ?_
   refine tk 19 67 hS ?_
   refine tk 20 68 hS ?_
   refine tk 21 69 hS ?_
   refine tkV 22 70 (.int .i64 ((xn : Int) + (yn : Int))) hS ?_
   refine tkV 23 71 (.slice a7 yn (c3 - xn)) hS ?_
   refine wpAnyV_one (i := 24) (by kernel_rfl) rfl (fun K hK => ?_)
   go_simp
   refine (l1Copy_any _ ((raw.drop xn).take yn) _ HCL.out (HCUT.out.same (Kept.refl _ _).drew)).mono ?_
   rintro e w4 ⟨a4, n4, c4, rfl, ho4, hf4, hk4⟩
   have HK4 : Hid (Same wr w4) := (Kept.refl _ _).drew.trans hk4
   have HO4 := hid ho4
   have HF4 : Hid (∀ b, (Value.slice a4 n4 c4).ownBlock = some b → wr.heap.size ≤ b) := hf4
   clear ho4 hf4 hk4
   have hS : (fun wx : World => wx.cell? ⟨B5, 1, none⟩ = some (.slice ab nb cb) ∧ wx.cell? ⟨gs, s * 2, none⟩ = some (.int .i64 (xn : Int)) ∧ wx.cell? ⟨gs, s * 2 + 1, none⟩ = some (.int .i64 (yn : Int))) w4 := ⟨HK4.out.cellOf b1 id, HK4.out.cellOf t0 id, HK4.out.cellOf t1 id⟩
   refine hK.out _ _ (fun _ => hS) ?_
   clear hK K
   try simp only [Act.put, sA, s0, sS]
   refine tk 25 73 hS ?_
   refine wpAnyV_one (i := 26) (by kernel_rfl) rfl (fun K hK => ?_)
   go_simp
   have hS : (fun wx : World => wx.cell? ⟨B5, 1, none⟩ = some (.slice ab nb cb) ∧ wx.cell? ⟨gs, s * 2, none⟩ = some (.int .i64 (xn : Int)) ∧ wx.cell? ⟨gs, s * 2 + 1, none⟩ = some (.int .i64 (yn : Int))) (w4.alloc (.cells #[.int .i64 (((k * 32 + s : Nat) : Int)), .slice a4 n4 c4] 72)) := ⟨(HK4.out.alloc _).cellOf b1 id, (HK4.out.alloc _).cellOf t0 id, (HK4.out.alloc _).cellOf t1 id⟩
   refine hK.out _ _ (fun _ => hS) ?_
   clear hK K
   try simp only [Act.put, sA, s0, sS]
   have HKO := (show Hid ((w4.alloc (.cells #[.int .i64 (((k * 32 + s : Nat) : Int)), .slice a4 n4 c4] 72)).ownsRow 0 72 2 (.slice ab nb cb) L (kHeapRecord.all rs)) from by have h := (HOW.out.same (HK4.out.alloc (.cells #[.int .i64 (((k * 32 + s : Nat) : Int)), .slice a4 n4 c4] 72))).row; rw [HRS.out] at h; exact h)
   have HN5 := hid (Blk.newL w4 [.int .i64 (((k * 32 + s : Nat) : Int)), .slice a4 n4 c4] 72)
   refine wpAnyV_one (i := 27) (by kernel_rfl) rfl (fun K hK => ?_)
   refine step_append_lies _ (by rfl) (.tmp 49) (.tmp 74) 67 (by rfl) 0 72 i0 _ 2 32 Try.underlying67 hi hz0 hz1 hz2 rfl (by omega) (.slice ab nb cb) L (kHeapRecord.all rs) (by rfl) (by exact HKO.out) ⟨w4.heap.size, 0, none⟩ 1 1 [.int .i64 (((k * 32 + s : Nat) : Int)), .slice a4 n4 c4] (by rfl) (by rfl) (World.news_of_block (cs := #[.int .i64 (((k * 32 + s : Nat) : Int)), .slice a4 n4 c4]) (t := 72) (fr := (0, 0)) (by exact HN5.out)) (by simp [Value.oneCell']) (by omega) (by unfold maxLen; omega) (by omega) (Nat.zero_le _) (w4.heap.size + 1) (by simp) ?_
   intro g5 cap5 w5 hown5 hgrow5 hat5 hlt5
   have HOWN5 := (show Hid (w5.ownsRow 0 72 2 (.slice (some ⟨g5, 0, none⟩) (L + 1) cap5) (L + 1) (kHeapRecord.all rs ++ [.int .i64 (((k * 32 + s : Nat) : Int)), .slice a4 n4 c4])) from hown5)
   have HG5 := (show Hid ((w4.alloc (.cells #[.int .i64 (((k * 32 + s : Nat) : Int)), .slice a4 n4 c4] 72)).grownBy w5 (Value.slice ab nb cb).ownBlock) from hgrow5)
   have HAT5 : Hid ((Value.slice ab nb cb).ownBlock = some g5 ∨ g5 = w4.heap.size + 1) := hat5
   have hnB : ¬ (Value.slice ab nb cb).ownBlock = some B5 := fun e => by have := (HF.out _ (.inl e)).1; omega
   have hnG : ¬ (Value.slice ab nb cb).ownBlock = some gs := fun e => (HF.out _ (.inl e)).2.2 rfl
   have hn3 : ¬ (Value.slice ab nb cb).ownBlock = some b3 := fun e => (HF.out _ (.inl e)).2.1 rfl
   have HK5 := (show Hid (Kept (fun b => (Value.slice ab nb cb).ownBlock = some b) wr w5) from ((HK4.out.alloc _).mono (fun _ _ e => e.elim)).trans (Kept.of_grown HG5.out (fun k e => e)))
   clear hown5 hgrow5 hat5
   have hS : (fun wx : World => wx.cell? ⟨B5, 1, none⟩ = some (.slice ab nb cb) ∧ wx.cell? ⟨gs, s * 2, none⟩ = some (.int .i64 (xn : Int)) ∧ wx.cell? ⟨gs, s * 2 + 1, none⟩ = some (.int .i64 (yn : Int))) w5 := ⟨HK5.out.cellOf b1 hnB, HK5.out.cellOf t0 hnG, HK5.out.cellOf t1 hnG⟩
   refine hK.out _ _ (fun _ => hS) ?_
   clear hK K
   try simp only [Act.put, sA, s0, sS]
   refine tk 28 76 hS ?_
   have HB5 := hid (HB.out.kept HK5.out hnB)
   have fB5 := HB5.out.frozen
   obtain ⟨u0, u1⟩ := HB5.out.all2
   refine wpAnyV_one (i := 29) (by kernel_rfl) rfl (fun K hK => ?_)
   go_simp
   refine hK.out _ _ (fun h => absurd rfl h) ?_
   clear hK K
   refine wpAnyV_done (by kernel_rfl) ?_
   try simp only [Act.put, sA, s0, sS]
   have hz4 := HK4.out.size
   have hz5 := HK5.out.size
   have hk56 : Kept (fun b => b = B5) w5 (w5.setCell ⟨B5, 1, none⟩ (.slice (some ⟨g5, 0, none⟩) (L + 1) cap5)) := Kept.setCell (R := fun b => b = B5) (Kept.refl _ _) (p := ⟨B5, 1, none⟩) (.inr rfl) _
   have HFS : Hid (∀ b, footR kHeapRecord (.slice (some ⟨g5, 0, none⟩) (L + 1) cap5) (rs ++ [⟨((k * 32 + s : Nat) : Int), .slice a4 n4 c4, (raw.drop xn).take yn⟩]) b → B5 < b ∧ b ≠ b3 ∧ b ≠ gs) := fun x hx => by
    rcases footR_snoc (v := .slice ab nb cb) x hx with rfl | hx | hx
    ·rcases HAT5.out with h | h
     ·exact HF.out _ (.inl h)
     ·omega
    ·exact HF.out x hx
    ·have := HF4.out x hx; omega
   have hsnoc := OwnR.snoc (K := kHeapRecord) (⟨((k * 32 + s : Nat) : Int), .slice a4 n4 c4, (raw.drop xn).take yn⟩ : EHeapRecord) (HOW.out.same (HK4.out.alloc (.cells #[.int .i64 (((k * 32 + s : Nat) : Int)), .slice a4 n4 c4] 72))) (HO4.out.same ((Kept.refl _ _).alloc _)) (fun b hb hf => by have h1 := HF4.out b hb; have h2 := (HOW.out.lt b hf).2; omega) HG5.out HOWN5.out HRS.out.symm (by rw [World.size_alloc]; exact HAT5.out)
   have HSN := hid (hsnoc.kept hk56 (fun b hb e => by have := (HFS.out b hb).1; omega))
   have HB6 := hid (HB5.out.stored 1 (.slice (some ⟨g5, 0, none⟩) (L + 1) cap5))
   have HX6 := hid ((HX.out.kept HK5.out (fun e => by have := (HF.out _ (.inl e)).1; omega) (fun e => by have := (HF.out _ (.inl e)).1; omega) (fun e => by have := (HF.out _ (.inl e)).1; omega)).kept hk56 (by omega) (by omega) (by omega))
   have HO6 := hid ((HO.out.kept HK5.out (fun b hb => by have h : b3 = b := (by simpa [Value.ownBlock] using hb); rw [← h]; exact hn3)).kept hk56 (fun b hb e => by have h : b3 = b := (by simpa [Value.ownBlock] using hb); omega))
   have HR6 := hid (hk56.owns (HK5.out.owns HRW6.out (fun b hb => by have h : gs = b := (by simpa [Value.ownBlock] using hb); rw [← h]; exact hnG)) (fun b hb e => by have h : gs = b := (by simpa [Value.ownBlock] using hb); omega))
   have HK6 := (show Hid (Same w (w5.setCell ⟨B5, 1, none⟩ (.slice (some ⟨g5, 0, none⟩) (L + 1) cap5))) from (HK.out.next HK5.out (fun i hi e => by have := (HF.out _ (.inl e)).1; omega)).setCell (.inl (by dsimp only; omega)) _)
   clear hsnoc hk56
   generalize w5.setCell ⟨B5, 1, none⟩ (.slice (some ⟨g5, 0, none⟩) (L + 1) cap5) = w6 at *
   go_wp2
   go_roundw
   case rel =>
    refine ⟨s + 1, some ⟨g5, 0, none⟩, L + 1, cap5, rs ++ [⟨((k * 32 + s : Nat) : Int), .slice a4 n4 c4, (raw.drop xn).take yn⟩], by omega, by go_num, ?_, HB6, HSN, HFS, HO6, HR6, HX6, HK6⟩
    unfold Hid
    rw [HSR.out, ← List.append_assoc, ← HQ.out]
    unfold datHeapRecordS
    rw [List.map_append]
    rfl
   case measure => simp [intOf]; omega
theorem heapRecs_len (R : Nat → List Int) (N : Nat) (hl : ∀ i, i < N → (R i).length = 4096) : ∀ r ∈ heapRecs R N, r.2.length ≤ 4096 := by
 intro r hr
 unfold heapRecs at hr
 obtain ⟨x, hx, hr⟩ := List.mem_flatten.1 hr
 obtain ⟨i, hi, rfl⟩ := List.mem_map.1 hx
 unfold pageRecs at hr
 obtain ⟨y, hy, hr⟩ := List.mem_flatten.1 hr
 obtain ⟨s, hs, rfl⟩ := List.mem_map.1 hy
 have h1 := hl i (List.mem_range.1 hi)
 unfold slotRec at hr
 split at hr
 ·simp at hr
 ·simp at hr
  rw [hr]
  simp only [List.length_take, List.length_drop]
  omega
def setL : List Int → List (Int × List Int) → List Int
 | out, [] => out
 | out, r :: rs => setL (out.set r.1.toNat (r.2.length : Int)) rs
theorem setL_append : ∀ (a b : List (Int × List Int)) (out : List Int), setL out (a ++ b) = setL (setL out a) b
 | [], _, _ => rfl
 | r :: rs, b, out => setL_append rs b _
theorem setL_length : ∀ (a : List (Int × List Int)) (out : List Int), (setL out a).length = out.length
 | [], _ => rfl
 | r :: rs, out => by rw [setL, setL_length rs, List.length_set]
theorem pageSet (raw : List Int) (i : Nat) (A B : List Int) (hA : A.length = i * 32) (hB : IsB raw) (hl : raw.length = 4096) (hg : ∀ s, s < 32 → ¬ sOff raw s = 0 → sLen raw s ≤ 1000 ∧ sOff raw s + sLen raw s ≤ 4096) :
  ∀ s, s ≤ 32 → setL (A ++ (List.replicate 32 (-1) ++ B)) (pageRecs raw i s) = A ++ (pageLens raw s ++ (List.replicate (32 - s) (-1) ++ B))
 | 0, _ => rfl
 | s + 1, hs => by
  rw [pageRecs_succ, setL_append, pageSet raw i A B hA hB hl hg s (by omega), pageLens_succ]
  obtain ⟨m, hm⟩ : ∃ m, 32 - s = m + 1 := ⟨31 - s, by omega⟩
  rw [hm, List.replicate_succ, show 32 - (s + 1) = m from by omega]
  unfold slotRec slotLen
  by_cases h0 : sOff raw s = 0
  ·rw [if_pos h0, if_pos h0]
   simp [setL]
  ·rw [if_neg h0, if_neg h0]
   have h1 := hg s (by omega) h0
   have h2 := sOff_in hB hl s
   have h3 := sLen_in hB hl s
   have e : (((raw.drop (sOff raw s).toNat).take (sLen raw s).toNat).length : Int) = sLen raw s := by
    rw [List.length_take, List.length_drop, hl]
    omega
   simp only [setL, e, Int.toNat_natCast]
   have hA2 : (A ++ pageLens raw s).length = i * 32 + s := by rw [List.length_append, hA, pageLens_length]
   rw [← List.append_assoc A, ← hA2, List.set_append_right (h := Nat.le_refl _), Nat.sub_self, List.cons_append, List.set_cons_zero]
   simp
theorem heapSet (R : Nat → List Int) (N : Nat) (hB : ∀ i, i < N → IsB (R i)) (hl : ∀ i, i < N → (R i).length = 4096) (hg : allGood R N) :
  ∀ k, k ≤ N → setL (List.replicate (N * 32) (-1)) (heapRecs R k) = heapLens R k ++ List.replicate ((N - k) * 32) (-1)
 | 0, _ => by simp [heapRecs, heapLens, setL]
 | k + 1, hk => by
  rw [heapRecs_succ, setL_append, heapSet R N hB hl hg k (by omega), heapLens_succ]
  rw [show (N - k) * 32 = 32 + (N - (k + 1)) * 32 from by omega, ← List.replicate_append_replicate]
  have h := pageSet (R k) k (heapLens R k) (List.replicate ((N - (k + 1)) * 32) (-1)) (heapLens_length R k) (hB k (by omega)) (hl k (by omega)) (fun s hs h0 => good_slot (good_parts (hg k (by omega))).2 s hs h0) 32 (Nat.le_refl _)
  rw [h]
  simp
theorem heapRecs_id (R : Nat → List Int) : ∀ (N : Nat), ∀ r ∈ heapRecs R N, 0 ≤ r.1 ∧ r.1 < ((N * 32 : Nat) : Int) := by
 intro N r hr
 unfold heapRecs at hr
 obtain ⟨x, hx, hr⟩ := List.mem_flatten.1 hr
 obtain ⟨i, hi, rfl⟩ := List.mem_map.1 hx
 unfold pageRecs at hr
 obtain ⟨y, hy, hr⟩ := List.mem_flatten.1 hr
 obtain ⟨s, hs, rfl⟩ := List.mem_map.1 hy
 have h1 := List.mem_range.1 hi
 have h2 := List.mem_range.1 hs
 unfold slotRec at hr
 split at hr
 ·simp at hr
 ·simp at hr
  rw [hr]
  dsimp only
  omega
theorem specLengths_any (p f l : Int) (dv pv : Value) (dur : List Int) (ps : List PW) (w : World) (hb : DiskB dur ps) (hv : RdD w dv pv dur ps) :
  Calls Try.prog 16 #[.agg #[dv, pv], .agg #[.int .i64 p, .int .i64 f, .int .i64 l]] w fun e w' => LenE w w' (lensD p f l dur (dataP ps)) e := by
 have HV := hid hv
 have kH := fun wx hv => specHeap_any p f l dv pv dur ps wx hb hv
 have HB := hid hb
 obtain ⟨a1, c1, rfl⟩ := hv.dur.form
 obtain ⟨a2, c2, rfl⟩ := hv.pend.form
 clear hv hb
 obtain ⟨HK0, HA0, HG0⟩ := new2 w [.slice a1 dur.length c1, .slice a2 ps.length c2] 32 [.int .i64 p, .int .i64 f, .int .i64 l] 34
 by_cases hok : heapOK p f l dur (dataP ps)
 case neg =>
  have HD := hid (lensD_no hok)
  have HH := hid (heapD_no hok)
  clear hok
  go_enter Try.func16, Try.ntmps16
  go_wp2_with fail
  refine (kH _ (HV.out.same HK0.out)).mono ?_
  rintro e w1 ⟨a, n, c, qs, rfl, hq, hf, ho, hk1⟩
  rw [HH.out]
  have HK1 := hid (HK0.out.trans hk1)
  have HB1 := hid (Blk.newL w1 [.bool false, .slice a n c] 69)
  clear hq hf ho hk1
  go_wp2
  go_ret
  rw [HD.out]
  refine ⟨_, _, _, rfl, ?_, fun b hb => ?_, (HK1.out.alloc _).alloc _⟩
  ·have h := World.ownsRow_made (base := 0) (e := 2) (size := 1) (w1.alloc (.cells #[.bool false, .slice a n c] 69)) #[] 0 (Nat.zero_le _) (by simp) (by simp)
   rw [World.size_alloc] at h
   exact h
  ·have h : w1.heap.size + 1 = b := by simpa [Value.ownBlock] using hb
   have := HK1.out.size
   omega
 have HD := hid (lensD_yes hok)
 have HH := hid (heapD_yes hok)
 have hgeo := geo_good hok.1.1
 obtain ⟨N, hN⟩ : ∃ N : Nat, p = (N : Int) := ⟨p.toNat, by omega⟩
 have hpN : p.toNat = N := by omega
 rw [hpN] at HD HH
 have HSET := hid (heapSet (pgI l dur (dataP ps)) N (fun i _ => isB_pgI HB.out.1 (fun q hq => by obtain ⟨r, hr, rfl⟩ := List.mem_map.1 hq; exact HB.out.2 r hr) i) (fun i hi => pgI_length hok.1 i (by omega)) (by have h := hok.2; rw [hpN] at h; exact h) N (Nat.le_refl _))
 have HIDS := hid (heapRecs_id (pgI l dur (dataP ps)) N)
 have HLNS := hid (heapRecs_len (pgI l dur (dataP ps)) N (fun i hi => pgI_length hok.1 i (by omega)))
 have HRL := hid (heapRecs_length (pgI l dur (dataP ps)) N)
 obtain ⟨Rs, hRs⟩ : ∃ Rs, heapRecs (pgI l dur (dataP ps)) N = Rs := ⟨_, rfl⟩
 obtain ⟨Ls, hLs⟩ : ∃ Ls, heapLens (pgI l dur (dataP ps)) N = Ls := ⟨_, rfl⟩
 rw [hRs] at HH HSET HIDS HLNS HRL
 rw [hLs] at HD HSET
 have hN16 : 1 ≤ N ∧ N ≤ 16 := by omega
 clear hok hgeo hpN hRs hLs HB
 subst hN
 go_enter Try.func16, Try.ntmps16
 go_wp2_with fail
 refine (kH _ (HV.out.same HK0.out)).mono ?_
 rintro e w1 ⟨a5, n5, c5, qs, rfl, hq, hf, ho, hk1⟩
 rw [HH.out] at hq
 rw [HH.out]
 have HQ := hid hq
 obtain ⟨w2, hw2⟩ : ∃ x, (w1.alloc (.cells #[.bool true, .slice a5 n5 c5] 69)).alloc (.cells #[] 2) = x := ⟨_, rfl⟩
 have HK1 := hid (HK0.out.trans hk1)
 have hz1 := HK1.out.size
 have HK2 := (show Hid (Same w w2) from by rw [← hw2]; exact (HK1.out.alloc _).alloc _)
 have HG2 := (show Hid (Blk w2 (w.heap.size + 1) 34 [.int .i64 (N : Int), .int .i64 f, .int .i64 l]) from by rw [← hw2]; exact ((HG0.out.same hk1).alloc _).alloc _)
 have HB2 := (show Hid (Blk w2 w1.heap.size 69 [.bool true, .slice a5 n5 c5]) from by rw [← hw2]; exact (Blk.newL w1 [.bool true, .slice a5 n5 c5] 69).alloc _)
 have HO2 := (show Hid (OwnR kHeapRecord 0 72 5 w2 (.slice a5 n5 c5) qs) from by rw [← hw2]; exact (ho.same ((Kept.refl _ _).alloc _)).same ((Kept.refl _ _).alloc _))
 have HF2 : Hid (∀ b, footR kHeapRecord (.slice a5 n5 c5) qs b → b < w1.heap.size) := fun b h => (ho.lt b h).2
 have HE2 := (show Hid (Own 0 2 .i64 w2 (.slice (some ⟨w1.heap.size + 1, 0, none⟩) 0 0) []) from by
  rw [← hw2]
  have h := World.ownsRow_made (base := 0) (e := 2) (size := 1) (w1.alloc (.cells #[.bool true, .slice a5 n5 c5] 69)) #[] 0 (Nat.zero_le _) (by simp) (by simp)
  rw [World.size_alloc] at h
  exact h)
 have hzg : w.heap.size + 1 < w1.heap.size := (HG0.out.same hk1).lt
 have hql : qs.length = Rs.length := by rw [← datHeapRecordS_length, HQ.out]
 clear hq hf ho hk1 HK0 HA0 HG0
 obtain ⟨d0, d1⟩ := HB2.out.all2
 go_wp2_with fail
 clear hw2 d0 d1
 obtain ⟨M, hM⟩ : ∃ M, N * 32 = M := ⟨_, rfl⟩
 rw [hM] at HSET HIDS HRL
 rw [Nat.sub_self, Nat.zero_mul, List.replicate_zero, List.append_nil] at HSET
 have q1 : IntKind.i64.wrap ((N : Int) * 32) = (M : Int) := by rw [IntKind.wrap_i64]; omega
 have hM2 : 32 ≤ M ∧ M ≤ 512 := by omega
 clear hM
 go_loopw [6, 7] (fun o i wr => ∃ (k : Nat) (aa : Option Addr) (na ca : Nat), k ≤ M ∧ o = .slice aa na ca ∧ i = .int .i64 (k : Int) ∧ Hid (Own 0 2 .i64 wr (.slice aa na ca) (List.replicate k (-1))) ∧ Hid (∀ b, (Value.slice aa na ca).ownBlock = some b → w1.heap.size < b) ∧ Hid (Blk wr (w.heap.size + 1) 34 [.int .i64 (N : Int), .int .i64 f, .int .i64 l]) ∧ Hid (Same w2 wr ∨ True) ∧
  Hid (Blk wr w1.heap.size 69 [.bool true, .slice a5 n5 c5]) ∧ Hid (OwnR kHeapRecord 0 72 5 wr (.slice a5 n5 c5) qs) ∧ Hid (Same w wr)) (fun _ i _ => M - (intOf i).toNat)
 case atStart => exact ⟨0, _, _, _, Nat.zero_le _, rfl, rfl, HE2, fun b hb => by have h : w1.heap.size + 1 = b := (by simpa [Value.ownBlock] using hb); omega, HG2, .inr trivial, HB2, HO2, HK2⟩
 case round =>
  obtain ⟨k, aa, na, ca, hk, rfl, rfl, HE, HF, HG, _, HB, HO, HK⟩ := hrel
  clear HE2 HG2 HB2 HO2 HK2
  obtain ⟨e2, e3, e4⟩ := HG.out.all3
  by_cases hlt : k < M
  case pos =>
   have hk2 : (k : Int) < (M : Int) := by omega
   have hlb := HB.out.lt
   go_wp2_with (at_builtin; go_loud (refine wpList_appZ rfl (.tmp 24) (.tmp 25) rfl (.slice aa na ca) (.slice (some ⟨wr.heap.size, 0, none⟩) 1 1) _ [-1] rfl rfl (HE.out.same ((Kept.refl _ _).alloc _)) (rd_oneZ wr (-1)) (by rw [List.length_replicate]; simp only [List.length_singleton]; omega) ?_); intro a4 n4 c4 w4 hown hgr; have HO4 := hid hown; have HG4 := hid hgr; clear hown hgr)
   rw [← List.replicate_succ'] at HO4
   have hk4 : Kept (fun b => (Value.slice aa na ca).ownBlock = some b) wr w4 := (((Kept.refl (fun _ => False) wr).alloc (.cells #[.int .i64 (-1)] 2)).mono (fun _ _ e => e.elim)).trans HG4.out.kept
   go_roundw
   case rel =>
    refine ⟨k + 1, a4, n4, c4, by omega, rfl, by go_num, HO4, fun b hb => ?_, HG.out.kept hk4 (fun e => by have := HF.out _ e; omega), .inr trivial, HB.out.kept hk4 (fun e => by have := HF.out _ e; omega), HO.out.kept hk4 (fun b hb e => by have h1 := HF.out _ e; have h2 := HF2.out b hb; omega), HK.out.next hk4 (fun i hi e => by have := HF.out _ e; omega)⟩
    rcases HG4.out.own b hb with h | h
    ·exact HF.out b h
    ·rw [World.size_alloc] at h; omega
   case measure => simp [intOf]; omega
  obtain rfl : M = k := by omega
  clear e2 e3 e4
  obtain ⟨e2, e3, e4⟩ := HG.out.all3
  obtain ⟨d0, d1⟩ := HB.out.all2
  obtain ⟨go, co, hgo⟩ : ∃ go co, (Value.slice aa na ca) = .slice (some ⟨go, 0, none⟩) (M) co := by
   rcases HE.out.form with ⟨_, h⟩ | ⟨g, cap, h, _⟩
   ·have := congrArg List.length h; simp at this; omega
   ·rw [List.length_replicate] at h; exact ⟨g, cap, h⟩
  obtain ⟨rfl, hna, rfl⟩ : aa = some ⟨go, 0, none⟩ ∧ M = na ∧ ca = co := by cases hgo; exact ⟨rfl, rfl, rfl⟩
  subst hna
  have hgo1 : w1.heap.size < go := HF.out go rfl
  have hn5 : n5 = Rs.length := by
   rcases HO.out.form with ⟨h, h'⟩ | ⟨g, cap, h, _⟩
   ·cases h; rw [← hql, h']; rfl
   ·cases h; exact hql
  have hn5b : n5 ≤ 512 := by rw [hn5]; have := HRL.out; omega
  have HN5 := hid hn5
  have HQLn := hid hql
  clear hgo HG hn5 hql
  go_wp2_with fail
  clear e2 e3 e4
  go_loopw [8] (fun i wx => ∃ (j : Nat), j ≤ n5 ∧ i = .int .i64 (j : Int) ∧ Hid (Own 0 2 .i64 wx (.slice (some ⟨go, 0, none⟩) (M) ca) (setL (List.replicate (M) (-1)) (Rs.take j))) ∧
   Hid (Blk wx w1.heap.size 69 [.bool true, .slice a5 n5 c5]) ∧ Hid (OwnR kHeapRecord 0 72 5 wx (.slice a5 n5 c5) qs) ∧ Hid (Same w wx)) (fun i _ => n5 - (intOf i).toNat)
  case atStart => exact ⟨0, Nat.zero_le _, rfl, HE, HB, HO, HK⟩
  case round =>
   clear HE HB HO HK d0 d1
   obtain ⟨j, hj, rfl, HE, HB, HO, HK⟩ := hrel
   obtain ⟨d0, d1⟩ := HB.out.all2
   by_cases hjl : j < n5
   case neg =>
    obtain rfl : j = n5 := by omega
    go_wp2
    go_ret
    rw [HD.out]
    have h := HE.out
    rw [HN5.out, List.take_length, HSET.out] at h
    exact ⟨_, _, _, rfl, h, fun b hb => by have h : go = b := (by simpa [Value.ownBlock] using hb); omega, HK.out⟩
   have hjq : j < qs.length := by have := HN5.out; have := HQLn.out; omega
   have hjr : j < Rs.length := by have := HN5.out; omega
   obtain ⟨g5, hg5⟩ : ∃ g5, a5 = some ⟨g5, 0, none⟩ := by
    rcases HO.out.form with ⟨h, h'⟩ | ⟨g, cap, h, _⟩
    ·rw [h'] at hjq; simp at hjq
    ·cases h; exact ⟨g, rfl⟩
   subst hg5
   have hdat : (qs[j].id, qs[j].bs) = Rs[j] := by
    have h1 := congrArg (fun x => x[j]?) HQ.out
    simp only [datHeapRecordS, List.getElem?_map, List.getElem?_eq_getElem hjq, List.getElem?_eq_getElem hjr, Option.map_some] at h1
    exact Option.some.inj h1
   have hid' := HIDS.out Rs[j] (List.getElem_mem hjr)
   have hlen := HLNS.out Rs[j] (List.getElem_mem hjr)
   rw [← hdat] at hid' hlen
   dsimp only at hid' hlen
   obtain ⟨idn, hidn⟩ : ∃ n : Nat, qs[j].id = (n : Int) := ⟨qs[j].id.toNat, by omega⟩
   rw [hidn] at hid'
   have hidlt : idn < M := by omega
   have t0 := HO.out.cell (by rw [HN5.out, HQLn.out]) j 0 hjq (by decide)
   have t1 := HO.out.cell (by rw [HN5.out, HQLn.out]) j 1 hjq (by decide)
   obtain ⟨ax, nx, cx, hvx⟩ := slice_of_own (HO.out.data qs[j] (List.getElem_mem hjq))
   have hox := HO.out.data qs[j] (List.getElem_mem hjq)
   have t0' : wr.cell? ⟨g5, j * 2, none⟩ = some (.int .i64 (idn : Int)) := by rw [← hidn]; exact t0
   have t1' : wr.cell? ⟨g5, j * 2 + 1, none⟩ = some (.slice ax nx cx) := by rw [← hvx]; exact t1
   have hnx : nx = qs[j].bs.length := by
    rw [hvx] at hox
    rcases hox.form with ⟨h, h'⟩ | ⟨g, cap, h, _⟩
    ·have h2 : qs[j].bs = [] := h'
     cases h; rw [h2]; rfl
    ·cases h; rfl
   have HSTEP := (show Hid (setL (List.replicate (M) (-1)) (Rs.take (j + 1)) = (setL (List.replicate (M) (-1)) (Rs.take j)).set idn (nx : Int)) from by
    unfold Hid
    rw [List.take_succ_eq_append_getElem hjr, setL_append, ← hdat]
    simp [setL, hidn, hnx])
   have hsl : (setL (List.replicate (M) (-1)) (Rs.take j)).length = M := by rw [setL_length, List.length_replicate]
   have u0 := HE.out.cell hsl.symm idn hidlt
   have uf := HE.out.frozen hsl.symm idn
   have HSLN := hid hsl
   have hgl : go < wr.heap.size := World.block_lt_of_cell? wr _ u0
   have hg5lt := HF2.out g5 (.inl rfl)
   have hidi : (idn : Int) < ((M : Nat) : Int) := by omega
   have hji : (j : Int) < (n5 : Int) := by omega
   generalize (setL (List.replicate (M) (-1)) (Rs.take j)).getD idn 0 = uold at u0
   clear t0 t1 hox hdat hid' hlen hsl hvx hidn hnx
   go_wp2_with fail
   let Y1 : World → Prop := fun wx : World => wx.cell? ⟨w1.heap.size, 1, none⟩ = some (.slice (some ⟨g5, 0, none⟩) n5 c5) ∧ wx.cell? ⟨g5, j * 2, none⟩ = some (.int .i64 (idn : Int)) ∧ wx.cell? ⟨g5, j * 2 + 1, none⟩ = some (.slice ax nx cx)
   have hS : Y1 wr.drew := ⟨d1, t0', t1'⟩
   refine wp_region_V Y1 15 16 rfl (by kernel_rfl) ?_
   refine tk 0 34 hS ?_
   refine tk 1 35 hS ?_
   refine tk 2 36 hS ?_
   refine tk 3 37 hS ?_
   refine tkV 4 38 (.pointer (some ⟨g5, j * 2, none⟩)) hS ?_
   refine tk 5 39 hS ?_
   refine tk 6 40 hS ?_
   refine tk 7 41 hS ?_
   refine tk 8 42 hS ?_
   refine tk 9 43 hS ?_
   refine tkV 10 44 (.pointer (some ⟨g5, j * 2, none⟩)) hS ?_
   refine tk 11 45 hS ?_
   refine tk 12 46 hS ?_
   refine tk 13 47 hS ?_
   refine tkV 14 48 (.pointer (some ⟨go, idn, none⟩)) hS ?_
   refine wpAnyV_one (i := 15) (by kernel_rfl) rfl (fun K hK => ?_)
   go_simp
   refine hK.out _ _ (fun h => absurd rfl h) ?_
   clear hK K
   refine wpAnyV_done (by kernel_rfl) ?_
   try simp only [Act.put, sA, s0, sS]
   have hst := HE.out.stored HSLN.out.symm idn (nx : Int)
   rw [← HSTEP.out] at hst
   have hk7 : Kept (fun b => b = go) wr (wr.setCell ⟨go, idn, none⟩ (.int .i64 (nx : Int))).drew := (Kept.setCell (R := fun b => b = go) (Kept.refl _ _) (p := ⟨go, idn, none⟩) (.inr rfl) _).drew
   have HST := (show Hid (Own 0 2 .i64 (wr.setCell ⟨go, idn, none⟩ (.int .i64 (nx : Int))).drew (.slice (some ⟨go, 0, none⟩) M ca) (setL (List.replicate M (-1)) (Rs.take (j + 1)))) from Own.same hst (Kept.refl _ _).drew)
   have HB7 := hid (HB.out.kept hk7 (by omega))
   have HO7 := hid (HO.out.kept hk7 (fun b hb e => by have h2 := HF2.out b hb; omega))
   have HK7 := hid (HK.out.next hk7 (fun i hi e => by omega))
   clear hk7 hst
   go_wp2
   go_roundw
   case rel => exact ⟨j + 1, by omega, by go_num, HST, HB7, HO7, HK7⟩
   case measure => simp [intOf]; omega
theorem specLens_of (p f l : Int) (dv pv : Value) (dur : List Int) (ps : List PW) (w : World) (hb : DiskB dur ps) (hv : RdD w dv pv dur ps) :
  Calls Try.prog 16 #[.agg #[dv, pv], .agg #[.int .i64 p, .int .i64 f, .int .i64 l]] w fun e w' => ∃ a c, e = .returned (.slice a (lensD p f l dur (dataP ps)).length c) ∧ (∀ b, (Value.slice a (lensD p f l dur (dataP ps)).length c).ownBlock = some b → w.heap.size ≤ b) ∧ Own 0 2 .i64 w' (.slice a (lensD p f l dur (dataP ps)).length c) (lensD p f l dur (dataP ps)) ∧ Same w w' :=
 (specLengths_any p f l dv pv dur ps w hb hv).mono fun _ _ h => h.of
theorem implLens_of (p f l : Int) (dv pv : Value) (dur : List Int) (ps : List PW) (w : World) (hb : DiskB dur ps) (hv : RdD w dv pv dur ps) :
  Calls Try.prog 17 #[.agg #[dv, pv], .agg #[.int .i64 p, .int .i64 f, .int .i64 l]] w fun e w' => ∃ a c, e = .returned (.slice a (lensD p f l dur (dataP ps)).length c) ∧ (∀ b, (Value.slice a (lensD p f l dur (dataP ps)).length c).ownBlock = some b → w.heap.size ≤ b) ∧ Own 0 2 .i64 w' (.slice a (lensD p f l dur (dataP ps)).length c) (lensD p f l dur (dataP ps)) ∧ Same w w' :=
 (implLengths_any p f l dv pv dur ps w hb hv).mono fun _ _ h => h.of
theorem lensD_length (p f l : Int) (dur : List Int) (ds : List (Int × List Int)) : (lensD p f l dur ds).length ≤ 512 := by
 by_cases h : heapOK p f l dur ds
 ·have hg := geo_good h.1.1
  rw [lensD_yes h, heapLens_length]
  omega
 ·rw [lensD_no h]
  simp
end Go.Proofs.Ytlmcaodiiadlkaa
