import Derived.Test.YtjlkphhdbopmiaaGreatG07
import Derived.Test.YtjlkphhdbopmiaaGreatG08
import Derived.Test.YtjlkphhdbopmiaaGreatG09
import Derived.Test.YtjlkphhdbopmiaaGreatG01
import Derived.Test.YtjlkphhdbopmiaaGreatG00
import Derived.Test.YtjlkphhdbopmiaaGreatG02
import Derived.Test.YtjlkphhdbopmiaaGreatG03
import Derived.Test.YtjlkphhdbopmiaaGreatG06
import Derived.Deep.AppendLies
import Derived.Deep.DeepCutAuto
namespace Go.Proofs.YtjlkphhdbopmiaaGreat
set_option maxRecDepth 100000
set_option maxHeartbeats 16000000
set_option linter.unusedVariables false
set_option linter.unusedSimpArgs false
open Go.RowKit
def HeapE (w w' : World) (D : Bool × List (Int × List Int)) (e : Ending) : Prop :=
 ∃ a n c qs, e = .returned (.agg #[.bool D.1, .slice a n c]) ∧ datHeapRecordS qs = D.2 ∧ (∀ b, footR kHeapRecord (.slice a n c) qs b → w.heap.size ≤ b) ∧ OwnR kHeapRecord 0 56 5 w' (.slice a n c) qs ∧ Same w w'
theorem foot_none (b : Nat) (h : footR kHeapRecord (.slice none 0 0) [] b) : False := footR_nil b h
theorem slotRec_length (raw : List Int) (i s : Nat) : (slotRec raw i s).length ≤ 1 := by unfold slotRec; split <;> simp
theorem pageRecs_length (raw : List Int) (i : Nat) : ∀ k, (pageRecs raw i k).length ≤ k
 | 0 => by simp [pageRecs]
 | k + 1 => by rw [pageRecs_succ, List.length_append]; have := pageRecs_length raw i k; have := slotRec_length raw i k; omega
theorem heapRecs_length (R : Nat → List Int) : ∀ k, (heapRecs R k).length ≤ k * 32
 | 0 => by simp [heapRecs]
 | k + 1 => by rw [heapRecs_succ, List.length_append]; have := heapRecs_length R k; have := pageRecs_length (R k) k 32; omega
structure BoxF (w : World) (A : Nat) (d g z : List Value) : Prop where
 d : Blk w A 35 d
 g : Blk w (A + 1) 37 g
 z : Blk w (A + 1 + 1) 31 z
theorem BoxF.same {w w' : World} {A : Nat} {d g z : List Value} (h : BoxF w A d g z) (hk : Same w w') : BoxF w' A d g z := ⟨h.d.same hk, h.g.same hk, h.z.same hk⟩
theorem BoxF.kept {R : Nat → Prop} {w w' : World} {A : Nat} {d g z : List Value} (h : BoxF w A d g z) (hk : Kept R w w') (h0 : ¬ R A) (h1 : ¬ R (A + 1)) (h2 : ¬ R (A + 1 + 1)) : BoxF w' A d g z := ⟨h.d.kept hk h0, h.g.kept hk h1, h.z.kept hk h2⟩
theorem specHeap_any (p f l : Int) (dv pv : Value) (dur : List Int) (ps : List PW) (w : World) (hb : DiskB dur ps) (hv : RdD w dv pv dur ps) :
  Calls Tryz.prog 5 #[.agg #[dv, pv], .agg #[.int .i64 p, .int .i64 f, .int .i64 l]] w fun e w' => HeapE w w' (heapD p f l dur (dataP ps)) e := by
 have HV := hid hv
 have kF := fun wx hv => fits_any p f l dv pv dur ps wx hv
 have kP := fun (hF : fitD p f l dur.length (dataP ps)) g h1 h2 wx hv => pgSee_any p f l g dv pv dur ps wx hF h1 h2 hv
 obtain ⟨a1, c1, rfl⟩ := hv.dur.form
 obtain ⟨a2, c2, rfl⟩ := hv.pend.form
 clear hv
 obtain ⟨w0, hw0⟩ : ∃ x, ((w.alloc (.cells #[.slice a1 dur.length c1, .slice a2 ps.length c2] 35)).alloc (.cells #[.int .i64 p, .int .i64 f, .int .i64 l] 37)).alloc (.cells #[.bool false, .slice none 0 0] 31) = x := ⟨_, rfl⟩
 obtain ⟨HKn, HA0, HG0⟩ := new2 w [.slice a1 dur.length c1, .slice a2 ps.length c2] 35 [.int .i64 p, .int .i64 f, .int .i64 l] 37
 have HK0 := (show Hid (Same w w0) from by rw [← hw0]; exact HKn.out.alloc _)
 have HX0 := (show Hid (BoxF w0 w.heap.size [.slice a1 dur.length c1, .slice a2 ps.length c2] [.int .i64 p, .int .i64 f, .int .i64 l] [.bool false, .slice none 0 0]) from by
  rw [← hw0]
  refine ⟨HA0.out.alloc _, HG0.out.alloc _, ?_⟩
  have h := Blk.newL ((w.alloc (.cells #[.slice a1 dur.length c1, .slice a2 ps.length c2] 35)).alloc (.cells #[.int .i64 p, .int .i64 f, .int .i64 l] 37)) [.bool false, .slice none 0 0] 31
  rw [World.size_alloc, World.size_alloc] at h
  exact h)
 have HW0 := hid hw0
 clear hw0 HA0 HG0 HKn
 by_cases hF : fitD p f l dur.length (dataP ps)
 case neg =>
  have HD := hid (heapD_no (fun h : heapOK p f l dur (dataP ps) => hF h.1))
  go_enter Tryz.func5, Tryz.ntmps5
  go_wp2_with fail
  rw [HW0.out]
  refine (kF _ (HV.out.same HK0.out)).mono ?_
  rintro e w1 ⟨⟨B, rfl, hB⟩, hk1⟩
  obtain rfl : B = false := by
   cases B
   ·rfl
   ·exact absurd (hB.1 rfl) hF
  have HK1 := hid (HK0.out.trans hk1)
  have HX1 := hid (HX0.out.same hk1)
  obtain ⟨z0, z1⟩ := HX1.out.z.all2
  have fz := HX1.out.z.frozen
  clear hB hk1
  go_wp2
  have h4 : Blk ((w1.setCell ⟨w.heap.size + 1 + 1, 0, none⟩ (.bool false)).setCell ⟨w.heap.size + 1 + 1, 1, none⟩ (.slice none 0 0)) (w.heap.size + 1 + 1) 31 [.bool false, .slice none 0 0] := (HX1.out.z.stored 0 (.bool false)).stored 1 (.slice none 0 0)
  obtain ⟨y0, y1⟩ := h4.all2
  refine bodyPost_ret (v := .agg #[.bool false, .slice none 0 0]) (by simp [results, Tryz.results5, go_sem, y0, y1]) rfl ?_
  rw [HD.out]
  exact ⟨_, _, _, [], rfl, rfl, fun b h => (foot_none b h).elim, OwnR.nil _ _ _ _ _, (HK1.out.setCell (.inl (by dsimp only; omega)) _).setCell (.inl (by dsimp only; omega)) _⟩
 have hgeo := geo_good hF.1
 obtain ⟨N, hN⟩ : ∃ N : Nat, p = (N : Int) := ⟨p.toNat, by omega⟩
 have hIB : ∀ i, IsB (pgI l dur (dataP ps) i) := isB_pgI hb.1 (fun q hq => by obtain ⟨r, hr, rfl⟩ := List.mem_map.1 hq; exact hb.2 r hr)
 have HLEN : Hid (∀ i, i < N → (pgI l dur (dataP ps) i).length = 4096) := fun i hi => pgI_length hF i (by omega)
 have kP := fun (i : Nat) (hi : i < N) wx hv => kP hF (i : Int) (by omega) (by omega) wx hv
 have hpN : p.toNat = N := by omega
 have HPN := hid hpN
 have HFD := hid hF
 have HIB := hid hIB
 have hN16 : 1 ≤ N ∧ N ≤ 16 := by omega
 obtain ⟨i0, hi, hz0, hz1, hz2⟩ := info_parts Tryz.infoRHeapRecord
 clear hF hgeo hIB hpN hb
 subst hN
 obtain ⟨R, hR⟩ : ∃ R, pgI l dur (dataP ps) = R := ⟨_, rfl⟩
 have kP := (show ∀ (i : Nat), i < N → ∀ wx, RdD wx (.slice a1 dur.length c1) (.slice a2 ps.length c2) dur ps → Calls Tryz.prog 17 #[.agg #[.slice a1 dur.length c1, .slice a2 ps.length c2], .agg #[.int .i64 (N : Int), .int .i64 f, .int .i64 l], .int .i64 (i : Int)] wx fun e w' => ∃ a n c, e = .returned (.slice a n c) ∧ Own 0 5 .u8 w' (.slice a n c) (R i) ∧ (∀ b, (Value.slice a n c).ownBlock = some b → wx.heap.size ≤ b) ∧ Same wx w' from fun i hi wx hv => by rw [← hR]; exact kP i hi wx hv)
 rw [hR] at HLEN HIB
 have HR := hid hR
 clear hR
 have HBAD : Hid (∀ k, k < N → ¬ goodPg (R k) k = true → heapD (N : Int) f l dur (dataP ps) = (false, [])) := fun k hk hg => heapD_no (fun h => hg (by have h1 := h.2 k (by rw [HPN.out]; exact hk); rw [HR.out] at h1; exact h1))
 go_enter Tryz.func5, Tryz.ntmps5
 go_wp2_with fail
 rw [HW0.out]
 refine (kF _ (HV.out.same HK0.out)).mono ?_
 rintro e w1 ⟨⟨B, rfl, hB⟩, hk1⟩
 obtain rfl : B = true := hB.2 HFD.out
 have HK1 := hid ((HK0.out.trans hk1).alloc (.cells #[.bool true, .slice none 0 0] 31))
 have HX1 := hid ((HX0.out.same hk1).same ((Kept.refl _ _).alloc (.cells #[.bool true, .slice none 0 0] 31)))
 have HB1 := hid (Blk.newL w1 [.bool true, .slice none 0 0] 31)
 have hzB : w.heap.size + 1 + 1 < w1.heap.size := (HX0.out.same hk1).z.lt
 clear hB hk1 HK0 HX0 HW0 kF
 go_wp2_with fail
 generalize w1.alloc (.cells #[.bool true, .slice none 0 0] 31) = w2 at HK1 HX1 ⊢ HB1
 generalize w1.heap.size = B5 at *
 go_loopw [6] (fun i wr => ∃ (k : Nat) (aa : Option Addr) (na ca : Nat) (qs : List EHeapRecord), k ≤ N ∧ i = .int .i64 (k : Int) ∧ Hid (datHeapRecordS qs = heapRecs R k) ∧ Hid (Blk wr B5 31 [.bool true, .slice aa na ca]) ∧ Hid (OwnR kHeapRecord 0 56 5 wr (.slice aa na ca) qs) ∧ Hid (∀ b, footR kHeapRecord (.slice aa na ca) qs b → B5 < b) ∧
  Hid (allGood R k) ∧ Hid (BoxF wr w.heap.size [.slice a1 dur.length c1, .slice a2 ps.length c2] [.int .i64 (N : Int), .int .i64 f, .int .i64 l] [.bool false, .slice none 0 0]) ∧ Hid (Same w wr)) (fun i _ => N - (intOf i).toNat)
 case atStart => exact ⟨0, _, _, _, [], Nat.zero_le _, rfl, rfl, HB1, OwnR.nil _ _ _ _ _, fun b h => (foot_none b h).elim, fun i hi => by omega, HX1, HK1⟩
 case round =>
  obtain ⟨k, aa, na, ca, qs, hk, rfl, HQ, HB, HO, HF, HAG, HX, HK⟩ := hrel
  clear HB1 HX1 HK1
  obtain ⟨d0, d1⟩ := HX.out.d.all2
  obtain ⟨g0, g1, g2⟩ := HX.out.g.all3
  by_cases hlt : k < N
  case neg =>
   obtain rfl : k = N := by omega
   obtain ⟨z0, z1⟩ := HX.out.z.all2
   have fz := HX.out.z.frozen
   obtain ⟨b0, b1⟩ := HB.out.all2
   have HD := hid (heapD_yes (show heapOK (k : Int) f l dur (dataP ps) from ⟨HFD.out, by rw [HR.out, HPN.out]; exact HAG.out⟩))
   go_wp2
   have h4 : Blk ((wr.setCell ⟨w.heap.size + 1 + 1, 0, none⟩ (.bool true)).setCell ⟨w.heap.size + 1 + 1, 1, none⟩ (.slice aa na ca)) (w.heap.size + 1 + 1) 31 [.bool true, .slice aa na ca] := (HX.out.z.stored 0 (.bool true)).stored 1 (.slice aa na ca)
   obtain ⟨y0, y1⟩ := h4.all2
   have hk4 : Kept (fun b => b = w.heap.size + 1 + 1) wr ((wr.setCell ⟨w.heap.size + 1 + 1, 0, none⟩ (.bool true)).setCell ⟨w.heap.size + 1 + 1, 1, none⟩ (.slice aa na ca)) := Kept.setCell (R := fun b => b = w.heap.size + 1 + 1) (Kept.setCell (R := fun b => b = w.heap.size + 1 + 1) (Kept.refl _ _) (p := ⟨w.heap.size + 1 + 1, 0, none⟩) (.inr rfl) _) (p := ⟨w.heap.size + 1 + 1, 1, none⟩) (.inr rfl) _
   refine bodyPost_ret (v := .agg #[.bool true, .slice aa na ca]) (by simp [results, Tryz.results5, go_sem, y0, y1]) rfl ?_
   rw [HD.out, HR.out, HPN.out]
   exact ⟨aa, na, ca, qs, rfl, HQ.out, fun b h => by have := HF.out b h; omega, HO.out.kept hk4 (fun b h e => by have := HF.out b h; omega), (HK.out.setCell (.inl (by dsimp only; omega)) _).setCell (.inl (by dsimp only; omega)) _⟩
  have hrl := HLEN.out k hlt
  have hrb := HIB.out k
  obtain ⟨raw, hrw⟩ : ∃ raw, R k = raw := ⟨_, rfl⟩
  have kP := kP k hlt
  have HBADk := hid (HBAD.out k hlt)
  rw [hrw] at hrl hrb kP HBADk
  have HRW := hid hrw
  have HRL := hid hrl
  have HRB := hid hrb
  clear hrw hrl hrb
  go_wp2_with fail
  refine (kP _ (HV.out.same HK.out)).mono ?_
  rintro e w3 ⟨a3, n3, c3, rfl, ho3, hf3, hk3⟩
  obtain ⟨b3, hlo3, hle3, e1, e2⟩ : ∃ b, wr.heap.size ≤ b ∧ 4096 ≤ c3 ∧ a3 = some ⟨b, 0, none⟩ ∧ n3 = 4096 := by
   rcases ho3.form with ⟨_, h⟩ | ⟨g, cap, h, _, _, hc, _⟩
   ·have := HRL.out; rw [h] at this; simp at this
   ·cases h
    rw [HRL.out] at hc ⊢
    exact ⟨g, hf3 g rfl, hc, rfl, rfl⟩
  subst e1
  subst e2
  have HO3 := hid ho3
  have HK3 := hid (HK.out.trans hk3)
  have HX3 := hid (HX.out.same hk3)
  have HB3 := hid (HB.out.same hk3)
  have HOW3 := hid (HO.out.same hk3)
  have HFN : Hid (∀ b, footR kHeapRecord (.slice aa na ca) qs b → b < wr.heap.size) := fun b h => (HO.out.lt b h).2
  have hzr := HK.out.size
  have hBl := HB.out.lt
  clear ho3 hf3 hk3 d0 d1 g0 g1 g2 HX HB HO kP
  have kW := fun wx (hv : Rd .u8 wx (.slice (some ⟨b3, 0, none⟩) 4096 c3) raw) => specWhole_any (.slice (some ⟨b3, 0, none⟩) 4096 c3) raw wx HRB.out (by rw [HRL.out]; omega) hv
  have kT := fun wx (hv : Rd .u8 wx (.slice (some ⟨b3, 0, none⟩) 4096 c3) raw) => specFault_any (.slice (some ⟨b3, 0, none⟩) 4096 c3) raw (k : Int) wx HRB.out (by rw [HRL.out]; omega) hv
  have kL := fun wx (hv : Rd .u8 wx (.slice (some ⟨b3, 0, none⟩) 4096 c3) raw) => l3Slots_any b3 0 c3 raw wx HRB.out HRL.out hv
  obtain ⟨wh, hwh⟩ : ∃ b, pageWhole raw = b := ⟨_, rfl⟩
  obtain ⟨FT, hFT⟩ : ∃ x, pageFault raw (k : Int) = x := ⟨_, rfl⟩
  rw [hwh] at kW
  rw [hFT] at kT
  have HWH := hid hwh
  have HFT := hid hFT
  clear hwh hFT
  cases wh with
  | false =>
   have HD := hid (HBADk.out (fun h => by have := (good_parts h).1; rw [HWH.out] at this; cases this))
   go_wp2_with fail
   refine (kW _ HO3.out.rd).mono ?_
   rintro e w4 ⟨rfl, hk4⟩
   have HK4 := hid (HK3.out.trans hk4)
   have HX4 := hid (HX3.out.same hk4)
   obtain ⟨z0, z1⟩ := HX4.out.z.all2
   have fz := HX4.out.z.frozen
   clear hk4
   go_wp2
   have h4 : Blk ((w4.setCell ⟨w.heap.size + 1 + 1, 0, none⟩ (.bool false)).setCell ⟨w.heap.size + 1 + 1, 1, none⟩ (.slice none 0 0)) (w.heap.size + 1 + 1) 31 [.bool false, .slice none 0 0] := (HX4.out.z.stored 0 (.bool false)).stored 1 (.slice none 0 0)
   obtain ⟨y0, y1⟩ := h4.all2
   refine bodyPost_ret (v := .agg #[.bool false, .slice none 0 0]) (by simp [results, Tryz.results5, go_sem, y0, y1]) rfl ?_
   rw [HD.out]
   exact ⟨_, _, _, [], rfl, rfl, fun b h => (foot_none b h).elim, OwnR.nil _ _ _ _ _, (HK4.out.setCell (.inl (by dsimp only; omega)) _).setCell (.inl (by dsimp only; omega)) _⟩
  | true =>
  go_wp2_with fail
  refine (kW _ HO3.out.rd).mono ?_
  rintro e w4 ⟨rfl, hk4⟩
  have HK4 := hid (HK3.out.trans hk4)
  have HX4 := hid (HX3.out.same hk4)
  have HB4 := hid (HB3.out.same hk4)
  have HO4 := hid (HO3.out.same hk4)
  have HOW4 := hid (HOW3.out.same hk4)
  clear hk4 kW HX3 HB3 HO3 HOW3 HK3
  go_wp2_with fail
  refine (kT _ HO4.out.rd).mono ?_
  rintro e w5 ⟨rfl, hk5⟩
  have HK5 := hid (HK4.out.trans hk5)
  have HX5 := hid (HX4.out.same hk5)
  have HB5 := hid (HB4.out.same hk5)
  have HO5 := hid (HO4.out.same hk5)
  have HOW5 := hid (HOW4.out.same hk5)
  clear hk5 kT HX4 HB4 HO4 HOW4 HK4
  by_cases hF0 : FT = 0
  case neg =>
   have HD := hid (HBADk.out (fun h => hF0 (by have := (good_parts h).2; rw [HFT.out] at this; exact this)))
   obtain ⟨z0, z1⟩ := HX5.out.z.all2
   have fz := HX5.out.z.frozen
   have hF1 : (FT != 0) = true := by simpa using hF0
   go_wp2
   have h4 : Blk ((w5.setCell ⟨w.heap.size + 1 + 1, 0, none⟩ (.bool false)).setCell ⟨w.heap.size + 1 + 1, 1, none⟩ (.slice none 0 0)) (w.heap.size + 1 + 1) 31 [.bool false, .slice none 0 0] := (HX5.out.z.stored 0 (.bool false)).stored 1 (.slice none 0 0)
   obtain ⟨y0, y1⟩ := h4.all2
   refine bodyPost_ret (v := .agg #[.bool false, .slice none 0 0]) (by simp [results, Tryz.results5, go_sem, y0, y1]) rfl ?_
   rw [HD.out]
   exact ⟨_, _, _, [], rfl, rfl, fun b h => (foot_none b h).elim, OwnR.nil _ _ _ _ _, (HK5.out.setCell (.inl (by dsimp only; omega)) _).setCell (.inl (by dsimp only; omega)) _⟩
  subst hF0
  go_wp2_with fail
  refine (kL _ HO5.out.rd).mono ?_
  rintro e w6 ⟨gs, cs, rfl, hgs, hrow6, hk6⟩
  have HK6 := hid (HK5.out.trans hk6)
  have HX6 := hid (HX5.out.same hk6)
  have HB6 := hid (HB5.out.same hk6)
  have HO6 := hid (HO5.out.same hk6)
  have HOW6 := hid (HOW5.out.same hk6)
  have HR6 := hid hrow6
  have hz56 : wr.heap.size ≤ w5.heap.size := Nat.le_trans hlo3 (Nat.le_of_lt ((HO5.out.lt b3 rfl).2))
  have hb35 : b3 < w5.heap.size := (HO5.out.lt b3 rfl).2
  clear hk6 hrow6 kL HX5 HB5 HO5 HOW5 HK5
  have HGS : Hid (∀ s, s < 32 → ¬ sOff raw s = 0 → sLen raw s ≤ 1000 ∧ sOff raw s + sLen raw s ≤ 4096) := fun s hs h0 => good_slot HFT.out s hs h0
  have HQL : Hid ((heapRecs R k).length ≤ 512) := by have := heapRecs_length R k; unfold Hid; omega
  go_wp2_with fail
  go_loopw [9] (fun i wx => ∃ (s : Nat) (ab : Option Addr) (nb cb : Nat) (rs : List EHeapRecord), s ≤ 32 ∧ i = .int .i64 (s : Int) ∧ Hid (datHeapRecordS rs = heapRecs R k ++ pageRecs raw k s) ∧ Hid (Blk wx B5 31 [.bool true, .slice ab nb cb]) ∧ Hid (OwnR kHeapRecord 0 56 5 wx (.slice ab nb cb) rs) ∧ Hid (∀ b, footR kHeapRecord (.slice ab nb cb) rs b → B5 < b ∧ b ≠ b3 ∧ b ≠ gs) ∧
   Hid (Own 0 5 .u8 wx (.slice (some ⟨b3, 0, none⟩) 4096 c3) raw) ∧ Hid (wx.ownsRow 0 53 2 (.slice (some ⟨gs, 0, none⟩) 32 cs) 32 (vals .i64 (slotsOf raw))) ∧ Hid (BoxF wx w.heap.size [.slice a1 dur.length c1, .slice a2 ps.length c2] [.int .i64 (N : Int), .int .i64 f, .int .i64 l] [.bool false, .slice none 0 0]) ∧ Hid (Same w wx)) (fun i _ => 32 - (intOf i).toNat)
  case atStart => exact ⟨0, aa, na, ca, qs, Nat.zero_le _, rfl, by unfold Hid; rw [show pageRecs raw k 0 = [] from rfl, List.append_nil]; exact HQ.out, HB6, HOW6, fun b h => ⟨HF.out b h, by have := HFN.out b h; omega, by have := HFN.out b h; omega⟩, HO6, HR6, HX6, HK6⟩
  case round =>
   clear HB6 HOW6 HO6 HR6 HX6 HK6 HF HQ HFN
   obtain ⟨s, ab, nb, cb, rs, hs, rfl, HQ, HB, HOW, HF, HO, HRW6, HX, HK⟩ := hrel
   by_cases hs2 : s < 32
   case neg =>
    obtain rfl : s = 32 := by omega
    go_wp2
    go_roundw
    case rel =>
     refine ⟨k + 1, ab, nb, cb, rs, by omega, by go_num, by unfold Hid; rw [heapRecs_succ, HRW.out]; exact HQ.out, HB, HOW, fun b h => (HF.out b h).1, fun i hi => ?_, HX, HK⟩
     by_cases e : i < k
     ·exact HAG.out i e
     ·obtain rfl : i = k := by omega
      rw [HRW.out]
      unfold goodPg
      rw [HWH.out, HFT.out]
      rfl
    case measure => simp [intOf]; omega
   have hso := sOff_in HRB.out HRL.out s
   have hsl := sLen_in HRB.out HRL.out s
   obtain ⟨xn, hxn⟩ : ∃ n : Nat, sOff raw s = (n : Int) := ⟨(sOff raw s).toNat, by omega⟩
   obtain ⟨yn, hyn⟩ : ∃ n : Nat, sLen raw s = (n : Int) := ⟨(sLen raw s).toNat, by omega⟩
   have t0 : wr.cell? ⟨gs, s * 2, none⟩ = some (.int .i64 (xn : Int)) := by
    rw [World.ownsRow.cellAt HRW6.out (s * 2) (by omega), vals_at _ _ _ (by rw [slotsOf_length]; omega), ← hxn, sOff, Nat.mul_comm]
   have t1 : wr.cell? ⟨gs, s * 2 + 1, none⟩ = some (.int .i64 (yn : Int)) := by
    rw [World.ownsRow.cellAt HRW6.out (s * 2 + 1) (by omega), vals_at _ _ _ (by rw [slotsOf_length]; omega), ← hyn, sLen, Nat.mul_comm]
   have HSR := (show Hid (pageRecs raw k (s + 1) = pageRecs raw k s ++ slotRec raw k s) from pageRecs_succ raw k s)
   unfold slotRec at HSR
   have hgd := HGS.out s hs2
   rw [hxn, hyn] at HSR hgd
   rw [hxn] at hso
   rw [hyn] at hsl
   by_cases hx0 : xn = 0
   ·subst hx0
    rw [if_pos (by rfl), List.append_nil] at HSR
    clear hgd
    go_wp2
    go_roundw
    case rel => exact ⟨s + 1, ab, nb, cb, rs, by omega, by go_num, by unfold Hid; rw [HSR.out]; exact HQ.out, HB, HOW, HF, HO, HRW6, HX, HK⟩
    case measure => simp [intOf]; omega
   obtain ⟨hy1, hxy⟩ := hgd (by omega)
   rw [if_neg (by omega)] at HSR
   simp only [Int.toNat_natCast] at HSR
   obtain ⟨b0, b1⟩ := HB.out.all2
   have fB := HB.out.frozen
   have hlB := HB.out.lt
   have hlG : gs < wr.heap.size := World.block_lt_of_cell? wr _ t0
   have hl3 : b3 < wr.heap.size := (HO.out.lt b3 rfl).2
   have hrl : rs.length ≤ 544 := by
    have h1 := congrArg List.length HQ.out
    rw [datHeapRecordS_length, List.length_append] at h1
    have h2 := HQL.out
    have h3 := pageRecs_length raw k s
    omega
   obtain ⟨L, hL⟩ : ∃ L, rs.length = L := ⟨_, rfl⟩
   have HRS := hid hL
   rw [hL] at hrl
   have HCUT := hid (Rd.cut (b := b3) (off := 0) (c := c3) (by have h := HO.out.rd; rw [← HRL.out] at h; exact h) xn yn (by rw [HRL.out]; omega))
   obtain ⟨a7, ha7⟩ : ∃ a7 : Option Addr, (if c3 = xn then some (⟨b3, 0, none⟩ : Addr) else some ⟨b3, xn, none⟩) = a7 := ⟨_, rfl⟩
   have HCUT := (show Hid (Rd .u8 wr (.slice a7 yn (c3 - xn)) ((raw.drop xn).take yn)) from by
    have h := HCUT.out
    rw [← ha7]
    split
    ·rename_i hc; rw [if_pos hc] at h; exact h
    ·rename_i hc; rw [if_neg hc, Nat.zero_add] at h; exact h)
   have HCL : Hid (((raw.drop xn).take yn).length ≤ 1099511627776) := by unfold Hid; simp; omega
   have q1 : IntKind.i64.wrap ((k : Int) * 32) = (k : Int) * 32 := by rw [IntKind.wrap_i64]; omega
   have q2 : IntKind.i64.wrap ((k : Int) * 32 + (s : Int)) = (((k * 32 + s : Nat) : Int)) := by rw [IntKind.wrap_i64]; omega
   have q3 : IntKind.i64.wrap ((xn : Int) + (yn : Int)) = (xn : Int) + (yn : Int) := by rw [IntKind.wrap_i64]; omega
   have g1 : (xn : Int) + (yn : Int) ≤ (c3 : Int) := by omega
   have g2 : 0 ≤ (xn : Int) + (yn : Int) := by omega
   have g3 : ((xn : Int) + (yn : Int)).toNat = xn + yn := by omega
   have hxne : ¬ (xn : Int) = 0 := by omega
   clear hL hxn hyn hso hsl
   go_wp2_with fail
   have hS : (fun wx : World => wx.cell? ⟨B5, 1, none⟩ = some (.slice ab nb cb) ∧ wx.cell? ⟨gs, s * 2, none⟩ = some (.int .i64 (xn : Int)) ∧ wx.cell? ⟨gs, s * 2 + 1, none⟩ = some (.int .i64 (yn : Int))) wr.drew := ⟨b1, t0, t1⟩
   refine wp_region_V (fun wx : World => wx.cell? ⟨B5, 1, none⟩ = some (.slice ab nb cb) ∧ wx.cell? ⟨gs, s * 2, none⟩ = some (.int .i64 (xn : Int)) ∧ wx.cell? ⟨gs, s * 2 + 1, none⟩ = some (.int .i64 (yn : Int))) 29 30 rfl (by kernel_rfl) ?_
   refine tk 0 48 hS ?_
   refine tk 1 49 hS ?_
   refine tk 2 50 hS ?_
   refine tk 3 51 hS ?_
   refine tk 4 52 hS ?_
   refine tkV 5 53 (.int .i64 (((k * 32 + s : Nat) : Int))) hS ?_
   refine tk 6 54 hS ?_
   refine tk 7 55 hS ?_
   refine tk 8 56 hS ?_
   refine tk 9 57 hS ?_
   refine tk 10 58 hS ?_
   refine tk 11 59 hS ?_
   refine tk 12 60 hS ?_
   refine tk 13 61 hS ?_
   refine tk 14 62 hS ?_
   refine tk 15 63 hS ?_
   refine tk 16 64 hS ?_
   refine tk 17 65 hS ?_
   refine tk 18 66 hS ?_
   refine tk 19 67 hS ?_
   refine tk 20 68 hS ?_
   refine tk 21 69 hS ?_
   refine tkV 22 70 (.int .i64 ((xn : Int) + (yn : Int))) hS ?_
   refine tkV 23 71 (.slice a7 yn (c3 - xn)) hS ?_
   refine wpAnyV_one (i := 24) (by kernel_rfl) rfl (fun K hK => ?_)
   go_simp
   refine (l1Copy_any _ ((raw.drop xn).take yn) _ HCL.out (HCUT.out.same (Kept.refl _ _).drew)).mono ?_
   rintro e w4 ⟨a4, n4, c4, rfl, ho4, hf4, hk4⟩
   have HK4 : Hid (Same wr w4) := (Kept.refl _ _).drew.trans hk4
   have HO4 := hid ho4
   have HF4 : Hid (∀ b, (Value.slice a4 n4 c4).ownBlock = some b → wr.heap.size ≤ b) := hf4
   clear ho4 hf4 hk4
   have hS : (fun wx : World => wx.cell? ⟨B5, 1, none⟩ = some (.slice ab nb cb) ∧ wx.cell? ⟨gs, s * 2, none⟩ = some (.int .i64 (xn : Int)) ∧ wx.cell? ⟨gs, s * 2 + 1, none⟩ = some (.int .i64 (yn : Int))) w4 := ⟨HK4.out.cellOf b1 id, HK4.out.cellOf t0 id, HK4.out.cellOf t1 id⟩
   refine hK.out _ _ (fun _ => hS) ?_
   clear hK K
   try simp only [Act.put, sA, s0, sS]
   refine tk 25 73 hS ?_
   refine wpAnyV_one (i := 26) (by kernel_rfl) rfl (fun K hK => ?_)
   go_simp
   have hS : (fun wx : World => wx.cell? ⟨B5, 1, none⟩ = some (.slice ab nb cb) ∧ wx.cell? ⟨gs, s * 2, none⟩ = some (.int .i64 (xn : Int)) ∧ wx.cell? ⟨gs, s * 2 + 1, none⟩ = some (.int .i64 (yn : Int))) (w4.alloc (.cells #[.int .i64 (((k * 32 + s : Nat) : Int)), .slice a4 n4 c4] 56)) := ⟨(HK4.out.alloc _).cellOf b1 id, (HK4.out.alloc _).cellOf t0 id, (HK4.out.alloc _).cellOf t1 id⟩
   refine hK.out _ _ (fun _ => hS) ?_
   clear hK K
   try simp only [Act.put, sA, s0, sS]
   have HKO := (show Hid ((w4.alloc (.cells #[.int .i64 (((k * 32 + s : Nat) : Int)), .slice a4 n4 c4] 56)).ownsRow 0 56 2 (.slice ab nb cb) L (kHeapRecord.all rs)) from by have h := (HOW.out.same (HK4.out.alloc (.cells #[.int .i64 (((k * 32 + s : Nat) : Int)), .slice a4 n4 c4] 56))).row; rw [HRS.out] at h; exact h)
   have HN5 := hid (Blk.newL w4 [.int .i64 (((k * 32 + s : Nat) : Int)), .slice a4 n4 c4] 56)
   refine wpAnyV_one (i := 27) (by kernel_rfl) rfl (fun K hK => ?_)
   refine step_append_lies _ (by rfl) (.tmp 49) (.tmp 74) 29 (by rfl) 0 56 i0 _ 2 32 Tryz.underlying29 hi hz0 hz1 hz2 rfl (by omega) (.slice ab nb cb) L (kHeapRecord.all rs) (by rfl) (by exact HKO.out) ⟨w4.heap.size, 0, none⟩ 1 1 [.int .i64 (((k * 32 + s : Nat) : Int)), .slice a4 n4 c4] (by rfl) (by rfl) (World.news_of_block (cs := #[.int .i64 (((k * 32 + s : Nat) : Int)), .slice a4 n4 c4]) (t := 56) (fr := (0, 0)) (by exact HN5.out)) (by simp [Value.oneCell']) (by omega) (by unfold maxLen; omega) (by omega) (Nat.zero_le _) (w4.heap.size + 1) (by simp) ?_
   intro g5 cap5 w5 hown5 hgrow5 hat5 hlt5
   have HOWN5 := (show Hid (w5.ownsRow 0 56 2 (.slice (some ⟨g5, 0, none⟩) (L + 1) cap5) (L + 1) (kHeapRecord.all rs ++ [.int .i64 (((k * 32 + s : Nat) : Int)), .slice a4 n4 c4])) from hown5)
   have HG5 := (show Hid ((w4.alloc (.cells #[.int .i64 (((k * 32 + s : Nat) : Int)), .slice a4 n4 c4] 56)).grownBy w5 (Value.slice ab nb cb).ownBlock) from hgrow5)
   have HAT5 : Hid ((Value.slice ab nb cb).ownBlock = some g5 ∨ g5 = w4.heap.size + 1) := hat5
   have hnB : ¬ (Value.slice ab nb cb).ownBlock = some B5 := fun e => by have := (HF.out _ (.inl e)).1; omega
   have hnG : ¬ (Value.slice ab nb cb).ownBlock = some gs := fun e => (HF.out _ (.inl e)).2.2 rfl
   have hn3 : ¬ (Value.slice ab nb cb).ownBlock = some b3 := fun e => (HF.out _ (.inl e)).2.1 rfl
   have HK5 := (show Hid (Kept (fun b => (Value.slice ab nb cb).ownBlock = some b) wr w5) from ((HK4.out.alloc _).mono (fun _ _ e => e.elim)).trans (Kept.of_grown HG5.out (fun k e => e)))
   clear hown5 hgrow5 hat5
   have hS : (fun wx : World => wx.cell? ⟨B5, 1, none⟩ = some (.slice ab nb cb) ∧ wx.cell? ⟨gs, s * 2, none⟩ = some (.int .i64 (xn : Int)) ∧ wx.cell? ⟨gs, s * 2 + 1, none⟩ = some (.int .i64 (yn : Int))) w5 := ⟨HK5.out.cellOf b1 hnB, HK5.out.cellOf t0 hnG, HK5.out.cellOf t1 hnG⟩
   refine hK.out _ _ (fun _ => hS) ?_
   clear hK K
   try simp only [Act.put, sA, s0, sS]
   refine tk 28 76 hS ?_
   have HB5 := hid (HB.out.kept HK5.out hnB)
   have fB5 := HB5.out.frozen
   obtain ⟨u0, u1⟩ := HB5.out.all2
   refine wpAnyV_one (i := 29) (by kernel_rfl) rfl (fun K hK => ?_)
   go_simp
   refine hK.out _ _ (fun h => absurd rfl h) ?_
   clear hK K
   refine wpAnyV_done (by kernel_rfl) ?_
   try simp only [Act.put, sA, s0, sS]
   have hz4 := HK4.out.size
   have hz5 := HK5.out.size
   have hk56 : Kept (fun b => b = B5) w5 (w5.setCell ⟨B5, 1, none⟩ (.slice (some ⟨g5, 0, none⟩) (L + 1) cap5)) := Kept.setCell (R := fun b => b = B5) (Kept.refl _ _) (p := ⟨B5, 1, none⟩) (.inr rfl) _
   have HFS : Hid (∀ b, footR kHeapRecord (.slice (some ⟨g5, 0, none⟩) (L + 1) cap5) (rs ++ [⟨((k * 32 + s : Nat) : Int), .slice a4 n4 c4, (raw.drop xn).take yn⟩]) b → B5 < b ∧ b ≠ b3 ∧ b ≠ gs) := fun x hx => by
    rcases footR_snoc (v := .slice ab nb cb) x hx with rfl | hx | hx
    ·rcases HAT5.out with h | h
     ·exact HF.out _ (.inl h)
     ·omega
    ·exact HF.out x hx
    ·have := HF4.out x hx; omega
   have hsnoc := OwnR.snoc (K := kHeapRecord) (⟨((k * 32 + s : Nat) : Int), .slice a4 n4 c4, (raw.drop xn).take yn⟩ : EHeapRecord) (HOW.out.same (HK4.out.alloc (.cells #[.int .i64 (((k * 32 + s : Nat) : Int)), .slice a4 n4 c4] 56))) (HO4.out.same ((Kept.refl _ _).alloc _)) (fun b hb hf => by have h1 := HF4.out b hb; have h2 := (HOW.out.lt b hf).2; omega) HG5.out HOWN5.out HRS.out.symm (by rw [World.size_alloc]; exact HAT5.out)
   have HSN := hid (hsnoc.kept hk56 (fun b hb e => by have := (HFS.out b hb).1; omega))
   have HB6 := hid (HB5.out.stored 1 (.slice (some ⟨g5, 0, none⟩) (L + 1) cap5))
   have HX6 := hid ((HX.out.kept HK5.out (fun e => by have := (HF.out _ (.inl e)).1; omega) (fun e => by have := (HF.out _ (.inl e)).1; omega) (fun e => by have := (HF.out _ (.inl e)).1; omega)).kept hk56 (by omega) (by omega) (by omega))
   have HO6 := hid ((HO.out.kept HK5.out (fun b hb => by have h : b3 = b := (by simpa [Value.ownBlock] using hb); rw [← h]; exact hn3)).kept hk56 (fun b hb e => by have h : b3 = b := (by simpa [Value.ownBlock] using hb); omega))
   have HR6 := hid (hk56.owns (HK5.out.owns HRW6.out (fun b hb => by have h : gs = b := (by simpa [Value.ownBlock] using hb); rw [← h]; exact hnG)) (fun b hb e => by have h : gs = b := (by simpa [Value.ownBlock] using hb); omega))
   have HK6 := (show Hid (Same w (w5.setCell ⟨B5, 1, none⟩ (.slice (some ⟨g5, 0, none⟩) (L + 1) cap5))) from (HK.out.next HK5.out (fun i hi e => by have := (HF.out _ (.inl e)).1; omega)).setCell (.inl (by dsimp only; omega)) _)
   clear hsnoc hk56
   generalize w5.setCell ⟨B5, 1, none⟩ (.slice (some ⟨g5, 0, none⟩) (L + 1) cap5) = w6 at *
   go_wp2
   go_roundw
   case rel =>
    refine ⟨s + 1, some ⟨g5, 0, none⟩, L + 1, cap5, rs ++ [⟨((k * 32 + s : Nat) : Int), .slice a4 n4 c4, (raw.drop xn).take yn⟩], by omega, by go_num, ?_, HB6, HSN, HFS, HO6, HR6, HX6, HK6⟩
    unfold Hid
    rw [HSR.out, ← List.append_assoc, ← HQ.out]
    unfold datHeapRecordS
    rw [List.map_append]
    rfl
   case measure => simp [intOf]; omega
structure StPageRecord where
 used : Bool
 data : BS
def StPageRecord.val (x : StPageRecord) : Value := .agg #[.bool x.used, x.data.v]
def StPageRecord.rows (x : StPageRecord) : List Row := x.data.rows
def StPageRecord.dat (x : StPageRecord) : Bool × List Int := (x.used, x.data.bs)
def StPageRecord.size (x : StPageRecord) : Int := (x.data.bs.length : Int)
def StPageRecord.marked (x : StPageRecord) (k : Int) : StPageRecord := ⟨x.used, x.data.marked (k)⟩
def StPageRecord.rd (w : World) (x : StPageRecord) : Prop := Rd .u8 w x.data.v x.data.bs
theorem StPageRecord.rd.kept {R : Nat → Prop} {w w' : World} {x : StPageRecord} (h : StPageRecord.rd w x) (hk : Kept R w w') (hr : ∀ b, FootL x.rows b → ¬ R b) : StPageRecord.rd w' x :=
 Rd.kept (h) hk (fun b hb => hr b (((footL_ints _ _ _ _ _).2 hb)))
theorem StPageRecord.rd.same {w w' : World} {x : StPageRecord} (h : StPageRecord.rd w x) (hk : Same w w') : StPageRecord.rd w' x := h.kept hk (fun _ _ => id)
theorem SP.rdRaw {w : World} {P : Nat} {sum : List Int} {lsn num bot : Int} {sl raw : List Int} (h : SP w P sum lsn num bot sl raw) (x y : Nat) (c : Nat) (hxy : x + y ≤ 4096) (hc : y ≤ c) : Rd .u8 w (.slice (some ⟨P, 71 + x, none⟩) y c) ((raw.drop x).take y) := by
 have hl : ((raw.drop x).take y).length = y := by simp [h.l3]; omega
 refine ⟨by rw [hl]; unfold maxLen; omega, .inr ⟨P, 71 + x, c, by rw [hl], by rw [hl]; exact hc, fun i hi => ?_⟩⟩
 rw [hl] at hi
 rw [show 71 + x + i = 71 + (x + i) from by omega, h.rawAt (x + i) (by omega)]
 simp [List.getD, List.getElem?_take, List.getElem?_drop, hi]
theorem record_any (P : Nat) (sum : List Int) (lsn num bot : Int) (sl raw : List Int) (x y : Nat) (w : World) (hp : SP w P sum lsn num bot sl raw) (hxy : x + y ≤ 4096) :
  Calls Tryz.prog 53 #[.pointer (some ⟨P, 0, none⟩), .agg #[.int .i64 x, .int .i64 y]] w fun e w' => ∃ a c, e = .returned (.slice a y c) ∧ Rd .u8 w' (.slice a y c) ((raw.drop x).take y) ∧ Same w w' := by
 have hx : (0 : Int) ≤ x ∧ (x : Int) ≤ 65535 := by omega
 have hy : (0 : Int) ≤ y ∧ (y : Int) ≤ 65535 := by omega
 have HP := (show Hid (SP w P sum lsn num bot sl raw) from hp)
 have hrun : ∀ wx : World, (Instr.sliceAt 84 (.pointer (some ⟨P, 71, none⟩)) (some (.int .i64 (x : Int))) (some (.int .i64 ((x : Int) + (y : Int)))) none).run Tryz.prog wx = .ok (.slice (some (if 4096 = x then ⟨P, 71, none⟩ else ⟨P, 71 + x, none⟩)) y (4096 - x)) wx := by
  intro wx
  have hal : Tryz.prog.arrayLen 84 = 4096 := by kernel_rfl
  rw [run_sliceAt_array_lh wx 84 ⟨P, 71, none⟩ (by kernel_rfl) .i64 .i64 x (x + y) (by omega) (by omega) (by rw [hal]; omega), hal]
  have hsz : (sizeOf (Tryz.prog.elem 84)).run Tryz.prog wx = .ok 1 wx := by kernel_rfl
  rw [hsz]
  have e1 : ((x : Int) + (y : Int)).toNat - ((x : Int)).toNat = y := by omega
  simp only [Result.andThen, slicedAt, Int.toNat_natCast, Nat.mul_one]
  rw [show ((x : Int) + (y : Int)).toNat - x = y from by omega, addr_add]
 obtain ⟨A, hA⟩ : ∃ A : Addr, (if 4096 = x then ⟨P, 71, none⟩ else ⟨P, 71 + x, none⟩) = A := ⟨_, rfl⟩
 have HA := (show Hid ((if 4096 = x then (⟨P, 71, none⟩ : Addr) else ⟨P, 71 + x, none⟩) = A) from hA)
 rw [hA] at hrun
 clear hp hA
 go_enter Tryz.func53, Tryz.ntmps53
 go_wp2_with fail
 have hb1 := Blk.new w #[.int .i64 x, .int .i64 y] 91
 have hk1 : Same w (w.alloc (.cells #[.int .i64 x, .int .i64 y] 91)) := (Kept.refl _ _).alloc _
 obtain ⟨w1, hw1⟩ : ∃ w1, w.alloc (.cells #[.int .i64 x, .int .i64 y] 91) = w1 := ⟨_, rfl⟩
 rw [hw1] at hb1 hk1 ⊢
 clear hw1
 let Y1 : World → Prop := fun wx : World => wx.cell? ⟨w.heap.size, 0, none⟩ = some (.int .i64 x) ∧ wx.cell? ⟨w.heap.size, 1, none⟩ = some (.int .i64 y)
 have hSx : ∀ wx, Same w1 wx → Y1 wx := fun wx h => ⟨by rw [(hb1.same h).cell]; rfl, by rw [(hb1.same h).cell]; rfl⟩
 have hS : Y1 w1.drew := by exact hSx _ (Kept.refl _ _).drew
 refine wp_region_V Y1 8 9 rfl (by kernel_rfl) ?_
 refine tk 0 5 hS ?_
 refine tk 1 6 hS ?_
 refine tk 2 7 hS ?_
 refine tk 3 8 hS ?_
 refine tk 4 9 hS ?_
 refine tk 5 10 hS ?_
 refine wpAnyV_one (i := 6) (by kernel_rfl) rfl (fun K hK => ?_)
 go_simp
 have hc := end_any x y w1.drew hx hy
 with_reducible refine hc.mono ?_
 clear hc
 rintro e w2 ⟨rfl, hkk⟩
 have hkw2 : Same w1 w2 := Kept.trans ((Kept.refl _ _).drew) hkk
 clear hkk
 have hS : Y1 w2 := hSx _ hkw2
 refine hK.out _ _ (fun _ => hS) ?_
 clear hK K
 try simp only [Act.put, sA, s0, sS]
 refine wpAnyV_take (i := 7) (v := .slice (some A) y (4096 - x)) (some 12) rfl rfl (by kernel_rfl) (by kernel_rfl) (by kernel_rfl) (by kernel_rfl) (fun _ _ _ h => h) (Or.inl ⟨by rfl, fun wx hSw => by have h := hrun wx; go_simp⟩) hS ?_
 try simp only [Act.put, sA, s0, sS]
 refine wpAnyV_one (i := 8) (by kernel_rfl) rfl (fun K hK => ?_)
 go_simp
 refine hK.out _ _ (fun h => absurd rfl h) ?_
 clear hK K
 refine wpAnyV_done (by kernel_rfl) ?_
 try simp only [Act.put, sA, s0, sS]
 go_wp2
 go_ret
 refine ⟨_, _, rfl, ?_, hk1.trans hkw2⟩
 have hsp := HP.out.same (hk1.trans hkw2)
 rw [← HA.out]
 by_cases h : 4096 = x
 ·obtain rfl : y = 0 := by omega
  rw [if_pos h, List.take_zero]
  exact ⟨by simp, .inl ⟨rfl, _, _, rfl, fun h => by cases h⟩⟩
 ·rw [if_neg h]
  exact hsp.rdRaw x y (4096 - x) hxy (by omega)
def RecE (w w' : World) (L : List (Int × List Int)) (e : Ending) : Prop :=
 ∃ a n c qs, e = .returned (.slice a n c) ∧ datHeapRecordS qs = L ∧ (∀ b, footR kHeapRecord (.slice a n c) qs b → w.heap.size ≤ b) ∧ OwnR kHeapRecord 0 56 5 w' (.slice a n c) qs ∧ Same w w'
theorem hpRecs_nil (w : World) :
  Calls Tryz.prog 25 #[.slice none 0 0] w fun e w' => RecE w w' [] e := by
 go_enter Tryz.func25, Tryz.ntmps25
 go_wp2
 refine wp_loop_rounds 1 ?_
 rw [rounds_succ]
 go_wp2
 go_ret
 exact ⟨_, _, _, [], rfl, rfl, fun b h => (foot_none b h).elim, OwnR.nil _ _ _ _ _, Kept.refl _ _⟩
theorem hpRecs_any (G N : Nat) (Ps : List Nat) (R : Nat → List Int) (w : World) (hM : HpM w G N Ps R) (hl : Ps.length = N) (hN : N ≤ 16) (hB : ∀ i, i < N → IsB (R i)) (hL : ∀ i, i < N → (R i).length = 4096) (hg : allGood R N) :
  Calls Tryz.prog 25 #[.slice (some ⟨G, 0, none⟩) N N] w fun e w' => RecE w w' (heapRecs R N) e := by
 obtain ⟨i0, hi, hz0, hz1, hz2⟩ := info_parts Tryz.infoRHeapRecord
 have HM := hid hM
 have HL := hid hL
 have HB := hid hB
 have HPL := hid hl
 have HGD := hid hg
 clear hM hl hB hL hg
 go_enter Tryz.func25, Tryz.ntmps25
 go_wp2_with fail
 go_loopw [3, 11] (fun o i wr => ∃ (k : Nat) (aa : Option Addr) (na ca : Nat) (qs : List EHeapRecord), k ≤ N ∧ o = .slice aa na ca ∧ i = .int .i64 (k : Int) ∧ Hid (datHeapRecordS qs = heapRecs R k) ∧ Hid (OwnR kHeapRecord 0 56 5 wr (.slice aa na ca) qs) ∧ Hid (∀ b, footR kHeapRecord (.slice aa na ca) qs b → w.heap.size ≤ b) ∧ Hid (Same w wr)) (fun _ i _ => N - (intOf i).toNat)
 case atStart => exact ⟨0, _, _, _, [], Nat.zero_le _, rfl, rfl, rfl, OwnR.nil _ _ _ _ _, fun b h => (foot_none b h).elim, Kept.refl _ _⟩
 case round =>
  obtain ⟨k, aa, na, ca, qs, hk, rfl, rfl, HQ, HO, HF, HK⟩ := hrel
  by_cases hlt : k < N
  case neg =>
   obtain rfl : k = N := by omega
   go_wp2
   go_ret
   exact ⟨_, _, _, qs, rfl, HQ.out, HF.out, HO.out, HK.out⟩
  have hkp : k < Ps.length := by rw [HPL.out]; exact hlt
  have hc := HK.out.cellOf (HM.out.cell k hkp) id
  have HSP := hid (HM.out.pgs k hkp)
  generalize Ps[k] = P at hc HSP
  unfold ptr at hc
  clear hkp
  have HRB := hid (HB.out k hlt)
  have HRL := hid (HL.out k hlt)
  have HGS : Hid (∀ s, s < 32 → ¬ sOff (R k) s = 0 → sLen (R k) s ≤ 1000 ∧ sOff (R k) s + sLen (R k) s ≤ 4096) := fun s hs h0 => good_slot (good_parts (HGD.out k hlt)).2 s hs h0
  have HQL : Hid ((heapRecs R k).length ≤ 512) := by have := heapRecs_length R k; unfold Hid; omega
  go_wp2_with fail
  go_loopw [3, 16] (fun o i wx => ∃ (s : Nat) (ab : Option Addr) (nb cb : Nat) (rs : List EHeapRecord), s ≤ 32 ∧ o = .slice ab nb cb ∧ i = .int .i64 (s : Int) ∧ Hid (datHeapRecordS rs = heapRecs R k ++ pageRecs (R k) k s) ∧ Hid (OwnR kHeapRecord 0 56 5 wx (.slice ab nb cb) rs) ∧ Hid (∀ b, footR kHeapRecord (.slice ab nb cb) rs b → w.heap.size ≤ b) ∧ Hid (Same w wx)) (fun _ i _ => 32 - (intOf i).toNat)
  case atStart => exact ⟨0, _, _, _, qs, Nat.zero_le _, rfl, rfl, by unfold Hid; rw [show pageRecs (R k) k 0 = [] from rfl, List.append_nil]; exact HQ.out, HO, HF, HK⟩
  case round =>
   clear HO HF HK hc HQ
   obtain ⟨s, ab, nb, cb, rs, hs, rfl, rfl, HQ, HO, HF, HK⟩ := hrel
   by_cases hs2 : s < 32
   case neg =>
    obtain rfl : s = 32 := by omega
    go_wp2
    go_roundw
    case rel => exact ⟨k + 1, ab, nb, cb, rs, by omega, rfl, by go_num, by rw [heapRecs_succ]; exact HQ, HO, HF, HK⟩
    case measure => simp [intOf]; omega
   have hso := sOff_in HRB.out HRL.out s
   have hsl := sLen_in HRB.out HRL.out s
   have hgd := HGS.out s hs2
   have c0 := HK.out.cellOf (HSP.out.slAt (2 * s) (by omega)) id
   have c1 := HK.out.cellOf (HSP.out.slAt (2 * s + 1) (by omega)) id
   rw [show 7 + 2 * s = 7 + s * 2 from by omega] at c0
   rw [show 7 + (2 * s + 1) = 7 + s * 2 + 1 from by omega] at c1
   have hlP : P < wr.heap.size := World.block_lt_of_cell? wr _ c0
   have HSR := (show Hid (pageRecs (R k) k (s + 1) = pageRecs (R k) k s ++ slotRec (R k) k s) from pageRecs_succ (R k) k s)
   unfold slotRec at HSR
   obtain ⟨xn, hxn⟩ : ∃ n : Nat, sOff (R k) s = (n : Int) := ⟨(sOff (R k) s).toNat, by omega⟩
   obtain ⟨yn, hyn⟩ : ∃ n : Nat, sLen (R k) s = (n : Int) := ⟨(sLen (R k) s).toNat, by omega⟩
   have c0' : wr.cell? ⟨P, 7 + s * 2, none⟩ = some (.int .i64 (xn : Int)) := by rw [← hxn]; exact c0
   have c1' : wr.cell? ⟨P, 7 + s * 2 + 1, none⟩ = some (.int .i64 (yn : Int)) := by rw [← hyn]; exact c1
   rw [hxn, hyn] at HSR hgd
   rw [hxn] at hso
   rw [hyn] at hsl
   have kU := fun wx => used_any (xn : Int) (yn : Int) wx
   have hs3 : (s : Int) < 32 := by omega
   clear c0 c1 hxn hyn
   by_cases hx0 : xn = 0
   ·have hx0i : (xn : Int) = 0 := by omega
    rw [if_pos hx0i, List.append_nil] at HSR
    rw [hx0i] at kU c0'
    rw [show ((0 : Int) != 0) = false from rfl] at kU
    clear hx0 hx0i hso
    clear hgd
    go_wp2_with (go_at_call 51; (with_reducible refine (kU _).mono ?_); rintro e w3 ⟨rfl, hk3⟩; have HK3 : Hid (Same wr w3) := ((Kept.refl _ _).alloc _).trans hk3; clear hk3)
    go_roundw
    case rel => exact ⟨s + 1, ab, nb, cb, rs, by omega, rfl, by go_num, by unfold Hid; rw [HSR.out]; exact HQ.out, HO.out.same HK3.out, HF, HK.out.trans HK3.out⟩
    case measure => simp [intOf]; omega
   obtain ⟨hy1, hxy⟩ := hgd (by omega)
   rw [if_neg (by omega)] at HSR
   simp only [Int.toNat_natCast] at HSR
   have hx2 : ((xn : Int) != 0) = true := by simp; omega
   rw [hx2] at kU
   have kR := fun wx (h : SPr wx P (R k)) => record_any P ((R k).take 4) (numAt (R k) 4 8) (numAt (R k) 12 4) (numAt (R k) 16 2) (slotsOf (R k)) (R k) xn yn wx h (by omega)
   have hrl : rs.length ≤ 544 := by
    have h1 := congrArg List.length HQ.out
    rw [datHeapRecordS_length, List.length_append] at h1
    have h2 := HQL.out
    have h3 := pageRecs_length (R k) k s
    omega
   obtain ⟨L, hL⟩ : ∃ L, rs.length = L := ⟨_, rfl⟩
   have HRS := hid hL
   rw [hL] at hrl
   have HCL : Hid ((((R k).drop xn).take yn).length ≤ 1099511627776) := by unfold Hid; simp; omega
   have q1 : IntKind.i64.wrap ((k : Int) * 32) = (k : Int) * 32 := by rw [IntKind.wrap_i64]; omega
   have q2 : IntKind.i64.wrap ((k : Int) * 32 + (s : Int)) = (k : Int) * 32 + (s : Int) := by rw [IntKind.wrap_i64]; omega
   have HIDN : Hid (((k * 32 + s : Nat) : Int) = (k : Int) * 32 + (s : Int)) := by unfold Hid; omega
   clear hL hso hsl
   go_wp2_with fail
   refine (kU _).mono ?_
   rintro e w3 ⟨rfl, hk3⟩
   have HB3 := hid ((Blk.newL wr [.int .i64 (xn : Int), .int .i64 (yn : Int)] 91).same hk3)
   have HK3 : Hid (Same wr w3) := ((Kept.refl _ _).alloc _).trans hk3
   obtain ⟨d0, d1⟩ := HB3.out.all2
   clear hk3 kU
   go_wp2_with fail
   refine (kR _ (HSP.out.same (HK.out.trans HK3.out))).mono ?_
   rintro e w4 ⟨a4, c4, rfl, hr4, hk4⟩
   have HK4 : Hid (Same wr w4) := HK3.out.trans hk4
   have HR4 := hid hr4
   clear hr4 hk4 kR d0 d1
   go_wp2_with fail
   refine (clone_any _ (((R k).drop xn).take yn) _ HCL.out HR4.out).mono ?_
   rintro e w5 ⟨a5, n5, c5, rfl, ho5, hf5, hk5⟩
   have HK5 : Hid (Same wr w5) := HK4.out.trans hk5
   have HO5 := hid ho5
   have HF5 : Hid (∀ b, (Value.slice a5 n5 c5).ownBlock = some b → wr.heap.size ≤ b) := fun x hx => Nat.le_trans HK4.out.size (hf5 x hx)
   clear ho5 hf5 hk5
   have HKO := (show Hid ((w5.alloc (.cells #[.int .i64 ((k : Int) * 32 + (s : Int)), .slice a5 n5 c5] 56)).ownsRow 0 56 2 (.slice ab nb cb) L (kHeapRecord.all rs)) from by have h := (HO.out.same (HK5.out.alloc (.cells #[.int .i64 ((k : Int) * 32 + (s : Int)), .slice a5 n5 c5] 56))).row; rw [HRS.out] at h; exact h)
   have HN5 := hid (Blk.newL w5 [.int .i64 ((k : Int) * 32 + (s : Int)), .slice a5 n5 c5] 56)
   go_wp2_with (at_builtin; go_loud (refine wpList_append_lies _ rfl (.tmp 31) (.tmp 38) 29 rfl 0 56 i0 _ 2 32 Tryz.underlying29 hi hz0 hz1 hz2 rfl (by omega) (.slice ab nb cb) L (kHeapRecord.all rs) rfl (by exact HKO.out) ⟨w5.heap.size, 0, none⟩ 1 1 [.int .i64 ((k : Int) * 32 + (s : Int)), .slice a5 n5 c5] rfl rfl (World.news_of_block (cs := #[.int .i64 ((k : Int) * 32 + (s : Int)), .slice a5 n5 c5]) (t := 56) (fr := (0, 0)) (by exact HN5.out)) (by simp [Value.oneCell']) (by omega) (by unfold maxLen; omega) (by omega) (Nat.zero_le _) (w5.heap.size + 1) (by simp) ?_); intro g6 cap6 w6 hown6 hgrow6 hat6 hlt6; have HOWN6 := (show Hid (w6.ownsRow 0 56 2 (.slice (some ⟨g6, 0, none⟩) (L + 1) cap6) (L + 1) (kHeapRecord.all rs ++ [.int .i64 ((k : Int) * 32 + (s : Int)), .slice a5 n5 c5])) from hown6); have HG6 := (show Hid ((w5.alloc (.cells #[.int .i64 ((k : Int) * 32 + (s : Int)), .slice a5 n5 c5] 56)).grownBy w6 (Value.slice ab nb cb).ownBlock) from hgrow6); have HAT6 : Hid ((Value.slice ab nb cb).ownBlock = some g6 ∨ g6 = w5.heap.size + 1) := hat6; clear hown6 hgrow6 hat6)
   have hz5 := HK5.out.size
   have hzr := HK.out.size
   have HK6 := (show Hid (Kept (fun b => (Value.slice ab nb cb).ownBlock = some b) wr w6) from ((HK5.out.alloc _).mono (fun _ _ e => e.elim)).trans (Kept.of_grown HG6.out (fun k e => e)))
   have hsnoc := OwnR.snoc (K := kHeapRecord) (⟨(k : Int) * 32 + (s : Int), .slice a5 n5 c5, ((R k).drop xn).take yn⟩ : EHeapRecord) (HO.out.same (HK5.out.alloc (.cells #[.int .i64 ((k : Int) * 32 + (s : Int)), .slice a5 n5 c5] 56))) (HO5.out.same ((Kept.refl _ _).alloc _)) (fun b hb hf => by have h1 := HF5.out b hb; have h2 := (HO.out.lt b hf).2; omega) HG6.out HOWN6.out HRS.out.symm (by rw [World.size_alloc]; exact HAT6.out)
   have HSN := hid hsnoc
   clear hsnoc
   go_roundw
   case rel =>
    refine ⟨s + 1, some ⟨g6, 0, none⟩, L + 1, cap6, rs ++ [⟨(k : Int) * 32 + (s : Int), .slice a5 n5 c5, ((R k).drop xn).take yn⟩], by omega, rfl, by go_num, ?_, HSN, fun x hx => ?_, HK.out.next HK6.out (fun i hi e => by have := HF.out _ (.inl e); omega)⟩
    ·unfold Hid
     rw [HSR.out, ← List.append_assoc, ← HQ.out, HIDN.out]
     unfold datHeapRecordS
     rw [List.map_append]
     rfl
    ·rcases footR_snoc (v := .slice ab nb cb) x hx with rfl | hx | hx
     ·rcases HAT6.out with h | h
      ·exact HF.out _ (.inl h)
      ·omega
     ·exact HF.out x hx
     ·have := HF5.out x hx; omega
   case measure => simp [intOf]; omega
theorem implHeap_any (p f l : Int) (dv pv : Value) (dur : List Int) (ps : List PW) (w : World) (hb : DiskB dur ps) (hv : RdD w dv pv dur ps) :
  Calls Tryz.prog 8 #[.agg #[dv, pv], .agg #[.int .i64 p, .int .i64 f, .int .i64 l]] w fun e w' => HeapE w w' (heapD p f l dur (dataP ps)) e := by
 have HV := hid hv
 have kO := fun wx hv => openHeap_any p f l dv pv dur ps wx hb hv
 have HB := hid hb
 obtain ⟨a1, c1, rfl⟩ := hv.dur.form
 obtain ⟨a2, c2, rfl⟩ := hv.pend.form
 clear hv hb
 obtain ⟨HKn, HA0, HG0⟩ := new2 w [.slice a1 dur.length c1, .slice a2 ps.length c2] 35 [.int .i64 p, .int .i64 f, .int .i64 l] 37
 obtain ⟨w0, hw0⟩ : ∃ x, ((w.alloc (.cells #[.slice a1 dur.length c1, .slice a2 ps.length c2] 35)).alloc (.cells #[.int .i64 p, .int .i64 f, .int .i64 l] 37)).alloc (.cells #[.bool false, .slice none 0 0] 31) = x := ⟨_, rfl⟩
 have HK0 := (show Hid (Same w w0) from by rw [← hw0]; exact HKn.out.alloc _)
 have HZ0 := (show Hid (Blk w0 (w.heap.size + 1 + 1) 31 [.bool false, .slice none 0 0]) from by
  rw [← hw0]
  have h := Blk.newL ((w.alloc (.cells #[.slice a1 dur.length c1, .slice a2 ps.length c2] 35)).alloc (.cells #[.int .i64 p, .int .i64 f, .int .i64 l] 37)) [.bool false, .slice none 0 0] 31
  rw [World.size_alloc, World.size_alloc] at h
  exact h)
 have HW0 := hid hw0
 clear hw0 HKn HA0 HG0
 go_enter Tryz.func8, Tryz.ntmps8
 go_wp2_with fail
 rw [HW0.out]
 refine (kO _ (HV.out.same HK0.out)).mono ?_
 rintro e w1 ⟨v, b, rfl, hk1, ⟨rfl, rfl, hno⟩ | ⟨rfl, hok, G, Ps, rfl, hpl, hG, hM⟩⟩
 ·have HK1 := hid (HK0.out.trans hk1)
  have HZ1 := hid (HZ0.out.same hk1)
  have HD := hid (heapD_no hno)
  clear hk1 hno
  go_wp2_with fail
  refine (hpRecs_nil _).mono ?_
  rintro e w2 ⟨a, n, c, qs, rfl, hq, hf, ho, hk2⟩
  have HK2 := hid (HK1.out.trans hk2)
  have HZ2 := hid (HZ1.out.same hk2)
  have HO := hid ho
  have HQ := hid hq
  have HF := hid hf
  have hz := HZ1.out.lt
  obtain ⟨z0, z1⟩ := HZ2.out.all2
  have fz := HZ2.out.frozen
  clear ho hf hk2 hq
  go_wp2
  have h4 : Blk ((w2.setCell ⟨w.heap.size + 1 + 1, 0, none⟩ (.bool false)).setCell ⟨w.heap.size + 1 + 1, 1, none⟩ (.slice a n c)) (w.heap.size + 1 + 1) 31 [.bool false, .slice a n c] := (HZ2.out.stored 0 (.bool false)).stored 1 (.slice a n c)
  obtain ⟨y0, y1⟩ := h4.all2
  have hk4 : Kept (fun b => b = w.heap.size + 1 + 1) w2 ((w2.setCell ⟨w.heap.size + 1 + 1, 0, none⟩ (.bool false)).setCell ⟨w.heap.size + 1 + 1, 1, none⟩ (.slice a n c)) := Kept.setCell (R := fun b => b = w.heap.size + 1 + 1) (Kept.setCell (R := fun b => b = w.heap.size + 1 + 1) (Kept.refl _ _) (p := ⟨w.heap.size + 1 + 1, 0, none⟩) (.inr rfl) _) (p := ⟨w.heap.size + 1 + 1, 1, none⟩) (.inr rfl) _
  refine bodyPost_ret (v := .agg #[.bool false, .slice a n c]) (by simp [results, Tryz.results8, go_sem, y0, y1]) rfl ?_
  rw [HD.out]
  exact ⟨a, n, c, qs, rfl, HQ.out, fun b h => by have := HF.out b h; have := HK1.out.size; omega, HO.out.kept hk4 (fun b h e => by have := HF.out b h; omega), (HK2.out.setCell (.inl (by dsimp only; omega)) _).setCell (.inl (by dsimp only; omega)) _⟩
 ·have HK1 := hid (HK0.out.trans hk1)
  have HZ1 := hid (HZ0.out.same hk1)
  have HD := hid (heapD_yes hok)
  have hgeo := geo_good hok.1.1
  have kL := hpRecs_any G p.toNat Ps (pgI l dur (dataP ps)) w1 hM hpl (by omega) (fun i _ => isB_pgI HB.out.1 (fun q hq => by obtain ⟨r, hr, rfl⟩ := List.mem_map.1 hq; exact HB.out.2 r hr) i) (fun i hi => pgI_length hok.1 i (by omega)) hok.2
  clear hk1 hok hG hM hpl hgeo
  generalize p.toNat = N at *
  go_wp2_with fail
  refine kL.mono ?_
  rintro e w2 ⟨a, n, c, qs, rfl, hq, hf, ho, hk2⟩
  have HK2 := hid (HK1.out.trans hk2)
  have HZ2 := hid (HZ1.out.same hk2)
  have HO := hid ho
  have HQ := hid hq
  have HF := hid hf
  have hz := HZ1.out.lt
  obtain ⟨z0, z1⟩ := HZ2.out.all2
  have fz := HZ2.out.frozen
  clear ho hf hk2 hq
  go_wp2
  have h4 : Blk ((w2.setCell ⟨w.heap.size + 1 + 1, 0, none⟩ (.bool true)).setCell ⟨w.heap.size + 1 + 1, 1, none⟩ (.slice a n c)) (w.heap.size + 1 + 1) 31 [.bool true, .slice a n c] := (HZ2.out.stored 0 (.bool true)).stored 1 (.slice a n c)
  obtain ⟨y0, y1⟩ := h4.all2
  have hk4 : Kept (fun b => b = w.heap.size + 1 + 1) w2 ((w2.setCell ⟨w.heap.size + 1 + 1, 0, none⟩ (.bool true)).setCell ⟨w.heap.size + 1 + 1, 1, none⟩ (.slice a n c)) := Kept.setCell (R := fun b => b = w.heap.size + 1 + 1) (Kept.setCell (R := fun b => b = w.heap.size + 1 + 1) (Kept.refl _ _) (p := ⟨w.heap.size + 1 + 1, 0, none⟩) (.inr rfl) _) (p := ⟨w.heap.size + 1 + 1, 1, none⟩) (.inr rfl) _
  refine bodyPost_ret (v := .agg #[.bool true, .slice a n c]) (by simp [results, Tryz.results8, go_sem, y0, y1]) rfl ?_
  rw [HD.out]
  exact ⟨a, n, c, qs, rfl, HQ.out, fun b h => by have := HF.out b h; have := HK1.out.size; omega, HO.out.kept hk4 (fun b h e => by have := HF.out b h; omega), (HK2.out.setCell (.inl (by dsimp only; omega)) _).setCell (.inl (by dsimp only; omega)) _⟩
theorem OwnR.sliceH {E : Type} {K : RowK E} {base : Nat} {tw tb : TypeId} {w : World} {v : Value} {ps : List E} (h : OwnR K base tw tb w v ps) : ∃ a n c, v = .slice a n c := by
 rcases h.form with ⟨rfl, _⟩ | ⟨g, cap, rfl, _⟩ <;> exact ⟨_, _, _, rfl⟩
theorem eqHeapResult_own {ta tb : TypeId} (base : Nat) (g : Bool) (va vb : Value) (ps qs : List EHeapRecord) (w : World) (hn : ps.length ≤ 1125899906842624) (hs : datHeapRecordS ps = datHeapRecordS qs) (hsm : ∀ p ∈ ps, p.bs.length ≤ 1125899906842624)
  (ha : OwnR kHeapRecord base 56 ta w va ps) (hb : OwnR kHeapRecord base 56 tb w vb qs) :
  Calls Tryz.prog 9 #[.agg #[.bool g, va], .agg #[.bool g, vb]] w fun e w' => e = .returned (.bool true) ∧ Same w w' := by
 obtain ⟨aa, na, ca, rfl⟩ := ha.sliceH
 obtain ⟨ab, nb, cb, rfl⟩ := hb.sliceH
 have HA := (show Hid (OwnR kHeapRecord base 56 ta w (.slice aa na ca) ps) from ha)
 have HB := (show Hid (OwnR kHeapRecord base 56 tb w (.slice ab nb cb) qs) from hb)
 have b0 := (Blk.newL w [.bool g, .slice aa na ca] 31).same ((Kept.refl _ _).alloc (.cells #[.bool g, .slice ab nb cb] 31))
 have b1 := Blk.newB w [.bool g, .slice aa na ca] 31 [.bool g, .slice ab nb cb] 31
 clear ha hb
 go_enter Tryz.func9, Tryz.ntmps9
 go_wp2_with fail
 refine (eqHeapRecordS_own base _ _ ps qs _ hn hs hsm (HA.out.same (((Kept.refl _ _).alloc _).alloc _)) (HB.out.same (((Kept.refl _ _).alloc _).alloc _))).mono ?_
 rintro e w1 ⟨rfl, hk⟩
 go_wp2
 go_ret
 exact ⟨rfl, (((Kept.refl _ _).alloc _).alloc _).trans hk⟩
theorem markHeapResult_own {tb : TypeId} (g : Bool) (va : Value) (ps : List EHeapRecord) (k0 : Int) (w : World) (h0 : 0 ≤ k0) (h1 : endR mHeapRecord k0 ps ≤ 1125899906842624) (hn : ps.length ≤ 1125899906842624) (ha : OwnR kHeapRecord 0 56 tb w va ps) :
  Calls Tryz.prog 12 #[.agg #[.bool g, va], .int .i64 k0] w fun e w' => e = .returned (.int .i64 (endR mHeapRecord k0 ps)) ∧ OwnR kHeapRecord 0 56 tb w' va (markR mHeapRecord k0 ps) ∧ Kept (footR kHeapRecord va ps) w w' := by
 obtain ⟨aa, na, ca, rfl⟩ := ha.sliceH
 have hm := markHeapRecordS_own 0 (.slice aa na ca) ps k0 (w.alloc (.cells #[.bool g, .slice aa na ca] 31)) h0 h1 hn (ha.same ((Kept.refl _ _).alloc _))
 obtain ⟨En, hE⟩ : ∃ En, endR mHeapRecord k0 ps = En := ⟨_, rfl⟩
 rw [hE] at hm ⊢
 clear ha h1 hE
 go_enter Tryz.func12, Tryz.ntmps12
 go_wp2_with fail
 refine hm.mono ?_
 clear hm
 rintro e w1 ⟨rfl, ho, hk⟩
 have HO := (show Hid (OwnR kHeapRecord 0 56 tb w1 (.slice aa na ca) (markR mHeapRecord k0 ps)) from ho)
 have HK := (show Hid (Kept (footR kHeapRecord (.slice aa na ca) ps) w w1) from ((Kept.refl _ _).alloc _).trans hk)
 clear ho hk
 go_wp2
 go_ret
 exact ⟨rfl, HO.out, HK.out⟩
theorem heldHeapResult_own {tb : TypeId} (g : Bool) (va : Value) (ps : List EHeapRecord) (k0 : Int) (w : World) (h0 : 0 ≤ k0) (h1 : endR mHeapRecord k0 ps ≤ 1125899906842624) (hn : ps.length ≤ 1125899906842624) (ha : OwnR kHeapRecord 0 56 tb w va (markR mHeapRecord k0 ps)) :
  Calls Tryz.prog 13 #[.agg #[.bool g, va], .int .i64 k0] w fun e w' => e = .returned (.int .i64 (endR mHeapRecord k0 ps)) ∧ Same w w' := by
 obtain ⟨aa, na, ca, rfl⟩ := ha.sliceH
 have hm := heldHeapRecordS_own 0 (.slice aa na ca) ps k0 (w.alloc (.cells #[.bool g, .slice aa na ca] 31)) h0 h1 hn (ha.same ((Kept.refl _ _).alloc _))
 have hl := endR_le mHeapRecord k0 ps
 obtain ⟨En, hE⟩ : ∃ En, endR mHeapRecord k0 ps = En := ⟨_, rfl⟩
 rw [hE] at hm hl ⊢
 have hp : ¬ En < 0 := by omega
 clear ha h1 hE
 go_enter Tryz.func13, Tryz.ntmps13
 go_wp2_with fail
 refine hm.mono ?_
 clear hm
 rintro e w1 ⟨rfl, rfl⟩
 go_wp2
 go_ret
 exact ⟨rfl, (Kept.refl _ _).alloc _⟩
theorem heapRecs_len (R : Nat → List Int) (N : Nat) (hl : ∀ i, i < N → (R i).length = 4096) : ∀ r ∈ heapRecs R N, r.2.length ≤ 4096 := by
 intro r hr
 unfold heapRecs at hr
 obtain ⟨x, hx, hr⟩ := List.mem_flatten.1 hr
 obtain ⟨i, hi, rfl⟩ := List.mem_map.1 hx
 unfold pageRecs at hr
 obtain ⟨y, hy, hr⟩ := List.mem_flatten.1 hr
 obtain ⟨s, hs, rfl⟩ := List.mem_map.1 hy
 have h1 := hl i (List.mem_range.1 hi)
 unfold slotRec at hr
 split at hr
 ·simp at hr
 ·simp at hr
  rw [hr]
  simp only [List.length_take, List.length_drop]
  omega
def SameF (w0 w : World) : Prop := Same w0 w
theorem SameF.same {w0 w w' : World} (h : SameF w0 w) (hk : Same w w') : SameF w0 w' := Kept.trans h hk
def HRes (w0 w' : World) (D : Bool × List (Int × List Int)) (v : Value) : Prop :=
 ∃ B a n c qs, v = .pointer (some ⟨B, 0, none⟩) ∧ w0.heap.size ≤ B ∧ B < w'.heap.size ∧ Blk w' B 31 [.bool D.1, .slice a n c] ∧ datHeapRecordS qs = D.2 ∧ (∀ b, footR kHeapRecord (.slice a n c) qs b → w0.heap.size ≤ b ∧ b ≠ B) ∧ OwnR kHeapRecord 0 56 5 w' (.slice a n c) qs ∧ Same w0 w'
theorem sizeHR {qs : List EHeapRecord} (h : ∀ r ∈ datHeapRecordS qs, r.2.length ≤ 4096) : sizeHeapRecordS qs ≤ qs.length * 4096 := by
 induction qs with
 | nil => simp [sizeHeapRecordS]
 | cons p ps ih =>
  have h1 := ih (fun r hr => h r (by unfold datHeapRecordS at hr ⊢; exact List.mem_cons_of_mem _ hr))
  have h2 := h p.dat (by unfold datHeapRecordS; exact List.mem_cons_self ..)
  have h3 : p.bs.length ≤ 4096 := h2
  simp only [sizeHeapRecordS, List.length_cons]
  omega
theorem heapD_small (p f l : Int) (dur : List Int) (ds : List (Int × List Int)) (qs : List EHeapRecord) (h : datHeapRecordS qs = (heapD p f l dur ds).2) : qs.length ≤ 512 ∧ sizeHeapRecordS qs ≤ 2097152 := by
 by_cases hk : heapOK p f l dur ds
 ·have hg := geo_good hk.1.1
  rw [heapD_yes hk] at h
  have h1 := congrArg List.length h
  rw [datHeapRecordS_length] at h1
  have h2 := heapRecs_length (pgI l dur ds) p.toNat
  have h3 := heapRecs_len (pgI l dur ds) p.toNat (fun i hi => pgI_length hk.1 i (by omega))
  have h4 := sizeHR (qs := qs) (by rw [h]; exact h3)
  dsimp only at h1
  omega
 ·rw [heapD_no hk] at h
  have h1 := congrArg List.length h
  rw [datHeapRecordS_length] at h1
  have h4 := sizeHR (qs := qs) (by rw [h]; simp)
  simp only [List.length_nil] at h1
  omega
end Go.Proofs.YtjlkphhdbopmiaaGreat
