import Derived.Test.YtednajibnjofmaaG07
import Derived.Test.YtednajibnjofmaaG02
import Derived.Test.YtednajibnjofmaaG03
import Derived.Test.YtednajibnjofmaaG01
import Derived.Test.YtednajibnjofmaaG06
import Derived.Test.YtednajibnjofmaaG00
import Derived.Test.YtednajibnjofmaaG05
import Derived.Test.YtednajibnjofmaaG04
import Derived.Deep.RegionWith
import Derived.Deep.DeepMust
import Derived.Deep.DeepCutAuto
namespace Go.Proofs.Ytednajibnjofmaa
set_option maxRecDepth 100000
set_option maxHeartbeats 8000000
open Go.RowKit
set_option linter.unusedVariables false
set_option linter.unusedSimpArgs false
def SPr (w : World) (P : Nat) (raw : List Int) : Prop := SP w P (raw.take 4) (numAt raw 4 8) (numAt raw 12 4) (numAt raw 16 2) (slotsOf raw) raw
theorem SPr.kept {R : Nat → Prop} {w w' : World} {P : Nat} {raw : List Int} (h : SPr w P raw) (hk : Kept R w w') (hr : ¬ R P) : SPr w' P raw := SP.kept h hk hr
theorem SPr.same {w w' : World} {P : Nat} {raw : List Int} (h : SPr w P raw) (hk : Same w w') : SPr w' P raw := SP.same h hk
def ptr (P : Nat) : Value := .pointer (some ⟨P, 0, none⟩)
structure HpM (w : World) (G n : Nat) (Ps : List Nat) (R : Nat → List Int) : Prop where
  row : Blk w G 87 (Ps.map ptr ++ List.replicate (n - Ps.length) (Value.pointer none))
  pgs : ∀ i (h : i < Ps.length), SPr w Ps[i] (R i)
  lo : ∀ i (h : i < Ps.length), G < Ps[i]
theorem HpM.same {w w' : World} {G n : Nat} {Ps : List Nat} {R : Nat → List Int} (h : HpM w G n Ps R) (hk : Same w w') : HpM w' G n Ps R := ⟨h.row.same hk, fun i hi => (h.pgs i hi).same hk, h.lo⟩
theorem ptrs_set (Ps : List Nat) (n P : Nat) (h : Ps.length < n) : (Ps.map ptr ++ List.replicate (n - Ps.length) (Value.pointer none)).set Ps.length (ptr P) = (Ps ++ [P]).map ptr ++ List.replicate (n - (Ps ++ [P]).length) (Value.pointer none) := by
  obtain ⟨m, hm⟩ : ∃ m, n - Ps.length = m + 1 := ⟨n - Ps.length - 1, by omega⟩
  rw [hm, List.set_append_right (h := by rw [List.length_map]; exact Nat.le_refl _), List.length_map, Nat.sub_self, List.replicate_succ, List.set_cons_zero, List.length_append, List.length_singleton, show n - (Ps.length + 1) = m from by omega, List.map_append, List.append_assoc]
  rfl
theorem HpM.snoc {w : World} {G n P : Nat} {Ps : List Nat} {R : Nat → List Int} (h : HpM w G n Ps R) (hn : Ps.length < n) (hP : SPr w P (R Ps.length)) (hG : G < P) : HpM (w.setCell ⟨G, Ps.length, none⟩ (ptr P)) G n (Ps ++ [P]) R := by
  have hk : Kept (fun b => b = G) w (w.setCell ⟨G, Ps.length, none⟩ (ptr P)) := Kept.setCell (R := fun b => b = G) (Kept.refl _ _) (p := ⟨G, Ps.length, none⟩) (.inr rfl) _
  refine ⟨?_, fun i hi => ?_, fun i hi => ?_⟩
  · have hs := h.row.stored Ps.length (ptr P)
    rw [ptrs_set Ps n P hn] at hs
    exact hs
  · by_cases e : i < Ps.length
    · rw [List.getElem_append_left e]
      exact (h.pgs i e).kept hk (by have := h.lo i e; omega)
    · have : i = Ps.length := by rw [List.length_append, List.length_singleton] at hi; omega
      subst this
      rw [List.getElem_append_right (Nat.le_refl _)]
      simp only [Nat.sub_self, List.getElem_cons_zero]
      exact hP.kept hk (by omega)
  · by_cases e : i < Ps.length
    · rw [List.getElem_append_left e]
      exact h.lo i e
    · have : i = Ps.length := by rw [List.length_append, List.length_singleton] at hi; omega
      subst this
      rw [List.getElem_append_right (Nat.le_refl _)]
      simp only [Nat.sub_self, List.getElem_cons_zero]
      exact hG
theorem HpM.cell {w : World} {G n : Nat} {Ps : List Nat} {R : Nat → List Int} (h : HpM w G n Ps R) (i : Nat) (hi : i < Ps.length) : w.cell? ⟨G, i, none⟩ = some (ptr Ps[i]) := by
  rw [h.row.cell, List.getElem?_append_left (by rw [List.length_map]; exact hi), List.getElem?_map, List.getElem?_eq_getElem hi]
  rfl
theorem HpM.next {w : World} {G n : Nat} {Ps : List Nat} {R : Nat → List Int} (h : HpM w G n Ps R) (hn : Ps.length < n) : w.cell? ⟨G, Ps.length, none⟩ = some (.pointer none) := by
  rw [h.row.cell, List.getElem?_append_right (by rw [List.length_map]; exact Nat.le_refl _), List.length_map, Nat.sub_self, List.getElem?_replicate, if_pos (by omega)]
def HpR (p f l : Int) (dur : List Int) (ds : List (Int × List Int)) (w w' : World) (v : Value) (b : Bool) : Prop :=
  Same w w' ∧ ((b = false ∧ v = .slice none 0 0 ∧ ¬ heapOK p f l dur ds) ∨
    (b = true ∧ heapOK p f l dur ds ∧ ∃ G Ps, v = .slice (some ⟨G, 0, none⟩) p.toNat p.toNat ∧ Ps.length = p.toNat ∧ w.heap.size ≤ G ∧ HpM w' G p.toNat Ps (pgI l dur ds)))
def HpE (p f l : Int) (dur : List Int) (ds : List (Int × List Int)) (w w' : World) (e : Ending) : Prop := ∃ v b, e = .returned (.tuple #[v, .bool b]) ∧ HpR p f l dur ds w w' v b
theorem Try.infoPtr' : (Try.prog.info? 87).map (fun i => (i.zero, i.size, i.bytes)) = some (some (.pointer none), 1, 8) := by kernel_rfl
theorem madeP1 (n : Nat) : (madeCells (Value.pointer none).cells (n * 1)).toList = List.replicate n (Value.pointer none) := by
  apply List.ext_getElem?
  intro j
  by_cases hj : j < n
  · simp [madeCells, Value.cells, hj, Nat.mod_one]
  · rw [List.getElem?_eq_none (by simp [madeCells]; omega), List.getElem?_eq_none (by simp; omega)]
theorem openHeap_any (p f l : Int) (dv pv : Value) (dur : List Int) (ps : List PW) (w : World) (hb : DiskB dur ps) (hv : RdD w dv pv dur ps) :
    Calls Try.prog 35 #[.agg #[dv, pv], .agg #[.int .i64 p, .int .i64 f, .int .i64 l]] w fun e w' => HpE p f l dur (dataP ps) w w' e := by
  have HV := hid hv
  have kF := fun wx hv => holds_any p f l dv pv dur ps wx hv
  have kN := fun hV wx hv => seen_any dv pv dur ps wx hV hv
  obtain ⟨a1, c1, rfl⟩ := hv.dur.form
  obtain ⟨a2, c2, rfl⟩ := hv.pend.form
  clear hv
  obtain ⟨HK0, HA0, HG0⟩ := new2 w [.slice a1 dur.length c1, .slice a2 ps.length c2] 32 [.int .i64 p, .int .i64 f, .int .i64 l] 34
  by_cases hF : fitD p f l dur.length (dataP ps)
  case neg =>
    go_enter Try.func35, Try.ntmps35
    go_wp2_with fail
    refine (kF _ (HV.out.same HK0.out)).mono ?_
    rintro e w1 ⟨⟨B, rfl, hB⟩, hk1⟩
    obtain rfl : B = false := by
      cases B
      · rfl
      · exact absurd (hB.1 rfl) hF
    have HK1 := hid (HK0.out.trans hk1)
    clear hB hk1
    go_wp2
    go_ret2
    exact ⟨_, _, rfl, HK1.out, .inl ⟨rfl, rfl, fun h => hF h.1⟩⟩
  have hgeo := geo_good hF.1
  obtain ⟨N, hN⟩ : ∃ N : Nat, p = (N : Int) := ⟨p.toNat, by omega⟩
  have hIB : ∀ i, IsB (pgI l dur (dataP ps) i) := isB_pgI hb.1 (fun q hq => by obtain ⟨r, hr, rfl⟩ := List.mem_map.1 hq; exact hb.2 r hr)
  have HLEN : Hid (∀ i, i < N → (pgI l dur (dataP ps) i).length = 4096) := fun i hi => pgI_length hF i (by omega)
  have HSEC : Hid (∀ i : Nat, i < N → pgSec p f l (i : Int) = 2 + l + (i : Int) * 8 ∧ 2 + l + (i : Int) * 8 + 8 ≤ ((dur.length / 512 : Nat) : Int)) := fun i hi => by
    obtain ⟨s1, s2, s3⟩ := fit_sec hF (g := (i : Int)) (by omega) (by omega)
    exact ⟨s1, s2⟩
  have HSL : Hid (∀ i : Nat, i < N → ∀ k : Nat, k < 8 → (seeD (2 + l + (i : Int) * 8 + (k : Int)) dur (dataP ps)).length = 512) := fun i hi k hk => by
    obtain ⟨s1, s2, s3⟩ := fit_sec hF (g := (i : Int)) (by omega) (by omega)
    exact seeD_length hF.2.1 (by omega) (by omega)
  have HN8 : Hid (dur.length / 512 ≤ 1024) := hF.2.1.1.2.2.1
  have kN := fun wx hv => kN hF.2.1 wx hv
  have hpN : p.toNat = N := by omega
  have HPN := hid hpN
  have HFD := hid hF
  have HIB := hid hIB
  have hl0 : 0 ≤ l ∧ l ≤ 800 := by omega
  have hN16 : 1 ≤ N ∧ N ≤ 16 := by omega
  obtain ⟨i0, hi, hz0, hz1, hz2⟩ := info_parts Try.infoPtr'
  clear hF hgeo hIB hpN hb
  subst hN
  obtain ⟨R, hR⟩ : ∃ R, pgI l dur (dataP ps) = R := ⟨_, rfl⟩
  rw [hR] at HLEN HIB
  have HR := hid hR
  clear hR
  go_enter Try.func35, Try.ntmps35
  go_wp2_with fail
  refine (kF _ (HV.out.same HK0.out)).mono ?_
  rintro e w1 ⟨⟨B, rfl, hB⟩, hk1⟩
  obtain rfl : B = true := hB.2 HFD.out
  have HK1 := hid (HK0.out.trans hk1)
  have HG1 := hid (HG0.out.same hk1)
  have HA1 := hid (HA0.out.same hk1)
  obtain ⟨e0, e1⟩ := HA1.out.all2
  clear hk1 hB
  go_wp2_with fail
  refine (kN _ (HV.out.same HK1.out)).mono ?_
  rintro e w2 ⟨v2, rfl, G2, us, rfl, hul, hG2, hb2, hr2, hk2⟩
  have HK2 := hid (HK1.out.trans hk2)
  have HG2 := hid (HG1.out.same hk2)
  have HUL := hid hul
  have HB2 := hid hb2
  have HR2 : Hid (∀ i (h : i < us.length), Rd .u8 w2 us[i] (seeD (i : Int) dur (dataP ps))) := fun i h => (hr2 i h).same hk2
  obtain ⟨e2, e3, e4⟩ := HG2.out.all3
  clear hr2 hk2 hb2 hG2 e0 e1 hul kF kN HA1 HG1 HA0 HG0
  have hz2' := HK2.out.size
  go_wp2_with (at_make; go_loud (refine wpList_make_full _ rfl (.tmp 17) (.tmp 17) 66 rfl 0 87 i0 (.pointer none) 1 Try.underlying66 hi hz0 hz1 .i64 .i64 _ _ N rfl rfl (by simp) (by simp) (by rw [hz2]; omega) (by unfold maxLen; omega) (Nat.zero_le _) ?_); intro w3 hown hgrow; have HM3 := (show Hid (HpM w3 w2.heap.size N [] R) from (by rw [madeP1] at hown; exact ⟨Blk.of_row hown, fun i h => by simp at h, fun i h => by simp at h⟩)); have HK3 : Hid (Same w2 w3) := Kept.of_grown hgrow (fun k e => by cases e); obtain ⟨e5, e6, e7⟩ := (HG2.out.same HK3.out).all3; clear hown hgrow)
  have HG3 := hid (HG2.out.same HK3.out)
  have hlg2 := HG2.out.lt
  clear HG2 e2 e3 e4 e5 e6 e7
  go_loopw [21] (fun i wr => ∃ (k : Nat) (Ps : List Nat), k ≤ N ∧ i = .int .i64 (k : Int) ∧ Hid (Ps.length = k) ∧ Hid (HpM wr w2.heap.size N Ps R) ∧ Hid (allGood R k) ∧ Hid (Blk wr (w.heap.size + 1) 34 [.int .i64 (N : Int), .int .i64 f, .int .i64 l]) ∧ Hid (Same w2 wr)) (fun i _ => N - (intOf i).toNat)
  case atStart => exact ⟨0, [], Nat.zero_le _, rfl, rfl, HM3, fun i hi => by omega, HG3, HK3⟩
  case round =>
    obtain ⟨k, Ps, hk, rfl, HPL, HM, HAG, HG, HK⟩ := hrel
    clear HM3 HG3 HK3
    by_cases hlt : k < N
    case neg =>
      obtain rfl : k = N := by omega
      go_wp2
      go_ret2
      refine ⟨_, _, rfl, HK2.out.trans HK.out, .inr ⟨rfl, ⟨HFD.out, ?_⟩, w2.heap.size, Ps, ?_, ?_, hz2', ?_⟩⟩
      · rw [HR.out, HPN.out]; exact HAG.out
      · rw [HPN.out]; rfl
      · rw [HPN.out]; exact HPL.out
      · rw [HR.out, HPN.out]; exact HM.out
    obtain ⟨s1, s2⟩ := HSEC.out k hlt
    obtain ⟨F, hFF⟩ : ∃ F : Nat, 2 + l + (k : Int) * 8 = (F : Int) := ⟨(2 + l + (k : Int) * 8).toNat, by omega⟩
    have kS := fun wx => implPgSec_any (N : Int) f l (k : Int) wx
    rw [s1, hFF] at kS
    have HF8 : Hid (F + 8 ≤ us.length) := by unfold Hid; rw [HUL.out]; omega
    have HUS : Hid (us.length ≤ 1024) := by unfold Hid; rw [HUL.out]; exact HN8.out
    have hraw : joinS (fun i => seeD ((F : Int) + (i : Int)) dur (dataP ps)) 8 = R k := by rw [← HR.out, ← hFF]; rfl
    have HS8 : Hid (∀ i : Nat, i < 8 → (seeD ((F : Int) + (i : Int)) dur (dataP ps)).length = 512) := fun i hi => by rw [← hFF]; exact HSL.out k hlt i hi
    have HR8 : Hid (∀ wx, Same w2 wx → ∀ i : Nat, i < 8 → ∃ u, us[F + i]? = some u ∧ Rd .u8 wx u (seeD ((F : Int) + (i : Int)) dur (dataP ps))) := fun wx hx i hi => by
      have h1 := HF8.out
      have h2 : F + i < us.length := by omega
      refine ⟨us[F + i], List.getElem?_eq_getElem h2, ?_⟩
      have h := (HR2.out (F + i) h2).same hx
      rwa [show ((F + i : Nat) : Int) = (F : Int) + (i : Int) from by omega] at h
    have kJ := fun wx (hx : Same w2 wx) => join_any G2 us.length us F (fun i => seeD ((F : Int) + (i : Int)) dur (dataP ps)) wx (HB2.out.same hx) HF8.out HUS.out HS8.out (HR8.out wx hx)
    rw [hraw] at kJ
    obtain ⟨raw, hrw⟩ : ∃ raw, R k = raw := ⟨_, rfl⟩
    have hrl := HLEN.out k hlt
    have hrb := HIB.out k
    rw [hrw] at kJ hrl hrb
    have HRW := hid hrw
    have hT := fun wx => takeApart_any raw wx hrb hrl
    have hSd := fun wx => sealed_any raw wx hrb hrl
    have hsl : (sealB raw).length = 4096 := by rw [sealB_length _ (by omega), hrl]
    have heq := fun wx => run_neq_pages wx (sealB raw) raw hsl hrl
    have hn12 := numAt_in raw hrb 12 4 (by decide) (by decide) (by omega)
    have hn16 := numAt_in raw hrb 16 2 (by decide) (by decide) (by omega)
    have hFt := fun P wx (h : SPr wx P raw) => fault_any P (raw.take 4) (numAt raw 4 8) (numAt raw 12 4) (numAt raw 16 2) (slotsOf raw) raw (k : Int) wx h (slotsOf_small raw hrb hrl) ⟨hn12.1, by omega⟩ ⟨hn16.1, by omega⟩
    have hPF : pageFault raw (k : Int) = faultP (raw.take 4) (numAt raw 4 8) (numAt raw 12 4) (numAt raw 16 2) (slotsOf raw) raw (k : Int) := by unfold pageFault; rw [if_neg (by simp [hrl])]
    have hWH : pageWhole raw = (sealB raw == raw) := by unfold pageWhole; simp [hrl]
    rw [← hPF] at hFt
    obtain ⟨ds, hds⟩ : ∃ ds : List Value, vals .u8 raw = ds := ⟨_, rfl⟩
    obtain ⟨es, hes⟩ : ∃ es : Array Value, (vals .u8 (sealB raw)).toArray = es := ⟨_, rfl⟩
    have hdl : ds.length = 4096 := by rw [← hds, vals_length, hrl]
    have hone := (show ds.toArray.all (·.oneCell') = true from all_oneCell_toArray (by rw [← hds]; exact vals_one))
    rw [hds] at kJ hT hSd heq
    rw [hes] at hSd heq
    obtain ⟨r, hr⟩ : ∃ r, (sealB raw != raw) = r := ⟨_, rfl⟩
    rw [hr] at heq
    have hI : (Try.prog.info? 52).map (·.size) = some ds.length := by rw [hdl]; exact (by kernel_rfl : (Try.prog.info? 52).map (·.size) = some 4096)
    have HI := hid hI
    have HWH := hid (show pageWhole raw = !r from by rw [hWH, ← hr]; simp [bne])
    obtain ⟨FT, hFT⟩ : ∃ FT, pageFault raw (k : Int) = FT := ⟨_, rfl⟩
    rw [hFT] at hFt
    have HFT := hid hFT
    have HDS := hid hds
    obtain ⟨e2, e3, e4⟩ := HG.out.all3
    have hzr := HK.out.size
    have hlg := HG.out.lt
    clear s1 s2 hFF hraw hrl hrb hrw hsl hn12 hn16 hPF hWH hds hes hr hFT hI HS8 HR8
    go_wp2_with fail
    refine (kS _).mono ?_
    rintro e w4 ⟨rfl, hk4⟩
    have HK4 := hid (HK.out.trans hk4)
    have HM4 := hid (HM.out.same hk4)
    have HG4 := hid (HG.out.same hk4)
    clear hk4 kS e2 e3 e4
    go_wp2_with fail
    refine (kJ _ HK4.out).mono ?_
    rintro e w5 ⟨rfl, hk5⟩
    have HK5 := hid (HK4.out.trans hk5)
    have HM5 := hid (HM4.out.same hk5)
    have HG5 := hid (HG4.out.same hk5)
    have hst := run_storeCells_new (P := Try.prog) w5 52 Try.zeroCells52 ds.toArray (by rw [List.size_toArray]; exact HI.out) (by rw [show ds.toArray.size = 4096 from by rw [List.size_toArray, hdl]]; exact Try.zeroCells52_size) hone
    rw [List.toList_toArray] at hst
    have HRG := (show Hid ((w5.alloc (.cells ds.toArray 52)).rangeAt w5.heap.size 0 ds) from (Blk.newL w5 ds 52).rangeAll)
    have HBD := (show Hid (Blk (w5.alloc (.cells ds.toArray 52)) w5.heap.size 52 ds) from Blk.newL w5 ds 52)
    clear hone hk5 kJ HM HG HM4 HG4
    have hz5 := HK5.out.size
    go_wp2_with (first
      | (refine wpList_load_mid rfl 52 _ rfl w5.heap.size 0 rfl ds _ HRG.out Try.underlying52 rfl HI.out ?_)
      | (go_at_call 55; (with_reducible refine (hT _).mono ?_); rintro e w6 ⟨P, rfl, hP, hsp, hk6⟩; have HK56 : Hid (Same w5 w6) := ((Kept.refl _ _).alloc _).trans hk6; have HM6 := hid (HM5.out.same HK56.out); have HSP := (show Hid (SPr w6 P raw) from hsp); have HP0 : Hid (w2.heap.size < P) := (by unfold Hid; rw [World.size_alloc] at hP; omega); have HBD6 := hid (HBD.out.same hk6); have q0 := HM6.out.next (by rw [HPL.out]; exact hlt); rw [HPL.out] at q0; have q1 := HM6.out.row.frozen k; clear hk6 hsp hP hst))
    have hGl := HM6.out.row.lt
    have HG56 : Hid (w2.heap.size < w5.heap.size) := HM5.out.row.lt
    have hsn := HM6.out.snoc (P := P) (by rw [HPL.out]; exact hlt) (by rw [HPL.out, HRW.out]; exact HSP.out) HP0.out
    rw [HPL.out] at hsn
    have hk67 : Kept (fun b => b = w2.heap.size) w6 (w6.setCell ⟨w2.heap.size, k, none⟩ (ptr P)) := Kept.setCell (R := fun b => b = w2.heap.size) (Kept.refl _ _) (p := ⟨w2.heap.size, k, none⟩) (.inr rfl) _
    have HBD7 := hid (HBD6.out.kept hk67 (by have := HG56.out; omega))
    have HG7 := hid ((HG5.out.same HK56.out).kept hk67 (by omega))
    have HK7 := (show Hid (Same w2 (w6.setCell ⟨w2.heap.size, k, none⟩ (ptr P))) from (HK5.out.trans HK56.out).setCell (.inl (Nat.le_refl _)) _)
    have HM7 := hid hsn
    have HSP7 := hid (HSP.out.kept hk67 (by have := HP0.out; omega))
    clear hsn hk67 q0 q1 HM6 HSP HBD6 HG5 HM5 HRG HBD
    change Code.wp _ _ _ _ (w6.setCell ⟨w2.heap.size, k, none⟩ (ptr P))
    generalize w6.setCell ⟨w2.heap.size, k, none⟩ (ptr P) = w7 at *
    have hc7 := HM7.out.cell k (by rw [List.length_append, HPL.out, List.length_singleton]; omega)
    have hc7' : w7.cell? ⟨w2.heap.size, k, none⟩ = some (.pointer (some ⟨P, 0, none⟩)) := by
      rw [hc7]
      have : (Ps ++ [P])[k]'(by rw [List.length_append, HPL.out, List.length_singleton]; omega) = P := by
        rw [List.getElem_append_right (by rw [HPL.out]; exact Nat.le_refl _)]
        simp [HPL.out]
      rw [this]
      rfl
    clear hc7
    have hS : (fun wx : World => wx.rangeAt w5.heap.size 0 ds ∧ wx.cell? ⟨w2.heap.size, k, none⟩ = some (.pointer (some ⟨P, 0, none⟩))) w7.drew := ⟨HBD7.out.drew.rangeAll, hc7'⟩
    refine wp_region_V (fun wx : World => wx.rangeAt w5.heap.size 0 ds ∧ wx.cell? ⟨w2.heap.size, k, none⟩ = some (.pointer (some ⟨P, 0, none⟩))) 99 13 rfl (by kernel_rfl) ?_
    refine wpAnyV_take (i := 0) (v := .agg ds.toArray) (some 34) rfl rfl (by kernel_rfl) (by kernel_rfl) (by kernel_rfl) (by kernel_rfl) (fun _ _ _ h => h) (yieldsIf_load_mid (by rfl) 52 _ rfl w5.heap.size 0 rfl ds _ (fun _ h => h.1) Try.underlying52 rfl HI.out) hS ?_
    try simp only [Act.put, sA, s0, sS]
    refine wpAnyV_take (i := 2) (v := .agg ds.toArray) (some 36) rfl rfl (by kernel_rfl) (by kernel_rfl) (by kernel_rfl) (by kernel_rfl) (fun _ _ _ h => h) (yieldsIf_load_mid (by rfl) 52 _ rfl w5.heap.size 0 rfl ds _ (fun _ h => h.1) Try.underlying52 rfl HI.out) hS ?_
    try simp only [Act.put, sA, s0, sS]
    refine wpAnyV_one (i := 1) (by kernel_rfl) rfl (fun K hK => ?_)
    go_simp
    with_reducible refine (hSd _).mono ?_
    rintro e w8 ⟨rfl, hk8⟩
    have HK78 : Hid (Same w7 w8) := (Kept.refl _ _).drew.trans hk8
    clear hk8
    have hS : (fun wx : World => wx.rangeAt w5.heap.size 0 ds ∧ wx.cell? ⟨w2.heap.size, k, none⟩ = some (.pointer (some ⟨P, 0, none⟩))) w8 := ⟨(HBD7.out.same HK78.out).rangeAll, HK78.out.cellOf hc7' id⟩
    refine hK.out _ _ (fun _ => hS) ?_
    clear hK K
    try simp only [Act.put, sA, s0, sS]
    refine tk 3 37 hS ?_
    refine tk 4 38 hS ?_
    cases r with
    | true =>
      refine tkS 5 39 hS ?_
      refine tkS 6 40 hS ?_
      refine tkS 7 41 hS ?_
      refine tkS 8 42 hS ?_
      refine tkS 9 43 hS ?_
      refine tkS 10 44 hS ?_
      refine tkS 11 45 hS ?_
      refine tk 12 46 hS ?_
      refine wpAnyV_done (by kernel_rfl) ?_
      clear hS heq
      go_wp2
      go_ret2
      refine ⟨_, _, rfl, HK2.out.trans (HK7.out.trans HK78.out), .inl ⟨rfl, rfl, fun h => ?_⟩⟩
      have h1 := h.2 k (by rw [HPN.out]; exact hlt)
      rw [HR.out, HRW.out] at h1
      have h2 := (good_parts h1).1
      rw [HWH.out] at h2
      cases h2
    | false =>
      refine tk 5 39 hS ?_
      refine tk 6 40 hS ?_
      refine tkV 7 41 (.pointer (some ⟨w2.heap.size, k, none⟩)) hS ?_
      refine tk 8 42 hS ?_
      refine tk 9 43 hS ?_
      refine wpAnyV_one (i := 10) (by kernel_rfl) rfl (fun K hK => ?_)
      go_simp
      with_reducible refine (hFt P _ (HSP7.out.same HK78.out)).mono ?_
      rintro e w9 ⟨rfl, hk9⟩
      have HK79 : Hid (Same w7 w9) := HK78.out.trans hk9
      clear hk9
      have hS : (fun wx : World => wx.rangeAt w5.heap.size 0 ds ∧ wx.cell? ⟨w2.heap.size, k, none⟩ = some (.pointer (some ⟨P, 0, none⟩))) w9 := ⟨(HBD7.out.same HK79.out).rangeAll, HK79.out.cellOf hc7' id⟩
      refine hK.out _ _ (fun _ => hS) ?_
      clear hK K
      try simp only [Act.put, sA, s0, sS]
      by_cases hF0 : FT = 0
      · subst hF0
        refine tkV 11 45 (.bool false) hS ?_
        refine tk 12 46 hS ?_
        refine wpAnyV_done (by kernel_rfl) ?_
        clear hS heq
        go_wp2
        go_roundw
        case rel =>
          refine ⟨k + 1, Ps ++ [P], by omega, by go_num, by unfold Hid; rw [List.length_append, HPL.out, List.length_singleton], HM7.out.same HK79.out, fun i hi => ?_, HG7.out.same HK79.out, HK7.out.trans HK79.out⟩
          by_cases e : i < k
          · exact HAG.out i e
          · obtain rfl : i = k := by omega
            rw [HRW.out]
            unfold goodPg
            rw [HWH.out, HFT.out]
            rfl
        case measure => simp [intOf]; omega
      · have hF1 : (FT != 0) = true := by simpa using hF0
        refine tkV 11 45 (.bool true) hS ?_
        refine tk 12 46 hS ?_
        refine wpAnyV_done (by kernel_rfl) ?_
        clear hS heq
        go_wp2
        go_ret2
        refine ⟨_, _, rfl, HK2.out.trans (HK7.out.trans HK79.out), .inl ⟨rfl, rfl, fun h => ?_⟩⟩
        have h1 := h.2 k (by rw [HPN.out]; exact hlt)
        rw [HR.out, HRW.out] at h1
        exact hF0 (HFT.out.symm.trans (good_parts h1).2)
end Go.Proofs.Ytednajibnjofmaa

namespace Go.Proofs.Ytednajibnjofmaa
set_option maxHeartbeats 400000
open Go.RowKit
theorem Try.infoI64 : (Try.prog.info? 2).map (fun i => (i.zero, i.size, i.bytes)) = some (some (.int .i64 0), 1, 8) := by kernel_rfl
def marksZ (k : Int) (n : Nat) : List Int := (List.range n).map fun (i : Nat) => k + (i : Int)
theorem marksZ_length (k : Int) (n : Nat) : (marksZ k n).length = n := by simp [marksZ]
def partZ (k : Int) (bs : List Int) (j : Nat) : List Int := marksZ k j ++ bs.drop j
theorem partZ_length (k : Int) (bs : List Int) (j : Nat) (h : j ≤ bs.length) : (partZ k bs j).length = bs.length := by simp [partZ, marksZ_length]; omega
theorem partZ_zero (k : Int) (bs : List Int) : partZ k bs 0 = bs := by simp [partZ, marksZ]
theorem partZ_all (k : Int) (bs : List Int) : partZ k bs bs.length = marksZ k bs.length := by simp [partZ]
theorem partZ_step (k : Int) (bs : List Int) (j : Nat) (h : j < bs.length) : (partZ k bs j).set j (k + j) = partZ k bs (j + 1) := by
  unfold partZ
  rw [List.set_append_right (h := by simp [marksZ_length]), marksZ_length, Nat.sub_self]
  have e : bs.drop j = bs[j] :: bs.drop (j + 1) := by rw [List.drop_eq_getElem_cons h]
  rw [e, List.set_cons_zero]
  simp [marksZ, List.range_succ]
theorem eqInt64S_own (base : Nat) (va vb : Value) (bs : List Int) (w : World) (hn : bs.length ≤ 1125899906842624)
    (ha : Own base 2 .i64 w va bs) (hb : Own base 2 .i64 w vb bs) :
    Calls Try.prog 17 #[va, vb] w fun e w' => e = .returned (.bool true) ∧ ∃ n, w' = w.drewN n := by
  by_cases h0 : bs.length = 0
  · obtain rfl : bs = [] := List.length_eq_zero_iff.1 h0
    obtain ⟨aa, ca, rfl⟩ : ∃ aa ca, va = .slice aa 0 ca := by rcases ha.form with ⟨rfl, _⟩ | ⟨g, cap, rfl, _⟩ <;> exact ⟨_, _, rfl⟩
    obtain ⟨ab, cb, rfl⟩ : ∃ aa ca, vb = .slice aa 0 ca := by rcases hb.form with ⟨rfl, _⟩ | ⟨g, cap, rfl, _⟩ <;> exact ⟨_, _, rfl⟩
    clear ha hb hn h0
    go_enter Try.func17, Try.ntmps17
    go_wp2
    refine wp_loop_rounds 1 ?_
    rw [rounds_succ]
    go_wp2
    go_ret
    exact ⟨rfl, 0, rfl⟩
  · obtain ⟨ga, ca, rfl, _, _, _, _⟩ : ∃ g cap, va = .slice (some ⟨g, 0, none⟩) bs.length cap ∧ base ≤ g ∧ g < w.heap.size ∧ bs.length ≤ cap ∧ cap ≤ maxLen := by
      rcases ha.form with ⟨_, rfl⟩ | h
      · simp at h0
      · exact h
    obtain ⟨gb, cb, rfl, _, _, _, _⟩ : ∃ g cap, vb = .slice (some ⟨g, 0, none⟩) bs.length cap ∧ base ≤ g ∧ g < w.heap.size ∧ bs.length ≤ cap ∧ cap ≤ maxLen := by
      rcases hb.form with ⟨_, rfl⟩ | h
      · simp at h0
      · exact h
    have hca : ∀ j, j < bs.length → w.cell? ⟨ga, j, none⟩ = some (.int .i64 (bs.getD j 0)) := fun j hj => ha.cell rfl j hj
    have hcb : ∀ j, j < bs.length → w.cell? ⟨gb, j, none⟩ = some (.int .i64 (bs.getD j 0)) := fun j hj => hb.cell rfl j hj
    clear ha hb
    generalize hl : bs.length = len at *
    go_enter Try.func17, Try.ntmps17
    go_wp2
    go_loopw [5] (fun i wr => ∃ k n : Nat, k ≤ len ∧ i = .int .i64 k ∧ wr = w.drewN n) (fun i _ => len - (intOf i).toNat)
    case atStart => exact ⟨0, 0, Nat.zero_le _, rfl, rfl⟩
    case round =>
      obtain ⟨k, n, hk, rfl, rfl⟩ := hrel
      by_cases hlt : k < len
      · have h1 := hca k hlt
        have h2 := hcb k hlt
        clear hca hcb
        go_wp2
        go_quiet (fail)
        go_wp2
        go_roundw
        case rel => exact ⟨k + 1, _, by omega, by go_num, rfl⟩
        case measure => simp [intOf]; omega
      · go_wp2
        go_ret
        exact ⟨rfl, _, rfl⟩
theorem markInt64S_own (base : Nat) (va : Value) (bs : List Int) (k0 : Int) (w : World) (hn : bs.length ≤ 1125899906842624) (h0 : 0 ≤ k0) (h1 : k0 ≤ 1125899906842624)
    (ha : Own base 2 .i64 w va bs) :
    Calls Try.prog 18 #[va, .int .i64 k0] w fun e w' => e = .returned (.int .i64 (k0 + bs.length)) ∧ Own base 2 .i64 w' va (marksZ k0 bs.length) ∧ Kept (fun b => va.ownBlock = some b) w w' := by
  by_cases hz : bs.length = 0
  · obtain rfl : bs = [] := List.length_eq_zero_iff.1 hz
    obtain ⟨aa, ca, rfl⟩ : ∃ aa ca, va = .slice aa 0 ca := by rcases ha.form with ⟨rfl, _⟩ | ⟨g, cap, rfl, _⟩ <;> exact ⟨_, _, rfl⟩
    have HA : Hid (Own base 2 .i64 w (.slice aa 0 ca) []) := ha
    clear ha hn hz
    go_enter Try.func18, Try.ntmps18
    go_wp2
    refine wp_loop_rounds 1 ?_
    rw [rounds_succ]
    go_wp2
    go_ret
    exact ⟨by simp, by simpa [marksZ] using HA.out, Kept.refl _ _⟩
  · obtain ⟨g, cap, rfl, hb, hlt, _, _⟩ : ∃ g cap, va = .slice (some ⟨g, 0, none⟩) bs.length cap ∧ base ≤ g ∧ g < w.heap.size ∧ bs.length ≤ cap ∧ cap ≤ maxLen := by
      rcases ha.form with ⟨_, rfl⟩ | h
      · simp at hz
      · exact h
    generalize hl : bs.length = len at *
    have HL : Hid (bs.length = len) := hl
    clear hl
    go_enter Try.func18, Try.ntmps18
    go_wp2
    go_loopw [1, 5] (fun v i wr => ∃ k : Nat, k ≤ len ∧ i = .int .i64 k ∧ v = .int .i64 (k0 + k) ∧ Hid (Own base 2 .i64 wr (.slice (some ⟨g, 0, none⟩) len cap) (partZ k0 bs k)) ∧ Hid (Kept (fun b => b = g) w wr)) (fun _ i _ => len - (intOf i).toNat)
    case atStart => exact ⟨0, Nat.zero_le _, rfl, by simp, by rw [partZ_zero]; exact ha, Kept.refl _ _⟩
    case round =>
      obtain ⟨k, hk, rfl, rfl, HO, HK⟩ := hrel
      by_cases hlt : k < len
      · have hf := HO.out.frozen (by rw [partZ_length _ _ _ (by have := HL.out; omega)]; exact HL.out.symm) k
        have hc := HO.out.cell (by rw [partZ_length _ _ _ (by have := HL.out; omega)]; exact HL.out.symm) k hlt
        clear ha
        go_wp2
        go_roundw
        case rel =>
          have hl := HL.out
          refine ⟨k + 1, by omega, by go_num, by go_num, ?_, HK.out.setCell (.inr rfl) _⟩
          have := HO.out.stored (by rw [partZ_length _ _ _ (by omega)]; omega) k (k0 + k)
          rwa [partZ_step _ _ _ (by omega)] at this
        case measure => simp [intOf]; omega
      · go_wp2
        go_ret
        obtain rfl : k = len := by omega
        have hl := HL.out
        refine ⟨rfl, ?_, HK.out.mono (fun b _ e => by simp [Value.ownBlock, e])⟩
        have := HO.out
        rw [← hl, partZ_all, hl] at this
        exact this
end Go.Proofs.Ytednajibnjofmaa

namespace Go.Proofs.Ytednajibnjofmaa
open Go.RowKit
set_option maxRecDepth 100000
set_option linter.unusedVariables false
set_option linter.unusedSimpArgs false
theorem news_ofZ {w : World} {b off : Nat} {bs : List Int} (hc : ∀ i, i < bs.length → w.cell? ⟨b, off + i, none⟩ = some (.int .i64 (bs.getD i 0))) (j : Nat) (u : Value) (h : (vals .i64 bs)[j]? = some u) : w.cell? ((⟨b, off, none⟩ : Addr).add j) = some u := by
  have hj : j < bs.length := by have := (List.getElem?_eq_some_iff.1 h).1; rwa [vals_length] at this
  rw [vals_at _ _ _ hj] at h
  have e : (⟨b, off, none⟩ : Addr).add j = ⟨b, off + j, none⟩ := by
    unfold Addr.add
    split
    · next h => subst h; rfl
    · rfl
  rw [e, hc j hj]
  exact h
theorem marksZ_at (k : Int) (n j : Nat) (h : j < n) : (marksZ k n).getD j 0 = k + j := by simp [marksZ, h, List.getD]
theorem run_appZ {ty : TypeId} {w : World} {v x : Value} {bs ys : List Int} (ho : Own 0 2 .i64 w v bs) (hx : Rd .i64 w x ys) (hl : bs.length + ys.length ≤ 1099511627776) :
    ∃ a n c w', (Builtin.append_ #[41, 41] ty #[v, x]).run Try.prog w = .ok (.slice a n c) w' ∧ Own 0 2 .i64 w' (.slice a n c) (bs ++ ys) ∧ Grew w v w' (.slice a n c) := by
  obtain ⟨i0, hi, hz0, hz1, hz2⟩ := info_parts Try.infoI64
  have some_case : ∀ (ad : Addr) (c : Nat), (∀ j u, (vals .i64 ys)[j]? = some u → w.cell? (ad.add j) = some u) → ∃ a n c' w', (Builtin.append_ #[41, 41] ty #[v, .slice (some ad) ys.length c]).run Try.prog w = .ok (.slice a n c') w' ∧ Own 0 2 .i64 w' (.slice a n c') (bs ++ ys) ∧ Grew w v w' (.slice a n c') := fun ad c hn => by
    obtain ⟨v', w', hr, h2, h3, _, h5⟩ := run_append_own_at (P := Try.prog) w 0 41 ty 2 i0 (.int .i64 0) 1 8 Try.underlying41 hi hz0 hz1 hz2 rfl (by decide) v bs.length (vals .i64 bs) ho ad ys.length c (vals .i64 ys) (by simp [vals_length]) hn vals_one (by unfold maxLen; omega) (by omega) (Nat.zero_le _)
    have h2' : Own 0 2 .i64 w' v' (bs ++ ys) := by unfold Own; simpa [vals] using h2
    obtain ⟨a, n, c', rfl⟩ := slice_of_own h2'
    refine ⟨a, n, c', w', hr, h2', Kept.of_grown h3 (fun k e => e), fun b hb => ?_⟩
    rcases h5 with h5 | h5
    · exact .inl (by rw [← h5]; exact hb)
    · rw [h5] at hb
      exact .inr (by have := Option.some.inj hb; omega)
  rcases hx.2 with ⟨rfl, a, c, rfl, hac⟩ | ⟨b, off, c, rfl, _, hc⟩
  · cases a with
    | none =>
      obtain rfl : c = 0 := hac rfl
      have hr := run_append_owned_none (P := Try.prog) (w := w) 0 41 ty 2 i0 1 Try.underlying41 hi v bs.length (vals .i64 bs) ho
      obtain ⟨a, n, c', rfl⟩ := slice_of_own ho
      exact ⟨a, n, c', w, hr, by rw [List.append_nil]; exact ho, Grew.refl _ _⟩
    | some ad => exact some_case ad c (fun j u h => by simp [vals] at h)
  · exact some_case ⟨b, off, none⟩ c (news_ofZ hc)
theorem wp_appZ {w : World} {o : Oper} {a : Act} {K : Act → World → Prop} {Q : Exit → Act → World → Prop} (s x : Operand)
    (ho : o.op = .call { callee := .builtin .append, args := #[s, x], argTypes := #[41, 41] })
    (v xv : Value) (bs ys : List Int) (hs : a.eval s = v) (hx : a.eval x = xv) (hown : Own 0 2 .i64 w v bs) (hrd : Rd .i64 w xv ys) (hl : bs.length + ys.length ≤ 1099511627776)
    (h : ∀ a' n' c' w', Own 0 2 .i64 w' (.slice a' n' c') (bs ++ ys) → Grew w v w' (.slice a' n' c') → K (a.put o.dst (.slice a' n' c')) w') : o.wp Try.prog a w K Q := by
  obtain ⟨a', n', c', w', hr, h2, h3⟩ := run_appZ (ty := o.type) hown hrd hl
  unfold Oper.wp execOp
  simp only [ho, resolve, invoke, builtin, Sem.run_bind, Sem.run_pure, Result.andThen_ok, List.map_toArray, List.map_cons, List.map_nil, hs, hx, hr]
  exact h a' n' c' w' h2 h3
theorem wpList_appZ {w : World} {ops : Array Oper} {rest : List Oper} {o : Oper} {a : Act} {Q : Exit → Act → World → Prop} (hgd : o.guard = none) (s x : Operand)
    (ho : o.op = .call { callee := .builtin .append, args := #[s, x], argTypes := #[41, 41] })
    (v xv : Value) (bs ys : List Int) (hs : a.eval s = v) (hx : a.eval x = xv) (hown : Own 0 2 .i64 w v bs) (hrd : Rd .i64 w xv ys) (hl : bs.length + ys.length ≤ 1099511627776)
    (h : ∀ a' n' c' w', Own 0 2 .i64 w' (.slice a' n' c') (bs ++ ys) → Grew w v w' (.slice a' n' c') → wpList Try.prog ops Q rest (a.put o.dst (.slice a' n' c')) w') : wpList Try.prog ops Q (o :: rest) a w :=
  wpList_plain hgd fun _ hK => wp_appZ s x ho v xv bs ys hs hx hown hrd hl fun a' n' c' w' h2 h3 => hK _ _ (h a' n' c' w' h2 h3)
theorem rd_oneZ (w : World) (x : Int) : Rd .i64 (w.alloc (.cells #[.int .i64 x] 2)) (.slice (some ⟨w.heap.size, 0, none⟩) 1 1) [x] := by
  have h := Blk.newL w [.int .i64 x] 2
  refine ⟨by simp [maxLen], .inr ⟨w.heap.size, 0, 1, rfl, Nat.le_refl _, fun i hi => ?_⟩⟩
  obtain rfl : i = 0 := by simpa using hi
  exact h.c0
set_option maxHeartbeats 400000 in
theorem heldInt64S_own (base : Nat) (va : Value) (n : Nat) (k0 : Int) (w : World) (hn : n ≤ 1125899906842624) (h0 : 0 ≤ k0) (h1 : k0 ≤ 1125899906842624)
    (ha : Own base 2 .i64 w va (marksZ k0 n)) :
    Calls Try.prog 19 #[va, .int .i64 k0] w fun e w' => e = .returned (.int .i64 (k0 + n)) ∧ w' = w := by
  by_cases hz : n = 0
  · subst hz
    obtain ⟨aa, ca, rfl⟩ : ∃ aa ca, va = .slice aa 0 ca := by rcases ha.form with ⟨rfl, _⟩ | ⟨g, cap, rfl, _⟩ <;> exact ⟨_, _, rfl⟩
    clear ha hn
    go_enter Try.func19, Try.ntmps19
    go_wp2
    refine wp_loop_rounds 1 ?_
    rw [rounds_succ]
    go_wp2
    go_ret
    exact ⟨by simp, rfl⟩
  · obtain ⟨g, cap, rfl⟩ : ∃ g cap, va = .slice (some ⟨g, 0, none⟩) n cap := by
      rcases ha.form with ⟨_, h⟩ | ⟨g, cap, h, _⟩
      · have := congrArg List.length h; simp [marksZ_length] at this; omega
      · exact ⟨g, cap, by rw [h, marksZ_length]⟩
    have hc : ∀ j, j < n → w.cell? ⟨g, j, none⟩ = some (.int .i64 (k0 + j)) := fun j hj => by
      rw [ha.cell (marksZ_length _ _).symm j hj, marksZ_at _ _ _ hj]
    clear ha
    go_enter Try.func19, Try.ntmps19
    go_wp2
    go_loop [1, 5] (fun v i => ∃ k : Nat, k ≤ n ∧ i = .int .i64 k ∧ v = .int .i64 (k0 + k)) (fun _ i => n - (intOf i).toNat)
    case atStart => exact ⟨0, Nat.zero_le _, rfl, by simp⟩
    case round =>
      obtain ⟨k, hk, rfl, rfl⟩ := hrel
      by_cases hlt : k < n
      · have h2 := hc k hlt
        clear hc
        go_wp2
        go_round
        case rel => exact ⟨k + 1, by omega, by go_num, by go_num⟩
        case measure => simp [intOf]; omega
      · go_wp2
        go_ret
        obtain rfl : k = n := by omega
        exact ⟨rfl, rfl⟩
def LenE (w w' : World) (bs : List Int) (e : Ending) : Prop := ∃ a n c, e = .returned (.slice a n c) ∧ Own 0 2 .i64 w' (.slice a n c) bs ∧ (∀ b, (Value.slice a n c).ownBlock = some b → w.heap.size ≤ b) ∧ Same w w'
theorem LenE.of {w w' : World} {bs : List Int} {e : Ending} (h : LenE w w' bs e) : ∃ a c, e = .returned (.slice a bs.length c) ∧ (∀ b, (Value.slice a bs.length c).ownBlock = some b → w.heap.size ≤ b) ∧ Own 0 2 .i64 w' (.slice a bs.length c) bs ∧ Same w w' := by
  obtain ⟨a, n, c, rfl, ho, hf, hk⟩ := h
  obtain rfl : n = bs.length := by
    rcases ho.form with ⟨h, h'⟩ | ⟨g', cap, h, _⟩
    · cases h; rw [h']; rfl
    · cases h; rfl
  exact ⟨a, c, rfl, hf, ho, hk⟩
end Go.Proofs.Ytednajibnjofmaa

namespace Go.Proofs.Ytednajibnjofmaa
set_option maxRecDepth 100000
set_option maxHeartbeats 8000000
open Go.RowKit
set_option linter.unusedVariables false
set_option linter.unusedSimpArgs false
theorem hpLens_nil (w : World) :
    Calls Try.prog 36 #[.slice none 0 0] w fun e w' => LenE w w' [] e := by
  obtain ⟨i0, hi, hz0, hz1, hz2⟩ := info_parts Try.infoI64
  go_enter Try.func36, Try.ntmps36
  go_wp2_with (at_make; go_loud (refine wpList_make_own _ rfl (.const (.int .i64 0)) (.tmp 11) 41 rfl 0 2 i0 (.int .i64 0) 1 Try.underlying41 hi hz0 hz1 .i64 .i64 _ 0 rfl rfl (by simp) (by rw [hz2]; omega) (by unfold maxLen; omega) (Nat.zero_le _) ?_); intro w1 hown hgrow; have HO1 := (show Hid (Own 0 2 .i64 w1 (.slice (some ⟨w.heap.size, 0, none⟩) 0 0) []) from hown); have HK1 : Hid (Same w w1) := Kept.of_grown hgrow (fun k e => by cases e); clear hown hgrow)
  refine wp_loop_rounds 1 ?_
  rw [rounds_succ]
  go_wp2
  go_ret
  exact ⟨_, _, _, rfl, HO1.out, fun b hb => by have h : w.heap.size = b := (by simpa [Value.ownBlock] using hb); omega, HK1.out⟩
theorem hpLens_any (G N : Nat) (Ps : List Nat) (R : Nat → List Int) (w : World) (hM : HpM w G N Ps R) (hl : Ps.length = N) (hN : N ≤ 16) (hB : ∀ i, i < N → IsB (R i)) (hL : ∀ i, i < N → (R i).length = 4096) :
    Calls Try.prog 36 #[.slice (some ⟨G, 0, none⟩) N N] w fun e w' => LenE w w' (heapLens R N) e := by
  obtain ⟨i0, hi, hz0, hz1, hz2⟩ := info_parts Try.infoI64
  have HM := hid hM
  have HL := hid hL
  have HB := hid hB
  have HPL := hid hl
  have q1 : IntKind.i64.wrap ((N : Int) * 32) = (N : Int) * 32 := by rw [IntKind.wrap_i64]; omega
  clear hM hl hB hL
  go_enter Try.func36, Try.ntmps36
  go_wp2_with (at_make; go_loud (refine wpList_make_own _ rfl (.const (.int .i64 0)) (.tmp 11) 41 rfl 0 2 i0 (.int .i64 0) 1 Try.underlying41 hi hz0 hz1 .i64 .i64 _ (N * 32) rfl rfl (by omega) (by rw [hz2]; omega) (by unfold maxLen; omega) (Nat.zero_le _) ?_); intro w1 hown hgrow; have HO1 := (show Hid (Own 0 2 .i64 w1 (.slice (some ⟨w.heap.size, 0, none⟩) 0 (N * 32)) []) from hown); have HK1 : Hid (Same w w1) := Kept.of_grown hgrow (fun k e => by cases e); clear hown hgrow)
  go_loopw [3, 15] (fun o i wr => ∃ (k : Nat) (aa : Option Addr) (na ca : Nat), k ≤ N ∧ o = .slice aa na ca ∧ i = .int .i64 (k : Int) ∧ Hid (Own 0 2 .i64 wr (.slice aa na ca) (heapLens R k)) ∧ Hid (∀ b, (Value.slice aa na ca).ownBlock = some b → w.heap.size ≤ b) ∧ Hid (Same w wr)) (fun _ i _ => N - (intOf i).toNat)
  case atStart => exact ⟨0, _, _, _, Nat.zero_le _, rfl, rfl, HO1, fun b hb => by have h : w.heap.size = b := (by simpa [Value.ownBlock] using hb); omega, HK1⟩
  case round =>
    obtain ⟨k, aa, na, ca, hk, rfl, rfl, HO, HF, HK⟩ := hrel
    clear HO1 HK1
    by_cases hlt : k < N
    case neg =>
      obtain rfl : k = N := by omega
      go_wp2
      go_ret
      exact ⟨_, _, _, rfl, HO.out, HF.out, HK.out⟩
    have hkp : k < Ps.length := by rw [HPL.out]; exact hlt
    have hc := HK.out.cellOf (HM.out.cell k hkp) id
    have HSP := hid (HM.out.pgs k hkp)
    generalize Ps[k] = P at hc HSP
    unfold ptr at hc
    clear hkp
    go_wp2_with fail
    go_loopw [3, 19] (fun o i wx => ∃ (s : Nat) (aa : Option Addr) (na ca : Nat), s ≤ 32 ∧ o = .slice aa na ca ∧ i = .int .i64 (s : Int) ∧ Hid (Own 0 2 .i64 wx (.slice aa na ca) (heapLens R k ++ pageLens (R k) s)) ∧ Hid (∀ b, (Value.slice aa na ca).ownBlock = some b → w.heap.size ≤ b) ∧ Hid (Same w wx)) (fun _ i _ => 32 - (intOf i).toNat)
    case atStart => exact ⟨0, _, _, _, Nat.zero_le _, rfl, rfl, by unfold Hid; rw [show pageLens (R k) 0 = [] from rfl, List.append_nil]; exact HO.out, HF, HK⟩
    case round =>
      clear HO HF HK hc
      obtain ⟨s, ab, nb, cb, hs, rfl, rfl, HO, HF, HK⟩ := hrel
      by_cases hs2 : s < 32
      case neg =>
        obtain rfl : s = 32 := by omega
        go_wp2
        go_roundw
        case rel => exact ⟨k + 1, ab, nb, cb, by omega, rfl, by go_num, by rw [heapLens_succ]; exact HO, HF, HK⟩
        case measure => simp [intOf]; omega
      have c0 := HK.out.cellOf (HSP.out.slAt (2 * s) (by omega)) id
      have c1 := HK.out.cellOf (HSP.out.slAt (2 * s + 1) (by omega)) id
      rw [show 7 + 2 * s = 7 + s * 2 from by omega] at c0
      rw [show 7 + (2 * s + 1) = 7 + s * 2 + 1 from by omega] at c1
      have hlP : P < wr.heap.size := World.block_lt_of_cell? wr _ c0
      have HSL := (show Hid (pageLens (R k) (s + 1) = pageLens (R k) s ++ [if sOff (R k) s = 0 then -1 else sLen (R k) s]) from pageLens_succ (R k) s)
      have HLL : Hid ((heapLens R k ++ pageLens (R k) s).length ≤ 1024) := by unfold Hid; rw [List.length_append, heapLens_length, pageLens_length]; omega
      have kU := fun wx => used_any ((slotsOf (R k)).getD (2 * s) 0) ((slotsOf (R k)).getD (2 * s + 1) 0) wx
      unfold sOff sLen at HSL
      generalize (slotsOf (R k)).getD (2 * s) 0 = x at *
      generalize (slotsOf (R k)).getD (2 * s + 1) 0 = y at *
      have hs3 : (s : Int) < 32 := by omega
      by_cases hx : x = 0
      · subst hx
        rw [show ((0 : Int) != 0) = false from rfl] at kU
        rw [if_pos rfl] at HSL
        go_wp2_with (first
          | (go_at_call 58; (with_reducible refine (kU _).mono ?_); rintro e w3 ⟨rfl, hk3⟩; have HK3 : Hid (Same wr w3) := ((Kept.refl _ _).alloc _).trans hk3; clear hk3)
          | (at_builtin; go_loud (refine wpList_appZ rfl (.tmp 32) (.tmp 34) rfl (.slice ab nb cb) (.slice (some ⟨w3.heap.size, 0, none⟩) 1 1) _ [-1] rfl rfl (HO.out.same (HK3.out.alloc _)) (rd_oneZ w3 (-1)) (by have := HLL.out; simp only [List.length_singleton]; omega) ?_); intro a4 n4 c4 w4 hown hgr; have HO4 := hid hown; have HG4 := hid hgr; clear hown hgr))
        rw [List.append_assoc, ← HSL.out] at HO4
        have hz3 := HK3.out.size
        go_roundw
        case rel => exact ⟨s + 1, a4, n4, c4, by omega, rfl, by go_num, HO4, HG4.out.fresh ((HK.out.trans HK3.out).alloc _) HF.out, HG4.out.same ((HK.out.trans HK3.out).alloc _) HF.out⟩
        case measure => simp [intOf]; omega
      · have hx2 : (x != 0) = true := by simpa using hx
        rw [hx2] at kU
        rw [if_neg hx] at HSL
        go_wp2_with (first
          | (go_at_call 58; (with_reducible refine (kU _).mono ?_); rintro e w3 ⟨rfl, hk3⟩; have HB3 := hid ((Blk.newL wr [.int .i64 x, .int .i64 y] 92).same hk3); have HK3 : Hid (Same wr w3) := ((Kept.refl _ _).alloc _).trans hk3; obtain ⟨d0, d1⟩ := HB3.out.all2; clear hk3)
          | (at_builtin; go_loud (refine wpList_appZ rfl (.tmp 32) (.tmp 34) rfl (.slice ab nb cb) (.slice (some ⟨w3.heap.size, 0, none⟩) 1 1) _ [y] rfl rfl (HO.out.same (HK3.out.alloc _)) (rd_oneZ w3 y) (by have := HLL.out; simp only [List.length_singleton]; omega) ?_); intro a4 n4 c4 w4 hown hgr; have HO4 := hid hown; have HG4 := hid hgr; clear hown hgr))
        rw [List.append_assoc, ← HSL.out] at HO4
        have hz3 := HK3.out.size
        go_roundw
        case rel => exact ⟨s + 1, a4, n4, c4, by omega, rfl, by go_num, HO4, HG4.out.fresh ((HK.out.trans HK3.out).alloc _) HF.out, HG4.out.same ((HK.out.trans HK3.out).alloc _) HF.out⟩
        case measure => simp [intOf]; omega
theorem implLengths_any (p f l : Int) (dv pv : Value) (dur : List Int) (ps : List PW) (w : World) (hb : DiskB dur ps) (hv : RdD w dv pv dur ps) :
    Calls Try.prog 16 #[.agg #[dv, pv], .agg #[.int .i64 p, .int .i64 f, .int .i64 l]] w fun e w' => LenE w w' (lensD p f l dur (dataP ps)) e := by
  have HV := hid hv
  have kO := fun wx hv => openHeap_any p f l dv pv dur ps wx hb hv
  have HB := hid hb
  obtain ⟨a1, c1, rfl⟩ := hv.dur.form
  obtain ⟨a2, c2, rfl⟩ := hv.pend.form
  clear hv hb
  obtain ⟨HK0, HA0, HG0⟩ := new2 w [.slice a1 dur.length c1, .slice a2 ps.length c2] 32 [.int .i64 p, .int .i64 f, .int .i64 l] 34
  go_enter Try.func16, Try.ntmps16
  go_wp2_with fail
  refine (kO _ (HV.out.same HK0.out)).mono ?_
  rintro e w1 ⟨v, b, rfl, hk1, ⟨rfl, rfl, hno⟩ | ⟨rfl, hok, G, Ps, rfl, hpl, hG, hM⟩⟩
  · have HK1 := hid (HK0.out.trans hk1)
    have HD := hid (lensD_no hno)
    clear hk1 hno
    go_wp2_with fail
    refine (hpLens_nil _).mono ?_
    rintro e w2 ⟨a, n, c, rfl, ho, hf, hk2⟩
    have HO := hid ho
    have HF := hid (fun b hb => Nat.le_trans HK1.out.size (hf b hb))
    have HK2 := hid (HK1.out.trans hk2)
    clear ho hf hk2
    go_wp2
    go_ret
    rw [HD.out]
    exact ⟨a, n, c, rfl, HO.out, HF.out, HK2.out⟩
  · have HK1 := hid (HK0.out.trans hk1)
    have HD := hid (lensD_yes hok)
    have hgeo := geo_good hok.1.1
    have kL := hpLens_any G p.toNat Ps (pgI l dur (dataP ps)) w1 hM hpl (by omega) (fun i _ => isB_pgI HB.out.1 (fun q hq => by obtain ⟨r, hr, rfl⟩ := List.mem_map.1 hq; exact HB.out.2 r hr) i) (fun i hi => pgI_length hok.1 i (by omega))
    clear hk1 hok hG hM hpl hgeo
    generalize p.toNat = N at *
    go_wp2_with fail
    refine kL.mono ?_
    rintro e w2 ⟨a, n, c, rfl, ho, hf, hk2⟩
    have HO := hid ho
    have HF := hid (fun b hb => Nat.le_trans HK1.out.size (hf b hb))
    have HK2 := hid (HK1.out.trans hk2)
    clear ho hf hk2
    go_wp2
    go_ret
    rw [HD.out]
    exact ⟨a, n, c, rfl, HO.out, HF.out, HK2.out⟩
end Go.Proofs.Ytednajibnjofmaa

namespace Go.Proofs.Ytednajibnjofmaa
open Go Go.RowKit
set_option linter.unusedVariables false
set_option linter.unusedSimpArgs false
structure RowK (E : Type) where
  m : Nat
  cells : E → List Value
  len : ∀ p, (cells p).length = m
  v : E → Value
  bs : E → List Int
variable {E : Type}
def RowK.all (K : RowK E) : List E → List Value
  | [] => []
  | p :: ps => K.cells p ++ K.all ps
theorem RowK.all_length (K : RowK E) (ps : List E) : (K.all ps).length = ps.length * K.m := by
  induction ps with
  | nil => simp [RowK.all]
  | cons p ps ih => rw [RowK.all, List.length_append, K.len, ih, List.length_cons, Nat.add_mul, Nat.one_mul, Nat.add_comm]
theorem RowK.all_append (K : RowK E) (ps qs : List E) : K.all (ps ++ qs) = K.all ps ++ K.all qs := by
  induction ps with
  | nil => rfl
  | cons p ps ih => simp only [List.cons_append, RowK.all, ih, List.append_assoc]
theorem RowK.all_at (K : RowK E) (ps : List E) (j i : Nat) (h : j < ps.length) (hi : i < K.m) : (K.all ps)[j * K.m + i]? = (K.cells ps[j])[i]? := by
  induction ps generalizing j with
  | nil => simp at h
  | cons p ps ih =>
    cases j with
    | zero => rw [Nat.zero_mul, Nat.zero_add, RowK.all, List.getElem?_append_left (by rw [K.len]; exact hi)]; rfl
    | succ j =>
      rw [RowK.all, List.getElem?_append_right (by rw [K.len, Nat.add_mul]; omega), K.len, show (j + 1) * K.m + i - K.m = j * K.m + i from by rw [Nat.add_mul]; omega]
      exact ih j (by simpa using h)
structure OwnR (K : RowK E) (base : Nat) (tw tb : TypeId) (w : World) (v : Value) (ps : List E) : Prop where
  row : w.ownsRow base tw K.m v ps.length (K.all ps)
  data : ∀ p ∈ ps, Own base tb .u8 w (K.v p) (K.bs p)
  out : ∀ u ∈ ps.map K.v, Apart v u
  each : (ps.map K.v).Pairwise Apart
def footR (K : RowK E) (v : Value) (ps : List E) (b : Nat) : Prop := v.ownBlock = some b ∨ ∃ p ∈ ps, (K.v p).ownBlock = some b
section
variable {K : RowK E} {base : Nat} {tw tb : TypeId} {w w' : World} {v : Value} {ps qs : List E}
theorem OwnR.form (h : OwnR K base tw tb w v ps) :
    (v = .slice none 0 0 ∧ ps = []) ∨ ∃ g cap, v = .slice (some ⟨g, 0, none⟩) ps.length cap ∧ base ≤ g ∧ g < w.heap.size ∧ ps.length ≤ cap ∧ cap ≤ maxLen := by
  rcases h.row.2 with ⟨rfl, hn⟩ | ⟨g, cap, cur, rfl, hb, hgg, hc, hm, _⟩
  · exact .inl ⟨rfl, List.length_eq_zero_iff.1 hn⟩
  · exact .inr ⟨g, cap, rfl, hb, (Array.getElem?_eq_some_iff.1 hgg).1, hc, hm⟩
theorem OwnR.lt (h : OwnR K base tw tb w v ps) (b : Nat) (hb : footR K v ps b) : base ≤ b ∧ b < w.heap.size := by
  rcases hb with hb | ⟨p, hp, hb⟩
  · exact World.ownsRow.lt h.row b hb
  · exact (h.data p hp).lt b hb
theorem OwnR.cell {g n cap : Nat} (h : OwnR K base tw tb w (.slice (some ⟨g, 0, none⟩) n cap) ps) (hn : n = ps.length) (j i : Nat) (hj : j < ps.length) (hi : i < K.m) :
    w.cell? ⟨g, j * K.m + i, none⟩ = (K.cells ps[j])[i]? := by
  subst hn
  rw [World.ownsRow.cellAt h.row (j * K.m + i) (by have := Nat.mul_le_mul_right K.m (Nat.succ_le_of_lt hj); rw [Nat.succ_mul] at this; omega), K.all_at ps j i hj hi]
theorem OwnR.frozen {g n cap : Nat} (h : OwnR K base tw tb w (.slice (some ⟨g, 0, none⟩) n cap) ps) (hn : n = ps.length) (j : Nat) : w.frozen? ⟨g, j, none⟩ = false := by
  subst hn
  exact World.ownsRow.frozenAt h.row j
theorem OwnR.kept {R : Nat → Prop} (h : OwnR K base tw tb w v ps) (hk : Kept R w w') (hr : ∀ b, footR K v ps b → ¬ R b) : OwnR K base tw tb w' v ps :=
  ⟨hk.owns h.row (fun b hb => hr b (.inl hb)), fun p hp => (h.data p hp).kept hk (fun b hb => hr b (.inr ⟨p, hp, hb⟩)), h.out, h.each⟩
theorem OwnR.same (h : OwnR K base tw tb w v ps) (hk : Same w w') : OwnR K base tw tb w' v ps := h.kept hk (fun _ _ => id)
theorem OwnR.nil (K : RowK E) (base : Nat) (tw tb : TypeId) (w : World) : OwnR K base tw tb w (.slice none 0 0) [] :=
  ⟨World.ownsRow_nil _ _ _ _, fun _ h => by simp at h, fun _ h => by simp at h, List.Pairwise.nil⟩
theorem OwnR.set {g n cap : Nat} {pre post : List E} {p p' : E} (h : OwnR K base tw tb w (.slice (some ⟨g, 0, none⟩) n cap) (pre ++ p :: post)) (hn : n = (pre ++ p :: post).length) (i : Nat) (u : Value) (hi : i < K.m)
    (hc : K.cells p' = (K.cells p).set i u) (hv : K.v p' = K.v p) (hb : K.bs p' = K.bs p) (j : Nat) (hj : j = pre.length * K.m + i) :
    OwnR K base tw tb (w.setCell ⟨g, j, none⟩ u) (.slice (some ⟨g, 0, none⟩) n cap) (pre ++ p' :: post) := by
  subst hn hj
  have hk : Kept (fun b => b = g) w (w.setCell ⟨g, pre.length * K.m + i, none⟩ u) := Kept.setCell (Kept.refl (fun b => b = g) w) (p := ⟨g, pre.length * K.m + i, none⟩) (.inr rfl) _
  have hmap : (pre ++ p' :: post).map K.v = (pre ++ p :: post).map K.v := by simp [hv]
  refine ⟨?_, fun q hq => ?_, by rw [hmap]; exact h.out, by rw [hmap]; exact h.each⟩
  · have hs := (World.ownsRow.stored h.row (pre.length * K.m + i) u).1
    have e : K.all (pre ++ p' :: post) = (K.all (pre ++ p :: post)).set (pre.length * K.m + i) u := by
      rw [K.all_append, K.all_append, List.set_append_right (h := by rw [K.all_length]; omega), K.all_length, Nat.add_sub_cancel_left, RowK.all, RowK.all, List.set_append_left (h := by rw [K.len]; exact hi), hc]
    rw [e]
    simpa using hs
  · have hq' : ∃ q' ∈ pre ++ p :: post, K.v q' = K.v q ∧ K.bs q' = K.bs q := by
      rcases List.mem_append.1 hq with hq | hq
      · exact ⟨q, by simp [hq], rfl, rfl⟩
      · rcases List.mem_cons.1 hq with rfl | hq
        · exact ⟨p, by simp, hv.symm, hb.symm⟩
        · exact ⟨q, by simp [hq], rfl, rfl⟩
    obtain ⟨q', hm, e1, e2⟩ := hq'
    have hd := h.data q' hm
    rw [e1, e2] at hd
    refine hd.kept hk (fun b hb e => ?_)
    subst e
    exact h.out (K.v q) (by rw [← e1]; exact List.mem_map_of_mem hm) b rfl hb
theorem OwnR.setData {pre post : List E} {p p' : E} (h : OwnR K base tw tb w v (pre ++ p :: post)) (hk : Kept (fun b => (K.v p).ownBlock = some b) w w') (hc : K.cells p' = K.cells p) (hv : K.v p' = K.v p) (ho : Own base tb .u8 w' (K.v p) (K.bs p')) :
    OwnR K base tw tb w' v (pre ++ p' :: post) := by
  have hmap : (pre ++ p' :: post).map K.v = (pre ++ p :: post).map K.v := by simp [hv]
  have hcells : K.all (pre ++ p' :: post) = K.all (pre ++ p :: post) := by rw [K.all_append, K.all_append, RowK.all, RowK.all, hc]
  have hlen : (pre ++ p' :: post).length = (pre ++ p :: post).length := by simp
  have hea := h.each
  rw [List.map_append, List.map_cons] at hea
  obtain ⟨_, h2, h3⟩ := List.pairwise_append.1 hea
  have h4 := List.pairwise_cons.1 h2
  refine ⟨?_, fun q hq => ?_, by rw [hmap]; exact h.out, by rw [hmap]; exact h.each⟩
  · rw [hcells, hlen]
    exact hk.owns h.row (fun b hb e => h.out (K.v p) (by simp) b hb e)
  · rcases List.mem_append.1 hq with hq | hq
    · exact (h.data q (by simp [hq])).kept hk (fun b hb e => h3 (K.v q) (List.mem_map_of_mem hq) (K.v p) (by simp) b hb e)
    · rcases List.mem_cons.1 hq with rfl | hq
      · rw [hv]; exact ho
      · exact (h.data q (by simp [hq])).kept hk (fun b hb e => h4.1 (K.v q) (List.mem_map_of_mem hq) b e hb)
end
structure MarkK (K : RowK E) where
  on : Int → E → E
  sz : E → Nat
  v : ∀ k p, K.v (on k p) = K.v p
section
variable {K : RowK E} (M : MarkK K)
end
structure RdR (K : RowK E) (w : World) (v : Value) (ps : List E) : Prop where
  max : ps.length ≤ maxLen
  row : (ps = [] ∧ ∃ a c, v = .slice a 0 c) ∨ ∃ b off c, v = .slice (some ⟨b, off, none⟩) ps.length c ∧ ∀ j i, (h : j < ps.length) → i < K.m → w.cell? ⟨b, off + (j * K.m + i), none⟩ = (K.cells ps[j])[i]?
  data : ∀ p ∈ ps, Rd .u8 w (K.v p) (K.bs p)
section
variable {K : RowK E} {w w' : World} {v : Value} {ps : List E}
theorem RdR.kept {R : Nat → Prop} (h : RdR K w v ps) (hk : Kept R w w') (hr : ∀ b, footR K v ps b → ¬ R b) : RdR K w' v ps := by
  refine ⟨h.max, ?_, fun p hp => (h.data p hp).kept hk (fun b hb => hr b (.inr ⟨p, hp, hb⟩))⟩
  rcases h.row with h | ⟨b, off, c, rfl, hc⟩
  · exact .inl h
  · refine .inr ⟨b, off, c, rfl, fun j i hj hi => ?_⟩
    have hl := K.len ps[j]
    rw [List.getElem?_eq_getElem (by omega)]
    exact hk.cellOf (by rw [hc j i hj hi, List.getElem?_eq_getElem (by omega)]) (hr b (.inl rfl))
theorem RdR.same (h : RdR K w v ps) (hk : Same w w') : RdR K w' v ps := h.kept hk (fun _ _ => id)
theorem RdR.form (h : RdR K w v ps) : ∃ a c, v = .slice a ps.length c := by
  rcases h.row with ⟨rfl, a, c, rfl⟩ | ⟨b, off, c, rfl, _⟩ <;> exact ⟨_, _, rfl⟩
theorem OwnR.rd {base : Nat} {tw tb : TypeId} (h : OwnR K base tw tb w v ps) : RdR K w v ps := by
  refine ⟨?_, ?_, fun p hp => (h.data p hp).rd⟩
  · rcases h.form with ⟨rfl, rfl⟩ | ⟨g, cap, rfl, _, _, hc, hm⟩
    · simp
    · exact Nat.le_trans hc hm
  · rcases h.form with ⟨rfl, rfl⟩ | ⟨g, cap, rfl, _, _, hc, hm⟩
    · exact .inl ⟨rfl, _, _, rfl⟩
    · exact .inr ⟨g, 0, cap, rfl, fun j i hj hi => by rw [Nat.zero_add]; exact h.cell rfl j i hj hi⟩
end
end Go.Proofs.Ytednajibnjofmaa

namespace Go.Proofs.Ytednajibnjofmaa
set_option maxRecDepth 100000
set_option maxHeartbeats 4000000
open Go.RowKit
set_option linter.unusedVariables false
set_option linter.unusedSimpArgs false
structure EHeapRecord where
  id : Int
  v : Value
  bs : List Int
def kHeapRecord : RowK EHeapRecord := ⟨2, fun p => [.int .i64 p.id, p.v], fun _ => rfl, EHeapRecord.v, EHeapRecord.bs⟩
def EHeapRecord.dat (p : EHeapRecord) : Int × List Int := (p.id, p.bs)
def datHeapRecordS (ps : List EHeapRecord) : List (Int × List Int) := ps.map EHeapRecord.dat
theorem datHeapRecordS_length (ps : List EHeapRecord) : (datHeapRecordS ps).length = ps.length := by simp [datHeapRecordS]
theorem Try.infoRHeapRecord : (Try.prog.info? 64).map (fun i => (i.zero, i.size, i.bytes)) = some (some (.agg #[.int .i64 0, .slice none 0 0]), 2, 32) := by kernel_rfl
end Go.Proofs.Ytednajibnjofmaa

namespace Go.Proofs.Ytednajibnjofmaa
set_option maxRecDepth 100000
set_option maxHeartbeats 4000000
open Go.RowKit
set_option linter.unusedVariables false
set_option linter.unusedSimpArgs false
theorem Rd.mid {k : IntKind} {w : World} {b off c : Nat} {bs : List Int} (h : Rd k w (.slice (some ⟨b, off, none⟩) bs.length c) bs) (o n c' : Nat) (hm : o + n ≤ bs.length) (hc' : n ≤ c') : Rd k w (.slice (some ⟨b, off + o, none⟩) n c') ((bs.drop o).take n) := by
  have hl : ((bs.drop o).take n).length = n := by simp; omega
  refine ⟨by rw [hl]; have := h.1; omega, ?_⟩
  by_cases h0 : n = 0
  · subst h0
    exact .inl ⟨by simp, _, _, rfl, fun e => by cases e⟩
  · rcases h.2 with ⟨hn, a, c', e, _⟩ | ⟨b', off', c'', e, hl', hc⟩
    · rw [hn] at hm
      simp at hm
      omega
    · cases e
      refine .inr ⟨b, off + o, c', by rw [hl], by omega, fun i hi => ?_⟩
      have := hc (o + i) (by omega)
      rw [Nat.add_assoc, this]
      simp [List.getD, List.getElem?_take, List.getElem?_drop, show i < n by omega]
theorem l3Number_any (b off len c : Nat) (bs : List Int) (at_ n : Nat) (w : World) (hB : IsB bs) (hl : bs.length = len) (hm : len ≤ 1099511627776) (h1 : 1 ≤ n) (h2 : at_ + n ≤ len) (hv : Rd .u8 w (.slice (some ⟨b, off, none⟩) len c) bs) :
    Calls Try.prog 62 #[.slice (some ⟨b, off, none⟩) len c, .int .i64 at_, .int .i64 n] w fun e w' => e = .returned (.int .i64 (getN ((bs.drop at_).take n))) ∧ Same w w' := by
  have hc : len ≤ c := by
    rcases hv.2 with ⟨h0, _⟩ | ⟨b', o', c', e, hl', hc⟩
    · rw [h0] at hl
      simp at hl
      omega
    · cases e
      omega
  have HR := (show Hid (Rd .u8 w (.slice (some ⟨b, off + at_, none⟩) n (c - at_)) ((bs.drop at_).take n)) from (by subst hl; exact hv.mid at_ n (c - at_) h2 (by omega)))
  have HG := (show Hid (Calls Try.prog 72 #[.slice (some ⟨b, off + at_, none⟩) n (c - at_)] w fun e w' => e = .returned (.int .i64 (getN ((bs.drop at_).take n))) ∧ Same w w') from specGet_any _ _ w (isB_take (isB_drop hB at_) n) (by simp; omega) HR.out)
  clear hv hB HR
  have q1 : (at_ : Int) ≤ (at_ : Int) + (n : Int) := by omega
  have q2 : (at_ : Int) + (n : Int) ≤ (c : Int) := by omega
  have q3 : (0 : Int) ≤ (at_ : Int) := by omega
  have q4 : at_ < c := by omega
  have q5 : ¬ c = at_ := by omega
  have q6 : ((at_ : Int) + (n : Int)).toNat = at_ + n := by omega
  have q7 : at_ + n - at_ = n := by omega
  go_enter Try.func62, Try.ntmps62
  go_wp2_with fail
  with_reducible refine HG.out.mono ?_
  rintro e w1 ⟨rfl, hk1⟩
  go_wp2
  go_ret
  exact ⟨rfl, hk1⟩
end Go.Proofs.Ytednajibnjofmaa
