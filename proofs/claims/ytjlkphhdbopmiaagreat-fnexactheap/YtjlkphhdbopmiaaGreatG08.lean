import Derived.Test.YtjlkphhdbopmiaaGreatG07
import Derived.Test.YtjlkphhdbopmiaaGreatG00
import Derived.Test.YtjlkphhdbopmiaaGreatG05
import Derived.Test.YtjlkphhdbopmiaaGreatG01
import Derived.Test.YtjlkphhdbopmiaaGreatG02
import Derived.Deep.RegionWith
import Derived.Deep.DeepMust
import Derived.Deep.DeepCutAuto
namespace Go.Proofs.YtjlkphhdbopmiaaGreat
set_option maxRecDepth 100000
set_option maxHeartbeats 8000000
set_option linter.unusedVariables false
set_option linter.unusedSimpArgs false
open Go.RowKit Go
def SPr (w : World) (P : Nat) (raw : List Int) : Prop := SP w P (raw.take 4) (numAt raw 4 8) (numAt raw 12 4) (numAt raw 16 2) (slotsOf raw) raw
theorem SPr.kept {R : Nat → Prop} {w w' : World} {P : Nat} {raw : List Int} (h : SPr w P raw) (hk : Kept R w w') (hr : ¬ R P) : SPr w' P raw := SP.kept h hk hr
theorem SPr.same {w w' : World} {P : Nat} {raw : List Int} (h : SPr w P raw) (hk : Same w w') : SPr w' P raw := SP.same h hk
def ptr (P : Nat) : Value := .pointer (some ⟨P, 0, none⟩)
structure HpM (w : World) (G n : Nat) (Ps : List Nat) (R : Nat → List Int) : Prop where
 row : Blk w G 86 (Ps.map ptr ++ List.replicate (n - Ps.length) (Value.pointer none))
 pgs : ∀ i (h : i < Ps.length), SPr w Ps[i] (R i)
 lo : ∀ i (h : i < Ps.length), G < Ps[i]
theorem HpM.same {w w' : World} {G n : Nat} {Ps : List Nat} {R : Nat → List Int} (h : HpM w G n Ps R) (hk : Same w w') : HpM w' G n Ps R := ⟨h.row.same hk, fun i hi => (h.pgs i hi).same hk, h.lo⟩
theorem ptrs_set (Ps : List Nat) (n P : Nat) (h : Ps.length < n) : (Ps.map ptr ++ List.replicate (n - Ps.length) (Value.pointer none)).set Ps.length (ptr P) = (Ps ++ [P]).map ptr ++ List.replicate (n - (Ps ++ [P]).length) (Value.pointer none) := by
 obtain ⟨m, hm⟩ : ∃ m, n - Ps.length = m + 1 := ⟨n - Ps.length - 1, by omega⟩
 rw [hm, List.set_append_right (h := by rw [List.length_map]; exact Nat.le_refl _), List.length_map, Nat.sub_self, List.replicate_succ, List.set_cons_zero, List.length_append, List.length_singleton, show n - (Ps.length + 1) = m from by omega, List.map_append, List.append_assoc]
 rfl
theorem HpM.snoc {w : World} {G n P : Nat} {Ps : List Nat} {R : Nat → List Int} (h : HpM w G n Ps R) (hn : Ps.length < n) (hP : SPr w P (R Ps.length)) (hG : G < P) : HpM (w.setCell ⟨G, Ps.length, none⟩ (ptr P)) G n (Ps ++ [P]) R := by
 have hk : Kept (fun b => b = G) w (w.setCell ⟨G, Ps.length, none⟩ (ptr P)) := Kept.setCell (R := fun b => b = G) (Kept.refl _ _) (p := ⟨G, Ps.length, none⟩) (.inr rfl) _
 refine ⟨?_, fun i hi => ?_, fun i hi => ?_⟩
 ·have hs := h.row.stored Ps.length (ptr P)
  rw [ptrs_set Ps n P hn] at hs
  exact hs
 ·by_cases e : i < Ps.length
  ·rw [List.getElem_append_left e]
   exact (h.pgs i e).kept hk (by have := h.lo i e; omega)
  ·have : i = Ps.length := by rw [List.length_append, List.length_singleton] at hi; omega
   subst this
   rw [List.getElem_append_right (Nat.le_refl _)]
   simp only [Nat.sub_self, List.getElem_cons_zero]
   exact hP.kept hk (by omega)
 ·by_cases e : i < Ps.length
  ·rw [List.getElem_append_left e]
   exact h.lo i e
  ·have : i = Ps.length := by rw [List.length_append, List.length_singleton] at hi; omega
   subst this
   rw [List.getElem_append_right (Nat.le_refl _)]
   simp only [Nat.sub_self, List.getElem_cons_zero]
   exact hG
theorem HpM.cell {w : World} {G n : Nat} {Ps : List Nat} {R : Nat → List Int} (h : HpM w G n Ps R) (i : Nat) (hi : i < Ps.length) : w.cell? ⟨G, i, none⟩ = some (ptr Ps[i]) := by
 rw [h.row.cell, List.getElem?_append_left (by rw [List.length_map]; exact hi), List.getElem?_map, List.getElem?_eq_getElem hi]
 rfl
theorem HpM.next {w : World} {G n : Nat} {Ps : List Nat} {R : Nat → List Int} (h : HpM w G n Ps R) (hn : Ps.length < n) : w.cell? ⟨G, Ps.length, none⟩ = some (.pointer none) := by
 rw [h.row.cell, List.getElem?_append_right (by rw [List.length_map]; exact Nat.le_refl _), List.length_map, Nat.sub_self, List.getElem?_replicate, if_pos (by omega)]
def HpR (p f l : Int) (dur : List Int) (ds : List (Int × List Int)) (w w' : World) (v : Value) (b : Bool) : Prop :=
 Same w w' ∧ ((b = false ∧ v = .slice none 0 0 ∧ ¬ heapOK p f l dur ds) ∨
  (b = true ∧ heapOK p f l dur ds ∧ ∃ G Ps, v = .slice (some ⟨G, 0, none⟩) p.toNat p.toNat ∧ Ps.length = p.toNat ∧ w.heap.size ≤ G ∧ HpM w' G p.toNat Ps (pgI l dur ds)))
def HpE (p f l : Int) (dur : List Int) (ds : List (Int × List Int)) (w w' : World) (e : Ending) : Prop := ∃ v b, e = .returned (.tuple #[v, .bool b]) ∧ HpR p f l dur ds w w' v b
theorem Tryz.infoPtr' : (Tryz.prog.info? 86).map (fun i => (i.zero, i.size, i.bytes)) = some (some (.pointer none), 1, 8) := by kernel_rfl
theorem madeP1 (n : Nat) : (madeCells (Value.pointer none).cells (n * 1)).toList = List.replicate n (Value.pointer none) := by
 apply List.ext_getElem?
 intro j
 by_cases hj : j < n
 ·simp [madeCells, Value.cells, hj, Nat.mod_one]
 ·rw [List.getElem?_eq_none (by simp [madeCells]; omega), List.getElem?_eq_none (by simp; omega)]
theorem openHeap_any (p f l : Int) (dv pv : Value) (dur : List Int) (ps : List PW) (w : World) (hb : DiskB dur ps) (hv : RdD w dv pv dur ps) :
  Calls Tryz.prog 24 #[.agg #[dv, pv], .agg #[.int .i64 p, .int .i64 f, .int .i64 l]] w fun e w' => HpE p f l dur (dataP ps) w w' e := by
 have HV := hid hv
 have kF := fun wx hv => holds_any p f l dv pv dur ps wx hv
 have kN := fun hV wx hv => seen_any dv pv dur ps wx hV hv
 obtain ⟨a1, c1, rfl⟩ := hv.dur.form
 obtain ⟨a2, c2, rfl⟩ := hv.pend.form
 clear hv
 obtain ⟨HK0, HA0, HG0⟩ := new2 w [.slice a1 dur.length c1, .slice a2 ps.length c2] 35 [.int .i64 p, .int .i64 f, .int .i64 l] 37
 by_cases hF : fitD p f l dur.length (dataP ps)
 case neg =>
  go_enter Tryz.func24, Tryz.ntmps24
  go_wp2_with fail
  refine (kF _ (HV.out.same HK0.out)).mono ?_
  rintro e w1 ⟨⟨B, rfl, hB⟩, hk1⟩
  obtain rfl : B = false := by
   cases B
   ·rfl
   ·exact absurd (hB.1 rfl) hF
  have HK1 := hid (HK0.out.trans hk1)
  clear hB hk1
  go_wp2
  go_ret2
  exact ⟨_, _, rfl, HK1.out, .inl ⟨rfl, rfl, fun h => hF h.1⟩⟩
 have hgeo := geo_good hF.1
 obtain ⟨N, hN⟩ : ∃ N : Nat, p = (N : Int) := ⟨p.toNat, by omega⟩
 have hIB : ∀ i, IsB (pgI l dur (dataP ps) i) := isB_pgI hb.1 (fun q hq => by obtain ⟨r, hr, rfl⟩ := List.mem_map.1 hq; exact hb.2 r hr)
 have HLEN : Hid (∀ i, i < N → (pgI l dur (dataP ps) i).length = 4096) := fun i hi => pgI_length hF i (by omega)
 have HSEC : Hid (∀ i : Nat, i < N → pgSec p f l (i : Int) = 2 + l + (i : Int) * 8 ∧ 2 + l + (i : Int) * 8 + 8 ≤ ((dur.length / 512 : Nat) : Int)) := fun i hi => by
  obtain ⟨s1, s2, s3⟩ := fit_sec hF (g := (i : Int)) (by omega) (by omega)
  exact ⟨s1, s2⟩
 have HSL : Hid (∀ i : Nat, i < N → ∀ k : Nat, k < 8 → (seeD (2 + l + (i : Int) * 8 + (k : Int)) dur (dataP ps)).length = 512) := fun i hi k hk => by
  obtain ⟨s1, s2, s3⟩ := fit_sec hF (g := (i : Int)) (by omega) (by omega)
  exact seeD_length hF.2.1 (by omega) (by omega)
 have HN8 : Hid (dur.length / 512 ≤ 1024) := hF.2.1.1.2.2.1
 have kN := fun wx hv => kN hF.2.1 wx hv
 have hpN : p.toNat = N := by omega
 have HPN := hid hpN
 have HFD := hid hF
 have HIB := hid hIB
 have hl0 : 0 ≤ l ∧ l ≤ 800 := by omega
 have hN16 : 1 ≤ N ∧ N ≤ 16 := by omega
 obtain ⟨i0, hi, hz0, hz1, hz2⟩ := info_parts Tryz.infoPtr'
 clear hF hgeo hIB hpN hb
 subst hN
 obtain ⟨R, hR⟩ : ∃ R, pgI l dur (dataP ps) = R := ⟨_, rfl⟩
 rw [hR] at HLEN HIB
 have HR := hid hR
 clear hR
 go_enter Tryz.func24, Tryz.ntmps24
 go_wp2_with fail
 refine (kF _ (HV.out.same HK0.out)).mono ?_
 rintro e w1 ⟨⟨B, rfl, hB⟩, hk1⟩
 obtain rfl : B = true := hB.2 HFD.out
 have HK1 := hid (HK0.out.trans hk1)
 have HG1 := hid (HG0.out.same hk1)
 have HA1 := hid (HA0.out.same hk1)
 obtain ⟨e0, e1⟩ := HA1.out.all2
 clear hk1 hB
 go_wp2_with fail
 refine (kN _ (HV.out.same HK1.out)).mono ?_
 rintro e w2 ⟨v2, rfl, G2, us, rfl, hul, hG2, hb2, hr2, hk2⟩
 have HK2 := hid (HK1.out.trans hk2)
 have HG2 := hid (HG1.out.same hk2)
 have HUL := hid hul
 have HB2 := hid hb2
 have HR2 : Hid (∀ i (h : i < us.length), Rd .u8 w2 us[i] (seeD (i : Int) dur (dataP ps))) := fun i h => (hr2 i h).same hk2
 obtain ⟨e2, e3, e4⟩ := HG2.out.all3
 clear hr2 hk2 hb2 hG2 e0 e1 hul kF kN HA1 HG1 HA0 HG0
 have hz2' := HK2.out.size
 go_wp2_with (at_make; go_loud (refine wpList_make_full _ rfl (.tmp 17) (.tmp 17) 59 rfl 0 86 i0 (.pointer none) 1 Tryz.underlying59 hi hz0 hz1 .i64 .i64 _ _ N rfl rfl (by simp) (by simp) (by rw [hz2]; omega) (by unfold maxLen; omega) (Nat.zero_le _) ?_); intro w3 hown hgrow; have HM3 := (show Hid (HpM w3 w2.heap.size N [] R) from (by rw [madeP1] at hown; exact ⟨Blk.of_row hown, fun i h => by simp at h, fun i h => by simp at h⟩)); have HK3 : Hid (Same w2 w3) := Kept.of_grown hgrow (fun k e => by cases e); obtain ⟨e5, e6, e7⟩ := (HG2.out.same HK3.out).all3; clear hown hgrow)
 have HG3 := hid (HG2.out.same HK3.out)
 have hlg2 := HG2.out.lt
 clear HG2 e2 e3 e4 e5 e6 e7
 go_loopw [21] (fun i wr => ∃ (k : Nat) (Ps : List Nat), k ≤ N ∧ i = .int .i64 (k : Int) ∧ Hid (Ps.length = k) ∧ Hid (HpM wr w2.heap.size N Ps R) ∧ Hid (allGood R k) ∧ Hid (Blk wr (w.heap.size + 1) 37 [.int .i64 (N : Int), .int .i64 f, .int .i64 l]) ∧ Hid (Same w2 wr)) (fun i _ => N - (intOf i).toNat)
 case atStart => exact ⟨0, [], Nat.zero_le _, rfl, rfl, HM3, fun i hi => by omega, HG3, HK3⟩
 case round =>
  obtain ⟨k, Ps, hk, rfl, HPL, HM, HAG, HG, HK⟩ := hrel
  clear HM3 HG3 HK3
  by_cases hlt : k < N
  case neg =>
   obtain rfl : k = N := by omega
   go_wp2
   go_ret2
   refine ⟨_, _, rfl, HK2.out.trans HK.out, .inr ⟨rfl, ⟨HFD.out, ?_⟩, w2.heap.size, Ps, ?_, ?_, hz2', ?_⟩⟩
   ·rw [HR.out, HPN.out]; exact HAG.out
   ·rw [HPN.out]; rfl
   ·rw [HPN.out]; exact HPL.out
   ·rw [HR.out, HPN.out]; exact HM.out
  obtain ⟨s1, s2⟩ := HSEC.out k hlt
  obtain ⟨F, hFF⟩ : ∃ F : Nat, 2 + l + (k : Int) * 8 = (F : Int) := ⟨(2 + l + (k : Int) * 8).toNat, by omega⟩
  have kS := fun wx => implPgSec_any (N : Int) f l (k : Int) wx
  rw [s1, hFF] at kS
  have HF8 : Hid (F + 8 ≤ us.length) := by unfold Hid; rw [HUL.out]; omega
  have HUS : Hid (us.length ≤ 1024) := by unfold Hid; rw [HUL.out]; exact HN8.out
  have hraw : joinS (fun i => seeD ((F : Int) + (i : Int)) dur (dataP ps)) 8 = R k := by rw [← HR.out, ← hFF]; rfl
  have HS8 : Hid (∀ i : Nat, i < 8 → (seeD ((F : Int) + (i : Int)) dur (dataP ps)).length = 512) := fun i hi => by rw [← hFF]; exact HSL.out k hlt i hi
  have HR8 : Hid (∀ wx, Same w2 wx → ∀ i : Nat, i < 8 → ∃ u, us[F + i]? = some u ∧ Rd .u8 wx u (seeD ((F : Int) + (i : Int)) dur (dataP ps))) := fun wx hx i hi => by
   have h1 := HF8.out
   have h2 : F + i < us.length := by omega
   refine ⟨us[F + i], List.getElem?_eq_getElem h2, ?_⟩
   have h := (HR2.out (F + i) h2).same hx
   rwa [show ((F + i : Nat) : Int) = (F : Int) + (i : Int) from by omega] at h
  have kJ := fun wx (hx : Same w2 wx) => join_any G2 us.length us F (fun i => seeD ((F : Int) + (i : Int)) dur (dataP ps)) wx (HB2.out.same hx) HF8.out HUS.out HS8.out (HR8.out wx hx)
  rw [hraw] at kJ
  obtain ⟨raw, hrw⟩ : ∃ raw, R k = raw := ⟨_, rfl⟩
  have hrl := HLEN.out k hlt
  have hrb := HIB.out k
  rw [hrw] at kJ hrl hrb
  have HRW := hid hrw
  have hT := fun wx => takeApart_any raw wx hrb hrl
  have hSd := fun wx => sealed_any raw wx hrb hrl
  have hsl : (sealB raw).length = 4096 := by rw [sealB_length _ (by omega), hrl]
  have heq := fun wx => run_neq_pages wx (sealB raw) raw hsl hrl
  have hn12 := numAt_in raw hrb 12 4 (by decide) (by decide) (by omega)
  have hn16 := numAt_in raw hrb 16 2 (by decide) (by decide) (by omega)
  have hFt := fun P wx (h : SPr wx P raw) => fault_any P (raw.take 4) (numAt raw 4 8) (numAt raw 12 4) (numAt raw 16 2) (slotsOf raw) raw (k : Int) wx h (slotsOf_small raw hrb hrl) ⟨hn12.1, by omega⟩ ⟨hn16.1, by omega⟩
  have hPF : pageFault raw (k : Int) = faultP (raw.take 4) (numAt raw 4 8) (numAt raw 12 4) (numAt raw 16 2) (slotsOf raw) raw (k : Int) := by unfold pageFault; rw [if_neg (by simp [hrl])]
  have hWH : pageWhole raw = (sealB raw == raw) := by unfold pageWhole; simp [hrl]
  rw [← hPF] at hFt
  obtain ⟨ds, hds⟩ : ∃ ds : List Value, vals .u8 raw = ds := ⟨_, rfl⟩
  obtain ⟨es, hes⟩ : ∃ es : Array Value, (vals .u8 (sealB raw)).toArray = es := ⟨_, rfl⟩
  have hdl : ds.length = 4096 := by rw [← hds, vals_length, hrl]
  have hone := (show ds.toArray.all (·.oneCell') = true from all_oneCell_toArray (by rw [← hds]; exact vals_one))
  rw [hds] at kJ hT hSd heq
  rw [hes] at hSd heq
  obtain ⟨r, hr⟩ : ∃ r, (sealB raw != raw) = r := ⟨_, rfl⟩
  rw [hr] at heq
  have hI : (Tryz.prog.info? 84).map (·.size) = some ds.length := by rw [hdl]; exact (by kernel_rfl : (Tryz.prog.info? 84).map (·.size) = some 4096)
  have HI := hid hI
  have HWH := hid (show pageWhole raw = !r from by rw [hWH, ← hr]; simp [bne])
  obtain ⟨FT, hFT⟩ : ∃ FT, pageFault raw (k : Int) = FT := ⟨_, rfl⟩
  rw [hFT] at hFt
  have HFT := hid hFT
  have HDS := hid hds
  obtain ⟨e2, e3, e4⟩ := HG.out.all3
  have hzr := HK.out.size
  have hlg := HG.out.lt
  clear s1 s2 hFF hraw hrl hrb hrw hsl hn12 hn16 hPF hWH hds hes hr hFT hI HS8 HR8
  go_wp2_with fail
  refine (kS _).mono ?_
  rintro e w4 ⟨rfl, hk4⟩
  have HK4 := hid (HK.out.trans hk4)
  have HM4 := hid (HM.out.same hk4)
  have HG4 := hid (HG.out.same hk4)
  clear hk4 kS e2 e3 e4
  go_wp2_with fail
  refine (kJ _ HK4.out).mono ?_
  rintro e w5 ⟨rfl, hk5⟩
  have HK5 := hid (HK4.out.trans hk5)
  have HM5 := hid (HM4.out.same hk5)
  have HG5 := hid (HG4.out.same hk5)
  have hst := run_storeCells_new (P := Tryz.prog) w5 84 Tryz.zeroCells84 ds.toArray (by rw [List.size_toArray]; exact HI.out) (by rw [show ds.toArray.size = 4096 from by rw [List.size_toArray, hdl]]; exact Tryz.zeroCells84_size) hone
  rw [List.toList_toArray] at hst
  have HRG := (show Hid ((w5.alloc (.cells ds.toArray 84)).rangeAt w5.heap.size 0 ds) from (Blk.newL w5 ds 84).rangeAll)
  have HBD := (show Hid (Blk (w5.alloc (.cells ds.toArray 84)) w5.heap.size 84 ds) from Blk.newL w5 ds 84)
  clear hone hk5 kJ HM HG HM4 HG4
  have hz5 := HK5.out.size
  go_wp2_with (first
   | (refine wpList_load_mid rfl 84 _ rfl w5.heap.size 0 rfl ds _ HRG.out Tryz.underlying84 rfl HI.out ?_)
   | (go_at_call 48; (with_reducible refine (hT _).mono ?_); rintro e w6 ⟨P, rfl, hP, hsp, hk6⟩; have HK56 : Hid (Same w5 w6) := ((Kept.refl _ _).alloc _).trans hk6; have HM6 := hid (HM5.out.same HK56.out); have HSP := (show Hid (SPr w6 P raw) from hsp); have HP0 : Hid (w2.heap.size < P) := (by unfold Hid; rw [World.size_alloc] at hP; omega); have HBD6 := hid (HBD.out.same hk6); have q0 := HM6.out.next (by rw [HPL.out]; exact hlt); rw [HPL.out] at q0; have q1 := HM6.out.row.frozen k; clear hk6 hsp hP hst))
  have hGl := HM6.out.row.lt
  have HG56 : Hid (w2.heap.size < w5.heap.size) := HM5.out.row.lt
  have hsn := HM6.out.snoc (P := P) (by rw [HPL.out]; exact hlt) (by rw [HPL.out, HRW.out]; exact HSP.out) HP0.out
  rw [HPL.out] at hsn
  have hk67 : Kept (fun b => b = w2.heap.size) w6 (w6.setCell ⟨w2.heap.size, k, none⟩ (ptr P)) := Kept.setCell (R := fun b => b = w2.heap.size) (Kept.refl _ _) (p := ⟨w2.heap.size, k, none⟩) (.inr rfl) _
  have HBD7 := hid (HBD6.out.kept hk67 (by have := HG56.out; omega))
  have HG7 := hid ((HG5.out.same HK56.out).kept hk67 (by omega))
  have HK7 := (show Hid (Same w2 (w6.setCell ⟨w2.heap.size, k, none⟩ (ptr P))) from (HK5.out.trans HK56.out).setCell (.inl (Nat.le_refl _)) _)
  have HM7 := hid hsn
  have HSP7 := hid (HSP.out.kept hk67 (by have := HP0.out; omega))
  clear hsn hk67 q0 q1 HM6 HSP HBD6 HG5 HM5 HRG HBD
  change Code.wp _ _ _ _ (w6.setCell ⟨w2.heap.size, k, none⟩ (ptr P))
  generalize w6.setCell ⟨w2.heap.size, k, none⟩ (ptr P) = w7 at *
  have hc7 := HM7.out.cell k (by rw [List.length_append, HPL.out, List.length_singleton]; omega)
  have hc7' : w7.cell? ⟨w2.heap.size, k, none⟩ = some (.pointer (some ⟨P, 0, none⟩)) := by
   rw [hc7]
   have : (Ps ++ [P])[k]'(by rw [List.length_append, HPL.out, List.length_singleton]; omega) = P := by
    rw [List.getElem_append_right (by rw [HPL.out]; exact Nat.le_refl _)]
    simp [HPL.out]
   rw [this]
   rfl
  clear hc7
  let Y1 : World → Prop := fun wx : World => wx.rangeAt w5.heap.size 0 ds ∧ wx.cell? ⟨w2.heap.size, k, none⟩ = some (.pointer (some ⟨P, 0, none⟩))
  have hS : Y1 w7.drew := ⟨HBD7.out.drew.rangeAll, hc7'⟩
  refine wp_region_V Y1 99 13 rfl (by kernel_rfl) ?_
  refine wpAnyV_take (i := 0) (v := .agg ds.toArray) (some 34) rfl rfl (by kernel_rfl) (by kernel_rfl) (by kernel_rfl) (by kernel_rfl) (fun _ _ _ h => h) (yieldsIf_load_mid (by rfl) 84 _ rfl w5.heap.size 0 rfl ds _ (fun _ h => h.1) Tryz.underlying84 rfl HI.out) hS ?_
  try simp only [Act.put, sA, s0, sS]
  refine wpAnyV_take (i := 2) (v := .agg ds.toArray) (some 36) rfl rfl (by kernel_rfl) (by kernel_rfl) (by kernel_rfl) (by kernel_rfl) (fun _ _ _ h => h) (yieldsIf_load_mid (by rfl) 84 _ rfl w5.heap.size 0 rfl ds _ (fun _ h => h.1) Tryz.underlying84 rfl HI.out) hS ?_
  try simp only [Act.put, sA, s0, sS]
  refine wpAnyV_one (i := 1) (by kernel_rfl) rfl (fun K hK => ?_)
  go_simp
  with_reducible refine (hSd _).mono ?_
  rintro e w8 ⟨rfl, hk8⟩
  have HK78 : Hid (Same w7 w8) := (Kept.refl _ _).drew.trans hk8
  clear hk8
  have hS : Y1 w8 := ⟨(HBD7.out.same HK78.out).rangeAll, HK78.out.cellOf hc7' id⟩
  refine hK.out _ _ (fun _ => hS) ?_
  clear hK K
  try simp only [Act.put, sA, s0, sS]
  refine tk 3 37 hS ?_
  refine tk 4 38 hS ?_
  cases r with
  | true =>
   refine tkS 5 39 hS ?_
   refine tkS 6 40 hS ?_
   refine tkS 7 41 hS ?_
   refine tkS 8 42 hS ?_
   refine tkS 9 43 hS ?_
   refine tkS 10 44 hS ?_
   refine tkS 11 45 hS ?_
   refine tk 12 46 hS ?_
   refine wpAnyV_done (by kernel_rfl) ?_
   clear hS heq
   go_wp2
   go_ret2
   refine ⟨_, _, rfl, HK2.out.trans (HK7.out.trans HK78.out), .inl ⟨rfl, rfl, fun h => ?_⟩⟩
   have h1 := h.2 k (by rw [HPN.out]; exact hlt)
   rw [HR.out, HRW.out] at h1
   have h2 := (good_parts h1).1
   rw [HWH.out] at h2
   cases h2
  | false =>
   refine tk 5 39 hS ?_
   refine tk 6 40 hS ?_
   refine tkV 7 41 (.pointer (some ⟨w2.heap.size, k, none⟩)) hS ?_
   refine tk 8 42 hS ?_
   refine tk 9 43 hS ?_
   refine wpAnyV_one (i := 10) (by kernel_rfl) rfl (fun K hK => ?_)
   go_simp
   with_reducible refine (hFt P _ (HSP7.out.same HK78.out)).mono ?_
   rintro e w9 ⟨rfl, hk9⟩
   have HK79 : Hid (Same w7 w9) := HK78.out.trans hk9
   clear hk9
   have hS : Y1 w9 := ⟨(HBD7.out.same HK79.out).rangeAll, HK79.out.cellOf hc7' id⟩
   refine hK.out _ _ (fun _ => hS) ?_
   clear hK K
   try simp only [Act.put, sA, s0, sS]
   by_cases hF0 : FT = 0
   ·subst hF0
    refine tkV 11 45 (.bool false) hS ?_
    refine tk 12 46 hS ?_
    refine wpAnyV_done (by kernel_rfl) ?_
    clear hS heq
    go_wp2
    go_roundw
    case rel =>
     refine ⟨k + 1, Ps ++ [P], by omega, by go_num, by unfold Hid; rw [List.length_append, HPL.out, List.length_singleton], HM7.out.same HK79.out, fun i hi => ?_, HG7.out.same HK79.out, HK7.out.trans HK79.out⟩
     by_cases e : i < k
     ·exact HAG.out i e
     ·obtain rfl : i = k := by omega
      rw [HRW.out]
      unfold goodPg
      rw [HWH.out, HFT.out]
      rfl
    case measure => simp [intOf]; omega
   ·have hF1 : (FT != 0) = true := by simpa using hF0
    refine tkV 11 45 (.bool true) hS ?_
    refine tk 12 46 hS ?_
    refine wpAnyV_done (by kernel_rfl) ?_
    clear hS heq
    go_wp2
    go_ret2
    refine ⟨_, _, rfl, HK2.out.trans (HK7.out.trans HK79.out), .inl ⟨rfl, rfl, fun h => ?_⟩⟩
    have h1 := h.2 k (by rw [HPN.out]; exact hlt)
    rw [HR.out, HRW.out] at h1
    exact hF0 (HFT.out.symm.trans (good_parts h1).2)
structure RowK (E : Type) where
 m : Nat
 cells : E → List Value
 len : ∀ p, (cells p).length = m
 v : E → Value
 bs : E → List Int
variable {E : Type}
def RowK.all (K : RowK E) : List E → List Value
 | [] => []
 | p :: ps => K.cells p ++ K.all ps
theorem RowK.all_length (K : RowK E) (ps : List E) : (K.all ps).length = ps.length * K.m := by
 induction ps with
 | nil => simp [RowK.all]
 | cons p ps ih => rw [RowK.all, List.length_append, K.len, ih, List.length_cons, Nat.add_mul, Nat.one_mul, Nat.add_comm]
theorem RowK.all_append (K : RowK E) (ps qs : List E) : K.all (ps ++ qs) = K.all ps ++ K.all qs := by
 induction ps with
 | nil => rfl
 | cons p ps ih => simp only [List.cons_append, RowK.all, ih, List.append_assoc]
theorem RowK.all_at (K : RowK E) (ps : List E) (j i : Nat) (h : j < ps.length) (hi : i < K.m) : (K.all ps)[j * K.m + i]? = (K.cells ps[j])[i]? := by
 induction ps generalizing j with
 | nil => simp at h
 | cons p ps ih =>
  cases j with
  | zero => rw [Nat.zero_mul, Nat.zero_add, RowK.all, List.getElem?_append_left (by rw [K.len]; exact hi)]; rfl
  | succ j =>
   rw [RowK.all, List.getElem?_append_right (by rw [K.len, Nat.add_mul]; omega), K.len, show (j + 1) * K.m + i - K.m = j * K.m + i from by rw [Nat.add_mul]; omega]
   exact ih j (by simpa using h)
structure OwnR (K : RowK E) (base : Nat) (tw tb : TypeId) (w : World) (v : Value) (ps : List E) : Prop where
 row : w.ownsRow base tw K.m v ps.length (K.all ps)
 data : ∀ p ∈ ps, Own base tb .u8 w (K.v p) (K.bs p)
 out : ∀ u ∈ ps.map K.v, Apart v u
 each : (ps.map K.v).Pairwise Apart
def footR (K : RowK E) (v : Value) (ps : List E) (b : Nat) : Prop := v.ownBlock = some b ∨ ∃ p ∈ ps, (K.v p).ownBlock = some b
section
variable {K : RowK E} {base : Nat} {tw tb : TypeId} {w w' : World} {v : Value} {ps qs : List E}
theorem OwnR.form (h : OwnR K base tw tb w v ps) :
  (v = .slice none 0 0 ∧ ps = []) ∨ ∃ g cap, v = .slice (some ⟨g, 0, none⟩) ps.length cap ∧ base ≤ g ∧ g < w.heap.size ∧ ps.length ≤ cap ∧ cap ≤ maxLen := by
 rcases h.row.2 with ⟨rfl, hn⟩ | ⟨g, cap, cur, rfl, hb, hgg, hc, hm, _⟩
 ·exact .inl ⟨rfl, List.length_eq_zero_iff.1 hn⟩
 ·exact .inr ⟨g, cap, rfl, hb, (Array.getElem?_eq_some_iff.1 hgg).1, hc, hm⟩
theorem OwnR.lt (h : OwnR K base tw tb w v ps) (b : Nat) (hb : footR K v ps b) : base ≤ b ∧ b < w.heap.size := by
 rcases hb with hb | ⟨p, hp, hb⟩
 ·exact World.ownsRow.lt h.row b hb
 ·exact (h.data p hp).lt b hb
theorem OwnR.cell {g n cap : Nat} (h : OwnR K base tw tb w (.slice (some ⟨g, 0, none⟩) n cap) ps) (hn : n = ps.length) (j i : Nat) (hj : j < ps.length) (hi : i < K.m) :
  w.cell? ⟨g, j * K.m + i, none⟩ = (K.cells ps[j])[i]? := by
 subst hn
 rw [World.ownsRow.cellAt h.row (j * K.m + i) (by have := Nat.mul_le_mul_right K.m (Nat.succ_le_of_lt hj); rw [Nat.succ_mul] at this; omega), K.all_at ps j i hj hi]
theorem OwnR.frozen {g n cap : Nat} (h : OwnR K base tw tb w (.slice (some ⟨g, 0, none⟩) n cap) ps) (hn : n = ps.length) (j : Nat) : w.frozen? ⟨g, j, none⟩ = false := by
 subst hn
 exact World.ownsRow.frozenAt h.row j
theorem OwnR.kept {R : Nat → Prop} (h : OwnR K base tw tb w v ps) (hk : Kept R w w') (hr : ∀ b, footR K v ps b → ¬ R b) : OwnR K base tw tb w' v ps :=
 ⟨hk.owns h.row (fun b hb => hr b (.inl hb)), fun p hp => (h.data p hp).kept hk (fun b hb => hr b (.inr ⟨p, hp, hb⟩)), h.out, h.each⟩
theorem OwnR.same (h : OwnR K base tw tb w v ps) (hk : Same w w') : OwnR K base tw tb w' v ps := h.kept hk (fun _ _ => id)
theorem OwnR.nil (K : RowK E) (base : Nat) (tw tb : TypeId) (w : World) : OwnR K base tw tb w (.slice none 0 0) [] :=
 ⟨World.ownsRow_nil _ _ _ _, fun _ h => by simp at h, fun _ h => by simp at h, List.Pairwise.nil⟩
theorem OwnR.set {g n cap : Nat} {pre post : List E} {p p' : E} (h : OwnR K base tw tb w (.slice (some ⟨g, 0, none⟩) n cap) (pre ++ p :: post)) (hn : n = (pre ++ p :: post).length) (i : Nat) (u : Value) (hi : i < K.m)
  (hc : K.cells p' = (K.cells p).set i u) (hv : K.v p' = K.v p) (hb : K.bs p' = K.bs p) (j : Nat) (hj : j = pre.length * K.m + i) :
  OwnR K base tw tb (w.setCell ⟨g, j, none⟩ u) (.slice (some ⟨g, 0, none⟩) n cap) (pre ++ p' :: post) := by
 subst hn hj
 have hk : Kept (fun b => b = g) w (w.setCell ⟨g, pre.length * K.m + i, none⟩ u) := Kept.setCell (Kept.refl (fun b => b = g) w) (p := ⟨g, pre.length * K.m + i, none⟩) (.inr rfl) _
 have hmap : (pre ++ p' :: post).map K.v = (pre ++ p :: post).map K.v := by simp [hv]
 refine ⟨?_, fun q hq => ?_, by rw [hmap]; exact h.out, by rw [hmap]; exact h.each⟩
 ·have hs := (World.ownsRow.stored h.row (pre.length * K.m + i) u).1
  have e : K.all (pre ++ p' :: post) = (K.all (pre ++ p :: post)).set (pre.length * K.m + i) u := by
   rw [K.all_append, K.all_append, List.set_append_right (h := by rw [K.all_length]; omega), K.all_length, Nat.add_sub_cancel_left, RowK.all, RowK.all, List.set_append_left (h := by rw [K.len]; exact hi), hc]
  rw [e]
  simpa using hs
 ·have hq' : ∃ q' ∈ pre ++ p :: post, K.v q' = K.v q ∧ K.bs q' = K.bs q := by
   rcases List.mem_append.1 hq with hq | hq
   ·exact ⟨q, by simp [hq], rfl, rfl⟩
   ·rcases List.mem_cons.1 hq with rfl | hq
    ·exact ⟨p, by simp, hv.symm, hb.symm⟩
    ·exact ⟨q, by simp [hq], rfl, rfl⟩
  obtain ⟨q', hm, e1, e2⟩ := hq'
  have hd := h.data q' hm
  rw [e1, e2] at hd
  refine hd.kept hk (fun b hb e => ?_)
  subst e
  exact h.out (K.v q) (by rw [← e1]; exact List.mem_map_of_mem hm) b rfl hb
theorem OwnR.setData {pre post : List E} {p p' : E} (h : OwnR K base tw tb w v (pre ++ p :: post)) (hk : Kept (fun b => (K.v p).ownBlock = some b) w w') (hc : K.cells p' = K.cells p) (hv : K.v p' = K.v p) (ho : Own base tb .u8 w' (K.v p) (K.bs p')) :
  OwnR K base tw tb w' v (pre ++ p' :: post) := by
 have hmap : (pre ++ p' :: post).map K.v = (pre ++ p :: post).map K.v := by simp [hv]
 have hcells : K.all (pre ++ p' :: post) = K.all (pre ++ p :: post) := by rw [K.all_append, K.all_append, RowK.all, RowK.all, hc]
 have hlen : (pre ++ p' :: post).length = (pre ++ p :: post).length := by simp
 have hea := h.each
 rw [List.map_append, List.map_cons] at hea
 obtain ⟨_, h2, h3⟩ := List.pairwise_append.1 hea
 have h4 := List.pairwise_cons.1 h2
 refine ⟨?_, fun q hq => ?_, by rw [hmap]; exact h.out, by rw [hmap]; exact h.each⟩
 ·rw [hcells, hlen]
  exact hk.owns h.row (fun b hb e => h.out (K.v p) (by simp) b hb e)
 ·rcases List.mem_append.1 hq with hq | hq
  ·exact (h.data q (by simp [hq])).kept hk (fun b hb e => h3 (K.v q) (List.mem_map_of_mem hq) (K.v p) (by simp) b hb e)
  ·rcases List.mem_cons.1 hq with rfl | hq
   ·rw [hv]; exact ho
   ·exact (h.data q (by simp [hq])).kept hk (fun b hb e => h4.1 (K.v q) (List.mem_map_of_mem hq) b e hb)
end
structure MarkK (K : RowK E) where
 on : Int → E → E
 sz : E → Nat
 v : ∀ k p, K.v (on k p) = K.v p
def markR {K : RowK E} (M : MarkK K) : Int → List E → List E
 | _, [] => []
 | k, p :: ps => M.on k p :: markR M (k + M.sz p) ps
def endR {K : RowK E} (M : MarkK K) : Int → List E → Int
 | k, [] => k
 | k, p :: ps => endR M (k + M.sz p) ps
section
variable {K : RowK E} (M : MarkK K)
theorem markR_length (k : Int) (ps : List E) : (markR M k ps).length = ps.length := by
 induction ps generalizing k with
 | nil => rfl
 | cons p ps ih => simp [markR, ih]
theorem endR_le (k : Int) (ps : List E) : k ≤ endR M k ps := by
 induction ps generalizing k with
 | nil => exact Int.le_refl _
 | cons p ps ih => have := ih (k + M.sz p); simp only [endR]; omega
theorem endR_snoc (k : Int) (ps : List E) (p : E) : endR M k (ps ++ [p]) = endR M k ps + M.sz p := by
 induction ps generalizing k with
 | nil => rfl
 | cons q ps ih => simp only [List.cons_append, endR, ih]
theorem endR_append (k : Int) (ps qs : List E) : endR M k (ps ++ qs) = endR M (endR M k ps) qs := by
 induction ps generalizing k with
 | nil => rfl
 | cons q ps ih => simp only [List.cons_append, endR, ih]
theorem markR_snoc (k : Int) (ps : List E) (p : E) : markR M k (ps ++ [p]) = markR M k ps ++ [M.on (endR M k ps) p] := by
 induction ps generalizing k with
 | nil => rfl
 | cons q ps ih => simp only [List.cons_append, markR, endR, ih]
theorem markR_at (k : Int) (ps : List E) (j : Nat) (h : j < ps.length) (h' : j < (markR M k ps).length) : (markR M k ps)[j] = M.on (endR M k (ps.take j)) ps[j] := by
 induction ps generalizing k j with
 | nil => simp at h
 | cons q ps ih =>
  cases j with
  | zero => rfl
  | succ j => simp only [markR, List.getElem_cons_succ, List.take_succ_cons, endR]; exact ih _ _ (by simpa using h) _
def partR (k : Int) (ps : List E) (j : Nat) : List E := markR M k (ps.take j) ++ ps.drop j
theorem partR_length (k : Int) (ps : List E) (j : Nat) : (partR M k ps j).length = ps.length := by simp [partR, markR_length]; omega
theorem partR_zero (k : Int) (ps : List E) : partR M k ps 0 = ps := by simp [partR, markR]
theorem partR_all (k : Int) (ps : List E) : partR M k ps ps.length = markR M k ps := by simp [partR]
theorem partR_at (k : Int) (ps : List E) (j : Nat) (h : j < ps.length) : partR M k ps j = markR M k (ps.take j) ++ ps[j] :: ps.drop (j + 1) := by
 unfold partR
 rw [List.drop_eq_getElem_cons h]
theorem partR_step (k : Int) (ps : List E) (j : Nat) (h : j < ps.length) : partR M k ps (j + 1) = markR M k (ps.take j) ++ M.on (endR M k (ps.take j)) ps[j] :: ps.drop (j + 1) := by
 unfold partR
 rw [List.take_succ_eq_append_getElem h, markR_snoc, List.append_assoc]
 rfl
theorem endR_step (k : Int) (ps : List E) (j : Nat) (h : j < ps.length) : endR M k (ps.take (j + 1)) = endR M k (ps.take j) + M.sz ps[j] := by
 rw [List.take_succ_eq_append_getElem h, endR_snoc]
theorem endR_take_le (k : Int) (ps : List E) (j : Nat) : endR M k (ps.take j) ≤ endR M k ps := by
 have h := endR_append M k (ps.take j) (ps.drop j)
 rw [List.take_append_drop] at h
 rw [h]
 exact endR_le M _ _
end
structure RdR (K : RowK E) (w : World) (v : Value) (ps : List E) : Prop where
 max : ps.length ≤ maxLen
 row : (ps = [] ∧ ∃ a c, v = .slice a 0 c) ∨ ∃ b off c, v = .slice (some ⟨b, off, none⟩) ps.length c ∧ ∀ j i, (h : j < ps.length) → i < K.m → w.cell? ⟨b, off + (j * K.m + i), none⟩ = (K.cells ps[j])[i]?
 data : ∀ p ∈ ps, Rd .u8 w (K.v p) (K.bs p)
section
variable {K : RowK E} {w w' : World} {v : Value} {ps : List E}
theorem RdR.kept {R : Nat → Prop} (h : RdR K w v ps) (hk : Kept R w w') (hr : ∀ b, footR K v ps b → ¬ R b) : RdR K w' v ps := by
 refine ⟨h.max, ?_, fun p hp => (h.data p hp).kept hk (fun b hb => hr b (.inr ⟨p, hp, hb⟩))⟩
 rcases h.row with h | ⟨b, off, c, rfl, hc⟩
 ·exact .inl h
 ·refine .inr ⟨b, off, c, rfl, fun j i hj hi => ?_⟩
  have hl := K.len ps[j]
  rw [List.getElem?_eq_getElem (by omega)]
  exact hk.cellOf (by rw [hc j i hj hi, List.getElem?_eq_getElem (by omega)]) (hr b (.inl rfl))
theorem RdR.same (h : RdR K w v ps) (hk : Same w w') : RdR K w' v ps := h.kept hk (fun _ _ => id)
theorem RdR.form (h : RdR K w v ps) : ∃ a c, v = .slice a ps.length c := by
 rcases h.row with ⟨rfl, a, c, rfl⟩ | ⟨b, off, c, rfl, _⟩ <;> exact ⟨_, _, rfl⟩
theorem OwnR.rd {base : Nat} {tw tb : TypeId} (h : OwnR K base tw tb w v ps) : RdR K w v ps := by
 refine ⟨?_, ?_, fun p hp => (h.data p hp).rd⟩
 ·rcases h.form with ⟨rfl, rfl⟩ | ⟨g, cap, rfl, _, _, hc, hm⟩
  ·simp
  ·exact Nat.le_trans hc hm
 ·rcases h.form with ⟨rfl, rfl⟩ | ⟨g, cap, rfl, _, _, hc, hm⟩
  ·exact .inl ⟨rfl, _, _, rfl⟩
  ·exact .inr ⟨g, 0, cap, rfl, fun j i hj hi => by rw [Nat.zero_add]; exact h.cell rfl j i hj hi⟩
end
variable {E : Type}
section
variable {K : RowK E} {base : Nat} {tw tb : TypeId} {w w' : World}
theorem OwnR.cellMid {g n cap : Nat} {pre post : List E} {p : E} (h : OwnR K base tw tb w (.slice (some ⟨g, 0, none⟩) n cap) (pre ++ p :: post)) (hn : n = (pre ++ p :: post).length) (i : Nat) (hi : i < K.m) (j : Nat) (hj : j = pre.length * K.m + i) :
  w.cell? ⟨g, j, none⟩ = (K.cells p)[i]? := by
 subst hj
 rw [h.cell hn pre.length i (by simp) hi]
 simp
end
structure EHeapRecord where
 id : Int
 v : Value
 bs : List Int
def kHeapRecord : RowK EHeapRecord := ⟨2, fun p => [.int .i64 p.id, p.v], fun _ => rfl, EHeapRecord.v, EHeapRecord.bs⟩
def EHeapRecord.dat (p : EHeapRecord) : Int × List Int := (p.id, p.bs)
def datHeapRecordS (ps : List EHeapRecord) : List (Int × List Int) := ps.map EHeapRecord.dat
theorem datHeapRecordS_length (ps : List EHeapRecord) : (datHeapRecordS ps).length = ps.length := by simp [datHeapRecordS]
theorem datHeapRecordS_at {ps qs : List EHeapRecord} (h : datHeapRecordS ps = datHeapRecordS qs) (k : Nat) (h1 : k < ps.length) (h2 : k < qs.length) : ps[k].dat = qs[k].dat := by
 have := congrArg (fun l => l[k]?) h
 simpa [datHeapRecordS, h1, h2] using this
theorem Tryz.infoRHeapRecord : (Tryz.prog.info? 56).map (fun i => (i.zero, i.size, i.bytes)) = some (some (.agg #[.int .i64 0, .slice none 0 0]), 2, 32) := by kernel_rfl
def sizeHeapRecordS : List EHeapRecord → Nat
 | [] => 0
 | p :: ps => p.bs.length + sizeHeapRecordS ps
theorem sizeHeapRecordS_mem (ps : List EHeapRecord) (p : EHeapRecord) (h : p ∈ ps) : p.bs.length ≤ sizeHeapRecordS ps := by
 induction ps with
 | nil => cases h
 | cons q qs ih =>
  rcases List.mem_cons.1 h with rfl | h
  ·simp [sizeHeapRecordS]
  ·have := ih h; simp only [sizeHeapRecordS]; omega
theorem eqHeapRecord_own {ta tb : TypeId} (base : Nat) (id : Int) (va vb : Value) (bs : List Int) (w : World) (hn : bs.length ≤ 1125899906842624) (ha : Own base ta .u8 w va bs) (hb : Own base tb .u8 w vb bs) :
  Calls Tryz.prog 54 #[.agg #[.int .i64 id, va], .agg #[.int .i64 id, vb]] w fun e w' => e = .returned (.bool true) ∧ Same w w' := by
 obtain ⟨aa, na, ca, rfl⟩ := slice_of_own ha
 obtain ⟨ab, nb, cb, rfl⟩ := slice_of_own hb
 have HA : Hid (Own base ta .u8 w (.slice aa na ca) bs) := ha
 have HB : Hid (Own base tb .u8 w (.slice ab nb cb) bs) := hb
 have b0 := (Blk.newL w [.int .i64 id, .slice aa na ca] 56).same ((Kept.refl _ _).alloc (.cells #[.int .i64 id, .slice ab nb cb] 56))
 have b1 := Blk.newB w [.int .i64 id, .slice aa na ca] 56 [.int .i64 id, .slice ab nb cb] 56
 clear ha hb
 go_enter Tryz.func54, Tryz.ntmps54
 go_wp2_with fail
 refine (eqByteS_own base _ _ bs _ hn (HA.out.same (((Kept.refl _ _).alloc _).alloc _)) (HB.out.same (((Kept.refl _ _).alloc _).alloc _))).mono ?_
 rintro e w1 ⟨rfl, n1, hw⟩
 have hk : Same ((w.alloc (.cells #[.int .i64 id, .slice aa na ca] 56)).alloc (.cells #[.int .i64 id, .slice ab nb cb] 56)) w1 := by rw [hw]; exact (Kept.refl _ _).drewN _
 clear hw
 go_wp2
 go_ret
 exact ⟨rfl, (((Kept.refl _ _).alloc _).alloc _).trans hk⟩
theorem eqHeapRecordS_own {ta tb : TypeId} (base : Nat) (va vb : Value) (ps qs : List EHeapRecord) (w : World) (hn : ps.length ≤ 1125899906842624) (hs : datHeapRecordS ps = datHeapRecordS qs) (hsm : ∀ p ∈ ps, p.bs.length ≤ 1125899906842624)
  (ha : OwnR kHeapRecord base 56 ta w va ps) (hb : OwnR kHeapRecord base 56 tb w vb qs) :
  Calls Tryz.prog 26 #[va, vb] w fun e w' => e = .returned (.bool true) ∧ Same w w' := by
 have hlen : qs.length = ps.length := by rw [← datHeapRecordS_length, ← datHeapRecordS_length, hs]
 by_cases hz : ps.length = 0
 ·obtain rfl : ps = [] := List.length_eq_zero_iff.1 hz
  obtain rfl : qs = [] := List.length_eq_zero_iff.1 hlen
  obtain ⟨aa, ca, rfl⟩ : ∃ aa ca, va = .slice aa 0 ca := by rcases ha.form with ⟨rfl, _⟩ | ⟨g, cap, rfl, _⟩ <;> exact ⟨_, _, rfl⟩
  obtain ⟨ab, cb, rfl⟩ : ∃ aa ca, vb = .slice aa 0 ca := by rcases hb.form with ⟨rfl, _⟩ | ⟨g, cap, rfl, _⟩ <;> exact ⟨_, _, rfl⟩
  clear ha hb hn hz hs
  go_enter Tryz.func26, Tryz.ntmps26
  go_wp2
  refine wp_loop_rounds 1 ?_
  rw [rounds_succ]
  go_wp2
  go_ret
  exact ⟨rfl, Kept.refl _ _⟩
 ·obtain ⟨ga, ca, rfl⟩ : ∃ g cap, va = .slice (some ⟨g, 0, none⟩) ps.length cap := by
   rcases ha.form with ⟨_, h⟩ | ⟨g, cap, h, _⟩
   ·simp [h] at hz
   ·exact ⟨g, cap, h⟩
  obtain ⟨gb, cb, rfl⟩ : ∃ g cap, vb = .slice (some ⟨g, 0, none⟩) ps.length cap := by
   rcases hb.form with ⟨_, h⟩ | ⟨g, cap, h, _⟩
   ·simp [h] at hlen; omega
   ·exact ⟨g, cap, by rw [h, hlen]⟩
  have HA : Hid (OwnR kHeapRecord base 56 ta w (.slice (some ⟨ga, 0, none⟩) ps.length ca) ps) := ha
  have HB : Hid (OwnR kHeapRecord base 56 tb w (.slice (some ⟨gb, 0, none⟩) ps.length cb) qs) := hb
  have HQ : Hid (qs.length = ps.length) := hlen
  have HS : Hid (datHeapRecordS ps = datHeapRecordS qs) := hs
  have HM : Hid (∀ p ∈ ps, p.bs.length ≤ 1125899906842624) := hsm
  clear ha hb hs hlen hsm
  generalize hl : ps.length = len at hn hz HA HB ⊢
  have HL : Hid (ps.length = len) := hl
  clear hl
  go_enter Tryz.func26, Tryz.ntmps26
  go_wp2
  go_loopw [5] (fun i wr => ∃ (k : Nat), k ≤ len ∧ i = .int .i64 k ∧ Hid (Same w wr)) (fun i _ => len - (intOf i).toNat)
  case atStart => exact ⟨0, Nat.zero_le _, rfl, Kept.refl _ _⟩
  case round =>
   obtain ⟨k, hk, rfl, HK⟩ := hrel
   by_cases hlt : k < len
   ·have hlp : k < ps.length := by rw [HL.out]; exact hlt
    have hlq : k < qs.length := by rw [HQ.out]; exact hlp
    have hoa := HA.out.same HK.out
    have hob := HB.out.same HK.out
    have hdd := datHeapRecordS_at HS.out k hlp hlq
    simp only [EHeapRecord.dat, Prod.mk.injEq] at hdd
    obtain ⟨d0, d1⟩ := hdd
    have s3 := HM.out _ (List.getElem_mem hlp)
    have ha0 : wr.cell? ⟨ga, k * 2, none⟩ = some (.int .i64 ps[k].id) := hoa.cell HL.out.symm k 0 hlp (by decide)
    have ha1 : wr.cell? ⟨ga, k * 2 + 1, none⟩ = some (ps[k].v) := hoa.cell HL.out.symm k 1 hlp (by decide)
    have hb0 : wr.cell? ⟨gb, k * 2, none⟩ = some (.int .i64 ps[k].id) := by rw [d0]; exact hob.cell (by rw [HQ.out, HL.out]) k 0 hlq (by decide)
    have hb1 : wr.cell? ⟨gb, k * 2 + 1, none⟩ = some (qs[k].v) := hob.cell (by rw [HQ.out, HL.out]) k 1 hlq (by decide)
    have HDA : Hid (Own base ta .u8 wr ps[k].v ps[k].bs) := hoa.data _ (List.getElem_mem hlp)
    have HDB : Hid (Own base tb .u8 wr qs[k].v ps[k].bs) := by have := hob.data _ (List.getElem_mem hlq); rw [d1]; exact this
    clear d0 d1 hoa hob
    go_wp2_with fail
    go_region_with (go_at_call 54; refine (eqHeapRecord_own base ps[k].id ps[k].v qs[k].v ps[k].bs _ s3 (by exact HDA.out.same (Kept.refl _ _).drew) (by exact HDB.out.same (Kept.refl _ _).drew)).mono ?_; rintro e w1 ⟨rfl, hk1⟩)
    all_goals
     have HK1 : Hid (Same w w1) := HK.out.drew.trans hk1
     clear hk1 ha0 hb0 ha1 hb1 HDA HDB
     go_wp2
     go_roundw
     case rel => exact ⟨k + 1, by omega, by go_num, HK1⟩
     case measure => simp [intOf]; omega
   ·go_wp2
    go_ret
    exact ⟨rfl, HK.out⟩
def mHeapRecord : MarkK kHeapRecord := ⟨fun k p => ⟨k, p.v, marks (k + 1) p.bs.length⟩, fun p => 1 + p.bs.length, fun _ _ => rfl⟩
theorem endHeapRecordS_size (k : Int) (ps : List EHeapRecord) : endR mHeapRecord k ps = k + 1 * ps.length + sizeHeapRecordS ps := by
 induction ps generalizing k with
 | nil => simp [endR, sizeHeapRecordS]
 | cons p ps ih =>
  have h : ((mHeapRecord.sz p : Nat) : Int) = 1 + (p.bs.length : Int) := by simp [mHeapRecord]
  simp only [endR, ih, sizeHeapRecordS, List.length_cons]
  omega
theorem markHeapRecordS_own {tb : TypeId} (base : Nat) (va : Value) (ps : List EHeapRecord) (k0 : Int) (w : World) (h0 : 0 ≤ k0) (h1 : endR mHeapRecord k0 ps ≤ 1125899906842624) (hn : ps.length ≤ 1125899906842624)
  (ha : OwnR kHeapRecord base 56 tb w va ps) :
  Calls Tryz.prog 31 #[va, .int .i64 k0] w fun e w' => e = .returned (.int .i64 (endR mHeapRecord k0 ps)) ∧ OwnR kHeapRecord base 56 tb w' va (markR mHeapRecord k0 ps) ∧ Kept (footR kHeapRecord va ps) w w' := by
 by_cases hz : ps.length = 0
 ·obtain rfl : ps = [] := List.length_eq_zero_iff.1 hz
  obtain ⟨aa, ca, rfl⟩ : ∃ aa ca, va = .slice aa 0 ca := by rcases ha.form with ⟨rfl, _⟩ | ⟨g, cap, rfl, _⟩ <;> exact ⟨_, _, rfl⟩
  have HA : Hid (OwnR kHeapRecord base 56 tb w (.slice aa 0 ca) []) := ha
  clear ha hn hz h1
  go_enter Tryz.func31, Tryz.ntmps31
  go_wp2
  refine wp_loop_rounds 1 ?_
  rw [rounds_succ]
  go_wp2
  go_ret
  exact ⟨by simp [endR], by simpa [markR] using HA.out, Kept.refl _ _⟩
 ·obtain ⟨g, cap, rfl, hb, hlt, _, _⟩ : ∃ g cap, va = .slice (some ⟨g, 0, none⟩) ps.length cap ∧ base ≤ g ∧ g < w.heap.size ∧ ps.length ≤ cap ∧ cap ≤ maxLen := by
   rcases ha.form with ⟨_, rfl⟩ | h
   ·simp at hz
   ·exact h
  have H1 : Hid (endR mHeapRecord k0 ps ≤ 1125899906842624) := h1
  have HA0 : Hid (OwnR kHeapRecord base 56 tb w (.slice (some ⟨g, 0, none⟩) ps.length cap) ps) := ha
  clear h1 ha
  generalize hl : ps.length = len at *
  have HL : Hid (ps.length = len) := hl
  clear hl
  go_enter Tryz.func31, Tryz.ntmps31
  go_wp2
  go_loopw [1, 5] (fun v i wr => ∃ (k : Nat) (c : Int), k ≤ len ∧ i = .int .i64 k ∧ v = .int .i64 c ∧ Hid (c = endR mHeapRecord k0 (ps.take k)) ∧ Hid (OwnR kHeapRecord base 56 tb wr (.slice (some ⟨g, 0, none⟩) len cap) (partR mHeapRecord k0 ps k)) ∧ Hid (Kept (footR kHeapRecord (.slice (some ⟨g, 0, none⟩) len cap) ps) w wr)) (fun _ i _ => len - (intOf i).toNat)
  case atStart => exact ⟨0, k0, Nat.zero_le _, rfl, rfl, rfl, by rw [partR_zero]; exact HA0.out, Kept.refl _ _⟩
  case round =>
   obtain ⟨k, c, hk, rfl, rfl, HC, HO, HK⟩ := hrel
   by_cases hlt : k < len
   ·have hlp : k < ps.length := by rw [HL.out]; exact hlt
    have hc0' : k0 ≤ c := by rw [HC.out]; exact endR_le _ _ _
    have hst := endR_step mHeapRecord k0 ps k hlp
    have hc1' : c + 1 + ps[k].bs.length ≤ 1125899906842624 := by have h2 := endR_take_le mHeapRecord k0 ps (k + 1); have h3 := H1.out; have h4 := HC.out; simp only [mHeapRecord] at hst; simp only [mHeapRecord] at h2 h3 h4; omega
    have HST := (show Hid (endR mHeapRecord k0 (ps.take (k + 1)) = endR mHeapRecord k0 (ps.take k) + (mHeapRecord.sz ps[k] : Nat)) from hst)
    clear hst
    have HP0 : Hid (OwnR kHeapRecord base 56 tb wr (.slice (some ⟨g, 0, none⟩) len cap) (markR mHeapRecord k0 (ps.take k) ++ ps[k] :: ps.drop (k + 1))) := by
     have h := HO.out
     rw [partR_at _ _ _ _ hlp] at h
     exact h
    have HLN : ∀ e : EHeapRecord, Hid (len = (markR mHeapRecord k0 (ps.take k) ++ e :: ps.drop (k + 1)).length) := fun e => by have hl := HL.out; simp [Hid, markR_length]; omega
    have HPL : Hid ((markR mHeapRecord k0 (ps.take k)).length = k) := by have hl := HL.out; simp [Hid, markR_length]; omega
    have hc0 : wr.cell? ⟨g, k * 2, none⟩ = some (.int .i64 ps[k].id) := HP0.out.cellMid (HLN _).out 0 (by decide) _ (by rw [HPL.out]; rfl)
    have hc1 : wr.cell? ⟨g, k * 2 + 1, none⟩ = some (ps[k].v) := HP0.out.cellMid (HLN _).out 1 (by decide) _ (by rw [HPL.out]; rfl)
    have fr := HO.out.frozen (by rw [partR_length]; exact HL.out.symm)
    have HP1 : Hid (OwnR kHeapRecord base 56 tb (wr.setCell ⟨g, k * 2, none⟩ (.int .i64 (c))) (.slice (some ⟨g, 0, none⟩) len cap) (markR mHeapRecord k0 (ps.take k) ++ ⟨c, ps[k].v, ps[k].bs⟩ :: ps.drop (k + 1))) := HP0.out.set (p' := ⟨c, ps[k].v, ps[k].bs⟩) (HLN _).out 0 (.int .i64 (c)) (by decide) rfl rfl rfl (k * 2) (by first | (rw [HPL.out]; done) | (rw [HPL.out]; rfl))
    go_wp2_with fail
    refine (markByteS_own base ps[k].v ps[k].bs (c + 1) _ (by omega) (by omega) (by omega) (HP1.out.data ⟨c, ps[k].v, ps[k].bs⟩ (by simp))).mono ?_
    rintro e w1 ⟨rfl, ho, hk1⟩
    have HQ0 : Hid (OwnR kHeapRecord base 56 tb w1 (.slice (some ⟨g, 0, none⟩) len cap) (markR mHeapRecord k0 (ps.take k) ++ ⟨c, ps[k].v, marks (c + 1) ps[k].bs.length⟩ :: ps.drop (k + 1))) := HP1.out.setData (p' := (⟨c, ps[k].v, marks (c + 1) ps[k].bs.length⟩ : EHeapRecord)) hk1 rfl rfl ho
    have fr1 : ∀ j, w1.frozen? ⟨g, j, none⟩ = false := fun j => HQ0.out.frozen (HLN _).out j
    have HO3 : Hid (OwnR kHeapRecord base 56 tb w1 (.slice (some ⟨g, 0, none⟩) len cap) (partR mHeapRecord k0 ps (k + 1))) := by
     rw [partR_step _ _ _ _ hlp, ← HC.out]
     exact HQ0.out
    have HK3 : Hid (Kept (footR kHeapRecord (.slice (some ⟨g, 0, none⟩) len cap) ps) w w1) := ((HK.out.setCell (p := ⟨g, k * 2, none⟩) (.inr (.inl rfl)) _).trans (hk1.mono fun b _ hb => .inr ⟨ps[k], List.getElem_mem _, hb⟩))
    clear ho hk1 HO HP0 HP1 hc0 hc1
    go_wp2
    go_roundw
    case rel =>
     exact ⟨k + 1, c + 1 + (ps[k].bs.length : Int), by omega, by go_num, rfl, by unfold Hid; rw [HST.out, ← HC.out]; simp only [mHeapRecord]; omega, HO3, HK3⟩
    case measure => simp [intOf]; omega
   ·go_wp2
    go_ret
    obtain rfl : k = len := by omega
    have hl := HL.out
    have hc := HC.out
    have ho := HO.out
    rw [← hl, List.take_length] at hc
    rw [← hl, partR_all, hl] at ho
    exact ⟨ret_int hc, ho, HK.out⟩
theorem heldHeapRecordS_own {tb : TypeId} (base : Nat) (va : Value) (ps : List EHeapRecord) (k0 : Int) (w : World) (h0 : 0 ≤ k0) (h1 : endR mHeapRecord k0 ps ≤ 1125899906842624) (hn : ps.length ≤ 1125899906842624)
  (ha : OwnR kHeapRecord base 56 tb w va (markR mHeapRecord k0 ps)) :
  Calls Tryz.prog 32 #[va, .int .i64 k0] w fun e w' => e = .returned (.int .i64 (endR mHeapRecord k0 ps)) ∧ w' = w := by
 by_cases hz : ps.length = 0
 ·obtain rfl : ps = [] := List.length_eq_zero_iff.1 hz
  obtain ⟨aa, ca, rfl⟩ : ∃ aa ca, va = .slice aa 0 ca := by rcases ha.form with ⟨rfl, _⟩ | ⟨g, cap, rfl, _⟩ <;> exact ⟨_, _, rfl⟩
  clear ha hn hz h1
  go_enter Tryz.func32, Tryz.ntmps32
  go_wp2
  refine wp_loop_rounds 1 ?_
  rw [rounds_succ]
  go_wp2
  go_ret
  exact ⟨by simp [endR], rfl⟩
 ·obtain ⟨g, cap, rfl⟩ : ∃ g cap, va = .slice (some ⟨g, 0, none⟩) ps.length cap := by
   rcases ha.form with ⟨_, h⟩ | ⟨g, cap, h, _⟩
   ·have := congrArg List.length h; simp [markR_length] at this; simp [this] at hz
   ·exact ⟨g, cap, by rw [h, markR_length]⟩
  have H1 : Hid (endR mHeapRecord k0 ps ≤ 1125899906842624) := h1
  have HA : Hid (OwnR kHeapRecord base 56 tb w (.slice (some ⟨g, 0, none⟩) ps.length cap) (markR mHeapRecord k0 ps)) := ha
  clear h1 ha
  generalize hl : ps.length = len at hn hz HA ⊢
  have HL : Hid (ps.length = len) := hl
  clear hl
  go_enter Tryz.func32, Tryz.ntmps32
  go_wp2
  go_loop [1, 5] (fun v i => ∃ (k : Nat) (c : Int), k ≤ len ∧ i = .int .i64 k ∧ v = .int .i64 c ∧ Hid (c = endR mHeapRecord k0 (ps.take k))) (fun _ i => len - (intOf i).toNat)
  case atStart => exact ⟨0, k0, Nat.zero_le _, rfl, rfl, rfl⟩
  case round =>
   obtain ⟨k, c, hk, rfl, rfl, HC⟩ := hrel
   by_cases hlt : k < len
   ·have hlp : k < ps.length := by rw [HL.out]; exact hlt
    have hlm : k < (markR mHeapRecord k0 ps).length := by rw [markR_length]; exact hlp
    have hc0 : w.cell? ⟨g, k * 2, none⟩ = some (.int .i64 (c)) := by have h := HA.out.cell (by rw [markR_length]; exact HL.out.symm) k 0 hlm (by decide); rw [markR_at _ _ _ _ hlp, ← HC.out] at h; exact h
    have hc1 : w.cell? ⟨g, k * 2 + 1, none⟩ = some (ps[k].v) := by have h := HA.out.cell (by rw [markR_length]; exact HL.out.symm) k 1 hlm (by decide); rw [markR_at _ _ _ _ hlp, ← HC.out] at h; exact h
    have hd := HA.out.data _ (List.getElem_mem hlm)
    rw [markR_at _ _ _ _ hlp, ← HC.out] at hd
    have HD : Hid (Own base tb .u8 w ps[k].v (marks (c + 1) ps[k].bs.length)) := hd
    have hc0' : k0 ≤ c := by rw [HC.out]; exact endR_le _ _ _
    have hst := endR_step mHeapRecord k0 ps k hlp
    have hc1' : c + 1 + ps[k].bs.length ≤ 1125899906842624 := by have h2 := endR_take_le mHeapRecord k0 ps (k + 1); have h3 := H1.out; have h4 := HC.out; simp only [mHeapRecord] at hst; simp only [mHeapRecord] at h2 h3 h4; omega
    have HST := (show Hid (endR mHeapRecord k0 (ps.take (k + 1)) = endR mHeapRecord k0 (ps.take k) + (mHeapRecord.sz ps[k] : Nat)) from hst)
    clear hd hst
    go_wp2_with fail
    refine (heldByteS_own base ps[k].v ps[k].bs.length (c + 1) _ (by omega) (by omega) (by omega) HD.out).mono ?_
    rintro e w1 ⟨rfl, rfl⟩
    go_wp2
    go_round
    case rel => exact ⟨k + 1, c + 1 + (ps[k].bs.length : Int), by omega, by go_num, rfl, by unfold Hid; rw [HST.out, ← HC.out]; simp only [mHeapRecord]; omega⟩
    case measure => simp [intOf]; omega
   ·go_wp2
    go_ret
    obtain rfl : k = len := by omega
    have hl := HL.out
    have hc := HC.out
    rw [← hl, List.take_length] at hc
    exact ⟨ret_int hc, rfl⟩
theorem Rd.mid {k : IntKind} {w : World} {b off c : Nat} {bs : List Int} (h : Rd k w (.slice (some ⟨b, off, none⟩) bs.length c) bs) (o n c' : Nat) (hm : o + n ≤ bs.length) (hc' : n ≤ c') : Rd k w (.slice (some ⟨b, off + o, none⟩) n c') ((bs.drop o).take n) := by
 have hl : ((bs.drop o).take n).length = n := by simp; omega
 refine ⟨by rw [hl]; have := h.1; omega, ?_⟩
 by_cases h0 : n = 0
 ·subst h0
  exact .inl ⟨by simp, _, _, rfl, fun e => by cases e⟩
 ·rcases h.2 with ⟨hn, a, c', e, _⟩ | ⟨b', off', c'', e, hl', hc⟩
  ·rw [hn] at hm
   simp at hm
   omega
  ·cases e
   refine .inr ⟨b, off + o, c', by rw [hl], by omega, fun i hi => ?_⟩
   have := hc (o + i) (by omega)
   rw [Nat.add_assoc, this]
   simp [List.getD, List.getElem?_take, List.getElem?_drop, show i < n by omega]
theorem l3Number_any (b off len c : Nat) (bs : List Int) (at_ n : Nat) (w : World) (hB : IsB bs) (hl : bs.length = len) (hm : len ≤ 1099511627776) (h1 : 1 ≤ n) (h2 : at_ + n ≤ len) (hv : Rd .u8 w (.slice (some ⟨b, off, none⟩) len c) bs) :
  Calls Tryz.prog 40 #[.slice (some ⟨b, off, none⟩) len c, .int .i64 at_, .int .i64 n] w fun e w' => e = .returned (.int .i64 (getN ((bs.drop at_).take n))) ∧ Same w w' := by
 have hc : len ≤ c := by
  rcases hv.2 with ⟨h0, _⟩ | ⟨b', o', c', e, hl', hc⟩
  ·rw [h0] at hl
   simp at hl
   omega
  ·cases e
   omega
 have HR := (show Hid (Rd .u8 w (.slice (some ⟨b, off + at_, none⟩) n (c - at_)) ((bs.drop at_).take n)) from (by subst hl; exact hv.mid at_ n (c - at_) h2 (by omega)))
 have HG := (show Hid (Calls Tryz.prog 59 #[.slice (some ⟨b, off + at_, none⟩) n (c - at_)] w fun e w' => e = .returned (.int .i64 (getN ((bs.drop at_).take n))) ∧ Same w w') from specGet_any _ _ w (isB_take (isB_drop hB at_) n) (by simp; omega) HR.out)
 clear hv hB HR
 have q1 : (at_ : Int) ≤ (at_ : Int) + (n : Int) := by omega
 have q2 : (at_ : Int) + (n : Int) ≤ (c : Int) := by omega
 have q3 : (0 : Int) ≤ (at_ : Int) := by omega
 have q4 : at_ < c := by omega
 have q5 : ¬ c = at_ := by omega
 have q6 : ((at_ : Int) + (n : Int)).toNat = at_ + n := by omega
 have q7 : at_ + n - at_ = n := by omega
 go_enter Tryz.func40, Tryz.ntmps40
 go_wp2_with fail
 with_reducible refine HG.out.mono ?_
 rintro e w1 ⟨rfl, hk1⟩
 go_wp2
 go_ret
 exact ⟨rfl, hk1⟩
end Go.Proofs.YtjlkphhdbopmiaaGreat
