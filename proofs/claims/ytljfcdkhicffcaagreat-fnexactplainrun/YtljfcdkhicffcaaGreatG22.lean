import Derived.Test.YtljfcdkhicffcaaGreatG21
import Derived.Shelf.SlIterI.Nil
import Derived.Shelf.SortM.Plain
import Derived.Shelf.SortM.SortNone
import Derived.Ground.GgzProg
import Derived.Ground.SlgmProg
namespace Go.Proofs.YtljfcdkhicffcaaGreat
set_option maxRecDepth 100000
set_option maxHeartbeats 8000000
set_option linter.unusedVariables false
set_option linter.unusedSimpArgs false
open Go Go.RowKit Go.MapKept Go.Shelf Go.Maps Go.Sort
def UN (f : EWr → Bool) : Nat → List EWr → Int
 | _, [] => -1
 | k, p :: ps => if f p = true then (k : Int) else UN f (k + 1) ps
theorem jb3 {f : EWr → Bool} {ps : List EWr} {k : Nat} (hk : k < ps.length) : UN f k (ps.drop k) = if f ps[k] = true then (k : Int) else UN f (k + 1) (ps.drop (k + 1)) := by
 rw [List.drop_eq_getElem_cons hk];rfl
theorem ja8 (f : EWr → Bool) (ps : List EWr) (k : Nat) : decide (0 ≤ UN f k ps) = ps.any f := by
 induction ps generalizing k with
 | nil => rfl
 | cons p ps ih =>
  rw [List.any_cons]
  by_cases h : f p = true
  ·have e : UN f k (p :: ps) = k := if_pos h
   rw [e, h]; simp
  ·have e : UN f k (p :: ps) = UN f (k + 1) ps := if_neg h
   rw [e, ih (k + 1), show f p = false from by simpa using h]; simp
def jd0 (fid : FuncId) (x : Value) (f : EWr → Bool) (w : World) (ps : List EWr) : Prop :=
 ∀ (p : EWr) (wx : World), ∀ (a : Option Addr) (c : Nat), p ∈ ps → p.v = .slice a p.bs.length c → Same w wx → Calls Tryz.prog fid #[.agg #[V p.id, .bool p.us, p.v], x] wx fun e w' => e = .returned (.bool (f p)) ∧ Same wx w'
theorem jcR (fid : FuncId) (x : Value) (f : EWr → Bool) (v : Value) (ps : List EWr) (w : World) (hv : RdR kWr w v ps) (cz : Ur fid) (hf : jd0 fid x f w ps) :
  Calls Tryz.prog 186 #[v, .func (.func fid) #[] #[x]] w fun e w' => e = .returned (V (UN f 0 ps)) ∧ Same w w' := by
 have bG := hv.max;unfold maxLen at bG
 rcases hv.row with ⟨rfl, a, c, rfl⟩ | ⟨b, off, c, rfl, hc⟩
 ·clear hv bG hf
  go_enter Tryz.func186, Tryz.ntmps186
  go_wp2;refine wp_loop_rounds 1 ?_;rw [rounds_succ];go_wp2;go_ret;exact ⟨rfl, kZ0⟩
 ·have HV := (show Hid (RdR kWr w (.slice (some ⟨b, off, none⟩) ps.length c) ps) from hv)
  have HC : Hid (∀ j i, (h : j < ps.length) → i < 3 → w.cell? ⟨b, off + (j * 3 + i), none⟩ = (kWr.cells ps[j])[i]?) := hc;have HF : Hid (jd0 fid x f w ps) := hf;obtain ⟨R, hR⟩ : ∃ R, UN f 0 ps = R := ⟨_, rfl⟩
  have HR : Hid (UN f 0 (ps.drop 0) = R) := by rw [List.drop_zero]; exact hR
  rw [hR];clear hv hc hf hR;have pM : ∀ (args : Array Value) (wx : World), (callFunc fid args).run Tryz.prog wx = .ok (.enter fid args) wx := cz;clear cz;generalize hl : ps.length = len at bG HV ⊢;have HL : Hid (ps.length = len) := hl;clear hl
  go_enter Tryz.func186, Tryz.ntmps186
  go_wp2
  go_loopw [8] (fun i wr => ∃ k : Nat, k ≤ len ∧ i = V k ∧ Hid (UN f k (ps.drop k) = R) ∧ Hid (Same w wr)) (fun i _ => len - (intOf i).toNat)
  case atStart => exact ⟨0, Nat.zero_le _, rfl, HR, kZ0⟩
  case round =>
   obtain ⟨k, hk, rfl, HA, HK⟩ := hrel
   by_cases aG : k < len
   ·have aF : k < ps.length := by rw [HL.out]; exact aG
    obtain ⟨a1, c1, e1⟩ := (show Rd .u8 w ps[k].v ps[k].bs from HV.out.data _ (List.getElem_mem aF)).form;have d0 : wr.cell? ⟨b, off + k * 3, none⟩ = some (V ps[k].id) := HK.out.cellOf (p := ⟨b, off + k * 3, none⟩) (by have h := HC.out k 0 aF (by decide); exact h) (fun e => e);have d1 : wr.cell? ⟨b, off + k * 3 + 1, none⟩ = some (.bool ps[k].us) := HK.out.cellOf (p := ⟨b, off + k * 3 + 1, none⟩) (by have h := HC.out k 1 aF (by decide); rw [← Nat.add_assoc] at h; exact h) (fun e => e);have d2 : wr.cell? ⟨b, off + k * 3 + 2, none⟩ = some (ps[k].v) := HK.out.cellOf (p := ⟨b, off + k * 3 + 2, none⟩) (by have h := HC.out k 2 aF (by decide); rw [← Nat.add_assoc] at h; exact h) (fun e => e)
    have iP : Hid ((if f ps[k] = true then (k : Int) else UN f (k + 1) (ps.drop (k + 1))) = R) := by have h := HA.out; rw [jb3 aF] at h; exact h
    have kf := HF.out ps[k] wr a1 c1 (List.getElem_mem aF) e1 HK.out;rw [e1] at d2 kf
    cases hb : f ps[k] with
    | true =>
     have HE : Hid ((k : Int) = R) := by have h := iP.out; rw [if_pos hb] at h; exact h
     rw [hb] at kf;clear iP HA e1 hb
     go_wp2_with fail
     refine kf.mono ?_;rintro e w1 ⟨rfl, af⟩;have ao := hid (HK.out.trans af);clear d0 d1 d2 kf af;go_wp2;go_ret;exact ⟨by rw [← HE.out]; rfl, ao.out⟩
    | false =>
     have HE : Hid (UN f (k + 1) (ps.drop (k + 1)) = R) := by have h := iP.out; rw [if_neg (by simp [hb])] at h; exact h
     rw [hb] at kf;clear iP HA e1 hb
     go_wp2_with fail
     refine kf.mono ?_;rintro e w1 ⟨rfl, af⟩;have ao := hid (HK.out.trans af);clear d0 d1 d2 kf af;go_wp2;go_roundw
     case rel => exact ⟨k + 1, by omega, by go_num, HE, ao⟩
     case measure => simp [intOf]; omega
   ·obtain rfl : len = k := by omega
    have he : (-1 : Int) = R := by have h := HA.out; rw [← HL.out, List.drop_length] at h; exact h
    go_wp2;go_ret;exact ⟨by rw [← he]; rfl, HK.out⟩
theorem jaJ (fid : FuncId) (x : Value) (f : EWr → Bool) (v : Value) (ps : List EWr) (w : World) (hv : RdR kWr w v ps) (cz : Ur fid) (hf : jd0 fid x f w ps) :
  Calls Tryz.prog 172 #[v, .func (.func fid) #[] #[x]] w fun e w' => e = .returned (.bool (ps.any f)) ∧ Same w w' := by
 have k0 := jcR fid x f v ps w hv cz hf;have hx := ja8 f ps 0;obtain ⟨a, c, rfl⟩ := hv.form;generalize UN f 0 ps = r at k0 hx;rw [← hx];clear hx hv hf cz
 go_enter Tryz.func172, Tryz.ntmps172
 go_wp2_with fail
 refine k0.mono ?_;rintro e w1 ⟨rfl, af⟩;go_wp2;go_ret;exact ⟨rfl, af⟩
def UO (f : EHeapRecord → Bool) : Nat → List EHeapRecord → Int
 | _, [] => -1
 | k, p :: ps => if f p = true then (k : Int) else UO f (k + 1) ps
theorem jb4 {f : EHeapRecord → Bool} {ps : List EHeapRecord} {k : Nat} (hk : k < ps.length) : UO f k (ps.drop k) = if f ps[k] = true then (k : Int) else UO f (k + 1) (ps.drop (k + 1)) := by
 rw [List.drop_eq_getElem_cons hk];rfl
theorem ja9 (f : EHeapRecord → Bool) (ps : List EHeapRecord) (k : Nat) : decide (0 ≤ UO f k ps) = ps.any f := by
 induction ps generalizing k with
 | nil => rfl
 | cons p ps ih =>
  rw [List.any_cons]
  by_cases h : f p = true
  ·have e : UO f k (p :: ps) = k := if_pos h
   rw [e, h]; simp
  ·have e : UO f k (p :: ps) = UO f (k + 1) ps := if_neg h
   rw [e, ih (k + 1), show f p = false from by simpa using h]; simp
def jd1 (fid : FuncId) (x : Value) (f : EHeapRecord → Bool) (w : World) (ps : List EHeapRecord) : Prop :=
 ∀ (p : EHeapRecord) (wx : World), ∀ (a : Option Addr) (c : Nat), p ∈ ps → p.v = .slice a p.bs.length c → Same w wx → Calls Tryz.prog fid #[.agg #[V p.id, p.v], x] wx fun e w' => e = .returned (.bool (f p)) ∧ Same wx w'
theorem jcS (fid : FuncId) (x : Value) (f : EHeapRecord → Bool) (v : Value) (ps : List EHeapRecord) (w : World) (hv : RdR kHeapRecord w v ps) (cz : Ur fid) (hf : jd1 fid x f w ps) :
  Calls Tryz.prog 94 #[v, .func (.func fid) #[] #[x]] w fun e w' => e = .returned (V (UO f 0 ps)) ∧ Same w w' := by
 have bG := hv.max;unfold maxLen at bG
 rcases hv.row with ⟨rfl, a, c, rfl⟩ | ⟨b, off, c, rfl, hc⟩
 ·clear hv bG hf
  go_enter Tryz.func94, Tryz.ntmps94
  go_wp2;refine wp_loop_rounds 1 ?_;rw [rounds_succ];go_wp2;go_ret;exact ⟨rfl, kZ0⟩
 ·have HV := (show Hid (RdR kHeapRecord w (.slice (some ⟨b, off, none⟩) ps.length c) ps) from hv)
  have HC : Hid (∀ j i, (h : j < ps.length) → i < 2 → w.cell? ⟨b, off + (j * 2 + i), none⟩ = (kHeapRecord.cells ps[j])[i]?) := hc;have HF : Hid (jd1 fid x f w ps) := hf;obtain ⟨R, hR⟩ : ∃ R, UO f 0 ps = R := ⟨_, rfl⟩
  have HR : Hid (UO f 0 (ps.drop 0) = R) := by rw [List.drop_zero]; exact hR
  rw [hR];clear hv hc hf hR;have pM : ∀ (args : Array Value) (wx : World), (callFunc fid args).run Tryz.prog wx = .ok (.enter fid args) wx := cz;clear cz;generalize hl : ps.length = len at bG HV ⊢;have HL : Hid (ps.length = len) := hl;clear hl
  go_enter Tryz.func94, Tryz.ntmps94
  go_wp2
  go_loopw [8] (fun i wr => ∃ k : Nat, k ≤ len ∧ i = V k ∧ Hid (UO f k (ps.drop k) = R) ∧ Hid (Same w wr)) (fun i _ => len - (intOf i).toNat)
  case atStart => exact ⟨0, Nat.zero_le _, rfl, HR, kZ0⟩
  case round =>
   obtain ⟨k, hk, rfl, HA, HK⟩ := hrel
   by_cases aG : k < len
   ·have aF : k < ps.length := by rw [HL.out]; exact aG
    obtain ⟨a1, c1, e1⟩ := (show Rd .u8 w ps[k].v ps[k].bs from HV.out.data _ (List.getElem_mem aF)).form;have d0 : wr.cell? ⟨b, off + k * 2, none⟩ = some (V ps[k].id) := HK.out.cellOf (p := ⟨b, off + k * 2, none⟩) (by have h := HC.out k 0 aF (by decide); exact h) (fun e => e);have d1 : wr.cell? ⟨b, off + k * 2 + 1, none⟩ = some (ps[k].v) := HK.out.cellOf (p := ⟨b, off + k * 2 + 1, none⟩) (by have h := HC.out k 1 aF (by decide); rw [← Nat.add_assoc] at h; exact h) (fun e => e)
    have iP : Hid ((if f ps[k] = true then (k : Int) else UO f (k + 1) (ps.drop (k + 1))) = R) := by have h := HA.out; rw [jb4 aF] at h; exact h
    have kf := HF.out ps[k] wr a1 c1 (List.getElem_mem aF) e1 HK.out;rw [e1] at d1 kf
    cases hb : f ps[k] with
    | true =>
     have HE : Hid ((k : Int) = R) := by have h := iP.out; rw [if_pos hb] at h; exact h
     rw [hb] at kf;clear iP HA e1 hb
     go_wp2_with fail
     refine kf.mono ?_;rintro e w1 ⟨rfl, af⟩;have ao := hid (HK.out.trans af);clear d0 d1 kf af;go_wp2;go_ret;exact ⟨by rw [← HE.out]; rfl, ao.out⟩
    | false =>
     have HE : Hid (UO f (k + 1) (ps.drop (k + 1)) = R) := by have h := iP.out; rw [if_neg (by simp [hb])] at h; exact h
     rw [hb] at kf;clear iP HA e1 hb
     go_wp2_with fail
     refine kf.mono ?_;rintro e w1 ⟨rfl, af⟩;have ao := hid (HK.out.trans af);clear d0 d1 kf af;go_wp2;go_roundw
     case rel => exact ⟨k + 1, by omega, by go_num, HE, ao⟩
     case measure => simp [intOf]; omega
   ·obtain rfl : len = k := by omega
    have he : (-1 : Int) = R := by have h := HA.out; rw [← HL.out, List.drop_length] at h; exact h
    go_wp2;go_ret;exact ⟨by rw [← he]; rfl, HK.out⟩
theorem jaK (fid : FuncId) (x : Value) (f : EHeapRecord → Bool) (v : Value) (ps : List EHeapRecord) (w : World) (hv : RdR kHeapRecord w v ps) (cz : Ur fid) (hf : jd1 fid x f w ps) :
  Calls Tryz.prog 65 #[v, .func (.func fid) #[] #[x]] w fun e w' => e = .returned (.bool (ps.any f)) ∧ Same w w' := by
 have k0 := jcS fid x f v ps w hv cz hf;have hx := ja9 f ps 0;obtain ⟨a, c, rfl⟩ := hv.form;generalize UO f 0 ps = r at k0 hx;rw [← hx];clear hx hv hf cz
 go_enter Tryz.func65, Tryz.ntmps65
 go_wp2_with fail
 refine k0.mono ?_;rintro e w1 ⟨rfl, af⟩;go_wp2;go_ret;exact ⟨rfl, af⟩
def UQ (f : StStep → Bool) : Nat → List StStep → Int
 | _, [] => -1
 | k, p :: ps => if f p = true then (k : Int) else UQ f (k + 1) ps
theorem jb5 {f : StStep → Bool} {ps : List StStep} {k : Nat} (hk : k < ps.length) : UQ f k (ps.drop k) = if f ps[k] = true then (k : Int) else UQ f (k + 1) (ps.drop (k + 1)) := by
 rw [List.drop_eq_getElem_cons hk];rfl
theorem jba (f : StStep → Bool) (ps : List StStep) (k : Nat) : decide (0 ≤ UQ f k ps) = ps.any f := by
 induction ps generalizing k with
 | nil => rfl
 | cons p ps ih =>
  rw [List.any_cons]
  by_cases h : f p = true
  ·have e : UQ f k (p :: ps) = k := if_pos h
   rw [e, h]; simp
  ·have e : UQ f k (p :: ps) = UQ f (k + 1) ps := if_neg h
   rw [e, ih (k + 1), show f p = false from by simpa using h]; simp
def jd2 (fid : FuncId) (f : StStep → Bool) (w : World) (ps : List StStep) : Prop :=
 ∀ (p : StStep) (wx : World), p ∈ ps → Same w wx → Calls Tryz.prog fid #[.agg #[V p.kd, V p.tx, V p.rid, V p.cnt, .slice p.data.a p.data.bs.length p.data.c, .slice p.keep.a p.keep.n p.keep.c]] wx fun e w' => e = .returned (.bool (f p)) ∧ Same wx w'
theorem jcT (fid : FuncId) (f : StStep → Bool) (v : Value) (ps : List StStep) (w : World) (hv : RdSp w v ps) (cz : Ur fid) (hf : jd2 fid f w ps) :
  Calls Tryz.prog 92 #[v, .func (.func fid) #[] #[]] w fun e w' => e = .returned (V (UQ f 0 ps)) ∧ Same w w' := by
 have bG := hv.row.max;unfold maxLen at bG
 rcases hv.row.row with ⟨rfl, a, c, rfl⟩ | ⟨b, off, c, rfl, hc⟩
 ·clear hv bG hf
  go_enter Tryz.func92, Tryz.ntmps92
  go_wp2;refine wp_loop_rounds 1 ?_;rw [rounds_succ];go_wp2;go_ret;exact ⟨rfl, kZ0⟩
 ·have HV := (show Hid (RdSp w (.slice (some ⟨b, off, none⟩) ps.length c) ps) from hv)
  have HC : Hid (∀ j i, (h : j < ps.length) → i < 6 → w.cell? ⟨b, off + (j * 6 + i), none⟩ = (kSp.cells ps[j])[i]?) := hc;have HF : Hid (jd2 fid f w ps) := hf;obtain ⟨R, hR⟩ : ∃ R, UQ f 0 ps = R := ⟨_, rfl⟩
  have HR : Hid (UQ f 0 (ps.drop 0) = R) := by rw [List.drop_zero]; exact hR
  rw [hR];clear hv hc hf hR;have pM : ∀ (args : Array Value) (wx : World), (callFunc fid args).run Tryz.prog wx = .ok (.enter fid args) wx := cz;clear cz;generalize hl : ps.length = len at bG HV ⊢;have HL : Hid (ps.length = len) := hl;clear hl
  go_enter Tryz.func92, Tryz.ntmps92
  go_wp2
  go_loopw [8] (fun i wr => ∃ k : Nat, k ≤ len ∧ i = V k ∧ Hid (UQ f k (ps.drop k) = R) ∧ Hid (Same w wr)) (fun i _ => len - (intOf i).toNat)
  case atStart => exact ⟨0, Nat.zero_le _, rfl, HR, kZ0⟩
  case round =>
   obtain ⟨k, hk, rfl, HA, HK⟩ := hrel
   by_cases aG : k < len
   ·have aF : k < ps.length := by rw [HL.out]; exact aG
    have d0 : wr.cell? ⟨b, off + k * 6, none⟩ = some (V ps[k].kd) := HK.out.cellOf (p := ⟨b, off + k * 6, none⟩) (by have h := HC.out k 0 aF (by decide); exact h) (fun e => e);have d1 : wr.cell? ⟨b, off + k * 6 + 1, none⟩ = some (V ps[k].tx) := HK.out.cellOf (p := ⟨b, off + k * 6 + 1, none⟩) (by have h := HC.out k 1 aF (by decide); rw [← Nat.add_assoc] at h; exact h) (fun e => e);have d2 : wr.cell? ⟨b, off + k * 6 + 2, none⟩ = some (V ps[k].rid) := HK.out.cellOf (p := ⟨b, off + k * 6 + 2, none⟩) (by have h := HC.out k 2 aF (by decide); rw [← Nat.add_assoc] at h; exact h) (fun e => e);have d3 : wr.cell? ⟨b, off + k * 6 + 3, none⟩ = some (V ps[k].cnt) := HK.out.cellOf (p := ⟨b, off + k * 6 + 3, none⟩) (by have h := HC.out k 3 aF (by decide); rw [← Nat.add_assoc] at h; exact h) (fun e => e);have d4 : wr.cell? ⟨b, off + k * 6 + 4, none⟩ = some (.slice ps[k].data.a ps[k].data.bs.length ps[k].data.c) := HK.out.cellOf (p := ⟨b, off + k * 6 + 4, none⟩) (by have h := HC.out k 4 aF (by decide); rw [← Nat.add_assoc] at h; exact h) (fun e => e);have d5 : wr.cell? ⟨b, off + k * 6 + 5, none⟩ = some (.slice ps[k].keep.a ps[k].keep.n ps[k].keep.c) := HK.out.cellOf (p := ⟨b, off + k * 6 + 5, none⟩) (by have h := HC.out k 5 aF (by decide); rw [← Nat.add_assoc] at h; exact h) (fun e => e)
    have iP : Hid ((if f ps[k] = true then (k : Int) else UQ f (k + 1) (ps.drop (k + 1))) = R) := by have h := HA.out; rw [jb5 aF] at h; exact h
    have kf := HF.out ps[k] wr (List.getElem_mem aF) HK.out
    cases hb : f ps[k] with
    | true =>
     have HE : Hid ((k : Int) = R) := by have h := iP.out; rw [if_pos hb] at h; exact h
     rw [hb] at kf;clear iP HA hb
     go_wp2_with fail
     refine kf.mono ?_;rintro e w1 ⟨rfl, af⟩;have ao := hid (HK.out.trans af);clear d0 d1 d2 d3 d4 d5 kf af;go_wp2;go_ret;exact ⟨by rw [← HE.out]; rfl, ao.out⟩
    | false =>
     have HE : Hid (UQ f (k + 1) (ps.drop (k + 1)) = R) := by have h := iP.out; rw [if_neg (by simp [hb])] at h; exact h
     rw [hb] at kf;clear iP HA hb
     go_wp2_with fail
     refine kf.mono ?_;rintro e w1 ⟨rfl, af⟩;have ao := hid (HK.out.trans af);clear d0 d1 d2 d3 d4 d5 kf af;go_wp2;go_roundw
     case rel => exact ⟨k + 1, by omega, by go_num, HE, ao⟩
     case measure => simp [intOf]; omega
   ·obtain rfl : len = k := by omega
    have he : (-1 : Int) = R := by have h := HA.out; rw [← HL.out, List.drop_length] at h; exact h
    go_wp2;go_ret;exact ⟨by rw [← he]; rfl, HK.out⟩
theorem jaL (fid : FuncId) (f : StStep → Bool) (v : Value) (ps : List StStep) (w : World) (hv : RdSp w v ps) (cz : Ur fid) (hf : jd2 fid f w ps) :
  Calls Tryz.prog 63 #[v, .func (.func fid) #[] #[]] w fun e w' => e = .returned (.bool (ps.any f)) ∧ Same w w' := by
 have k0 := jcT fid f v ps w hv cz hf;have hx := jba f ps 0;obtain ⟨a, c, rfl⟩ := hv.form;generalize UQ f 0 ps = r at k0 hx;rw [← hx];clear hx hv hf cz
 go_enter Tryz.func63, Tryz.ntmps63
 go_wp2_with fail
 refine k0.mono ?_;rintro e w1 ⟨rfl, af⟩;go_wp2;go_ret;exact ⟨rfl, af⟩
theorem jcU (X : Nat) (id i : Int) (u : Bool) (a : Option Addr) (n c : Nat) (w : World) (hX : w.cell? ⟨X, 0, none⟩ = some (V id)) (aG : X < w.heap.size) :
  Calls Tryz.prog 173 #[.agg #[V i, .bool u, .slice a n c], Q3 X 0] w fun e w' => e = .returned (.bool (decide (i = id))) ∧ Same w w' := by
 have HK := (show Hid (Same w (w.alloc (.cells #[V i, .bool u, .slice a n c] 112))) from kZ0.alloc _);have Br := HK.out.cellOf hX (fun e => e);have b0 := (Blk.newL w [V i, .bool u, .slice a n c] 112).cell 0;simp only [List.getElem?_cons_zero] at b0
 by_cases h : i = id
 ·have q : (i == id) = true := by simp [h]
  rw [decide_eq_true h]
  go_enter Tryz.func173, Tryz.ntmps173
  clear h;go_wp2;go_ret;exact ⟨rfl, HK.out⟩
 ·have q : (i == id) = false := by simp [h]
  rw [decide_eq_false h]
  go_enter Tryz.func173, Tryz.ntmps173
  clear h;go_wp2;go_ret;exact ⟨rfl, HK.out⟩
theorem jd3 : Ur 173 := fun args wx => by simp [callFunc, go_sem, Tryz.func173, Tryz.f173]
theorem jge {D : List RcD} {id : Int} {u : Bool} {d : List Int} (h : (u, d) = D.foldl (V9 id) (false, [])) : D.any (fun r => decide (r.1 = id)) = u := by
 have key : ∀ (D : List RcD) (o : Bool × List Int), (D.foldl (V9 id) o).1 = (o.1 || D.any (fun r => decide (r.1 = id))) := by
  intro D
  induction D with
  | nil => intro o; simp
  | cons r D ih =>
   intro o;rw [List.foldl_cons, ih, List.any_cons];unfold V9
   by_cases h : r.1 = id
   ·rw [if_pos h]; simp [h]
   ·rw [if_neg h]; simp [h]
 have h1 := key D (false, []);rw [← h] at h1
 simpa using h1.symm
theorem jcV (lo M : Nat) (gp gf gl : Int) (x : PmX) (st : PlS) (txn id : Int) (w : World) (h : PmI w lo M gp gf gl x) (hd : PmD x st) (hg : 0 ≤ gp ∧ gp ≤ 1000) (hG : GoodL st.locks) :
  Calls Tryz.prog 147 #[Q3 M 0, V txn, V id] w fun e w' => e = .returned (.bool (!Vm gp st txn id)) ∧ Same w w' := by
 obtain ⟨u0, va, vn, vc, d0, dH, rr, rK, kl, g7⟩ := Zh h.n.rcm hd.recs id;have BP := jge kl
 have hO : U5 st.locks txn id = T9 txn id 0 st.locks := by unfold U5; rw [if_pos ((Wz _).2 hG)]
 have fF := Blk.newL w [V id] 2;have bT : Same w (w.alloc (.cells #[V id] 2)) := kZ0.alloc _;obtain ⟨X, aQ⟩ : ∃ X, w.heap.size = X := ⟨_, rfl⟩;rw [aQ] at fF;have H := hid h
 let Y1 : World → Prop := fun wx : World => wx.cell? ⟨M, 0, none⟩ = some (V gp) ∧ wx.cell? ⟨M, 1, none⟩ = some (V gf) ∧ wx.cell? ⟨M, 2, none⟩ = some (V gl) ∧ wx.cell? ⟨X, 0, none⟩ = some (V id) ∧ wx.cell? ⟨M, 5, none⟩ = some (.map (some x.C)) ∧ wx.cell? ⟨M, 7, none⟩ = some (.map (some x.B)) ∧ (Instr.lookup 87 (.map (some x.C)) (V id) false).run Tryz.prog wx = .ok (.agg #[.bool u0, .slice va vn vc]) wx
 have bL := (show Hid (∀ wx, Same w wx → Blk wx X 2 [V id] → Y1 wx) from fun wx hx hb => ⟨(h.same hx).box.cell 0, (h.same hx).box.cell 1, (h.same hx).box.cell 2, hb.cell 0, (h.same hx).box.cell 5, (h.same hx).box.cell 7, dH wx hx⟩);have KR := (show Hid (∀ wx, _) from fun wx => ZE gp gf gl id wx hg);have KO := (show Hid (∀ wx, Same w wx → _) from fun wx hx => Yd wx lo x.B x.bk x.tt st.locks txn id (h.same hx).n.lk hd.locks (fun l hl => (hG.fine l hl).2.2.1));obtain ⟨OT, y7⟩ : ∃ z, T9 txn id 0 st.locks = z := ⟨_, rfl⟩;rw [y7] at KO hO;obtain ⟨RP, bS⟩ : ∃ z, Vm gp st txn id = z := ⟨_, rfl⟩;rw [bS]
 have bj := (show Hid ((decide (id < 0) || decide (gp * 32 ≤ id) || decide (OT ≠ 0) || u0 || st.txns.any (fun t => t.2.any (fun w => decide (w.1 = id)))) = RP) from by
  show _ = RP
  rw [← bS];unfold Vm
  rw [hO, BP])
 have vL := (show Hid (st.txns.any (fun t => t.2.any (fun w => decide (w.1 = id))) = x.te.any (fun t => t.ps.any (fun p => decide (p.id = id)))) from by
  show List.any _ _ = _
  rw [← hd.txns.any_eq, List.any_map];apply congrArg (List.any x.te);funext t;simp only [Function.comp, ETp.dat, TU, List.any_map]
  rfl)
 have AA : ∀ wx, (Instr.field 110 (.agg #[.bool u0, .slice va vn vc]) 0).run Tryz.prog wx = .ok (.bool u0) wx := fun wx => by kernel_rfl
 clear h hd hG dH rr rK kl g7 BP hO y7 bS
 go_enter Tryz.func147, Tryz.ntmps147
 go_upto_region 1 with fail
 try rw [aQ]
 generalize w.alloc (.cells #[V id] 2) = w1 at fF bT ⊢;have HX := hid fF;have ao := hid bT;have Tp := (show Hid (w.heap.size ≤ X) from Nat.le_of_eq aQ);clear fF bT aQ;obtain ⟨RB, sG⟩ : ∃ z, (decide (0 ≤ id) && decide (id < gp * 32)) = z := ⟨_, rfl⟩
 have tm := (show Hid ((decide (id < 0) || decide (gp * 32 ≤ id)) = !RB) from by
  show (decide (id < 0) || decide (gp * 32 ≤ id)) = !RB
  rw [← sG]
  by_cases h1 : id < 0
  ·have : ¬ 0 ≤ id := by omega
   simp [h1, this]
  ·have Sw : 0 ≤ id := by omega
   by_cases h2 : gp * 32 ≤ id
   ·have : ¬ id < gp * 32 := by omega
    simp [h1, h2, this]
   ·have : id < gp * 32 := by omega
    simp [h1, h2, Sw, this])
 rw [sG] at KR;clear sG;rw [tm.out] at bj;clear tm
 go_wp2_with fail
 go_cut [34] (fun z wx => z = .bool (!RB || u0 || decide (OT ≠ 0)) ∧ Hid (Same w wx) ∧ Hid (Blk wx X 2 [V id]))
 case first =>
  refine TT Y1 99 26 rfl (by kernel_rfl) ?_;have ae : Same w1 (World.drew w1) := kZ0.drew;generalize World.drew w1 = w2 at ae ⊢;have ap := hid (ao.out.trans ae);have eP := hid (HX.out.same ae);clear ae ao HX;have hS : Y1 w2 := bL.out w2 ap.out eP.out;refine tk 0 9 hS ?_;refine tk 1 10 hS ?_;refine tk 2 11 hS ?_;refine tk 3 12 hS ?_;refine tk 4 13 hS ?_;refine o1Q 5 (fun Kc ak => ?_);go_simp;refine (KR.out w2).mono ?_;rintro e w3 ⟨rfl, ar⟩;have ax := hid (ap.out.trans ar);have gM := hid (eP.out.same ar);clear ar hS ap eP;have hS : Y1 w3 := bL.out w3 ax.out gM.out
  go_wp2_with fail
  refine ak.out _ _ (fun _ => hS) ?_;clear ak Kc
  try simp only [Act.put, sA, s0, sS]
  cases RB
  case false =>
   refine tk 6 15 hS ?_;refine tk 7 16 hS ?_;refine tkS 8 17 hS ?_;refine tkS 9 18 hS ?_;refine tkS 10 19 hS ?_;refine tkS 11 20 hS ?_;refine tkS 12 21 hS ?_;refine tkS 13 22 hS ?_;refine tkS 14 23 hS ?_;refine tk 15 24 hS ?_;refine tk 16 25 hS ?_;refine tkS 17 26 hS ?_;refine tkS 18 27 hS ?_;refine tkS 19 28 hS ?_;refine tkS 20 29 hS ?_;refine tkS 21 30 hS ?_;refine tkS 22 31 hS ?_;refine tkS 23 32 hS ?_;refine tkS 24 33 hS ?_;refine tk 25 34 hS ?_;refine TS (by kernel_rfl) ?_
   try simp only [Act.put, sA, s0, sS]
   clear hS
   go_wp2_with fail
   go_meet
   case rel => exact ⟨by simp, ax, gM⟩
  case true =>
   cases u0
   case true =>
    refine tk 6 15 hS ?_;refine tk 7 16 hS ?_;refine tk 8 17 hS ?_;refine tk 9 18 hS ?_;refine tk 10 19 hS ?_;refine tk 11 20 hS ?_;refine tk 12 21 hS ?_;refine tk 13 22 hS ?_;refine tk 14 23 hS ?_;refine tk 15 24 hS ?_;refine tk 16 25 hS ?_;refine tkS 17 26 hS ?_;refine tkS 18 27 hS ?_;refine tkS 19 28 hS ?_;refine tkS 20 29 hS ?_;refine tkS 21 30 hS ?_;refine tkS 22 31 hS ?_;refine tkS 23 32 hS ?_;refine tkS 24 33 hS ?_;refine tk 25 34 hS ?_;refine TS (by kernel_rfl) ?_
    try simp only [Act.put, sA, s0, sS]
    clear hS
    go_wp2_with fail
    go_meet
    case rel => exact ⟨by simp, ax, gM⟩
   case false =>
    refine tk 6 15 hS ?_;refine tk 7 16 hS ?_;refine tk 8 17 hS ?_;refine tk 9 18 hS ?_;refine tk 10 19 hS ?_;refine tk 11 20 hS ?_;refine tk 12 21 hS ?_;refine tk 13 22 hS ?_;refine tk 14 23 hS ?_;refine tk 15 24 hS ?_;refine tk 16 25 hS ?_;refine tk 17 26 hS ?_;refine tk 18 27 hS ?_;refine tk 19 28 hS ?_;refine tk 20 29 hS ?_;refine tk 21 30 hS ?_;refine tk 22 31 hS ?_;refine o1Q 23 (fun Kc ak => ?_);go_simp;refine (KO.out w3 ax.out).mono ?_;rintro e w4 ⟨rfl, aM⟩;have aR := hid (ax.out.trans aM);have l6 := hid (gM.out.same aM);clear aM hS ax gM;have hS : (fun wx : World => wx.cell? ⟨M, 0, none⟩ = some (V gp) ∧ wx.cell? ⟨M, 1, none⟩ = some (V gf) ∧ wx.cell? ⟨M, 2, none⟩ = some (V gl) ∧ wx.cell? ⟨X, 0, none⟩ = some (V id) ∧ wx.cell? ⟨M, 5, none⟩ = some (.map (some x.C)) ∧ wx.cell? ⟨M, 7, none⟩ = some (.map (some x.B)) ∧ (Instr.lookup 87 (.map (some x.C)) (V id) false).run Tryz.prog wx = .ok (.agg #[.bool false, .slice va vn vc]) wx) w4 := bL.out w4 aR.out l6.out
    go_wp2_with fail
    refine ak.out _ _ (fun _ => hS) ?_;clear ak Kc
    try simp only [Act.put, sA, s0, sS]
    by_cases y7 : OT = 0
    ·subst y7
     refine tk 24 33 hS ?_;refine tk 25 34 hS ?_;refine TS (by kernel_rfl) ?_
     try simp only [Act.put, sA, s0, sS]
     clear hS
     go_wp2_with fail
     go_meet
     case rel => exact ⟨by simp, aR, l6⟩
    ·have SU : (OT != 0) = true := by simp [y7]
     have yV := hid y7;refine tk 24 33 hS ?_;refine tk 25 34 hS ?_;refine TS (by kernel_rfl) ?_
     try simp only [Act.put, sA, s0, sS]
     clear hS y7
     go_wp2_with fail
     go_meet
     case rel => exact ⟨by simp [yV.out], aR, l6⟩
 case rest =>
 obtain ⟨rfl, HK, Gu⟩ := hcut;generalize bQ : (!RB || u0 || decide (OT ≠ 0)) = bad
 have Ka := (show Hid ((bad || st.txns.any (fun t => t.2.any (fun w => decide (w.1 = id)))) = RP) from by
  show _ = RP
  rw [← bj.out, ← bQ]
  cases RB <;> cases u0 <;> cases decide (OT ≠ 0) <;> rfl)
 clear bQ bj KR KO bL AA HX ao
 cases bad
 case true =>
  have e : RP = true := by rw [← Ka.out]; rfl
  subst e;go_wp2;go_ret;exact ⟨rfl, HK.out⟩
 have LK := (show Hid (x.te.any (fun t => t.ps.any (fun p => decide (p.id = id))) = RP) from by
  show _ = RP
  rw [← Ka.out, vL.out]
  rfl)
 clear Ka vL;generalize wc = w5 at HK Gu ⊢;have H5 := hid (H.out.same HK.out);have c6 := H5.out.box.cell 6;simp only [PmC, List.getElem?_cons_zero, List.getElem?_cons_succ] at c6;have r2 := run_range_map (P := Tryz.prog) (T := 88) Tryz.underlying88 H5.out.n.txn;have kt : ∀ (fn : Fn) (first cap : Array Value) (w : World), (Instr.makeFunc fn first cap).run Tryz.prog w = .ok (.func fn first cap) w := fun _ _ _ _ => rfl
 go_wp2_with fail
 obtain ⟨r, hr⟩ : ∃ r, w5.heap.size = r := ⟨_, rfl⟩;have hit : IterB (w5.alloc (.mapIter (some x.T) x.tk #[] x.tk)) r x.T x.tk #[] x.tk := hr ▸ IterB.new w5 x.T x.tk;have mS := (show Hid (Same w (w5.alloc (.mapIter (some x.T) x.tk #[] x.tk))) from HK.out.trans (kZ0.alloc _));have Jo := (show Hid (Blk (w5.alloc (.mapIter (some x.T) x.tk #[] x.tk)) X 2 [V id]) from Gu.out.same (kZ0.alloc _))
 have Ay : w.heap.size ≤ r := by have := HK.out.size; omega
 have S1 : X < r := by have := Gu.out.lt; omega
 clear r2 c6 H5 Gu HK;rw [hr];generalize (w5.alloc (.mapIter (some x.T) x.tk #[] x.tk)) = w6 at hit mS Jo ⊢
 go_loopw [] (fun wr => ∃ (seen : Array Nat), Hid (IterB wr r x.T x.tk seen x.tk) ∧ Hid (Same w wr) ∧ Hid (Blk wr X 2 [V id]) ∧ Hid (∀ t ∈ x.te, t.st ∈ seen → t.ps.any (fun p => decide (p.id = id)) = false)) (fun wr => jbt wr r x.T)
 case atStart => exact ⟨#[], hid hit, mS, Jo, hid (fun t ht hs => by simp at hs)⟩
 case round =>
  obtain ⟨seen, HI, HK, K5, HN⟩ := hrel;clear hit mS Jo;have HT := hid ((H.out.same HK.out).n);have az := VF HI.out HT.out.txn
  rcases Xa (P := Tryz.prog) (ty := 0) HI.out HT.out.txn HT.out.tok.lt (Nat.le_refl _) with ⟨h0, dh⟩ | ⟨e, he, w7, hw, dh⟩
  ·have e : RP = false := by
    rw [← LK.out];refine List.any_eq_false.2 (fun t ht => ?_)
    have h1 : t.kv ∉ Ut (x.te.map ETp.kv) seen := by rw [h0]; simp
    have h2 : t.st ∈ seen := by
     refine Classical.byContradiction (fun hn => h1 (List.mem_filter.2 ⟨List.mem_map_of_mem ht, ?_⟩))
     show (!seen.contains t.st) = true
     simp [hn]
    have := HN.out t ht h2;simp [this]
   subst e;clear h0;go_wp2;go_ret;exact ⟨rfl, HK.out⟩
  ·obtain ⟨g1, g2, g3⟩ := XH (e := e) HI.out HT.out.txn hw
   have xE := Wv (P := Tryz.prog) g1 g2 (mem_left he) HT.out.tok;obtain ⟨t, ht, rfl⟩ := List.mem_map.1 (mem_left he);have aG := Xb HT.out.tok.stamps he;have jt := VF g1 g2;dsimp only [ETp.kv] at dh xE aG jt g1 g2 g3;have G1 := hid g1;have G3 := hid (HK.out.next g3 (fun i hi e' => by omega));have GX := hid (K5.out.kept g3 (by omega));clear g1 g2 g3 hw he HI HK K5;generalize setIt w7 r x.T x.tk (seen.push t.st) x.tk = w8 at *;have CM := hid ((H.out.same G3.out).n);have t1 := (CM.out.tb t ht).cell 1;simp only [List.getElem?_cons_zero, List.getElem?_cons_succ] at t1;obtain ⟨ta, tc, Cb⟩ := (CM.out.tw t ht).form;have HV := hid (CM.out.tw t ht).rd;rw [Cb] at t1 HV
   have kC := jaJ 173 (Q3 X 0) (fun p => decide (p.id = id)) (.slice ta t.ps.length tc) t.ps w8 HV.out jd3 (fun p wx a c hp hv hx => by
    rw [hv]
    exact jcU X id p.id p.us a _ c wx (hx.cellOf GX.out.c0 (fun e => e)) (by have := GX.out.lt; have := hx.size; omega))
   have Ap := (show Hid (t.ps.any (fun p => decide (p.id = id)) = false → ∀ y ∈ x.te, y.st ∈ seen.push t.st → y.ps.any (fun p => decide (p.id = id)) = false) from fun hf y hy hs => by
    rcases Array.mem_push.1 hs with hs | hs
    ·exact HN.out y hy hs
    ·have e2 : y = t := by
      have hn := CM.out.tok.stamps;rw [List.map_map] at hn;obtain ⟨i, hi, rfl⟩ := List.getElem_of_mem hy;obtain ⟨j, hj, rfl⟩ := List.getElem_of_mem ht;have h1 := List.pairwise_iff_getElem.1 hn
      rcases Nat.lt_trichotomy i j with h3 | h3 | h3
      ·exact absurd (by simpa [ETp.kv] using hs) (h1 i j (by simpa using hi) (by simpa using hj) h3 ∘ (fun e => by simpa [ETp.kv] using e))
      ·subst h3; rfl
      ·exact absurd (by simpa [ETp.kv] using hs.symm) (h1 j i (by simpa using hj) (by simpa using hi) h3 ∘ (fun e => by simpa [ETp.kv] using e))
     rw [e2]
     exact hf)
   have AF := hid ht;obtain ⟨ab, Hp⟩ : ∃ z, t.ps.any (fun p => decide (p.id = id)) = z := ⟨_, rfl⟩;rw [Hp] at kC Ap;have Sc := hid Hp;generalize t.ps.length = tn at t1 kC;clear Hp Cb HV ht HT CM HN
   go_wp2_with fail
   refine kC.mono ?_;rintro e w9 ⟨rfl, eZ⟩;have fB := hid (G3.out.trans eZ);have Lq := hid (IterB.kept G1.out eZ (fun e => e));have OQ := hid (GX.out.same eZ);have Qv := VF Lq.out ((H.out.same fB.out).n.txn);clear kC eZ t1 dh xE
   cases ab
   case true =>
    have e : RP = true := by
     rw [← LK.out];exact List.any_eq_true.2 ⟨t, AF.out, Sc.out⟩
    subst e;go_wp2;go_ret;exact ⟨rfl, fB.out⟩
   case false =>
    go_wp2_with fail
    refine ⟨⟨seen.push t.st, Lq, fB, OQ, by first | exact hid (Ap.out rfl) | exact hid (Ap.out trivial)⟩, ?_⟩
    (try simp only [ETp.kv] at Qv)
    omega
def Tryz.keysA_ren : Go.Shelf.Ren := ⟨fun | 7 => 71 | 10 => 106 | n => n, fun | 23 => 87 | 26 => 2 | 3 => 110 | 28 => 127 | 0 => 0 | 27 => 126 | 33 => 144 | 4 => 4 | n => n, fun | n => n⟩
theorem Tryz.keysA : Go.Proofs.SlLaysZI.n7 Tryz.prog Tryz.keysA_ren := {
 mixed := by kernel_rfl
 f7 := ⟨Tryz.f71.name, by decide, Tryz.func71.trans (congrArg some (by kernel_rfl))⟩
 f10 := ⟨Tryz.f106.name, by decide, Tryz.func106.trans (congrArg some (by kernel_rfl))⟩
 t0 := Tryz.underlying0
 a0 := Tryz.isAgg0
 z0 := Tryz.sizeOf0
 v0 := Tryz.zeroValue0
 t4 := Tryz.underlying4
 a4 := Tryz.isAgg4
 z4 := Tryz.sizeOf4
 v4 := Tryz.zeroValue4
 t23 := Tryz.underlying87
 a23 := Tryz.isAgg87
 z23 := Tryz.sizeOf87
 v23 := Tryz.zeroValue87
 t26 := Tryz.underlying2
 a26 := Tryz.isAgg2
 z26 := Tryz.sizeOf2
 v26 := Tryz.zeroValue2
 t27 := Tryz.underlying126
 a27 := Tryz.isAgg126
 z27 := Tryz.sizeOf126
 v27 := Tryz.zeroValue126
 t28 := Tryz.underlying127
 a28 := Tryz.isAgg127
 z28 := Tryz.sizeOf127
 v28 := Tryz.zeroValue127
 t33 := Tryz.underlying144
 a33 := Tryz.isAgg144
 z33 := Tryz.sizeOf144
 v33 := Tryz.zeroValue144 }
def Tryz.keysB_ren : Go.Shelf.Ren := ⟨fun | 7 => 73 | 10 => 107 | n => n, fun | 23 => 88 | 26 => 2 | 3 => 130 | 28 => 127 | 0 => 0 | 27 => 126 | 33 => 144 | 4 => 4 | n => n, fun | n => n⟩
theorem Tryz.keysB : Go.Proofs.SlLaysZI.n7 Tryz.prog Tryz.keysB_ren := {
 mixed := by kernel_rfl
 f7 := ⟨Tryz.f73.name, by decide, Tryz.func73.trans (congrArg some (by kernel_rfl))⟩
 f10 := ⟨Tryz.f107.name, by decide, Tryz.func107.trans (congrArg some (by kernel_rfl))⟩
 t0 := Tryz.underlying0
 a0 := Tryz.isAgg0
 z0 := Tryz.sizeOf0
 v0 := Tryz.zeroValue0
 t4 := Tryz.underlying4
 a4 := Tryz.isAgg4
 z4 := Tryz.sizeOf4
 v4 := Tryz.zeroValue4
 t23 := Tryz.underlying88
 a23 := Tryz.isAgg88
 z23 := Tryz.sizeOf88
 v23 := Tryz.zeroValue88
 t26 := Tryz.underlying2
 a26 := Tryz.isAgg2
 z26 := Tryz.sizeOf2
 v26 := Tryz.zeroValue2
 t27 := Tryz.underlying126
 a27 := Tryz.isAgg126
 z27 := Tryz.sizeOf126
 v27 := Tryz.zeroValue126
 t28 := Tryz.underlying127
 a28 := Tryz.isAgg127
 z28 := Tryz.sizeOf127
 v28 := Tryz.zeroValue127
 t33 := Tryz.underlying144
 a33 := Tryz.isAgg144
 z33 := Tryz.sizeOf144
 v33 := Tryz.zeroValue144 }
def Tryz.keysC_ren : Go.Shelf.Ren := ⟨fun | 7 => 108 | 10 => 130 | n => n, fun | 23 => 86 | 26 => 2 | 3 => 110 | 28 => 127 | 0 => 0 | 27 => 126 | 33 => 144 | 4 => 4 | n => n, fun | n => n⟩
theorem Tryz.keysC : Go.Proofs.SlLaysZI.n7 Tryz.prog Tryz.keysC_ren := {
 mixed := by kernel_rfl
 f7 := ⟨Tryz.f108.name, by decide, Tryz.func108.trans (congrArg some (by kernel_rfl))⟩
 f10 := ⟨Tryz.f130.name, by decide, Tryz.func130.trans (congrArg some (by kernel_rfl))⟩
 t0 := Tryz.underlying0
 a0 := Tryz.isAgg0
 z0 := Tryz.sizeOf0
 v0 := Tryz.zeroValue0
 t4 := Tryz.underlying4
 a4 := Tryz.isAgg4
 z4 := Tryz.sizeOf4
 v4 := Tryz.zeroValue4
 t23 := Tryz.underlying86
 a23 := Tryz.isAgg86
 z23 := Tryz.sizeOf86
 v23 := Tryz.zeroValue86
 t26 := Tryz.underlying2
 a26 := Tryz.isAgg2
 z26 := Tryz.sizeOf2
 v26 := Tryz.zeroValue2
 t27 := Tryz.underlying126
 a27 := Tryz.isAgg126
 z27 := Tryz.sizeOf126
 v27 := Tryz.zeroValue126
 t28 := Tryz.underlying127
 a28 := Tryz.isAgg127
 z28 := Tryz.sizeOf127
 v28 := Tryz.zeroValue127
 t33 := Tryz.underlying144
 a33 := Tryz.isAgg144
 z33 := Tryz.sizeOf144
 v33 := Tryz.zeroValue144 }
def Tryz.sortedA_ren : Go.Shelf.Ren := ⟨fun | 6 => 70 | 8 => 104 | 9 => 105 | 11 => 127 | 13 => 129 | 12 => 128 | 23 => 167 | 24 => 168 | 14 => 158 | 15 => 159 | 16 => 160 | 17 => 161 | 18 => 162 | 19 => 163 | 20 => 164 | 21 => 165 | 22 => 166 | 25 => 179 | 26 => 180 | 27 => 181 | 28 => 182 | 29 => 183 | 30 => 184 | 31 => 188 | n => n, fun | 26 => 2 | 28 => 127 | 24 => 56 | 0 => 0 | 3 => 3 | 37 => 173 | 48 => 198 | 50 => 200 | 4 => 4 | 40 => 191 | 39 => 190 | 45 => 195 | 5 => 5 | 9 => 9 | 51 => 213 | 55 => 217 | 57 => 221 | 58 => 222 | 33 => 144 | n => n, fun | n => n⟩
theorem Tryz.sortedA : Go.Proofs.SlLaysZI.n6 Tryz.prog Tryz.sortedA_ren := {
 mixed := by kernel_rfl
 f6 := ⟨Tryz.f70.name, by decide, Tryz.func70.trans (congrArg some (by kernel_rfl))⟩
 f8 := ⟨Tryz.f104.name, by decide, Tryz.func104.trans (congrArg some (by kernel_rfl))⟩
 f11 := ⟨Tryz.f127.name, by decide, Tryz.func127.trans (congrArg some (by kernel_rfl))⟩
 t0 := Tryz.underlying0
 a0 := Tryz.isAgg0
 z0 := Tryz.sizeOf0
 v0 := Tryz.zeroValue0
 t24 := Tryz.underlying56
 a24 := Tryz.isAgg56
 z24 := Tryz.sizeOf56
 v24 := Tryz.zeroValue56
 t26 := Tryz.underlying2
 a26 := Tryz.isAgg2
 z26 := Tryz.sizeOf2
 v26 := Tryz.zeroValue2
 t28 := Tryz.underlying127
 a28 := Tryz.isAgg127
 z28 := Tryz.sizeOf127
 v28 := Tryz.zeroValue127
 i26 := by kernel_rfl }
def Tryz.sortA_ren : Go.Shelf.Ren := ⟨fun | 5 => 105 | 8 => 129 | 7 => 128 | 19 => 167 | 20 => 168 | 10 => 158 | 11 => 159 | 12 => 160 | 13 => 161 | 14 => 162 | 15 => 163 | 16 => 164 | 17 => 165 | 18 => 166 | 30 => 179 | 31 => 180 | 32 => 181 | 33 => 182 | 34 => 183 | 35 => 184 | 40 => 188 | n => n, fun | 23 => 56 | 25 => 2 | 3 => 3 | 32 => 173 | 22 => 56 | 0 => 0 | 44 => 198 | 46 => 200 | 4 => 4 | 36 => 191 | 35 => 190 | 41 => 195 | 5 => 5 | 9 => 9 | 53 => 213 | 57 => 217 | 63 => 221 | 64 => 222 | n => n, fun | n => n⟩
theorem Tryz.sortA : Go.Proofs.SlLaysM.n5 Tryz.prog Tryz.sortA_ren := {
 mixed := by kernel_rfl
 f5 := ⟨Tryz.f105.name, by decide, Tryz.func105.trans (congrArg some (by kernel_rfl))⟩
 f7 := ⟨Tryz.f128.name, by decide, Tryz.func128.trans (congrArg some (by kernel_rfl))⟩
 f8 := Tryz.func129.trans (congrArg some (by kernel_rfl))
 f10 := ⟨Tryz.f158.name, by decide, Tryz.func158.trans (congrArg some (by kernel_rfl))⟩
 f11 := ⟨Tryz.f159.name, by decide, Tryz.func159.trans (congrArg some (by kernel_rfl))⟩
 f12 := ⟨Tryz.f160.name, by decide, Tryz.func160.trans (congrArg some (by kernel_rfl))⟩
 f13 := ⟨Tryz.f161.name, by decide, Tryz.func161.trans (congrArg some (by kernel_rfl))⟩
 f14 := ⟨Tryz.f162.name, by decide, Tryz.func162.trans (congrArg some (by kernel_rfl))⟩
 f15 := ⟨Tryz.f163.name, by decide, Tryz.func163.trans (congrArg some (by kernel_rfl))⟩
 f16 := ⟨Tryz.f164.name, by decide, Tryz.func164.trans (congrArg some (by kernel_rfl))⟩
 f17 := ⟨Tryz.f165.name, by decide, Tryz.func165.trans (congrArg some (by kernel_rfl))⟩
 f18 := ⟨Tryz.f166.name, by decide, Tryz.func166.trans (congrArg some (by kernel_rfl))⟩
 f19 := Tryz.func167.trans (congrArg some (by kernel_rfl))
 f20 := Tryz.func168.trans (congrArg some (by kernel_rfl))
 f30 := ⟨Tryz.f179.name, by decide, Tryz.func179.trans (congrArg some (by kernel_rfl))⟩
 f31 := Tryz.func180.trans (congrArg some (by kernel_rfl))
 f32 := Tryz.func181.trans (congrArg some (by kernel_rfl))
 f33 := ⟨Tryz.f182.name, by decide, Tryz.func182.trans (congrArg some (by kernel_rfl))⟩
 f34 := ⟨Tryz.f183.name, by decide, Tryz.func183.trans (congrArg some (by kernel_rfl))⟩
 f35 := ⟨Tryz.f184.name, by decide, Tryz.func184.trans (congrArg some (by kernel_rfl))⟩
 f40 := ⟨Tryz.f188.name, by decide, Tryz.func188.trans (congrArg some (by kernel_rfl))⟩
 t0 := Tryz.underlying0
 a0 := Tryz.isAgg0
 z0 := Tryz.sizeOf0
 v0 := Tryz.zeroValue0
 t3 := Tryz.underlying3
 a3 := Tryz.isAgg3
 z3 := Tryz.sizeOf3
 v3 := Tryz.zeroValue3
 t4 := Tryz.underlying4
 a4 := Tryz.isAgg4
 z4 := Tryz.sizeOf4
 v4 := Tryz.zeroValue4
 t5 := Tryz.underlying5
 a5 := Tryz.isAgg5
 z5 := Tryz.sizeOf5
 v5 := Tryz.zeroValue5
 t9 := Tryz.underlying9
 a9 := Tryz.isAgg9
 z9 := Tryz.sizeOf9
 v9 := Tryz.zeroValue9
 t22 := Tryz.underlying56
 a22 := Tryz.isAgg56
 z22 := Tryz.sizeOf56
 v22 := Tryz.zeroValue56
 t23 := Tryz.underlying56
 a23 := Tryz.isAgg56
 z23 := Tryz.sizeOf56
 v23 := Tryz.zeroValue56
 t25 := Tryz.underlying2
 a25 := Tryz.isAgg2
 z25 := Tryz.sizeOf2
 v25 := Tryz.zeroValue2
 t32 := Tryz.underlying173
 a32 := Tryz.isAgg173
 z32 := Tryz.sizeOf173
 v32 := Tryz.zeroValue173
 t35 := Tryz.underlying190
 a35 := Tryz.isAgg190
 z35 := Tryz.sizeOf190
 v35 := Tryz.zeroValue190
 t36 := Tryz.underlying191
 a36 := Tryz.isAgg191
 z36 := Tryz.sizeOf191
 v36 := Tryz.zeroValue191
 t41 := Tryz.underlying195
 a41 := Tryz.isAgg195
 z41 := Tryz.sizeOf195
 v41 := Tryz.zeroValue195
 t44 := Tryz.underlying198
 a44 := Tryz.isAgg198
 z44 := Tryz.sizeOf198
 v44 := Tryz.zeroValue198
 t46 := Tryz.underlying200
 a46 := Tryz.isAgg200
 z46 := Tryz.sizeOf200
 v46 := Tryz.zeroValue200
 t53 := Tryz.underlying213
 a53 := Tryz.isAgg213
 z53 := Tryz.sizeOf213
 v53 := Tryz.zeroValue213
 t57 := Tryz.underlying217
 a57 := Tryz.isAgg217
 z57 := Tryz.sizeOf217
 v57 := Tryz.zeroValue217
 t63 := Tryz.underlying221
 a63 := Tryz.isAgg221
 z63 := Tryz.sizeOf221
 v63 := Tryz.zeroValue221
 t64 := Tryz.underlying222
 a64 := Tryz.isAgg222
 z64 := Tryz.sizeOf222
 v64 := Tryz.zeroValue222 }
def blind (v : Value) : Option (DataW Unit × List MemPlace) := some (.nil, [])
theorem jhq {P : Program} {K : TypeId} (hk : P.underlying K = some (.int .i64)) {x : Int} (hx : -9223372036854775808 ≤ x ∧ x ≤ 9223372036854775807) : keyOf P K (V x) = some (.int .i64 x) := by
 have hw : (Lit.int .i64 x).wf = true := by
  have h1 : IntKind.i64.min = -9223372036854775808 := rfl;have h2 : IntKind.i64.max = 9223372036854775807 := rfl;simp only [Lit.wf, h1, h2, Bool.and_eq_true, decide_eq_true_eq];exact hx
 simp [keyOf, hk, mapKey, hw]
theorem jb6 {P : Program} {K : TypeId} (hk : P.underlying K = some (.int .i64)) {w : World} {B ck : Nat} {kv : List KV} (hb : MapB w B kv ck) (hn : KVok kv ck) (hl : kv.length ≤ maxLen) (hx : ∀ e ∈ kv, -9223372036854775808 ≤ e.1 ∧ e.1 ≤ 9223372036854775807) :
  ∃ D : DataW Unit, w.ownsMap P K blind B kv.length D ∧ (intKeys D).Perm (kv.map (·.1)) ∧ Maps.size D = kv.length := by
 have ch : ∀ e ∈ kv, Go.WideElems.rd P K blind (Wu e) = some (.int .i64 e.1, .nil) := fun e he => by
  simp [Go.WideElems.rd, Wu, jhq hk (hx e he), blind]
 have bJ : (UA kv).map (Go.WideElems.rg P K blind) = kv.map fun e => (Lit.int .i64 e.1, (DataW.nil : DataW Unit)) := by
  unfold UA;rw [List.map_map];apply List.map_congr_left;intro e he;simp [Function.comp, Go.WideElems.rg, ch e he]
 refine ⟨_, ⟨(UA kv).toArray, ck, hb, ⟨by simpa [UA] using hl, ⟨?_, ?_, ?_⟩, ?_⟩, by simp [UA], rfl⟩, ?_, ?_⟩
 ·intro x dT
  simp only [UA, List.mem_map] at dT;obtain ⟨e, he, rfl⟩ := dT;exact hn.lt e he
 ·have : (UA kv).toArray.toList.map (·.born) = kv.map (·.2.2) := by simp [UA, Function.comp_def, Wu]
  rw [this];exact hn.stamps
 ·have : (UA kv).toArray.toList.map (·.key) = (kv.map (·.1)).map (Value.int .i64) := by simp [UA, Function.comp_def, Wu]
  rw [this];exact List.Pairwise.map _ (fun a b h e => h (by simpa using e)) hn.keys
 ·intro x dT
  simp only [UA, List.mem_map] at dT;obtain ⟨e, he, rfl⟩ := dT;exact ⟨_, ch e he⟩
 ·show (List.map _ (List.foldr _ [] (List.map _ (UA kv).toArray.toList))).Perm _
  rw [show (UA kv).toArray.toList = UA kv from rfl, bJ];refine ((Go.WideShapes.sorted_perm _).map _).trans ?_;rw [List.map_map];exact List.Perm.refl _
 ·show (List.foldr _ [] (List.map _ (UA kv).toArray.toList)).length = _
  rw [(Go.WideShapes.sorted_perm _).length_eq];simp [UA]
theorem YW {w w' : World} (h : Below w.heap.size w w') : Same w w' := ⟨h.os, h.tape, h.output, h.size, fun k hk _ => h.block k hk⟩
def Xt (l : List Int) : List Int := l.mergeSort (fun x y => decide (x ≤ y))
theorem jd4 (m : Nat) : AnyZI.SortsIn Tryz.prog Tryz.sortedA_ren Fence.wide m :=
  ⟨fun blk off cap ss W hH ix bD => callsIn_wide.2 (AnyM.slices_Sort_int Tryz.sortA blk off cap ss W hH ix bD),
   fun p cap W => callsIn_wide.2 (AnyM.slices_Sort_int_none Tryz.sortA p cap W)⟩
theorem jfi (B : Option Nat) (w : World) : Calls Tryz.prog 71 #[.map B] w fun e w' => e = .returned (.func (.func 106) #[] #[.pointer (some ⟨w.heap.size, 0, none⟩)]) ∧ w' = w.alloc (.cells #[.map B] 87) :=
 (callsIn_wide (n := 5)).1 (AnyZI.keys_in Tryz.keysA Fence.wide 5 trivial rfl B w)
theorem jcW (w : World) (B ck : Nat) (kv : List KV) (hb : MapB w B kv ck) (hn : KVok kv ck) (hl : kv.length ≤ 1000000) (hx : ∀ e ∈ kv, -9223372036854775808 ≤ e.1 ∧ e.1 ≤ 9223372036854775807) :
  Calls Tryz.prog 70 #[.func (.func 106) #[] #[.pointer (some ⟨w.heap.size, 0, none⟩)]] (w.alloc (.cells #[.map (some B)] 87)) fun e w' => ∃ v : Value, e = .returned v ∧ w'.ownsRow (w.heap.size + 1) 2 1 v kv.length ((Xt (kv.map (·.1))).map encZ) ∧ Same (w.alloc (.cells #[.map (some B)] 87)) w' := by
 refine (callsIn_wide (n := 5)).1 ?_;obtain ⟨D, bh, cr, bD⟩ := jb6 (P := Tryz.prog) (K := 2) Tryz.underlying2 (hb.same (kZ0.alloc (.cells #[.map (some B)] 87))) hn (by unfold maxLen; omega) hx
 have pL : SeqGives Fence.wide 2 Tryz.prog 106 #[.pointer (some ⟨w.heap.size, 0, none⟩)] encZ (fun ss => ss.Perm (intKeys D)) (Maps.size D) (w.alloc (.cells #[.map (some B)] 87)) :=
  AnyZI.keys_gives (ρ := Tryz.keysA_ren) { Tryz.keysA with } Fence.wide _ trivial rfl (by omega) w.heap.size B kv.length D _ (by simp) (by simp) bh
 have cS := AnyZI.sorted_in Tryz.sortedA Fence.wide 5 trivial trivial trivial trivial rfl (by omega) (jd4 _) (enters_of Tryz.func105 (by kernel_rfl) rfl) 106 #[.pointer (some ⟨w.heap.size, 0, none⟩)] trivial (enters_of Tryz.func106 (by kernel_rfl) rfl) _ _ (by rw [bD]; unfold maxLen; omega) (by rw [bD]; omega) _ pL;refine CallsIn.mono cS ?_;rintro e w' ⟨v, ss, rfl, hS, aX, _, Bi⟩;have hp := hS.trans cr;refine ⟨v, rfl, ?_, YW Bi⟩
 have h1 : ss.length = kv.length := by rw [hp.length_eq, List.length_map]
 have h2 : ss.mergeSort (fun x y => decide (x ≤ y)) = Xt (kv.map (·.1)) := mergeSort_of_perm_i hp;rw [h1, h2, World.size_alloc] at aX;exact aX
theorem jfj (B : Option Nat) (w : World) : Calls Tryz.prog 73 #[.map B] w fun e w' => e = .returned (.func (.func 107) #[] #[.pointer (some ⟨w.heap.size, 0, none⟩)]) ∧ w' = w.alloc (.cells #[.map B] 88) :=
 (callsIn_wide (n := 5)).1 (AnyZI.keys_in Tryz.keysB Fence.wide 5 trivial rfl B w)
theorem jcX (w : World) (B ck : Nat) (kv : List KV) (hb : MapB w B kv ck) (hn : KVok kv ck) (hl : kv.length ≤ 1000000) (hx : ∀ e ∈ kv, -9223372036854775808 ≤ e.1 ∧ e.1 ≤ 9223372036854775807) :
  Calls Tryz.prog 70 #[.func (.func 107) #[] #[.pointer (some ⟨w.heap.size, 0, none⟩)]] (w.alloc (.cells #[.map (some B)] 88)) fun e w' => ∃ v : Value, e = .returned v ∧ w'.ownsRow (w.heap.size + 1) 2 1 v kv.length ((Xt (kv.map (·.1))).map encZ) ∧ Same (w.alloc (.cells #[.map (some B)] 88)) w' := by
 refine (callsIn_wide (n := 5)).1 ?_;obtain ⟨D, bh, cr, bD⟩ := jb6 (P := Tryz.prog) (K := 2) Tryz.underlying2 (hb.same (kZ0.alloc (.cells #[.map (some B)] 88))) hn (by unfold maxLen; omega) hx
 have pL : SeqGives Fence.wide 2 Tryz.prog 107 #[.pointer (some ⟨w.heap.size, 0, none⟩)] encZ (fun ss => ss.Perm (intKeys D)) (Maps.size D) (w.alloc (.cells #[.map (some B)] 88)) :=
  AnyZI.keys_gives (ρ := Tryz.keysB_ren) { Tryz.keysB with } Fence.wide _ trivial rfl (by omega) w.heap.size B kv.length D _ (by simp) (by simp) bh
 have cS := AnyZI.sorted_in Tryz.sortedA Fence.wide 5 trivial trivial trivial trivial rfl (by omega) (jd4 _) (enters_of Tryz.func105 (by kernel_rfl) rfl) 107 #[.pointer (some ⟨w.heap.size, 0, none⟩)] trivial (enters_of Tryz.func107 (by kernel_rfl) rfl) _ _ (by rw [bD]; unfold maxLen; omega) (by rw [bD]; omega) _ pL;refine CallsIn.mono cS ?_;rintro e w' ⟨v, ss, rfl, hS, aX, _, Bi⟩;have hp := hS.trans cr;refine ⟨v, rfl, ?_, YW Bi⟩
 have h1 : ss.length = kv.length := by rw [hp.length_eq, List.length_map]
 have h2 : ss.mergeSort (fun x y => decide (x ≤ y)) = Xt (kv.map (·.1)) := mergeSort_of_perm_i hp;rw [h1, h2, World.size_alloc] at aX;exact aX
theorem jfk (B : Option Nat) (w : World) : Calls Tryz.prog 108 #[.map B] w fun e w' => e = .returned (.func (.func 130) #[] #[.pointer (some ⟨w.heap.size, 0, none⟩)]) ∧ w' = w.alloc (.cells #[.map B] 86) :=
 (callsIn_wide (n := 5)).1 (AnyZI.keys_in Tryz.keysC Fence.wide 5 trivial rfl B w)
theorem jcY (w : World) (B ck : Nat) (kv : List KV) (hb : MapB w B kv ck) (hn : KVok kv ck) (hl : kv.length ≤ 1000000) (hx : ∀ e ∈ kv, -9223372036854775808 ≤ e.1 ∧ e.1 ≤ 9223372036854775807) :
  Calls Tryz.prog 70 #[.func (.func 130) #[] #[.pointer (some ⟨w.heap.size, 0, none⟩)]] (w.alloc (.cells #[.map (some B)] 86)) fun e w' => ∃ v : Value, e = .returned v ∧ w'.ownsRow (w.heap.size + 1) 2 1 v kv.length ((Xt (kv.map (·.1))).map encZ) ∧ Same (w.alloc (.cells #[.map (some B)] 86)) w' := by
 refine (callsIn_wide (n := 5)).1 ?_;obtain ⟨D, bh, cr, bD⟩ := jb6 (P := Tryz.prog) (K := 2) Tryz.underlying2 (hb.same (kZ0.alloc (.cells #[.map (some B)] 86))) hn (by unfold maxLen; omega) hx
 have pL : SeqGives Fence.wide 2 Tryz.prog 130 #[.pointer (some ⟨w.heap.size, 0, none⟩)] encZ (fun ss => ss.Perm (intKeys D)) (Maps.size D) (w.alloc (.cells #[.map (some B)] 86)) :=
  AnyZI.keys_gives (ρ := Tryz.keysC_ren) { Tryz.keysC with } Fence.wide _ trivial rfl (by omega) w.heap.size B kv.length D _ (by simp) (by simp) bh
 have cS := AnyZI.sorted_in Tryz.sortedA Fence.wide 5 trivial trivial trivial trivial rfl (by omega) (jd4 _) (enters_of Tryz.func105 (by kernel_rfl) rfl) 130 #[.pointer (some ⟨w.heap.size, 0, none⟩)] trivial (enters_of Tryz.func130 (by kernel_rfl) rfl) _ _ (by rw [bD]; unfold maxLen; omega) (by rw [bD]; omega) _ pL;refine CallsIn.mono cS ?_;rintro e w' ⟨v, ss, rfl, hS, aX, _, Bi⟩;have hp := hS.trans cr;refine ⟨v, rfl, ?_, YW Bi⟩
 have h1 : ss.length = kv.length := by rw [hp.length_eq, List.length_map]
 have h2 : ss.mergeSort (fun x y => decide (x ≤ y)) = Xt (kv.map (·.1)) := mergeSort_of_perm_i hp;rw [h1, h2, World.size_alloc] at aX;exact aX
end Go.Proofs.YtljfcdkhicffcaaGreat
