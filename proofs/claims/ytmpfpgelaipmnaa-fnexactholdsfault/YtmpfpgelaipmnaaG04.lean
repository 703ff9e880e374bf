import Derived.Test.YtmpfpgelaipmnaaG00
import Derived.Deep.DeepCutAuto
import Derived.Deep.RegionHeld3
namespace Go.Proofs.Ytmpfpgelaipmnaa
set_option maxRecDepth 100000
set_option maxHeartbeats 4000000
set_option linter.unusedVariables false
set_option linter.unusedSimpArgs false
open Go.ChangeShapes Go.WideShapes Go.ChangeAt Go.RowKit
theorem flatF_length (f : Nat → List Int) (m : Nat) : ∀ n, (∀ i, i < n → (f i).length = m) → ((List.range n).flatMap f).length = n * m
 | 0, _ => by simp
 | n + 1, h => by
  rw [List.range_succ, List.flatMap_append, List.length_append, flatF_length f m n (fun i hi => h i (by omega))]
  simp [h n (by omega), Nat.succ_mul]
theorem flatF_at (f : Nat → List Int) (m : Nat) : ∀ n, 0 < m → (∀ i, i < n → (f i).length = m) → ∀ i, i < n * m → ((List.range n).flatMap f).getD i 0 = (f (i / m)).getD (i % m) 0
 | 0, _, _, i, hi => by simp at hi
 | n + 1, hm, h, i, hi => by
  rw [List.range_succ, List.flatMap_append]
  have hl := flatF_length f m n (fun i hi => h i (by omega))
  by_cases h1 : i < n * m
  ·have h2 := flatF_at f m n hm (fun i hi => h i (by omega)) i h1
   rw [← h2]
   simp only [List.getD]
   rw [List.getElem?_append_left (by omega)]
  ·have h3 : i < n * m + m := by rw [Nat.succ_mul] at hi; exact hi
   have hd : i / m = n := by
    rw [Nat.div_eq_iff hm]
    constructor <;> omega
   have hmod : i % m = i - n * m := by
    have := Nat.div_add_mod i m
    rw [hd, Nat.mul_comm] at this
    omega
   rw [hd, hmod]
   simp only [List.getD]
   rw [List.getElem?_append_right (by omega), hl]
   simp
section
variable {H : Type} {enc : TypeId × Value → H} {w : World} {base : Nat} {spare : Nat → Bool} {held : Bool}
theorem read_flatB {t e : TypeId} {m : Nat} (hm0 : 0 < m) (ht : Try.prog.underlying t = some (.slice e)) (hc : Try.prog.cellsOf e = m)
  (he : ∀ (n : Nat) (cs : List Value) (x : DataW H × List MemPlace), DataW.trod enc Try.prog w base spare held n e cs = some x → ∃ ns : List Int, cs = vals .i64 ns ∧ ns.length = m ∧ ∀ z ∈ ns, IsI z)
  {fuel : Nat} {v : Value} {x : DataW H × List MemPlace} (h : DataW.trod enc Try.prog w base spare held fuel t [v] = some x) : ∃ y : FR, v = y.v ∧ RdF m w y ∧ ∀ z ∈ y.bs, IsI z := by
 rcases Deep.open_slice ht h with ⟨hcs, _⟩ | ⟨a, len, cap, m', n, D, Pl, hcs, hb, hl, hm, hmm, _, hx⟩
 ·simp at hcs
  subst hcs
  exact ⟨⟨0, none, 0, 0, []⟩, rfl, ⟨Nat.zero_le _, by simp, .inl rfl⟩, fun z hz => by simp at hz⟩
 ·simp at hcs
  subst hcs
  have hlm : len ≤ m' := by rw [hmm]; split <;> omega
  have each : ∀ i, i < len → ∃ ns : List Int, (ns.length = m ∧ ∀ z ∈ ns, IsI z) ∧ ∀ j, j < m → w.cell? ((a.add (i * m)).add j) = some (.int .i64 (ns.getD j 0)) := fun i hi => by
   obtain ⟨cs', h1, h2⟩ := hx i (by omega)
   rw [hc] at h1
   obtain ⟨_, hlen, hcell⟩ := World.cells?_some h1
   obtain ⟨ns, rfl, hns, hbb⟩ := he _ _ _ h2
   refine ⟨ns, ⟨hns, hbb⟩, fun j hj => ?_⟩
   have := hcell j (by omega)
   rw [this, vals_at _ _ _ (by omega)]
  obtain ⟨f, hf⟩ := Deep.choose_lt each
  by_cases h0 : len = 0
  ·subst h0
   exact ⟨⟨0, some a, 0, cap, []⟩, rfl, ⟨Nat.zero_le _, by simp, .inl rfl⟩, fun z hz => by simp at hz⟩
  ·have ha : ∃ b off, a = ⟨b, off, none⟩ := by
    have h1 := (hf 0 (by omega)).2 0 hm0
    rw [Nat.zero_mul] at h1
    have e0 : a.add 0 = a := by cases a; simp [Addr.add]
    rw [e0] at h1
    exact addr_form (a := a) h1
   obtain ⟨b, off, rfl⟩ := ha
   refine ⟨⟨0, some ⟨b, off, none⟩, len, cap, (List.range len).flatMap f⟩, rfl, ⟨by dsimp only; omega, ?_, .inr ⟨b, off, rfl, hl, fun i hi => ?_⟩⟩, fun z hz => ?_⟩
   ·dsimp only
    exact flatF_length f m len (fun i hi => (hf i hi).1.1)
   ·dsimp only at hi ⊢
    have hdiv : i / m < len := (Nat.div_lt_iff_lt_mul hm0).2 hi
    have h1 := (hf (i / m) hdiv).2 (i % m) (Nat.mod_lt _ hm0)
    rw [add_none, add_none] at h1
    rw [flatF_at f m len hm0 (fun i hi => (hf i hi).1.1) i hi]
    have e : off + i = off + i / m * m + i % m := by
     have := Nat.div_add_mod i m
     rw [Nat.mul_comm] at this
     omega
    rw [e]
    exact h1
   ·dsimp only at hz
    obtain ⟨i, hi, hz⟩ := List.mem_flatMap.1 hz
    exact (hf i (List.mem_range.1 hi)).1.2 z hz
theorem ints_cellsB {e : TypeId} {fs : Array Field} (m : Nat) (hs : Try.prog.underlying e = some (.struct fs)) (hsz : fs.size = m) (hc : Try.prog.cellsOf e = m)
  (hf : ∀ (i : Nat) (f : Field), fs[i]? = some f → f.type = 2 ∧ f.offset = i) (n : Nat) (cs : List Value) (x : DataW H × List MemPlace) (h : DataW.trod enc Try.prog w base spare held n e cs = some x) :
  ∃ ns : List Int, cs = vals .i64 ns ∧ ns.length = m ∧ ∀ z ∈ ns, IsI z := by
 obtain ⟨xs, k, _, _, hl, hxl, hg⟩ := DataW.trod_struct hs h
 have each : ∀ i, i < m → ∃ z : Int, IsI z ∧ cs[i]? = some (.int .i64 z) := fun i hi => by
  have hi' : i < fs.size := by omega
  obtain ⟨h1, h2⟩ := hf i fs[i] (by simp [hi'])
  have h3 := hg i fs[i] (by simp [hi'])
  rw [h1, h2, show Try.prog.cellsOf 2 = 1 from by kernel_rfl] at h3
  have h4 : xs[i]? = some xs[i] := by simp [hxl, hi']
  rw [h4] at h3
  obtain ⟨z, hz, _, hwf⟩ := DataW.trod_int Try.underlying2 h3
  refine ⟨z, int_bounds hwf, ?_⟩
  have h5 := congrArg (fun l => l[0]?) hz
  simpa [List.getElem?_take, List.getElem?_drop] using h5
 obtain ⟨g, hg2⟩ := Deep.choose_lt each
 refine ⟨(List.range m).map g, ?_, by simp, fun z hz => by obtain ⟨i, hi, rfl⟩ := List.mem_map.1 hz; exact (hg2 i (List.mem_range.1 hi)).1⟩
 apply List.ext_getElem?
 intro i
 by_cases hi : i < m
 ·rw [(hg2 i hi).2]
  simp [vals, hi]
 ·rw [List.getElem?_eq_none (by rw [hl, hc]; omega), List.getElem?_eq_none (by simp [vals]; omega)]
theorem open_holdS {r : Reach} {b0 : Nat} {v : Value} {d : DataW H} {p : List MemPlace} (hv : Value.okWide Try.prog w r b0 32 v) (h : DataW.Trod enc Try.prog w base spare held 32 v d p) : ∃ x : FR, v = x.v ∧ RdF 3 w x ∧ ∀ z ∈ x.bs, IsI z := by
 obtain ⟨a, l, c, rfl⟩ := okWide_slice Try.underlying32 hv
 obtain ⟨n, hm⟩ := h
 exact read_flatB (m := 3) (by decide) Try.underlying32 (by kernel_rfl) (ints_cellsB 3 Try.underlying47 rfl (by kernel_rfl) (fun i f hi => by
  match i, hi with
  | 0, hi => simp at hi; subst hi; exact ⟨rfl, rfl⟩
  | 1, hi => simp at hi; subst hi; exact ⟨rfl, rfl⟩
  | 2, hi => simp at hi; subst hi; exact ⟨rfl, rfl⟩
  | j + 3, hi => simp at hi)) hm
end
theorem isTxn8_any (x : Int) (w : World) : Calls Try.prog 39 #[.int .i64 x] w fun e w' => e = .returned (.bool (inB x 1 2147483647)) ∧ w' = w := by
 unfold inB
 by_cases h : 1 ≤ x
 ·by_cases h2 : x ≤ 2147483647
  ·go_enter Try.func39, Try.ntmps39
   go_wp2
   go_ret
   exact ⟨by simp [h, h2], rfl⟩
  ·go_enter Try.func39, Try.ntmps39
   go_wp2
   go_ret
   exact ⟨by simp [h]; try omega, rfl⟩
 ·go_enter Try.func39, Try.ntmps39
  go_wp2
  go_ret
  exact ⟨by rw [show decide (1 ≤ x) = false from by simp; omega]; rfl, rfl⟩
theorem isId8_any (x : Int) (w : World) : Calls Try.prog 40 #[.int .i64 x] w fun e w' => e = .returned (.bool (inB x 0 511)) ∧ w' = w := by
 unfold inB
 by_cases h : 0 ≤ x
 ·by_cases h2 : x ≤ 511
  ·go_enter Try.func40, Try.ntmps40
   go_wp2
   go_ret
   exact ⟨by simp [h]; try omega, rfl⟩
  ·go_enter Try.func40, Try.ntmps40
   go_wp2
   go_ret
   exact ⟨by simp [h]; try omega, rfl⟩
 ·go_enter Try.func40, Try.ntmps40
  go_wp2
  go_ret
  exact ⟨by rw [show decide (0 ≤ x) = false from by simp; omega]; rfl, rfl⟩
theorem isNaN8_any (x : Int) (w : World) : Calls Try.prog 53 #[.int .i64 x] w fun e w' => e = .returned (.bool false) ∧ w' = w := by
 go_enter Try.func53, Try.ntmps53
 go_wp2
 go_ret
 exact ⟨by simp, rfl⟩
def cmpI (x y : Int) : Int := if x < y then -1 else if y < x then 1 else 0
theorem compare8_any (x y : Int) (w : World) : Calls Try.prog 50 #[.int .i64 x, .int .i64 y] w fun e w' => e = .returned (.int .i64 (cmpI x y)) ∧ w' = w := by
 have k0 := isNaN8_any x
 have k1 := isNaN8_any y
 unfold cmpI
 by_cases h : x < y
 ·rw [if_pos h]
  go_enter Try.func50, Try.ntmps50
  go_wp2_with fail
  refine (k0 _).mono ?_
  rintro e w1 ⟨rfl, rfl⟩
  go_wp2_with fail
  refine (k1 _).mono ?_
  rintro e w1 ⟨rfl, rfl⟩
  go_wp2
  go_ret
  exact ⟨rfl, rfl⟩
 ·rw [if_neg h]
  by_cases h2 : y < x
  ·rw [if_pos h2]
   go_enter Try.func50, Try.ntmps50
   go_wp2_with fail
   refine (k0 _).mono ?_
   rintro e w1 ⟨rfl, rfl⟩
   go_wp2_with fail
   refine (k1 _).mono ?_
   rintro e w1 ⟨rfl, rfl⟩
   go_wp2
   go_ret
   exact ⟨rfl, rfl⟩
  ·rw [if_neg h2]
   go_enter Try.func50, Try.ntmps50
   go_wp2_with fail
   refine (k0 _).mono ?_
   rintro e w1 ⟨rfl, rfl⟩
   go_wp2_with fail
   refine (k1 _).mono ?_
   rintro e w1 ⟨rfl, rfl⟩
   go_wp2
   go_ret
   exact ⟨rfl, rfl⟩
def idxF3 (f : T3 → Bool) : Nat → List T3 → Int
 | _, [] => -1
 | k, p :: ps => if f p = true then (k : Int) else idxF3 f (k + 1) ps
theorem idxF3_at {f : T3 → Bool} {ps : List T3} {k : Nat} (hk : k < ps.length) :
  idxF3 f k (ps.drop k) = if f ps[k] = true then (k : Int) else idxF3 f (k + 1) (ps.drop (k + 1)) := by
 rw [List.drop_eq_getElem_cons hk]
 rfl
theorem idxF3_end {f : T3 → Bool} {ps : List T3} : idxF3 f ps.length (ps.drop ps.length) = -1 := by
 rw [List.drop_length]
 rfl
theorem idxF3_any (f : T3 → Bool) (ps : List T3) (k : Nat) : decide (0 ≤ idxF3 f k ps) = ps.any f := by
 induction ps generalizing k with
 | nil => rfl
 | cons p ps ih =>
  rw [List.any_cons]
  by_cases h : f p = true
  ·have e : idxF3 f k (p :: ps) = k := if_pos h
   rw [e, h]; simp
  ·have e : idxF3 f k (p :: ps) = idxF3 f (k + 1) ps := if_neg h
   rw [e, ih (k + 1), show f p = false from by simpa using h]; simp
def Enters8 (fid : FuncId) : Prop := ∀ (args : Array Value) (wx : World), (callFunc fid args).run Try.prog wx = .ok (.enter fid args) wx
def Asks3 (fid : FuncId) (f : T3 → Bool) (w : World) (ps : List T3) : Prop :=
 ∀ (p : T3) (wx : World), p ∈ ps → Calls Try.prog fid #[.agg #[.int .i64 p.1, .int .i64 p.2.1, .int .i64 p.2.2]] wx fun e w' => e = .returned (.bool (f p)) ∧ Same wx w'
def Asks33 (fid : FuncId) (f : T3 → T3 → Bool) (ps : List T3) : Prop :=
 ∀ (p q : T3) (wx : World), p ∈ ps → q ∈ ps → Calls Try.prog fid #[.agg #[.int .i64 p.1, .int .i64 p.2.1, .int .i64 p.2.2], .agg #[.int .i64 q.1, .int .i64 q.2.1, .int .i64 q.2.2]] wx fun e w' => e = .returned (.bool (f p q)) ∧ Same wx w'
def hdBad (l : T3) : Bool := !inB l.1 0 511 || !inB l.2.1 1 2147483647 || !inB l.2.2 0 1000
def hdAfter (a b : T3) : Bool := decide (b.1 ≤ a.1)
def holdsF (ls : List T3) : Int := if 512 < ls.length then 1 else if nbr hdAfter ls then 1 else if ls.any hdBad then 2 else 0
theorem holdsF_len {ls : List T3} (h : holdsF ls = 0) : ls.length ≤ 512 := by
 unfold holdsF at h
 by_cases hl : 512 < ls.length
 ·rw [if_pos hl] at h; cases h
 ·omega
theorem specHoldsFault_any (x : FR) (w : World) (hv : RdF 3 w x) :
  Calls Try.prog 19 #[x.v] w fun e w' => e = .returned (.int .i64 (holdsF (tri x.bs))) ∧ Same w w' := by
 obtain ⟨xe, xa, n, xc, bs⟩ := x
 have hm : n ≤ maxLen := hv.1
 unfold maxLen at hm
 have hl := tri_length n bs hv.2.1
 dsimp only [FR.v]
 have HV := hid hv
 clear hv
 obtain ⟨R, hR⟩ : ∃ R, holdsF (tri bs) = R := ⟨_, rfl⟩
 rw [hR]
 unfold holdsF at hR
 by_cases hb : 512 < n
 ·rw [if_pos (by omega)] at hR
  subst hR
  go_enter Try.func19, Try.ntmps19
  go_wp2
  go_ret
  exact ⟨rfl, Kept.refl _ _⟩
 rw [if_neg (by omega)] at hR
 have HR := hid hR
 have HL := hid hl
 clear hR hl
 go_enter Try.func19, Try.ntmps19
 go_wp2_with fail
 go_loopw [3] (fun i wr => ∃ j : Nat, 1 ≤ j ∧ (j ≤ n ∨ j = 1) ∧ i = .int .i64 j ∧ Hid (∀ (i : Nat) (h : i + 1 < (tri bs).length), i + 1 < j → hdAfter (tri bs)[i] (tri bs)[i + 1] = false) ∧ Hid (Same w wr)) (fun i _ => n - (intOf i).toNat)
 case atStart => exact ⟨1, by omega, .inr rfl, rfl, fun i h hj => by omega, Kept.refl _ _⟩
 case round =>
  obtain ⟨j, hj1, hj, rfl, HAr, HKr⟩ := hrel
  by_cases hlt : j < n
  ·obtain ⟨b, off, ha, hc⟩ := HV.out.some (show 0 < n by omega)
   dsimp only at ha hc
   subst ha
   obtain ⟨m, rfl⟩ : ∃ m, j = m + 1 := ⟨j - 1, by omega⟩
   have hla : m < (tri bs).length := by rw [HL.out]; omega
   obtain ⟨⟨x, y, z⟩, hxa⟩ : ∃ q, (tri bs)[m] = q := ⟨_, rfl⟩
   have HXa := hid hxa
   obtain ⟨da0, da1, da2⟩ := (HV.out.same HKr.out).tri m hla _ _ _ hxa
   clear hxa
   have em : ((m + 1 : Nat) : Int) - 1 = (m : Int) := by omega
   have mm : (m : Int) < (n : Int) := by omega
   have hlb : m + 1 < (tri bs).length := by rw [HL.out]; omega
   obtain ⟨⟨x2, y2, z2⟩, hxb⟩ : ∃ q, (tri bs)[m + 1] = q := ⟨_, rfl⟩
   have HXb := hid hxb
   obtain ⟨db0, db1, db2⟩ := (HV.out.same HKr.out).tri (m + 1) hlb _ _ _ hxb
   clear hxb
   by_cases h1 : x2 ≤ x
   ·go_wp2
    go_quiet (fail)
    go_wp2
    go_ret
    exact ⟨by have h := HR.out; rw [if_pos (nbr_yes m hlb (by rw [HXa.out, HXb.out]; simp [hdAfter, h1]))] at h; subst h; rfl, HKr.out.drewN _⟩
   ·go_wp2
    go_quiet (fail)
    go_wp2
    go_roundw
    case rel => exact ⟨m + 1 + 1, by omega, by omega, by go_num, fun i hi hj => by
     by_cases hik : i + 1 < m + 1
     ·exact HAr.out i hi hik
     ·obtain rfl : i = m := by omega
      rw [HXa.out, HXb.out]; simp [hdAfter]; omega, HKr.out.drewN _⟩
    case measure => simp [intOf]; omega
  ·have h := HR.out
   rw [if_neg (by rw [nbr_no (fun i hi => HAr.out i hi (by have := HL.out; omega))]; exact Bool.false_ne_true)] at h
   have HR2 := hid h
   clear h HR HAr
   have HKs := HKr
   clear HKr
   go_wp2_with fail
   go_loopw [4] (fun i wr => ∃ k : Nat, k ≤ n ∧ i = .int .i64 k ∧ Hid (∀ (j : Nat) (h : j < (tri bs).length), j < k → hdBad (tri bs)[j] = false) ∧ Hid (Same w wr)) (fun i _ => n - (intOf i).toNat)
   case atStart => exact ⟨0, Nat.zero_le _, rfl, fun j h hj => by omega, HKs⟩
   case round =>
    obtain ⟨k, hk, rfl, HA, HK⟩ := hrel
    by_cases hlt : k < n
    ·obtain ⟨b, off, ha, hc⟩ := HV.out.some (show 0 < n by omega)
     dsimp only at ha hc
     subst ha
     have hla : k < (tri bs).length := by rw [HL.out]; omega
     obtain ⟨⟨x, y, z⟩, hxa⟩ : ∃ q, (tri bs)[k] = q := ⟨_, rfl⟩
     have HXa := hid hxa
     obtain ⟨da0, da1, da2⟩ := (HV.out.same HK.out).tri (k) hla _ _ _ hxa
     clear hxa
     have HKa := (show Hid (Same w (wr.alloc (.cells #[.int .i64 x, .int .i64 y, .int .i64 z] 45))) from HK.out.alloc _)
     have ba := Blk.newL wr [.int .i64 x, .int .i64 y, .int .i64 z] 45
     have k1 := fun wx => l4In_any x 0 511 wx
     have k2 := fun wx => l4In_any y 1 2147483647 wx
     have k3 := fun wx => l4In_any z 0 1000 wx
     cases f1 : inB x 0 511 with
     | false =>
      rw [f1] at k1
      go_wp2_with fail
      refine (k1 _).mono ?_
      rintro e w1 ⟨rfl, hk1⟩
      have HK1 := hid (HKa.out.trans hk1)
      go_wp2
      go_ret
      exact ⟨by have h := HR2.out; rw [if_pos (any3_yes k hla (by rw [HXa.out]; simp [hdBad, f1]))] at h; subst h; rfl, HK1.out⟩
     | true =>
      rw [f1] at k1
      go_wp2_with fail
      refine (k1 _).mono ?_
      rintro e w1 ⟨rfl, hk1⟩
      have HK1 := hid (HKa.out.trans hk1)
      have b1 := ba.same hk1
      obtain ⟨c10, c11, c12⟩ := b1.all3
      clear hk1
      cases f2 : inB y 1 2147483647 with
      | false =>
       rw [f2] at k2
       go_wp2_with fail
       refine (k2 _).mono ?_
       rintro e w2 ⟨rfl, hk2⟩
       have HK2 := hid (HK1.out.trans hk2)
       go_wp2
       go_ret
       exact ⟨by have h := HR2.out; rw [if_pos (any3_yes k hla (by rw [HXa.out]; simp [hdBad, f1, f2]))] at h; subst h; rfl, HK2.out⟩
      | true =>
       rw [f2] at k2
       go_wp2_with fail
       refine (k2 _).mono ?_
       rintro e w2 ⟨rfl, hk2⟩
       have HK2 := hid (HK1.out.trans hk2)
       have b2 := b1.same hk2
       obtain ⟨c20, c21, c22⟩ := b2.all3
       clear hk2
       cases f3 : inB z 0 1000 with
       | false =>
        rw [f3] at k3
        go_wp2_with fail
        refine (k3 _).mono ?_
        rintro e w3 ⟨rfl, hk3⟩
        have HK3 := hid (HK2.out.trans hk3)
        go_wp2
        go_ret
        exact ⟨by have h := HR2.out; rw [if_pos (any3_yes k hla (by rw [HXa.out]; simp [hdBad, f1, f2, f3]))] at h; subst h; rfl, HK3.out⟩
       | true =>
        rw [f3] at k3
        go_wp2_with fail
        refine (k3 _).mono ?_
        rintro e w3 ⟨rfl, hk3⟩
        have HK3 := hid (HK2.out.trans hk3)
        go_wp2
        go_roundw
        case rel => exact ⟨k + 1, by omega, by go_num, fun j h hj => by
         by_cases hjk : j < k
         ·exact HA.out j h hjk
         ·obtain rfl : j = k := by omega
          rw [HXa.out]; simp [hdBad, f1, f2, f3], HK3⟩
        case measure => simp [intOf]; omega
    ·obtain rfl : k = n := by omega
     have h := HR2.out
     rw [if_neg (by rw [any3_no (fun j hj => HA.out j hj (by rw [← HL.out]; exact hj))]; exact Bool.false_ne_true)] at h
     go_wp2
     go_ret
     exact ⟨by subst h; rfl, HK.out⟩
def holdOf (id : Int) : List T3 → Int
 | [] => -1
 | h :: hs => if h.1 = id then h.2.2 else holdOf id hs
theorem holdOf_at {id : Int} {hs : List T3} {k : Nat} (hk : k < hs.length) : holdOf id (hs.drop k) = if hs[k].1 = id then hs[k].2.2 else holdOf id (hs.drop (k + 1)) := by
 rw [List.drop_eq_getElem_cons hk]
 rfl
theorem specHold_any (x : FR) (id : Int) (w : World) (hv : RdF 3 w x) :
  Calls Try.prog 38 #[x.v, .int .i64 id] w fun e w' => e = .returned (.int .i64 (holdOf id (tri x.bs))) ∧ Same w w' := by
 obtain ⟨xe, xa, n, xc, bs⟩ := x
 have hm : n ≤ maxLen := hv.1
 unfold maxLen at hm
 have hl := tri_length n bs hv.2.1
 dsimp only [FR.v]
 have HV := hid hv
 clear hv
 obtain ⟨R, hR⟩ : ∃ R, holdOf id (tri bs) = R := ⟨_, rfl⟩
 rw [hR]
 have HR := hid hR
 have HL := hid hl
 clear hR hl
 go_enter Try.func38, Try.ntmps38
 go_wp2_with fail
 go_loopw [5] (fun i wr => ∃ k : Nat, k ≤ n ∧ i = .int .i64 k ∧ Hid (holdOf id ((tri bs).drop k) = R) ∧ Hid (Same w wr)) (fun i _ => n - (intOf i).toNat)
 case atStart => exact ⟨0, Nat.zero_le _, rfl, HR, Kept.refl _ _⟩
 case round =>
  obtain ⟨k, hk, rfl, HA, HK⟩ := hrel
  by_cases hlt : k < n
  ·obtain ⟨b, off, ha, hc⟩ := HV.out.some (show 0 < n by omega)
   dsimp only at ha hc
   subst ha
   have hla : k < (tri bs).length := by rw [HL.out]; omega
   obtain ⟨⟨x, y, z⟩, hxa⟩ : ∃ q, (tri bs)[k] = q := ⟨_, rfl⟩
   have HXa := hid hxa
   obtain ⟨da0, da1, da2⟩ := (HV.out.same HK.out).tri (k) hla _ _ _ hxa
   clear hxa
   have HA2 := (show Hid ((if x = id then z else holdOf id ((tri bs).drop (k + 1))) = R) from by have h := HA.out; rw [holdOf_at hla, HXa.out] at h; exact h)
   by_cases h1 : x = id
   ·subst h1
    go_wp2
    go_ret
    exact ⟨by have h := HA2.out; simp only [if_true] at h; subst h; rfl, HK.out⟩
   ·have hne : (x == id) = false := by simp [h1]
    have H1 := hid h1
    go_wp2
    go_roundw
    case rel => exact ⟨k + 1, by omega, by go_num, by unfold Hid; have h := HA2.out; rw [if_neg H1.out] at h; exact h, HK⟩
    case measure => simp [intOf]; omega
  ·obtain rfl : k = n := by omega
   have h := HA.out
   rw [← HL.out, List.drop_length] at h
   go_wp2
   go_ret
   exact ⟨by rw [← h]; rfl, HK.out⟩
def maxI (a b : Int) : Int := if b < a then a else b
theorem specMax_any (a b : Int) (w : World) : Calls Try.prog 37 #[.int .i64 a, .int .i64 b] w fun e w' => e = .returned (.int .i64 (maxI a b)) ∧ Same w w' := by
 unfold maxI
 by_cases h : b < a
 ·rw [if_pos h]
  go_enter Try.func37, Try.ntmps37
  go_wp2
  go_ret
  exact ⟨rfl, Kept.refl _ _⟩
 ·rw [if_neg h]
  go_enter Try.func37, Try.ntmps37
  go_wp2
  go_ret
  exact ⟨rfl, Kept.refl _ _⟩
theorem recLen_any (x : Int) (w : World) : Calls Try.prog 47 #[.int .i64 x] w fun e w' => e = .returned (.bool (inB x 0 1000)) ∧ w' = w := by
 unfold inB
 by_cases h : 0 ≤ x
 ·by_cases h2 : x ≤ 1000
  ·go_enter Try.func47, Try.ntmps47
   go_wp2
   go_ret
   exact ⟨by simp [h]; try omega, rfl⟩
  ·go_enter Try.func47, Try.ntmps47
   go_wp2
   go_ret
   exact ⟨by simp [h]; try omega, rfl⟩
 ·go_enter Try.func47, Try.ntmps47
  go_wp2
  go_ret
  exact ⟨by rw [show decide (0 ≤ x) = false from by simp; omega]; rfl, rfl⟩
theorem isLength_any (x : Int) (w : World) : Calls Try.prog 41 #[.int .i64 x] w fun e w' => e = .returned (.bool (inB x (-1) 1000)) ∧ w' = w := by
 have k0 := recLen_any x
 have he : inB x (-1) 1000 = (decide (x = -1) || inB x 0 1000) := by
  unfold inB
  rw [Bool.eq_iff_iff]
  simp
  omega
 rw [he]
 by_cases h : x = -1
 ·subst h
  go_enter Try.func41, Try.ntmps41
  go_wp2
  go_ret
  exact ⟨by simp, rfl⟩
 ·have h' : (x == -1) = false := by simp [h]
  go_enter Try.func41, Try.ntmps41
  go_wp2_with fail
  refine (k0 _).mono ?_
  rintro e w1 ⟨rfl, rfl⟩
  go_wp2
  go_ret
  exact ⟨by simp [h], rfl⟩
theorem notRisingById_any (p q : T3) (w : World) :
  Calls Try.prog 33 #[.agg #[.int .i64 p.1, .int .i64 p.2.1, .int .i64 p.2.2], .agg #[.int .i64 q.1, .int .i64 q.2.1, .int .i64 q.2.2]] w fun e w' => e = .returned (.bool (hdAfter p q)) ∧ Same w w' := by
 obtain ⟨x, y, z⟩ := p
 obtain ⟨x2, y2, z2⟩ := q
 unfold hdAfter
 dsimp only
 have HB0 := (show Hid (Blk (w.alloc (.cells #[.int .i64 x, .int .i64 y, .int .i64 z] 45)) w.heap.size 45 [.int .i64 x, .int .i64 y, .int .i64 z]) from Blk.newL w _ _)
 have HK0 := hid (sameA w [.int .i64 x, .int .i64 y, .int .i64 z] 45)
 have HB1 := (show Hid (Blk ((w.alloc (.cells #[.int .i64 x, .int .i64 y, .int .i64 z] 45)).alloc (.cells #[.int .i64 x2, .int .i64 y2, .int .i64 z2] 45)) (w.alloc (.cells #[.int .i64 x, .int .i64 y, .int .i64 z] 45)).heap.size 45 [.int .i64 x2, .int .i64 y2, .int .i64 z2]) from Blk.newL _ _ _)
 have HK1 := hid (sameA (w.alloc (.cells #[.int .i64 x, .int .i64 y, .int .i64 z] 45)) [.int .i64 x2, .int .i64 y2, .int .i64 z2] 45)
 obtain ⟨c0, c1, c2⟩ := (HB0.out.same HK1.out).all3
 obtain ⟨d0, d1, d2⟩ := HB1.out.all3
 have HK2 := hid (HK0.out.trans HK1.out)
 rw [World.size_alloc] at d0 d1 d2
 clear c1 c2 d1 d2
 go_enter Try.func33, Try.ntmps33
 go_wp2
 go_ret
 exact ⟨by simp, HK2.out⟩
theorem wrongHold_any (p : T3) (w : World) :
  Calls Try.prog 35 #[.agg #[.int .i64 p.1, .int .i64 p.2.1, .int .i64 p.2.2]] w fun e w' => e = .returned (.bool (hdBad p)) ∧ Same w w' := by
 obtain ⟨B, hB⟩ : ∃ B, hdBad p = B := ⟨_, rfl⟩
 rw [hB]
 unfold hdBad at hB
 obtain ⟨x, y, z⟩ := p
 dsimp only at hB ⊢
 have HB0 := (show Hid (Blk (w.alloc (.cells #[.int .i64 x, .int .i64 y, .int .i64 z] 45)) w.heap.size 45 [.int .i64 x, .int .i64 y, .int .i64 z]) from Blk.newL w _ _)
 have HK0 := hid (sameA w [.int .i64 x, .int .i64 y, .int .i64 z] 45)
 obtain ⟨c0, c1, c2⟩ := HB0.out.all3
 have k0 := isId8_any x
 have k1 := isTxn8_any y
 have k2 := recLen_any z
 cases f0 : inB x 0 511 with
 | false =>
  rw [f0] at k0 hB
  subst hB
  go_enter Try.func35, Try.ntmps35
  go_wp2_with fail
  refine (k0 _).mono ?_
  rintro e w1 ⟨rfl, rfl⟩
  go_wp2
  go_ret
  exact ⟨by simp, HK0.out⟩
 | true =>
 rw [f0] at k0 hB
 cases f1 : inB y 1 2147483647 with
 | false =>
  rw [f1] at k1 hB
  subst hB
  go_enter Try.func35, Try.ntmps35
  go_wp2_with fail
  refine (k0 _).mono ?_
  rintro e w1 ⟨rfl, rfl⟩
  go_wp2_with fail
  refine (k1 _).mono ?_
  rintro e w1 ⟨rfl, rfl⟩
  go_wp2
  go_ret
  exact ⟨by simp, HK0.out⟩
 | true =>
 rw [f1] at k1 hB
 cases f2 : inB z 0 1000 with
 | false =>
  rw [f2] at k2 hB
  subst hB
  go_enter Try.func35, Try.ntmps35
  go_wp2_with fail
  refine (k0 _).mono ?_
  rintro e w1 ⟨rfl, rfl⟩
  go_wp2_with fail
  refine (k1 _).mono ?_
  rintro e w1 ⟨rfl, rfl⟩
  go_wp2_with fail
  refine (k2 _).mono ?_
  rintro e w1 ⟨rfl, rfl⟩
  go_wp2
  go_ret
  exact ⟨by simp, HK0.out⟩
 | true =>
  rw [f2] at k2 hB
  subst hB
  go_enter Try.func35, Try.ntmps35
  go_wp2_with fail
  refine (k0 _).mono ?_
  rintro e w1 ⟨rfl, rfl⟩
  go_wp2_with fail
  refine (k1 _).mono ?_
  rintro e w1 ⟨rfl, rfl⟩
  go_wp2_with fail
  refine (k2 _).mono ?_
  rintro e w1 ⟨rfl, rfl⟩
  go_wp2
  go_ret
  exact ⟨by simp, HK0.out⟩
theorem indexH_any (fid : FuncId) (f : T3 → Bool) (x : FR) (w : World) (hv : RdF 3 w x) (hent : Enters8 fid) (hf : Asks3 fid f w (tri x.bs)) :
  Calls Try.prog 46 #[x.v, .func (.func fid) #[] #[]] w fun e w' => e = .returned (.int .i64 (idxF3 f 0 (tri x.bs))) ∧ Same w w' := by
 obtain ⟨xe, xa, n, xc, bs⟩ := x
 have hm : n ≤ maxLen := hv.1
 unfold maxLen at hm
 have hl := tri_length n bs hv.2.1
 dsimp only [FR.v] at hf ⊢
 have HV := hid hv
 have HF : Hid (Asks3 fid f w (tri bs)) := hf
 obtain ⟨R, hR⟩ : ∃ R, idxF3 f 0 (tri bs) = R := ⟨_, rfl⟩
 have HR : Hid (idxF3 f 0 ((tri bs).drop 0) = R) := by rw [List.drop_zero]; exact hR
 rw [hR]
 have HL := hid hl
 clear hv hf hR hl
 have hent' : ∀ (args : Array Value) (wx : World), (callFunc fid args).run Try.prog wx = .ok (.enter fid args) wx := hent
 clear hent
 go_enter Try.func46, Try.ntmps46
 go_wp2
 go_loopw [8] (fun i wr => ∃ k : Nat, k ≤ n ∧ i = .int .i64 k ∧ Hid (idxF3 f k ((tri bs).drop k) = R) ∧ Hid (Same w wr)) (fun i _ => n - (intOf i).toNat)
 case atStart => exact ⟨0, Nat.zero_le _, rfl, HR, Kept.refl _ _⟩
 case round =>
  obtain ⟨k, hk, rfl, HA, HK⟩ := hrel
  by_cases hlt : k < n
  ·obtain ⟨b, off, ha, hc⟩ := HV.out.some (show 0 < n by omega)
   dsimp only at ha hc
   subst ha
   have hla : k < (tri bs).length := by rw [HL.out]; omega
   have HA2 : Hid ((if f (tri bs)[k] = true then (k : Int) else idxF3 f (k + 1) ((tri bs).drop (k + 1))) = R) := by have h := HA.out; rw [idxF3_at hla] at h; exact h
   have kf := HF.out (tri bs)[k] wr (List.getElem_mem hla)
   obtain ⟨⟨x, y, z⟩, hxa⟩ : ∃ q, (tri bs)[k] = q := ⟨_, rfl⟩
   obtain ⟨da0, da1, da2⟩ := (HV.out.same HK.out).tri k hla _ _ _ hxa
   rw [hxa] at kf HA2
   dsimp only at kf
   cases hb : f (x, y, z) with
   | true =>
    have HE : Hid ((k : Int) = R) := by have h := HA2.out; rw [if_pos hb] at h; exact h
    rw [hb] at kf
    clear HA2 HA hb hxa
    go_wp2_with fail
    refine kf.mono ?_
    rintro e w1 ⟨rfl, hk1⟩
    have HK1 := hid (HK.out.trans hk1)
    clear da0 da1 da2 kf hk1
    go_wp2
    go_ret
    exact ⟨by rw [← HE.out]; rfl, HK1.out⟩
   | false =>
    have HE : Hid (idxF3 f (k + 1) ((tri bs).drop (k + 1)) = R) := by have h := HA2.out; rw [if_neg (by simp [hb])] at h; exact h
    rw [hb] at kf
    clear HA2 HA hb hxa
    go_wp2_with fail
    refine kf.mono ?_
    rintro e w1 ⟨rfl, hk1⟩
    have HK1 := hid (HK.out.trans hk1)
    clear da0 da1 da2 kf hk1
    go_wp2
    go_roundw
    case rel => exact ⟨k + 1, by omega, by go_num, HE, HK1⟩
    case measure => simp [intOf]; omega
  ·obtain rfl : n = k := by omega
   have he : (-1 : Int) = R := by have h := HA.out; rw [← HL.out, idxF3_end] at h; exact h
   go_wp2
   go_ret
   exact ⟨by rw [← he]; rfl, HK.out⟩
theorem containsH_any (fid : FuncId) (f : T3 → Bool) (x : FR) (w : World) (hv : RdF 3 w x) (hent : Enters8 fid) (hf : Asks3 fid f w (tri x.bs)) :
  Calls Try.prog 34 #[x.v, .func (.func fid) #[] #[]] w fun e w' => e = .returned (.bool ((tri x.bs).any f)) ∧ Same w w' := by
 have k0 := indexH_any fid f x w hv hent hf
 have hx := idxF3_any f (tri x.bs) 0
 obtain ⟨xe, xa, n, xc, bs⟩ := x
 dsimp only [FR.v] at k0 hx ⊢
 generalize idxF3 f 0 (tri bs) = r at k0 hx
 rw [← hx]
 clear hx hv hf hent
 go_enter Try.func34, Try.ntmps34
 go_wp2_with fail
 refine k0.mono ?_
 rintro e w1 ⟨rfl, hk1⟩
 go_wp2
 go_ret
 exact ⟨rfl, hk1⟩
theorem anyNeighboursH_any (fid : FuncId) (f : T3 → T3 → Bool) (x : FR) (w : World) (hv : RdF 3 w x) (hent : Enters8 fid) (hf : Asks33 fid f (tri x.bs)) :
  Calls Try.prog 32 #[x.v, .func (.func fid) #[] #[]] w fun e w' => e = .returned (.bool (nbr f (tri x.bs))) ∧ Same w w' := by
 obtain ⟨xe, xa, n, xc, bs⟩ := x
 have hm : n ≤ maxLen := hv.1
 unfold maxLen at hm
 have hl := tri_length n bs hv.2.1
 dsimp only [FR.v] at hf ⊢
 have HV := hid hv
 have HF : Hid (Asks33 fid f (tri bs)) := hf
 obtain ⟨R, hR⟩ : ∃ R, nbr f (tri bs) = R := ⟨_, rfl⟩
 have HR := hid hR
 rw [hR]
 have HL := hid hl
 clear hv hf hR hl
 have hent' : ∀ (args : Array Value) (wx : World), (callFunc fid args).run Try.prog wx = .ok (.enter fid args) wx := hent
 clear hent
 go_enter Try.func32, Try.ntmps32
 go_wp2
 go_loopw [5] (fun i wr => ∃ k : Nat, (k ≤ n ∨ k = 1) ∧ 1 ≤ k ∧ i = .int .i64 k ∧ Hid (∀ (j : Nat) (h : j + 1 < (tri bs).length), j + 1 < k → f (tri bs)[j] (tri bs)[j + 1] = false) ∧ Hid (Same w wr)) (fun i _ => n - (intOf i).toNat)
 case atStart => exact ⟨1, .inr rfl, Nat.le_refl _, rfl, fun j h hj => by omega, Kept.refl _ _⟩
 case round =>
  obtain ⟨k, hk, hk1, rfl, HA, HK⟩ := hrel
  by_cases hlt : k < n
  ·obtain ⟨b, off, ha, hc⟩ := HV.out.some (show 0 < n by omega)
   dsimp only at ha hc
   subst ha
   obtain ⟨k0, rfl⟩ : ∃ k0, k = k0 + 1 := ⟨k - 1, by omega⟩
   have hla : k0 < (tri bs).length := by rw [HL.out]; omega
   have hlb : k0 + 1 < (tri bs).length := by rw [HL.out]; omega
   have hcell : ∀ wx, Same wr wx → RdF 3 wx ⟨xe, some ⟨b, off, none⟩, n, xc, bs⟩ := fun wx h => HV.out.same (HK.out.trans h)
   have kf := fun wx => HF.out (tri bs)[k0] (tri bs)[k0 + 1] wx (List.getElem_mem hla) (List.getElem_mem hlb)
   obtain ⟨⟨x, y, z⟩, hxa⟩ : ∃ q, (tri bs)[k0] = q := ⟨_, rfl⟩
   obtain ⟨⟨x2, y2, z2⟩, hxb⟩ : ∃ q, (tri bs)[k0 + 1] = q := ⟨_, rfl⟩
   obtain ⟨da0, da1, da2⟩ := (HV.out.same HK.out).tri k0 hla _ _ _ hxa
   obtain ⟨db0, db1, db2⟩ := (HV.out.same HK.out).tri (k0 + 1) hlb _ _ _ hxb
   rw [hxa, hxb] at kf
   dsimp only at kf
   have hi1 : ((k0 + 1 : Nat) : Int) - 1 = (k0 : Int) := by omega
   have hw0 : IntKind.i64.wrap (k0 : Int) = (k0 : Int) := by rw [IntKind.wrap_i64]; omega
   have HXA := hid hxa
   have HXB := hid hxb
   clear hxa hxb
   cases hb : f (x, y, z) (x2, y2, z2) with
   | true =>
    rw [hb] at kf
    have HE : Hid (R = true) := by
     have h := HR.out
     rw [nbr_yes k0 hlb (by rw [HXA.out, HXB.out]; exact hb)] at h
     exact h.symm
    clear HA hb
    go_wp2_with fail
    let Y1 : World → Prop := fun wx : World => wx.cell? ⟨b, off + k0 * 3, none⟩ = some (.int .i64 x) ∧ wx.cell? ⟨b, off + k0 * 3 + 1, none⟩ = some (.int .i64 y) ∧ wx.cell? ⟨b, off + k0 * 3 + 2, none⟩ = some (.int .i64 z) ∧ wx.cell? ⟨b, off + (k0 + 1) * 3, none⟩ = some (.int .i64 x2) ∧ wx.cell? ⟨b, off + (k0 + 1) * 3 + 1, none⟩ = some (.int .i64 y2) ∧ wx.cell? ⟨b, off + (k0 + 1) * 3 + 2, none⟩ = some (.int .i64 z2)
    have hS : Y1 wr.drew := by exact ⟨da0, da1, da2, db0, db1, db2⟩
    refine wp_region_V Y1 99 11 rfl (by kernel_rfl) ?_
    refine wpAnyV_tk 0 12 (v := ?vq11) ?hyq11 hS ?_
    case hyq11 => (intro w hSw; (try dsimp (config := { zetaDelta := true }) only at hSw); go_simp; (try with_reducible rfl))
    try simp only [Act.put, sA, s0, sS]
    refine wpAnyV_tk 1 13 (v := ?vq12) ?hyq12 hS ?_
    case hyq12 => (intro w hSw; (try dsimp (config := { zetaDelta := true }) only at hSw); go_simp; (try with_reducible rfl))
    try simp only [Act.put, sA, s0, sS]
    refine wpAnyV_tk 2 14 (v := ?vq13) ?hyq13 hS ?_
    case hyq13 => (intro w hSw; (try dsimp (config := { zetaDelta := true }) only at hSw); go_simp; (try with_reducible rfl))
    try simp only [Act.put, sA, s0, sS]
    refine wpAnyV_tk 3 15 (v := ?vq14) ?hyq14 hS ?_
    case hyq14 => (intro w hSw; (try dsimp (config := { zetaDelta := true }) only at hSw); go_simp; (try with_reducible rfl))
    try simp only [Act.put, sA, s0, sS]
    refine wpAnyV_tk 4 16 (v := ?vq15) ?hyq15 hS ?_
    case hyq15 => (intro w hSw; (try dsimp (config := { zetaDelta := true }) only at hSw); go_simp; rw [if_pos (by omega)]; (try with_reducible rfl))
    try simp only [Act.put, sA, s0, sS]
    refine wpAnyV_tk 5 17 (v := ?vq16) ?hyq16 hS ?_
    case hyq16 => (intro w hSw; (try dsimp (config := { zetaDelta := true }) only at hSw); go_simp; (try with_reducible rfl))
    try simp only [Act.put, sA, s0, sS]
    refine wpAnyV_tk 6 18 (v := ?vq17) ?hyq17 hS ?_
    case hyq17 => (intro w hSw; (try dsimp (config := { zetaDelta := true }) only at hSw); go_simp; (try with_reducible rfl))
    try simp only [Act.put, sA, s0, sS]
    refine wpAnyV_tk 7 19 (v := ?vq18) ?hyq18 hS ?_
    case hyq18 => (intro w hSw; (try dsimp (config := { zetaDelta := true }) only at hSw); go_simp; (try with_reducible rfl))
    try simp only [Act.put, sA, s0, sS]
    refine wpAnyV_tk 8 20 (v := ?vq19) ?hyq19 hS ?_
    case hyq19 => (intro w hSw; (try dsimp (config := { zetaDelta := true }) only at hSw); go_simp; rw [if_pos (by omega)]; (try with_reducible rfl))
    try simp only [Act.put, sA, s0, sS]
    refine wpAnyV_tk 9 21 (v := ?vq20) ?hyq20 hS ?_
    case hyq20 => (intro w hSw; (try dsimp (config := { zetaDelta := true }) only at hSw); go_simp; (try with_reducible rfl))
    try simp only [Act.put, sA, s0, sS]
    refine wpAnyV_one (i := 10) (by kernel_rfl) rfl (fun K hK => ?_)
    go_simp
    refine (kf _).mono ?_
    rintro e w1 ⟨rfl, hk1⟩
    have hS : Y1 w1 := by exact ⟨hk1.cellOf da0 id, hk1.cellOf da1 id, hk1.cellOf da2 id, hk1.cellOf db0 id, hk1.cellOf db1 id, hk1.cellOf db2 id⟩
    refine hK.out _ _ (fun _ => hS) ?_
    clear hK K
    try simp only [Act.put, sA, s0, sS]
    refine wpAnyV_done (by kernel_rfl) ?_
    have HK1 := hid (HK.out.drew.trans hk1)
    clear da0 da1 da2 db0 db1 db2 kf hk1
    go_wp2
    go_ret
    exact ⟨by rw [HE.out]; rfl, HK1.out⟩
   | false =>
    rw [hb] at kf
    have HE : Hid (∀ (j : Nat) (h : j + 1 < (tri bs).length), j + 1 < k0 + 1 + 1 → f (tri bs)[j] (tri bs)[j + 1] = false) := fun j h hj => by
     by_cases e : j = k0
     ·subst e
      rw [HXA.out, HXB.out]
      exact hb
     ·exact HA.out j h (by omega)
    clear HA hb
    go_wp2_with fail
    let Y2 : World → Prop := fun wx : World => wx.cell? ⟨b, off + k0 * 3, none⟩ = some (.int .i64 x) ∧ wx.cell? ⟨b, off + k0 * 3 + 1, none⟩ = some (.int .i64 y) ∧ wx.cell? ⟨b, off + k0 * 3 + 2, none⟩ = some (.int .i64 z) ∧ wx.cell? ⟨b, off + (k0 + 1) * 3, none⟩ = some (.int .i64 x2) ∧ wx.cell? ⟨b, off + (k0 + 1) * 3 + 1, none⟩ = some (.int .i64 y2) ∧ wx.cell? ⟨b, off + (k0 + 1) * 3 + 2, none⟩ = some (.int .i64 z2)
    have hS : Y2 wr.drew := by exact ⟨da0, da1, da2, db0, db1, db2⟩
    refine wp_region_V Y2 99 11 rfl (by kernel_rfl) ?_
    refine wpAnyV_tk 0 12 (v := ?vr11) ?hyr11 hS ?_
    case hyr11 => (intro w hSw; (try dsimp (config := { zetaDelta := true }) only at hSw); go_simp; (try with_reducible rfl))
    try simp only [Act.put, sA, s0, sS]
    refine wpAnyV_tk 1 13 (v := ?vr12) ?hyr12 hS ?_
    case hyr12 => (intro w hSw; (try dsimp (config := { zetaDelta := true }) only at hSw); go_simp; (try with_reducible rfl))
    try simp only [Act.put, sA, s0, sS]
    refine wpAnyV_tk 2 14 (v := ?vr13) ?hyr13 hS ?_
    case hyr13 => (intro w hSw; (try dsimp (config := { zetaDelta := true }) only at hSw); go_simp; (try with_reducible rfl))
    try simp only [Act.put, sA, s0, sS]
    refine wpAnyV_tk 3 15 (v := ?vr14) ?hyr14 hS ?_
    case hyr14 => (intro w hSw; (try dsimp (config := { zetaDelta := true }) only at hSw); go_simp; (try with_reducible rfl))
    try simp only [Act.put, sA, s0, sS]
    refine wpAnyV_tk 4 16 (v := ?vr15) ?hyr15 hS ?_
    case hyr15 => (intro w hSw; (try dsimp (config := { zetaDelta := true }) only at hSw); go_simp; rw [if_pos (by omega)]; (try with_reducible rfl))
    try simp only [Act.put, sA, s0, sS]
    refine wpAnyV_tk 5 17 (v := ?vr16) ?hyr16 hS ?_
    case hyr16 => (intro w hSw; (try dsimp (config := { zetaDelta := true }) only at hSw); go_simp; (try with_reducible rfl))
    try simp only [Act.put, sA, s0, sS]
    refine wpAnyV_tk 6 18 (v := ?vr17) ?hyr17 hS ?_
    case hyr17 => (intro w hSw; (try dsimp (config := { zetaDelta := true }) only at hSw); go_simp; (try with_reducible rfl))
    try simp only [Act.put, sA, s0, sS]
    refine wpAnyV_tk 7 19 (v := ?vr18) ?hyr18 hS ?_
    case hyr18 => (intro w hSw; (try dsimp (config := { zetaDelta := true }) only at hSw); go_simp; (try with_reducible rfl))
    try simp only [Act.put, sA, s0, sS]
    refine wpAnyV_tk 8 20 (v := ?vr19) ?hyr19 hS ?_
    case hyr19 => (intro w hSw; (try dsimp (config := { zetaDelta := true }) only at hSw); go_simp; rw [if_pos (by omega)]; (try with_reducible rfl))
    try simp only [Act.put, sA, s0, sS]
    refine wpAnyV_tk 9 21 (v := ?vr20) ?hyr20 hS ?_
    case hyr20 => (intro w hSw; (try dsimp (config := { zetaDelta := true }) only at hSw); go_simp; (try with_reducible rfl))
    try simp only [Act.put, sA, s0, sS]
    refine wpAnyV_one (i := 10) (by kernel_rfl) rfl (fun K hK => ?_)
    go_simp
    refine (kf _).mono ?_
    rintro e w1 ⟨rfl, hk1⟩
    have hS : Y2 w1 := by exact ⟨hk1.cellOf da0 id, hk1.cellOf da1 id, hk1.cellOf da2 id, hk1.cellOf db0 id, hk1.cellOf db1 id, hk1.cellOf db2 id⟩
    refine hK.out _ _ (fun _ => hS) ?_
    clear hK K
    try simp only [Act.put, sA, s0, sS]
    refine wpAnyV_done (by kernel_rfl) ?_
    have HK1 := hid (HK.out.drew.trans hk1)
    clear da0 da1 da2 db0 db1 db2 kf hk1
    go_wp2
    go_roundw
    case rel => exact ⟨k0 + 1 + 1, by omega, by omega, by go_num, HE, HK1⟩
    case measure => simp [intOf]; omega
  ·have he : R = false := by
    rw [← HR.out]
    exact nbr_no (fun j h => HA.out j h (by rw [HL.out] at h; omega))
   go_wp2
   go_ret
   exact ⟨by rw [he]; rfl, HK.out⟩
theorem enters_wh : Enters8 35 := fun args wx => by simp [callFunc, go_sem, Try.func35, Try.f35]
theorem enters_nb : Enters8 33 := fun args wx => by simp [callFunc, go_sem, Try.func33, Try.f33]
theorem implHoldsFault_any (x : FR) (w : World) (hv : RdF 3 w x) :
  Calls Try.prog 21 #[x.v] w fun e w' => e = .returned (.int .i64 (holdsF (tri x.bs))) ∧ Same w w' := by
 have k1 := anyNeighboursH_any 33 hdAfter x w hv enters_nb (fun p q wx _ _ => notRisingById_any p q wx)
 have k2 := fun wx (h : Same w wx) => containsH_any 35 hdBad x wx (hv.same h) enters_wh (fun p wx _ => wrongHold_any p wx)
 obtain ⟨xe, xa, n, xc, bs⟩ := x
 have hm : n ≤ maxLen := hv.1
 unfold maxLen at hm
 have hl := tri_length n bs hv.2.1
 dsimp only [FR.v] at k1 k2 ⊢
 clear hv
 obtain ⟨R, hR⟩ : ∃ R, holdsF (tri bs) = R := ⟨_, rfl⟩
 rw [hR]
 unfold holdsF at hR
 by_cases hb : 512 < n
 ·rw [if_pos (by omega)] at hR
  subst hR
  clear k1 k2
  go_enter Try.func21, Try.ntmps21
  go_wp2
  go_ret
  exact ⟨rfl, Kept.refl _ _⟩
 rw [if_neg (by omega)] at hR
 have hb' : ¬ (512 : Int) < (n : Int) := by omega
 cases f1 : nbr hdAfter (tri bs) with
 | true =>
  rw [f1] at k1 hR
  rw [if_pos rfl] at hR
  subst hR
  clear k2 hl
  go_enter Try.func21, Try.ntmps21
  go_wp2_with fail
  refine k1.mono ?_
  rintro e w1 ⟨rfl, hk1⟩
  go_wp2
  go_ret
  exact ⟨rfl, hk1⟩
 | false =>
  rw [f1] at k1 hR
  rw [if_neg Bool.false_ne_true] at hR
  cases f2 : (tri bs).any hdBad with
  | true =>
   rw [f2] at k2 hR
   rw [if_pos rfl] at hR
   subst hR
   clear hl
   go_enter Try.func21, Try.ntmps21
   go_wp2_with fail
   refine k1.mono ?_
   rintro e w1 ⟨rfl, hk1⟩
   go_wp2_with fail
   refine (k2 _ hk1).mono ?_
   rintro e w2 ⟨rfl, hk2⟩
   go_wp2
   go_ret
   exact ⟨rfl, hk1.trans hk2⟩
  | false =>
   rw [f2] at k2 hR
   rw [if_neg Bool.false_ne_true] at hR
   subst hR
   clear hl
   go_enter Try.func21, Try.ntmps21
   go_wp2_with fail
   refine k1.mono ?_
   rintro e w1 ⟨rfl, hk1⟩
   go_wp2_with fail
   refine (k2 _ hk1).mono ?_
   rintro e w2 ⟨rfl, hk2⟩
   go_wp2
   go_ret
   exact ⟨rfl, hk1.trans hk2⟩
theorem Try.infoHold : (Try.prog.info? 45).map (fun i => (i.zero, i.size, i.bytes)) = some (some (.agg #[.int .i64 0, .int .i64 0, .int .i64 0]), 3, 24) := by kernel_rfl
theorem eqHold_any (x0 x1 x2 : Int) (w : World) : Calls Try.prog 36 #[.agg #[.int .i64 x0, .int .i64 x1, .int .i64 x2], .agg #[.int .i64 x0, .int .i64 x1, .int .i64 x2]] w fun e w' => e = .returned (.bool true) ∧ Same w w' := by
 go_enter Try.func36, Try.ntmps36
 go_wp2
 go_ret
 exact ⟨rfl, ((Kept.refl _ _).alloc _).alloc _⟩
theorem toHold_any (x0 x1 x2 : Int) (w : World) : Calls Try.prog 31 #[.agg #[.int .i64 x0, .int .i64 x1, .int .i64 x2]] w fun e w' => e = .returned (.agg #[.int .i64 x0, .int .i64 x1, .int .i64 x2]) ∧ Same w w' := by
 go_enter Try.func31, Try.ntmps31
 go_wp2
 refine bodyPost_ret (v := .agg #[.int .i64 x0, .int .i64 x1, .int .i64 x2]) (by simp [results, Try.results31, go_sem]) rfl ⟨rfl, ?_⟩
 repeat (first | exact Kept.refl _ _ | refine Kept.alloc ?_ _ | refine Kept.setCell ?_ (.inl (by simp)) _)
theorem eqHoldS_own (x y : FR) (w : World) (hn : (x.bs.length : Int) ≤ 1125899906842624) (hd : x.bs = y.bs) (ha : OwnL w (x.rows 3)) (hb : OwnL w (y.rows 3)) :
  Calls Try.prog 22 #[x.v, y.v] w fun e w' => e = .returned (.bool true) ∧ Same w w' := by
 have hla := FR.own_len ha
 have hlb := FR.own_len hb
 have hfa := FR.own_form ha
 have hfb := FR.own_form hb
 obtain ⟨xe, xa, xn, xc, bs⟩ := x
 obtain ⟨ye, ya, yn, yc, bs'⟩ := y
 dsimp only at hn hd hla hlb hfa hfb
 subst hd
 obtain rfl : xn = yn := by omega
 dsimp only [FR.v]
 clear ha hb
 rcases hfa with ⟨rfl, rfl, rfl⟩ | ⟨ga, rfl, hac, hcm, hoa⟩
 ·have hz : (0 : Nat) = 0 := rfl
  go_enter Try.func22, Try.ntmps22
  go_wp2
  refine wp_loop_rounds 1 ?_
  rw [rounds_succ]
  go_wp2
  go_ret
  exact ⟨rfl, Kept.refl _ _⟩
 rcases hfb with ⟨rfl, rfl, rfl⟩ | ⟨gb, rfl, hbc, hcm', hob⟩
 ·clear hoa
  go_enter Try.func22, Try.ntmps22
  go_wp2
  refine wp_loop_rounds 1 ?_
  rw [rounds_succ]
  go_wp2
  go_ret
  exact ⟨rfl, Kept.refl _ _⟩
 have HA := (show Hid (OwnF 3 xe w ga xn xc bs) from hoa)
 have HB := (show Hid (OwnF 3 ye w gb xn yc bs) from hob)
 have hxn : (xn : Int) ≤ 1125899906842624 := by omega
 clear hoa hob hla hlb hn
 go_enter Try.func22, Try.ntmps22
 go_wp2
 go_loopw [5] (fun i wr => ∃ (k : Nat), k ≤ xn ∧ i = .int .i64 k ∧ Hid (Same w wr)) (fun i _ => xn - (intOf i).toNat)
 case atStart => exact ⟨0, Nat.zero_le _, rfl, Kept.refl _ _⟩
 case round =>
  obtain ⟨k, hk, rfl, HK⟩ := hrel
  by_cases hlt : k < xn
  ·have hoa := HA.out.same HK.out
   have hob := HB.out.same HK.out
   have ha0 : wr.cell? ⟨ga, k * 3, none⟩ = some (.int .i64 (bs.getD (k * 3) 0)) := hoa.cell _ (by omega)
   have ha1 : wr.cell? ⟨ga, k * 3 + 1, none⟩ = some (.int .i64 (bs.getD (k * 3 + 1) 0)) := hoa.cell _ (by omega)
   have ha2 : wr.cell? ⟨ga, k * 3 + 2, none⟩ = some (.int .i64 (bs.getD (k * 3 + 2) 0)) := hoa.cell _ (by omega)
   have hb0 : wr.cell? ⟨gb, k * 3, none⟩ = some (.int .i64 (bs.getD (k * 3) 0)) := hob.cell _ (by omega)
   have hb1 : wr.cell? ⟨gb, k * 3 + 1, none⟩ = some (.int .i64 (bs.getD (k * 3 + 1) 0)) := hob.cell _ (by omega)
   have hb2 : wr.cell? ⟨gb, k * 3 + 2, none⟩ = some (.int .i64 (bs.getD (k * 3 + 2) 0)) := hob.cell _ (by omega)
   clear hoa hob
   generalize bs.getD (k * 3) 0 = x0 at *
   generalize bs.getD (k * 3 + 1) 0 = x1 at *
   generalize bs.getD (k * 3 + 2) 0 = x2 at *
   go_wp2_with fail
   go_region_with (go_at_call 36; refine (eqHold_any x0 x1 x2 _).mono ?_; rintro e w1 ⟨rfl, hk1⟩)
   all_goals
    have HK1 : Hid (Same w w1) := HK.out.drew.trans hk1
    clear hk1 ha0 hb0 ha1 hb1 ha2 hb2
    go_wp2
    go_roundw
    case rel => exact ⟨k + 1, by omega, by go_num, HK1⟩
    case measure => simp [intOf]; omega
  ·go_wp2
   go_ret
   exact ⟨rfl, HK.out⟩
theorem szHoldS_any (a : Option Addr) (n c : Nat) (left : Int) (w : World) (h0 : 0 ≤ left) (h1 : left ≤ 1048576) (hn : n ≤ maxLen) :
  Calls Try.prog 18 #[.slice a n c, .int .i64 left] w fun e w' => ∃ r : Int, e = .returned (.int .i64 r) ∧ ((r = -1 ∧ left < n) ∨ (r = left - n ∧ 0 ≤ r)) ∧ w' = w := by
 unfold maxLen at hn
 by_cases h : left < n
 ·go_enter Try.func18, Try.ntmps18
  go_wp2
  go_ret
  exact ⟨_, rfl, .inl ⟨rfl, h⟩, rfl⟩
 ·go_enter Try.func18, Try.ntmps18
  go_wp2
  go_ret
  exact ⟨_, rfl, .inr ⟨rfl, by omega⟩, rfl⟩
theorem toHoldS_any (x : FR) (w : World) (hn : (x.n : Int) ≤ 1073741824) (hv : RdF 3 w x) :
  Calls Try.prog 20 #[x.v] w fun e w' => ∃ y : FR, e = .returned y.v ∧ y.bs = x.bs ∧ y.n = x.n ∧ (∀ b, FootL (y.rows 3) b → w.heap.size ≤ b) ∧ OwnL w' (y.rows 3) ∧ Same w w' := by
 obtain ⟨i0, hi, hz0, hz1, hz2⟩ := info_parts Try.infoHold
 obtain ⟨hmax, hlen, hform⟩ := hv
 obtain ⟨xe, xa, len, xc, bs⟩ := x
 dsimp only [FR.v] at *
 by_cases h0 : len = 0
 ·subst h0
  obtain rfl : bs = [] := List.length_eq_zero_iff.1 (by omega)
  clear hform hmax hlen hn
  go_enter Try.func20, Try.ntmps20
  go_wp2_with (at_make; refine wpList_make_full _ rfl (.tmp 6) (.tmp 6) 35 rfl 0 45 i0 (.agg #[.int .i64 0, .int .i64 0, .int .i64 0]) 3 Try.underlying35 hi hz0 hz1 .i64 .i64 _ _ 0 rfl rfl (by simp) (by simp) (by simp) (by simp) (Nat.zero_le _) ?_; intro w1 hown1 hgrow1; have HO : Hid (OwnF 3 45 w1 w.heap.size 0 0 (List.replicate (0 * 3) 0)) := ownF_made (z := .agg #[.int .i64 0, .int .i64 0, .int .i64 0]) (by decide) (by simp [Value.cells, List.replicate]) (by simpa using hown1); have HK : Hid (Same w w1) := Kept.of_grown hgrow1 (fun k e => by cases e); clear hown1 hgrow1)
  refine wp_loop_rounds 1 ?_
  rw [rounds_succ]
  go_wp2
  go_ret
  exact ⟨⟨45, some ⟨w.heap.size, 0, none⟩, 0, 0, []⟩, rfl, rfl, rfl, fun b hb => by have h := (FootL_one _ _).1 hb; simp [FR.v, Value.ownBlock] at h; omega, HO.out.out, HK.out⟩
 ·obtain ⟨b, off, rfl, hle, hc⟩ := hform.resolve_left h0
  have HC := (show Hid (∀ i, i < len * 3 → w.cell? ⟨b, off + i, none⟩ = some (.int .i64 (bs.getD i 0))) from hc)
  have HLB := (show Hid (bs.length = len * 3) from hlen)
  clear hc hform hlen
  go_enter Try.func20, Try.ntmps20
  go_wp2_with (at_make; refine wpList_make_full _ rfl (.tmp 6) (.tmp 6) 35 rfl 0 45 i0 (.agg #[.int .i64 0, .int .i64 0, .int .i64 0]) 3 Try.underlying35 hi hz0 hz1 .i64 .i64 _ _ len rfl rfl (by simp) (by simp) (by rw [hz2]; omega) (by unfold maxLen; omega) (Nat.zero_le _) ?_; intro w1 hown1 hgrow1; have HO : Hid (OwnF 3 45 w1 w.heap.size len len (List.replicate (len * 3) 0)) := ownF_made (z := .agg #[.int .i64 0, .int .i64 0, .int .i64 0]) (by decide) (by simp [Value.cells, List.replicate]) (by simpa using hown1); have HK : Hid (Same w w1) := Kept.of_grown hgrow1 (fun k e => by cases e); clear hown1 hgrow1)
  go_loopw [4] (fun i wr => ∃ (k : Nat), k ≤ len ∧ i = .int .i64 k ∧ Hid (OwnF 3 45 wr w.heap.size len len (fillUp bs (k * 3))) ∧ Hid (Same w wr)) (fun i _ => len - (intOf i).toNat)
  case atStart => exact ⟨0, Nat.zero_le _, rfl, by rw [Nat.zero_mul, fillUp_zero, HLB.out]; exact HO, HK⟩
  case round =>
   obtain ⟨k, hk, rfl, HOr, HKr⟩ := hrel
   by_cases hlt : k < len
   ·have q0 : wr.cell? ⟨b, off + k * 3, none⟩ = some (.int .i64 (bs.getD (k * 3) 0)) := by have h := HKr.out.cellOf (HC.out (k * 3) (by omega)) id; simpa only [Nat.add_assoc] using h
    have q1 : wr.cell? ⟨b, off + k * 3 + 1, none⟩ = some (.int .i64 (bs.getD (k * 3 + 1) 0)) := by have h := HKr.out.cellOf (HC.out (k * 3 + 1) (by omega)) id; simpa only [Nat.add_assoc] using h
    have q2 : wr.cell? ⟨b, off + k * 3 + 2, none⟩ = some (.int .i64 (bs.getD (k * 3 + 2) 0)) := by have h := HKr.out.cellOf (HC.out (k * 3 + 2) (by omega)) id; simpa only [Nat.add_assoc] using h
    go_wp2_with fail
    refine (toHold_any (bs.getD (k * 3) 0) (bs.getD (k * 3 + 1) 0) (bs.getD (k * 3 + 2) 0) _).mono ?_
    rintro e w2 ⟨rfl, hk2⟩
    have HO2 := hid (HOr.out.same hk2)
    have HK2 := hid (HKr.out.trans hk2)
    clear hk2
    have r0 := HO2.out.cell (k * 3) (by omega)
    have f0 := HO2.out.frozen (k * 3)
    have r1 := HO2.out.cell (k * 3 + 1) (by omega)
    have f1 := HO2.out.frozen (k * 3 + 1)
    have r2 := HO2.out.cell (k * 3 + 2) (by omega)
    have f2 := HO2.out.frozen (k * 3 + 2)
    go_wp2
    go_roundw
    case rel =>
     have h0 := HO2.out
     have h1 := h0.stored (k * 3) (bs.getD (k * 3) 0)
     rw [fillUp_step _ _ (by have := HLB.out; omega)] at h1
     have h2 := h1.stored (k * 3 + 1) (bs.getD (k * 3 + 1) 0)
     rw [fillUp_step _ _ (by have := HLB.out; omega)] at h2
     have h3 := h2.stored (k * 3 + 2) (bs.getD (k * 3 + 2) 0)
     rw [fillUp_step _ _ (by have := HLB.out; omega)] at h3
     refine ⟨k + 1, by omega, by go_num, ?_, ?_⟩
     ·rw [show (k + 1) * 3 = k * 3 + 1 + 1 + 1 from by omega]; simpa [List.getD, Hid] using h3
     ·exact (((HK2.out.setCell (.inl (Nat.le_refl _)) _).setCell (.inl (Nat.le_refl _)) _).setCell (.inl (Nat.le_refl _)) _)
    case measure => simp [intOf]; omega
   ·go_wp2
    go_ret
    obtain rfl : k = len := by omega
    have h := HOr.out
    rw [← HLB.out, fillUp_all] at h
    exact ⟨⟨45, some ⟨w.heap.size, 0, none⟩, k, k, bs⟩, rfl, rfl, rfl, fun b hb => by have h := (FootL_one _ _).1 hb; simp [FR.v, Value.ownBlock] at h; omega, h.out, HKr.out⟩
end Go.Proofs.Ytmpfpgelaipmnaa
