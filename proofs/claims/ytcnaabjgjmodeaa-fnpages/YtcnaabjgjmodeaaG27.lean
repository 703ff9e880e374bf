import Derived.Test.YtcnaabjgjmodeaaG26
import Derived.Test.YtcnaabjgjmodeaaG09
import Derived.Test.YtcnaabjgjmodeaaG05
import Derived.Test.YtcnaabjgjmodeaaG00
import Derived.Deep.CutBlock
import Derived.Deep.DeepCutAuto
import Derived.Laws.BytesArg
namespace Go.Proofs.Ytcnaabjgjmodeaa
set_option maxRecDepth 100000
set_option maxHeartbeats 8000000
open Go.RowKit
set_option linter.unusedVariables false
set_option linter.unusedSimpArgs false
def GoodB (bs : List Int) : Prop := ownOK bs = true ∧ IsB bs
theorem GoodB.len {bs : List Int} (h : GoodB bs) : bs.length = 4096 := ownOK_len h.1
theorem set_cases {raw : List Int} (h : GoodB raw) (s : Int) (u : Bool) (d : List Int) (hd : IsB d) (lsn : Int) :
    (pageSet raw s u d lsn = (1, []) ∧ setBad raw s u d lsn = true) ∨ (setBad raw s u d lsn = false ∧ setFull raw s.toNat d ∧ pageSet raw s u d lsn = (2, [])) ∨
    (setBad raw s u d lsn = false ∧ ¬ setFull raw s.toNat d ∧ pageSet raw s u d lsn = (0, setB raw s.toNat u d lsn) ∧ Made raw (setB raw s.toNat u d lsn) lsn (usedN (slotsOf raw) 32 - (slotsOf raw).getD (2 * s.toNat + 1) 0 + d.length) (fun k => if k = s.toNat then (u, d) else pageGet raw (k : Int))) := by
  unfold pageSet
  by_cases h1 : setBad raw s u d lsn = true
  · rw [if_pos h1]; exact .inl ⟨rfl, h1⟩
  · rw [if_neg h1]
    have h1' : setBad raw s u d lsn = false := by simpa using h1
    by_cases h2 : setFull raw s.toNat d
    · rw [if_pos h2]; exact .inr (.inl ⟨h1', h2, rfl⟩)
    · rw [if_neg h2]
      refine .inr (.inr ⟨h1', h2, rfl, ?_⟩)
      simp [setBad] at h1
      obtain ⟨hok, g1, g2, g3, g4, g5, g6⟩ := h1
      exact set_made h.2 hok s.toNat (by omega) u d hd lsn (by simp [isLSN]; omega) (by omega) (fun e => by have := g6 e; exact this) h2
theorem set_two {raw : List Int} (h : GoodB raw) (s : Int) (u : Bool) (d : List Int) (hd : IsB d) (lsn : Int) :
    ∃ (x : Int) (ys : List Int), pageSet raw s u d lsn = (x, ys) ∧ (x = 0 → GoodB ys) := by
  rcases set_cases h s u d hd lsn with ⟨e, _⟩ | ⟨_, _, e⟩ | ⟨_, _, e, hm⟩
  · exact ⟨1, [], e, fun h => by cases h⟩
  · exact ⟨2, [], e, fun h => by cases h⟩
  · exact ⟨0, _, e, fun _ => ⟨hm.own, hm.isB⟩⟩
theorem good_new (n : Int) (h0 : 0 ≤ n) (h1 : n < 16) : GoodB (pageNew n) := new_own n h0 h1
theorem good_comp {raw : List Int} (h : GoodB raw) : GoodB (pageCompact raw) := by
  have := (comp_made h.2 h.1).1
  rw [show pageCompact raw = compB raw from if_pos h.1]
  exact ⟨this.own, this.isB⟩
def PgR (w0 w w' : World) (e : Ending) (B : Nat) (v : Value) (cs : List Int) (k : Nat) (size : Int) : Prop :=
  ∃ (g c : Nat) (bs : List Int) (k' : Nat), e = .returned (.slice (some ⟨g, 0, none⟩) 4096 c) ∧ bs.length = 4096 ∧ IsB bs ∧ Own w0.heap.size 5 .u8 w' (.slice (some ⟨g, 0, none⟩) 4096 c) bs ∧ ¬ g = B ∧ k' ≤ k + 400 ∧ SrcR w0 w' B v cs k' size ∧ w.heap.size ≤ g ∧ Kept (fun b => b = B) w w'
structure PgI (w0 w wr : World) (B : Nat) (v : Value) (cs : List Int) (k : Nat) (size : Int) (g c : Nat) (bs : List Int) : Prop where
  src : SrcR w0 wr B v cs k size
  own : Own 0 5 .u8 wr (.slice (some ⟨g, 0, none⟩) 4096 c) bs
  new : w.heap.size ≤ g
  kept : Kept (fun b => b = B) w wr
  good : GoodB bs
section
variable {w0 w wr wx : World} {B : Nat} {v : Value} {cs : List Int} {k k' : Nat} {size : Int} {g c : Nat} {bs : List Int}
theorem PgI.same (h : PgI w0 w wr B v cs k size g c bs) (hk : Same wr wx) : PgI w0 w wx B v cs k size g c bs :=
  ⟨h.src.same hk, h.own.same hk, h.new, h.kept.trans (hk.mono (fun _ _ e => e.elim)), h.good⟩
theorem PgI.draw (h : PgI w0 w wr B v cs k size g c bs) (hB : B < w.heap.size) (hs : SrcR w0 wx B v cs k' size) (hk : Kept (fun b => b = B) wr wx) : PgI w0 w wx B v cs k' size g c bs :=
  ⟨hs, h.own.kept hk (fun b hb e => by have e1 : g = b := (by simpa [Value.ownBlock] using hb); have := h.new; omega), h.new, h.kept.trans hk, h.good⟩
theorem PgI.other {a : Option Addr} {c' : Nat} {ys : List Int} (h : PgI w0 w wr B v cs k size g c bs) (hk : Same wr wx) (ho : Own 0 5 .u8 wx (.slice a ys.length c') ys) (hf : ∀ b, (Value.slice a ys.length c').ownBlock = some b → wr.heap.size ≤ b) (hg : GoodB ys) : ∃ g', a = some ⟨g', 0, none⟩ ∧ PgI w0 w wx B v cs k size g' c' ys := by
  obtain ⟨g', rfl⟩ := own_some ho (by rw [hg.len]; decide)
  rw [hg.len] at ho
  exact ⟨g', rfl, h.src.same hk, ho, Nat.le_trans h.kept.size (hf g' rfl), h.kept.trans (hk.mono (fun _ _ e => e.elim)), hg⟩
end
theorem pg_k {w0 w : World} {B : Nat} {v : Value} {cs : List Int} {k : Nat} {size : Int} (number : Int) (h0 : 0 ≤ number) (h1 : number < 16) (h : SrcR w0 w B v cs k size) (hk : k ≤ 1073741000) :
    Calls Try.prog 76 #[.pointer (some ⟨B, 0, none⟩), .int .i64 number] w fun e w' => PgR w0 w w' e B v cs k size := by
  have hBw := h.lt
  have hw0 := h.kept.size
  have hsz := h.src.little
  have kN := specNew_any number w
  have HS := hid h
  clear h
  go_enter Try.func76, Try.ntmps76
  go_wp2_with fail
  refine kN.mono ?_
  rintro e w1 ⟨a, c, rfl, hf, ho, hk1⟩
  have hgd := good_new number h0 h1
  obtain ⟨g, rfl⟩ := own_some ho (by rw [hgd.len]; decide)
  have hgl := hgd.len
  have HI := (show Hid (PgI w0 w w1 B v cs k size g c (pageNew number)) from ⟨HS.out.same hk1, by rw [hgl] at ho; exact ho, hf g rfl, hk1.mono (fun _ _ e => e.elim), hgd⟩)
  rw [hgl]
  clear hf ho hk1 kN HS hgd hgl
  generalize pageNew number = bs at HI
  obtain ⟨_, _, s2⟩ := HI.out.src.src.blk.all3
  have q0 : IntKind.i64.wrap (8 + size) = 8 + size := by rw [IntKind.wrap_i64]; omega
  go_wp2_with fail
  refine (next_k (8 + size) HI.out.src (by omega) (by constructor <;> omega)).mono ?_
  rintro e w2 ⟨n, rfl, hd, hs2, hk2⟩
  obtain ⟨hn1, hn2⟩ := hd.2 (by omega)
  have HI2 := hid (HI.out.draw hBw hs2 hk2)
  obtain ⟨N, rfl⟩ : ∃ N : Nat, n = (N : Int) := ⟨n.toNat, by omega⟩
  have hN : N ≤ 20 := by omega
  clear hd hs2 hk2 HI s2 q0 hn1 hn2
  go_wp2_with fail
  go_loopw [5, 6] (fun p i wr => ∃ (j k' g c : Nat) (bs : List Int), j ≤ N ∧ p = .slice (some ⟨g, 0, none⟩) 4096 c ∧ i = .int .i64 (j : Int) ∧ k' ≤ k + 1 + 12 * (N - j) ∧ Hid (PgI w0 w wr B v cs k' size g c bs)) (fun _ i _ => (intOf i).toNat)
  case atStart => exact ⟨N, k + 1, g, c, bs, Nat.le_refl _, rfl, rfl, by omega, HI2⟩
  case round =>
    obtain ⟨j, k', g, c, bs, hj, rfl, rfl, hk', HI⟩ := hrel
    cases j with
    | succ j =>
      go_wp2_with fail
      refine (next_k 6 HI.out.src (by omega) (by constructor <;> decide)).mono ?_
      rintro e w3 ⟨q, rfl, hd, hs3, hk3⟩
      obtain ⟨hq1, hq2⟩ := hd.2 (by decide)
      have HI3 := hid (HI.out.draw hBw hs3 hk3)
      clear hd hs3 hk3
      go_wp2_with fail
      refine (next_k 7 HI3.out.src (by omega) (by constructor <;> decide)).mono ?_
      rintro e w4 ⟨r, rfl, hd, hs4, hk4⟩
      obtain ⟨hr1, hr2⟩ := hd.2 (by decide)
      have HI4 := hid (HI3.out.draw hBw hs4 hk4)
      clear hd hs4 hk4
      obtain ⟨m, hm⟩ : ∃ m, q * r = m := ⟨_, rfl⟩
      have hm1 : 0 ≤ m := by rw [← hm]; exact Int.mul_nonneg (by omega) (by omega)
      have hm2 : m ≤ 30 := by
        have h := Int.mul_le_mul (show q ≤ 5 from by omega) (show r ≤ 6 from by omega) (by omega) (by omega)
        omega
      have q1 : IntKind.i64.wrap (q * r) = m := by rw [IntKind.wrap_i64, hm]; omega
      clear hm
      go_wp2_with fail
      refine (rec_k HI4.out.src (by omega)).mono ?_
      rintro e w5 ⟨u, ra, rc, d, k5, rfl, hd1, hd2, hd3, hk5, hs5, hkk5⟩
      have HI5 := hid (HI4.out.draw hBw hs5 hkk5)
      have HD2 := hid hd2
      have HD3 := hid hd3
      clear hd2 hd3 hs5 hkk5
      go_wp2_with fail
      refine (next_k 100000 HI5.out.src (by omega) (by constructor <;> decide)).mono ?_
      rintro e w6 ⟨l, rfl, hd, hs6, hk6⟩
      obtain ⟨hl1, hl2⟩ := hd.2 (by decide)
      have HI6 := hid (HI5.out.draw hBw hs6 hk6)
      have HD6 := hid (HD3.out.draw hk6).rd
      clear hd hs6 hk6
      have kS := fun s lsn => specSet_any (.slice (some ⟨g, 0, none⟩) 4096 c) bs s u ra rc d lsn w6 HI6.out.good.2 (by rw [HI6.out.good.len]; decide) HI6.out.own.rd (by omega) HD6.out
      have HC := (show Hid (∀ s lsn, ∃ (x : Int) (ys : List Int), pageSet bs s u d lsn = (x, ys) ∧ (x = 0 → GoodB ys)) from fun s lsn => set_two HI6.out.good s u d HD2.out lsn)
      go_wp2_with fail
      refine (kS _ _).mono ?_
      rintro e w7 ⟨a, c7, rfl, hf, ho, hk7⟩
      obtain ⟨x, ys, hxy, hgd⟩ := HC.out _ _
      rw [hxy] at hf ho ⊢
      dsimp only at hf ho ⊢
      have HI7 := hid (HI6.out.same hk7)
      have HX := (show Hid (∀ o, x = 0 → ∃ g', a = some ⟨g', 0, none⟩ ∧ ys.length = 4096 ∧ PgI w0 w (w7.alloc o) B v cs (k5 + 1) size g' c7 ys) from fun o hx => by
        obtain ⟨g', e, h⟩ := HI6.out.other hk7 ho hf (hgd hx)
        exact ⟨g', e, (hgd hx).len, h.same ((Kept.refl _ _).alloc _)⟩)
      clear hf ho hk7 hgd hxy kS HC HI6 HI5 HI4 HI3 HI
      by_cases hx : x = 0
      · subst hx
        obtain ⟨g', rfl, hyl, hP⟩ := HX.out (.cells #[.int .i64 0, .slice a ys.length c7] 28) rfl
        rw [hyl] at hP ⊢
        have HP := hid hP
        clear hP HX hyl HI7
        go_wp2_with fail
        go_roundw
        case rel => exact ⟨j, k5 + 1, g', c7, ys, by omega, rfl, by go_num, by omega, HP⟩
        case measure => simp [intOf]
      · have ex : (x == 0) = false := by simp [hx]
        have HP := hid (HI7.out.same ((Kept.refl _ _).alloc (.cells #[.int .i64 x, .slice a ys.length c7] 28)))
        clear HX HI7
        go_wp2_with fail
        go_roundw
        case rel => exact ⟨j, k5 + 1, g, c, bs, by omega, rfl, by go_num, by omega, HP⟩
        case measure => simp [intOf]
    | zero =>
      have hkk : k' ≤ k + 241 := by omega
      go_wp2_with fail
      refine (chance_k 8 HI.out.src (by omega) (by constructor <;> decide)).mono ?_
      rintro e w3 ⟨b, rfl, hs3, hk3⟩
      have HI3 := hid (HI.out.draw hBw hs3 hk3)
      clear hs3 hk3 HI
      have fin : ∀ (w4 w5 : World) (g c : Nat) (bs : List Int) (a : Option Addr) (c5 : Nat), PgI w0 w w4 B v cs (k' + 1) size g c bs → (∀ b, (Value.slice a (pageSeal bs).length c5).ownBlock = some b → w4.heap.size ≤ b) → Own 0 5 .u8 w5 (.slice a (pageSeal bs).length c5) (pageSeal bs) → Same w4 w5 → PgR w0 w w5 (.returned (.slice a (pageSeal bs).length c5)) B v cs k size := by
        intro w4 w5 g c bs a c5 hI hf ho hk
        obtain ⟨e1, e2, e3, _⟩ := seal_two hI.good.len hI.good.2
        rw [e1] at hf ho ⊢
        rw [e3] at hf ho ⊢
        obtain ⟨g', rfl⟩ := own_some ho (by rw [e3]; decide)
        have h1 := hf g' rfl
        have h2 := hI.kept.size
        exact ⟨g', c5, _, k' + 1, rfl, e3, e2, ho.mono (fun b hb => by have := hf b hb; omega), by omega, by omega, hI.src.same hk, by omega, hI.kept.trans (hk.mono (fun _ _ e => e.elim))⟩
      have kL := fun g c bs (wx : World) (hI : PgI w0 w wx B v cs (k' + 1) size g c bs) => specSeal_any (.slice (some ⟨g, 0, none⟩) 4096 c) bs wx hI.good.2 (by rw [hI.good.len]; decide) hI.own.rd
      cases b
      · go_wp2_with fail
        refine (kL _ _ _ _ HI3.out).mono ?_
        rintro e w5 ⟨a, c5, rfl, hf, ho, hk5⟩
        have HE := hid (fin _ _ _ _ _ _ _ HI3.out hf ho hk5)
        clear fin kL hf ho hk5
        go_wp2
        go_ret
        exact HE.out
      · have kC := specComp_any (.slice (some ⟨g, 0, none⟩) 4096 c) bs w3 HI3.out.good.2 (by rw [HI3.out.good.len]; decide) HI3.out.own.rd
        go_wp2_with fail
        refine kC.mono ?_
        rintro e w4 ⟨a4, c4, rfl, hf4, ho4, hk4⟩
        have hg4 := good_comp HI3.out.good
        obtain ⟨g4, rfl, hI4⟩ := HI3.out.other hk4 ho4 hf4 hg4
        rw [hg4.len]
        have HI4 := hid hI4
        clear hI4 hf4 ho4 hk4 hg4 kC
        go_wp2_with fail
        refine (kL _ _ _ _ HI4.out).mono ?_
        rintro e w5 ⟨a, c5, rfl, hf, ho, hk5⟩
        have HE := hid (fin _ _ _ _ _ _ _ HI4.out hf ho hk5)
        clear fin kL hf ho hk5
        go_wp2
        go_ret
        exact HE.out
end Go.Proofs.Ytcnaabjgjmodeaa

namespace Go.Proofs.Ytcnaabjgjmodeaa
set_option maxRecDepth 100000
set_option maxHeartbeats 8000000
open Go.RowKit
set_option linter.unusedVariables false
set_option linter.unusedSimpArgs false
def BnR (R : Nat → Prop) (w0 w w' : World) (e : Ending) (B : Nat) (v : Value) (cs : List Int) (k : Nat) (size : Int) : Prop :=
  ∃ (b off n c : Nat) (bs : List Int) (k' : Nat), e = .returned (.slice (some ⟨b, off, none⟩) n c) ∧ bs.length = n ∧ n ≤ 4096 ∧ IsB bs ∧ RdA w0.heap.size w'.heap.size B w' (.slice (some ⟨b, off, none⟩) n c) bs ∧ k' ≤ k ∧ SrcR w0 w' B v cs k' size ∧ Kept R w w'
theorem isB_set {bs : List Int} (h : IsB bs) (i : Nat) (x : Int) (hx : 0 ≤ x ∧ x ≤ 255) : IsB (bs.set i x) := by
  intro y hy
  rcases List.mem_or_eq_of_mem_set hy with hy | rfl
  · exact h y hy
  · exact hx
theorem bn_of {R : Nat → Prop} {w0 w w' : World} {B : Nat} {v : Value} {cs : List Int} {k k' : Nat} {size : Int} {g c : Nat} {bs : List Int} (ho : Own 0 5 .u8 w' (.slice (some ⟨g, 0, none⟩) 4096 c) bs) (hl : bs.length = 4096) (hB : IsB bs) (hg : ¬ g = B) (hw : w0.heap.size ≤ g) (hk : k' ≤ k) (hs : SrcR w0 w' B v cs k' size) (hkk : Kept R w w') : BnR R w0 w w' (.returned (.slice (some ⟨g, 0, none⟩) 4096 c)) B v cs k size :=
  ⟨g, 0, 4096, c, bs, k', rfl, hl, Nat.le_refl _, hB, ho.rdA (fun b hb => by have e1 : g = b := (by simpa [Value.ownBlock] using hb); have := (ho.lt b hb).2; omega), hk, hs, hkk⟩
structure BnI (w0 w wr : World) (B : Nat) (v : Value) (cs : List Int) (k : Nat) (size : Int) (g c : Nat) (bs : List Int) : Prop where
  src : SrcR w0 wr B v cs k size
  own : Own 0 5 .u8 wr (.slice (some ⟨g, 0, none⟩) 4096 c) bs
  kept : Kept (fun b => b = B ∨ b = g) w wr
  len : bs.length = 4096
  isB : IsB bs
section
variable {w0 w wr wx : World} {B : Nat} {v : Value} {cs : List Int} {k k' kE : Nat} {size : Int} {g c : Nat} {bs : List Int}
theorem BnI.same (h : BnI w0 w wr B v cs k size g c bs) (hk : Same wr wx) : BnI w0 w wx B v cs k size g c bs :=
  ⟨h.src.same hk, h.own.same hk, h.kept.trans (hk.mono (fun _ _ e => e.elim)), h.len, h.isB⟩
theorem BnI.draw (h : BnI w0 w wr B v cs k size g c bs) (hg : ¬ g = B) (hs : SrcR w0 wx B v cs k' size) (hk : Kept (fun b => b = B) wr wx) : BnI w0 w wx B v cs k' size g c bs :=
  ⟨hs, h.own.kept hk (fun b hb e => by have e1 : g = b := (by simpa [Value.ownBlock] using hb); omega), h.kept.trans (hk.mono (fun _ _ e => .inl e)), h.len, h.isB⟩
theorem BnI.store (h : BnI w0 w wr B v cs k size g c bs) (hg : ¬ g = B) (hw : w0.heap.size ≤ g) (j : Nat) (x : Int) (hx : 0 ≤ x ∧ x ≤ 255) : BnI w0 w (wr.setCell ⟨g, j, none⟩ (.int .u8 x)) B v cs k size g c (bs.set j x) := by
  have hkr : Kept (fun b => b = g) wr (wr.setCell ⟨g, j, none⟩ (.int .u8 x)) := (Kept.refl (fun b => b = g) wr).setCell (p := ⟨g, j, none⟩) (.inr rfl) _
  exact ⟨h.src.on hkr (fun e => by omega) (fun i hi e => by omega), h.own.stored h.len.symm j x, h.kept.trans (hkr.mono (fun _ _ e => .inr e)), by rw [List.length_set, h.len], isB_set h.isB j x hx⟩
theorem BnI.other {ys : List Int} (h : BnI w0 w wr B v cs k size g c bs) (hg : ¬ g = B) (hw : w0.heap.size ≤ g) (ho : Own 0 5 .u8 wx (.slice (some ⟨g, 0, none⟩) 4096 c) ys) (hkr : Kept (fun b => b = g) wr wx) (hl : ys.length = 4096) (hB : IsB ys) : BnI w0 w wx B v cs k size g c ys :=
  ⟨h.src.on hkr (fun e => by omega) (fun i hi e => by omega), ho, h.kept.trans (hkr.mono (fun _ _ e => .inr e)), hl, hB⟩
theorem BnI.fin (h : BnI w0 w wr B v cs k size g c bs) (hg : ¬ g = B) (hw : w0.heap.size ≤ g) (hk : k ≤ kE) : BnR (fun b => b = B ∨ b = g) w0 w wr (.returned (.slice (some ⟨g, 0, none⟩) 4096 c)) B v cs kE size := bn_of h.own h.len h.isB hg hw hk h.src h.kept
end
theorem bend_k {w0 w : World} {B : Nat} {v : Value} {cs : List Int} {k : Nat} {size : Int} (g c : Nat) (bs : List Int) (h : SrcR w0 w B v cs k size) (hk : k ≤ 1073741000) (hg : ¬ g = B) (hw : w0.heap.size ≤ g) (hl : bs.length = 4096) (hbb : IsB bs) (ho : Own 0 5 .u8 w (.slice (some ⟨g, 0, none⟩) 4096 c) bs) :
    Calls Try.prog 78 #[.pointer (some ⟨B, 0, none⟩), .slice (some ⟨g, 0, none⟩) 4096 c] w fun e w' => BnR (fun b => b = B ∨ b = g) w0 w w' e B v cs (k + 4) size := by
  have hcap : 4096 ≤ c := ho.caps.2
  have HI := (show Hid (BnI w0 w w B v cs k size g c bs) from ⟨h, ho, Kept.refl _ _, hl, hbb⟩)
  clear h ho hl hbb
  go_enter Try.func78, Try.ntmps78
  go_wp2_with fail
  refine (next_k 9 HI.out.src (by omega) (by constructor <;> decide)).mono ?_
  rintro e w1 ⟨z, rfl, hd, hs1, hk1⟩
  have HI1 := hid (HI.out.draw hg hs1 hk1)
  clear hd hs1 hk1 HI
  by_cases z0 : z = 0
  · subst z0
    have h1 : ¬ c = 1 := by omega
    have h2 : (1 : Int) ≤ (c : Int) := by omega
    have HE := (show Hid (BnR (fun b => b = B ∨ b = g) w0 w w1 (.returned (.slice (some ⟨g, 1, none⟩) 4095 (c - 1))) B v cs (k + 4) size) from ⟨g, 1, 4095, c - 1, (bs.drop 1).take 4095, k + 1, rfl, by rw [List.length_take, List.length_drop, HI1.out.len]; rfl, by omega, isB_take (isB_drop HI1.out.isB _) _, fun w2 h2 => by
      have ho := HI1.out.own.kept h2 (fun b hb e => by have e1 : g = b := (by simpa [Value.ownBlock] using hb); have := (HI1.out.own.lt b hb).2; omega)
      have h := Rd.part (k := .u8) (w := w2) (b := g) (off := 0) (n := 4095) (c := c - 1) (bs := bs) (fun i hi => by rw [Nat.zero_add]; exact ho.cell HI1.out.len.symm i (by rw [← HI1.out.len]; exact hi)) 1 4095 (by rw [HI1.out.len]; omega) rfl (by omega) (by unfold maxLen; omega)
      rw [Nat.zero_add] at h
      exact h, by omega, HI1.out.src, HI1.out.kept⟩)
    go_wp2
    go_ret
    exact HE.out
  have e0 : (z == 0) = false := by simp [z0]
  by_cases z1 : z = 1
  · subst z1
    have u0 := HI1.out.own.cell HI1.out.len.symm 15 (by omega)
    have uf := HI1.out.own.frozen HI1.out.len.symm 15
    have HI2 := hid (HI1.out.store hg hw 15 _ (wrapU8_bounds (bs.getD 15 0 + 1)))
    clear HI1
    go_wp2
    go_ret
    exact HI2.out.fin hg hw (by omega)
  have e1 : (z == 1) = false := by simp [z1]
  by_cases z2 : z = 2
  · subst z2
    go_wp2_with fail
    refine (next_k 256 HI1.out.src (by omega) (by constructor <;> decide)).mono ?_
    rintro e w2 ⟨r, rfl, hd, hs', hk'⟩
    obtain ⟨hr1, hr2⟩ := hd.2 (by decide)
    have HI2 := hid (HI1.out.draw hg hs' hk')
    clear hd hs' hk' HI1
    have u0 := HI2.out.own.cell HI2.out.len.symm 4 (by omega)
    have uf := HI2.out.own.frozen HI2.out.len.symm 4
    have HI3 := hid (HI2.out.store hg hw 4 r (by omega))
    clear HI2
    go_wp2
    go_ret
    exact HI3.out.fin hg hw (by omega)
  have e2 : (z == 2) = false := by simp [z2]
  by_cases z3 : z = 3
  · subst z3
    go_wp2_with fail
    refine (next_k 2 HI1.out.src (by omega) (by constructor <;> decide)).mono ?_
    rintro e w2 ⟨r, rfl, hd, hs', hk'⟩
    obtain ⟨hr1, hr2⟩ := hd.2 (by decide)
    have HI2 := hid (HI1.out.draw hg hs' hk')
    clear hd hs' hk' HI1
    obtain ⟨r, rfl⟩ : ∃ m : Nat, r = (m : Int) := ⟨r.toNat, by omega⟩
    obtain ⟨at1, hat⟩ : ∃ m : Nat, 18 + r = m := ⟨_, rfl⟩
    have q1 : IntKind.i64.wrap (18 + (r : Int)) = (at1 : Int) := by rw [IntKind.wrap_i64]; omega
    have hat2 : at1 ≤ 19 := by omega
    clear hat
    have u0 := HI2.out.own.cell HI2.out.len.symm at1 (by omega)
    have uf := HI2.out.own.frozen HI2.out.len.symm at1
    have HI3 := hid (HI2.out.store hg hw at1 1 (by omega))
    clear HI2
    go_wp2
    go_ret
    exact HI3.out.fin hg hw (by omega)
  have e3 : (z == 3) = false := by simp [z3]
  by_cases z4 : z = 4
  · subst z4
    go_wp2_with fail
    refine (next_k 20 HI1.out.src (by omega) (by constructor <;> decide)).mono ?_
    rintro e w2 ⟨r, rfl, hd, hs', hk'⟩
    obtain ⟨hr1, hr2⟩ := hd.2 (by decide)
    have HI2 := hid (HI1.out.draw hg hs' hk')
    clear hd hs' hk' HI1
    have u0 := HI2.out.own.cell HI2.out.len.symm 16 (by omega)
    have uf := HI2.out.own.frozen HI2.out.len.symm 16
    have HI3 := hid (HI2.out.store hg hw 16 r (by omega))
    clear HI2
    go_wp2
    go_ret
    exact HI3.out.fin hg hw (by omega)
  have e4 : (z == 4) = false := by simp [z4]
  by_cases z5 : z = 5
  · subst z5
    go_wp2_with fail
    refine (next_k 128 HI1.out.src (by omega) (by constructor <;> decide)).mono ?_
    rintro e w2 ⟨r, rfl, hd, hs', hk'⟩
    obtain ⟨hr1, hr2⟩ := hd.2 (by decide)
    have HI2 := hid (HI1.out.draw hg hs' hk')
    clear hd hs' hk' HI1
    obtain ⟨r, rfl⟩ : ∃ m : Nat, r = (m : Int) := ⟨r.toNat, by omega⟩
    obtain ⟨at1, hat⟩ : ∃ m : Nat, 20 + r = m := ⟨_, rfl⟩
    have q1 : IntKind.i64.wrap (20 + (r : Int)) = (at1 : Int) := by rw [IntKind.wrap_i64]; omega
    have hat2 : at1 ≤ 147 := by omega
    clear hat
    go_wp2_with fail
    refine (next_k 256 HI2.out.src (by omega) (by constructor <;> decide)).mono ?_
    rintro e w3 ⟨q, rfl, hd, hs', hk'⟩
    obtain ⟨hq1, hq2⟩ := hd.2 (by decide)
    have HI3 := hid (HI2.out.draw hg hs' hk')
    clear hd hs' hk' HI2
    have u0 := HI3.out.own.cell HI3.out.len.symm at1 (by omega)
    have uf := HI3.out.own.frozen HI3.out.len.symm at1
    have HI4 := hid (HI3.out.store hg hw at1 q (by omega))
    clear HI3
    go_wp2
    go_ret
    exact HI4.out.fin hg hw (by omega)
  have e5 : (z == 5) = false := by simp [z5]
  by_cases z6 : z = 6
  · subst z6
    have n1 : ¬ c = 144 := by omega
    have n2 : ¬ c = 20 := by omega
    have g1 : (144 : Int) ≤ (c : Int) := by omega
    have g2 : (24 : Int) ≤ (c : Int) := by omega
    have hr : Rd .u8 w1 (.slice (some ⟨g, 20, none⟩) 4 (c - 20)) ((bs.drop 20).take 4) := by
      have h := Rd.part (k := .u8) (w := w1) (b := g) (off := 0) (n := 4) (c := c - 20) (bs := bs) (fun i hi => by rw [Nat.zero_add]; exact HI1.out.own.cell HI1.out.len.symm i (by rw [← HI1.out.len]; exact hi)) 20 4 (by rw [HI1.out.len]; omega) rfl (by omega) (by unfold maxLen; omega)
      rw [Nat.zero_add] at h
      exact h
    obtain ⟨ys, hys⟩ : ∃ ys, (bs.drop 20).take 4 = ys := ⟨_, rfl⟩
    have hyl : ys.length = 4 := by rw [← hys, List.length_take, List.length_drop, HI1.out.len]; rfl
    have HYB := (show Hid (IsB ys) from by unfold Hid; rw [← hys]; exact isB_take (isB_drop HI1.out.isB _) _)
    rw [hys] at hr
    clear hys
    have hkd : Same w1 w1.drew := (Kept.refl _ _).drew
    have hcp := run_copyOwn (P := Try.prog) 3 Try.underlying22 byte_one (HI1.out.own.same hkd) HI1.out.len.symm 144 (by omega) (hr.same hkd)
    rw [show behind g c 144 = some ⟨g, 144, none⟩ from if_neg n1, hyl] at hcp
    have HI2 := hid (HI1.out.other hg hw ((HI1.out.own.same hkd).laid HI1.out.len.symm 144 ys (by omega)) (Kept.setCells (R := fun b => b = g) (.inr rfl) _ _ (hkd.mono (fun _ _ e => e.elim))) (by rw [layI_length _ _ _ (by rw [HI1.out.len]; omega), HI1.out.len]) (isB_lay HI1.out.isB HYB.out _))
    clear hkd hr HYB
    go_wp2_with fail
    have hS : (fun _ : World => True) w1.drew := by trivial
    refine wp_region_V (fun _ : World => True) 99 5 rfl (by kernel_rfl) ?_
    refine tk 0 54 hS ?_
    refine tkV 1 55 (.slice (some ⟨g, 144, none⟩) (4096 - 144) (c - 144)) hS ?_
    refine tk 2 56 hS ?_
    refine tkV 3 57 (.slice (some ⟨g, 20, none⟩) 4 (c - 20)) hS ?_
    refine wpAnyV_one (i := 4) (by kernel_rfl) rfl (fun K hK => ?_)
    go_simp
    refine hK.out _ _ (fun _ => trivial) ?_
    clear hK K
    refine wpAnyV_done (by kernel_rfl) ?_
    try simp only [Act.put, sA, s0, sS]
    generalize w1.drew.setCells g 144 (vals .u8 ys) = w2 at HI2 ⊢
    clear hcp hS
    go_wp2
    go_ret
    exact HI2.out.fin hg hw (by omega)
  have e6 : (z == 6) = false := by simp [z6]
  by_cases z7 : z = 7
  · subst z7
    go_wp2_with fail
    refine (next_k 3 HI1.out.src (by omega) (by constructor <;> decide)).mono ?_
    rintro e w2 ⟨r, rfl, hd, hs', hk'⟩
    obtain ⟨hr1, hr2⟩ := hd.2 (by decide)
    have HI2 := hid (HI1.out.draw hg hs' hk')
    clear hd hs' hk' HI1
    have q1 : IntKind.i64.wrap (4096 - r) = 4096 - r := by rw [IntKind.wrap_i64]; omega
    go_wp2_with fail
    refine (next_k 3 HI2.out.src (by omega) (by constructor <;> decide)).mono ?_
    rintro e w3 ⟨q, rfl, hd, hs', hk'⟩
    obtain ⟨hq1, hq2⟩ := hd.2 (by decide)
    have HI3 := hid (HI2.out.draw hg hs' hk')
    clear hd hs' hk' HI2
    go_wp2_with fail
    refine (l3Set_any g c bs 30 (4096 - r) q w3 HI3.out.len (by decide) (by omega) (by omega) HI3.out.own).mono ?_
    rintro e w4 ⟨rfl, ho4, hk4⟩
    have HI4 := hid (HI3.out.other hg hw ho4 hk4 (by rw [layI_length _ _ _ (by rw [layI_length _ _ _ (by rw [lows_length, HI3.out.len]; omega), lows_length, HI3.out.len]; omega), layI_length _ _ _ (by rw [lows_length, HI3.out.len]; omega), HI3.out.len]) (isB_lay (isB_lay HI3.out.isB (lows_isB _ _) _) (lows_isB _ _) _))
    clear ho4 hk4 HI3
    go_wp2
    go_ret
    exact HI4.out.fin hg hw (by omega)
  have e7 : (z == 7) = false := by simp [z7]
  by_cases z8 : z = 8
  · subst z8
    have hn16 := numAt_in bs HI1.out.isB 16 2 (by decide) (by decide) (by rw [HI1.out.len]; decide)
    go_wp2_with fail
    refine (l3Bottom_any g 0 c bs w1 HI1.out.isB HI1.out.len HI1.out.own.rd).mono ?_
    rintro e w2 ⟨rfl, hk2⟩
    have HI2 := hid (HI1.out.same hk2)
    clear hk2 HI1
    obtain ⟨nb, hnb⟩ : ∃ x, numAt bs 16 2 = x := ⟨_, rfl⟩
    rw [hnb] at hn16 ⊢
    clear hnb
    go_wp2_with fail
    refine (next_k 2 HI2.out.src (by omega) (by constructor <;> decide)).mono ?_
    rintro e w3 ⟨q, rfl, hd, hs', hk'⟩
    obtain ⟨hq1, hq2⟩ := hd.2 (by decide)
    have HI3 := hid (HI2.out.draw hg hs' hk')
    clear hd hs' hk' HI2
    have q1 : IntKind.i64.wrap (q * 1000) = q * 1000 := by rw [IntKind.wrap_i64]; omega
    go_wp2_with fail
    refine (l3Set_any g c bs 29 nb (q * 1000) w3 HI3.out.len (by decide) (by omega) (by omega) HI3.out.own).mono ?_
    rintro e w4 ⟨rfl, ho4, hk4⟩
    have HI4 := hid (HI3.out.other hg hw ho4 hk4 (by rw [layI_length _ _ _ (by rw [layI_length _ _ _ (by rw [lows_length, HI3.out.len]; omega), lows_length, HI3.out.len]; omega), layI_length _ _ _ (by rw [lows_length, HI3.out.len]; omega), HI3.out.len]) (isB_lay (isB_lay HI3.out.isB (lows_isB _ _) _) (lows_isB _ _) _))
    clear ho4 hk4 HI3
    go_wp2
    go_ret
    exact HI4.out.fin hg hw (by omega)
  have e8 : (z == 8) = false := by simp [z8]
  go_wp2
  go_ret
  exact HI1.out.fin hg hw (by omega)
end Go.Proofs.Ytcnaabjgjmodeaa

namespace Go.Proofs.Ytcnaabjgjmodeaa
set_option maxRecDepth 100000
set_option maxHeartbeats 8000000
open Go.RowKit
set_option linter.unusedVariables false
set_option linter.unusedSimpArgs false
theorem maybe_k {w0 w : World} {B : Nat} {v : Value} {cs : List Int} {k : Nat} {size : Int} (h : SrcR w0 w B v cs k size) (hk : k ≤ 1073700000) :
    Calls Try.prog 39 #[.pointer (some ⟨B, 0, none⟩)] w fun e w' => BnR (fun b => b = B) w0 w w' e B v cs (k + 500) size := by
  have hBw := h.lt
  have hw0 := h.kept.size
  have HS := hid h
  clear h
  go_enter Try.func39, Try.ntmps39
  go_wp2_with fail
  refine (next_k 16 HS.out (by omega) (by constructor <;> decide)).mono ?_
  rintro e w1 ⟨n, rfl, hd, hs1, hk1⟩
  obtain ⟨hn1, hn2⟩ := hd.2 (by decide)
  have HS1 := hid hs1
  have HK1 := hid hk1
  clear hd hs1 hk1 HS
  go_wp2_with fail
  refine (pg_k n hn1 hn2 HS1.out (by omega)).mono ?_
  rintro e w2 ⟨g, c, bs, k2, rfl, hl, hbb, ho, hgB, hk2, hs2, hgw, hkk2⟩
  have hz1 := HK1.out.size
  have HO := (show Hid (Own 0 5 .u8 w2 (.slice (some ⟨g, 0, none⟩) 4096 c) bs) from ho.mono (fun _ _ => Nat.zero_le _))
  have HS2 := hid hs2
  have HK2 := hid (HK1.out.trans hkk2)
  have HL := hid hl
  have HBB := hid hbb
  clear ho hs2 hkk2 HK1 HS1 hl hbb
  go_wp2_with fail
  refine (chance_k 5 HS2.out (by omega) (by constructor <;> decide)).mono ?_
  rintro e w3 ⟨b, rfl, hs3, hk3⟩
  have HO3 := hid (HO.out.kept hk3 (fun b hb e => by have e1 : g = b := (by simpa [Value.ownBlock] using hb); omega))
  have HS3 := hid hs3
  have HK3 := hid (HK2.out.trans hk3)
  clear hs3 hk3 HO HS2 HK2
  cases b
  · go_wp2
    go_ret
    exact bn_of HO3.out HL.out HBB.out hgB (by omega) (by omega) HS3.out HK3.out
  · go_wp2_with fail
    refine (bend_k g c bs HS3.out (by omega) hgB (by omega) HL.out HBB.out HO3.out).mono ?_
    rintro e w4 ⟨b4, off4, n4, c4, bs4, k4, rfl, hl4, hn4, hb4, hr4, hk4, hs4, hkk4⟩
    have HE := (show Hid (BnR (fun b => b = B) w0 w w4 (.returned (.slice (some ⟨b4, off4, none⟩) n4 c4)) B v cs (k + 500) size) from ⟨b4, off4, n4, c4, bs4, k4, rfl, hl4, hn4, hb4, hr4, by omega, hs4, HK3.out.next hkk4 (fun i hi e => by rcases e with e | e; exact e; omega)⟩)
    clear hl4 hb4 hr4 hs4 hkk4
    go_wp2
    go_ret
    exact HE.out
def DsR (w w' : World) (e : Ending) : Prop :=
  ∃ (b off n c : Nat) (bs : List Int) (s : Int) (u : Bool) (a : Option Addr) (cd : Nat) (d : List Int) (lsn : Int), e = .returned (.tuple #[.slice (some ⟨b, off, none⟩) n c, .int .i64 s, .agg #[.bool u, .slice a d.length cd], .int .i64 lsn]) ∧ bs.length = n ∧ n ≤ 4096 ∧ IsB bs ∧ Rd .u8 w' (.slice (some ⟨b, off, none⟩) n c) bs ∧
    d.length ≤ 1001 ∧ IsB d ∧ Rd .u8 w' (.slice a d.length cd) d ∧ (-1 ≤ s ∧ s ≤ 32) ∧ (-1 ≤ lsn ∧ lsn ≤ 1099511627777) ∧ Same w w'
def RdF (F : Nat → Prop) (w : World) (v : Value) (bs : List Int) : Prop := ∀ w', Kept F w w' → Rd .u8 w' v bs
theorem RdF.on {F : Nat → Prop} {w w' : World} {v : Value} {bs : List Int} (h : RdF F w v bs) (hk : Kept F w w') : RdF F w' v bs := fun w2 h2 => h w2 (hk.trans h2)
theorem Own.rdF {b0 : Nat} {e : TypeId} {F : Nat → Prop} {w : World} {v : Value} {bs : List Int} (h : Own b0 e .u8 w v bs) (hB : ∀ b, v.ownBlock = some b → ¬ F b) : RdF F w v bs := fun w' hk => (h.kept hk hB).rd
structure Pl (w w0 : World) (B X X0 : Nat) : Prop where
  b1 : w.heap.size ≤ B
  b2 : B < w0.heap.size
  x1 : w.heap.size ≤ X0
  x2 : X0 < w0.heap.size
  xb : ¬ B = X0
  x : w0.heap.size ≤ X
structure DsI (w w0 wr : World) (B : Nat) (v : Value) (cs : List Int) (k : Nat) (size : Int) (pv : Value) (bs : List Int) (X X0 : Nat) (u : Bool) (a : Option Addr) (dn cd : Nat) (d : List Int) : Prop where
  src : SrcR w0 wr B v cs k size
  page : RdF (fun b => b = X ∨ b < w0.heap.size) wr pv bs
  box : Blk wr X 24 [.bool u, .slice a dn cd]
  res : Blk wr X0 24 [.bool false, .slice none 0 0]
  dat : RdF (fun b => b = X ∨ b < w0.heap.size) wr (.slice a dn cd) d
  len : d.length = dn ∧ dn ≤ 1001
  isB : IsB d
  kept : Same w wr
section
variable {w w0 wr wx : World} {B : Nat} {v : Value} {cs : List Int} {k k' : Nat} {size : Int} {pv : Value} {bs : List Int} {X X0 : Nat} {u : Bool} {a : Option Addr} {dn cd : Nat} {d : List Int}
theorem DsI.draw (h : DsI w w0 wr B v cs k size pv bs X X0 u a dn cd d) (hp : Pl w w0 B X X0) (hs : SrcR w0 wx B v cs k' size) (hk : Kept (fun b => b = B) wr wx) : DsI w w0 wx B v cs k' size pv bs X X0 u a dn cd d :=
  ⟨hs, h.page.on (hk.mono (fun b _ e => .inr (by have h1 := hp.b2; have e' : b = B := e; omega))), h.box.kept hk (fun e => by have h1 := hp.b2; have h2 := hp.x; omega), h.res.kept hk (fun e => hp.xb e.symm), h.dat.on (hk.mono (fun b _ e => .inr (by have h1 := hp.b2; have e' : b = B := e; omega))), h.len, h.isB, h.kept.next hk (fun i hi e => by have h1 := hp.b1; have e' : i = B := e; omega)⟩
theorem DsI.same (h : DsI w w0 wr B v cs k size pv bs X X0 u a dn cd d) (hk : Same wr wx) : DsI w w0 wx B v cs k size pv bs X X0 u a dn cd d :=
  ⟨h.src.same hk, h.page.on (hk.mono (fun b _ e => e.elim)), h.box.same hk, h.res.same hk, h.dat.on (hk.mono (fun b _ e => e.elim)), h.len, h.isB, h.kept.trans hk⟩
theorem DsI.used (h : DsI w w0 wr B v cs k size pv bs X X0 u a dn cd d) (hp : Pl w w0 B X X0) (u' : Bool) : DsI w w0 (wr.setCell ⟨X, 0, none⟩ (.bool u')) B v cs k size pv bs X X0 u' a dn cd d := by
  have hk : Kept (fun b => b = X) wr (wr.setCell ⟨X, 0, none⟩ (.bool u')) := (Kept.refl (fun b => b = X) wr).setCell (p := ⟨X, 0, none⟩) (.inr rfl) _
  have h1 := hp.x; have h2 := hp.b2; have h3 := hp.x2; have h4 := hp.x1
  exact ⟨h.src.on hk (fun e => by omega) (fun i hi e => by omega), h.page.on (hk.mono (fun _ _ e => .inl e)), h.box.stored 0 (.bool u'), h.res.kept hk (fun e => by omega), h.dat.on (hk.mono (fun _ _ e => .inl e)), h.len, h.isB, h.kept.next hk (fun i hi e => by have e' : i = X := e; omega)⟩
theorem DsI.data {g N : Nat} {d' : List Int} (h : DsI w w0 wr B v cs k size pv bs X X0 u a dn cd d) (hp : Pl w w0 B X X0) (hl : d'.length = N) (hN : N ≤ 1001) (hb : IsB d') (ho : Own w0.heap.size 5 .u8 wr (.slice (some ⟨g, 0, none⟩) N N) d') (hg : ¬ g = X) : DsI w w0 (wr.setCell ⟨X, 1, none⟩ (.slice (some ⟨g, 0, none⟩) N N)) B v cs k size pv bs X X0 u (some ⟨g, 0, none⟩) N N d' := by
  have hk : Kept (fun b => b = X) wr (wr.setCell ⟨X, 1, none⟩ (.slice (some ⟨g, 0, none⟩) N N)) := (Kept.refl (fun b => b = X) wr).setCell (p := ⟨X, 1, none⟩) (.inr rfl) _
  have h1 := hp.x; have h2 := hp.b2; have h3 := hp.x2; have h4 := hp.x1
  have hd : RdF (fun b => b = X ∨ b < w0.heap.size) wr (.slice (some ⟨g, 0, none⟩) N N) d' := ho.rdF (fun b hb e => by have e1 : g = b := (by simpa [Value.ownBlock] using hb); have := (ho.lt b hb).1; omega)
  exact ⟨h.src.on hk (fun e => by omega) (fun i hi e => by omega), h.page.on (hk.mono (fun _ _ e => .inl e)), h.box.stored 1 _, h.res.kept hk (fun e => by omega), hd.on (hk.mono (fun _ _ e => .inl e)), ⟨hl, hN⟩, hb, h.kept.next hk (fun i hi e => by have e' : i = X := e; omega)⟩
end
theorem results_c4 {fn : Func} {p q r t : Tmp} {ty : TypeId} (h : fn.results = #[.tmp p, .tmp q, .cell r ty, .tmp t]) (tmps : Array Value) (P : Program) (w : World) :
    (results fn tmps).run P w =
      ((asAddr (tmps.getD r undef)).run P w).andThen fun a w₁ => ((loadVar ty a).run P w₁).andThen fun v w₂ => .ok (.tuple #[tmps.getD p undef, tmps.getD q undef, v, tmps.getD t undef]) w₂ := by
  simp only [results, h]
  simp [Sem.run_bind, Result.andThen]
theorem drawSet_any (v : Value) (cs : List Int) (w : World) (hb : IsB cs) (hn : cs.length ≤ 1048576) (hv : Rd .u8 w v cs) :
    Calls Try.prog 7 #[v] w fun e w' => DsR w w' e := by
  have b0 := Blk.new w #[.bool false, .slice none 0 0] 24
  have hk0 : Same w (w.alloc (.cells #[.bool false, .slice none 0 0] 24)) := (Kept.refl _ _).alloc _
  have k1 := source_r v cs _ hb hn (hv.same hk0)
  clear hv hb hn
  go_enter Try.func7, Try.ntmps7
  go_wp2_with fail
  obtain ⟨X0, hX⟩ : ∃ X, w.heap.size = X := ⟨_, rfl⟩
  rw [hX] at b0 ⊢
  generalize w.alloc (.cells #[.bool false, .slice none 0 0] 24) = w1 at *
  have HB0 := hid b0
  have HK0 := hid hk0
  have hl0 := b0.lt
  clear b0 hk0
  refine k1.mono ?_
  rintro e w0 ⟨B, size, rfl, hB, hs, hk⟩
  have HS0 := hid hs
  have HR0 := hid (HB0.out.same hk)
  have HK0 := hid (HK0.out.trans hk)
  have hB2 := hs.lt
  have hz0 := hk.size
  clear hs hk k1 HB0
  go_wp2_with fail
  refine (maybe_k HS0.out (by omega)).mono ?_
  rintro e w2 ⟨b, off, n, c, bs, k2, rfl, hl, hn, hbb, hrd, hk2, hs2, hkk2⟩
  have HS2 := hid hs2
  have HP2 := hid hrd
  have HK2 := hid hkk2
  have HL := hid hl
  have HBB := hid hbb
  have hz2 := hkk2.size
  clear hl hbb hrd hs2 hkk2 HS0
  go_wp2_with fail
  refine (next_k 8 HS2.out (by omega) (by constructor <;> decide)).mono ?_
  rintro e w3 ⟨s, rfl, hd, hs3, hk3⟩
  obtain ⟨hss1, hss2⟩ := hd.2 (by decide)
  have HS3 := hid hs3
  have HP3 := hid (HP2.out.draw hk3)
  have HK3 := hid (HK2.out.trans hk3)
  have hz3 := hk3.size
  clear hd hs3 hk3 HS2 HP2 HK2
  go_wp2_with fail
  refine (rec_k HS3.out (by omega)).mono ?_
  rintro e w4 ⟨u, ra, rc, d, k4, rfl, hdl, hdb, hdr, hk4, hs4, hkk4⟩
  have hz4 := hkk4.size
  obtain ⟨dn, hdn⟩ : ∃ n, d.length = n := ⟨_, rfl⟩
  rw [hdn] at hdr ⊢
  have hp : Pl w w0 B w4.heap.size X0 := ⟨by omega, hB2, by omega, by omega, by omega, by omega⟩
  have hk5 : Same w4 (w4.alloc (.cells #[.bool u, .slice ra dn rc] 24)) := (Kept.refl _ _).alloc _
  have HI := (show Hid (DsI w w0 (w4.alloc (.cells #[.bool u, .slice ra dn rc] 24)) B v cs k4 size (.slice (some ⟨b, off, none⟩) n c) bs w4.heap.size X0 u ra dn rc d) from ⟨hs4.same hk5, fun wy hy => (HP3.out.draw hkk4) wy ((hk5.mono (fun _ _ e => e.elim)).trans (hy.mono (fun i _ e => by rcases e with e | e; exact .inr (.inl (by omega)); exact .inr (.inr e)))), Blk.new _ _ _, ((HR0.out.kept HK3.out (fun e => by omega)).kept hkk4 (fun e => by omega)).same hk5, fun wy hy => hdr wy ((hk5.mono (fun _ _ e => e.elim)).trans (hy.mono (fun i _ e => by rcases e with e | e; exact .inr (.inl (by omega)); exact .inr (.inr e)))), ⟨hdn, by omega⟩, hdb, ((HK0.out.next (HK3.out.trans hkk4) (fun i hi e => by have e' : i = B := e; omega)).trans hk5)⟩)
  have hdn' : dn ≤ 1001 := by omega
  clear hdl hdb hdr hs4 hkk4 hk5 HS3 HP3 HK3 HR0 HK0 hdn
  obtain ⟨X, hX4⟩ : ∃ X, w4.heap.size = X := ⟨_, rfl⟩
  go_wp2_with fail
  rw [hX4] at HI hp
  try rw [hX4]
  generalize w4.alloc (.cells #[.bool u, .slice ra dn rc] 24) = w5 at *
  clear hX4
  refine (next_k 100000 HI.out.src (by omega) (by constructor <;> decide)).mono ?_
  rintro e w6 ⟨l, rfl, hd, hs6, hk6⟩
  obtain ⟨hl1, hl2⟩ := hd.2 (by decide)
  have HI6 := hid (HI.out.draw hp hs6 hk6)
  clear hd hs6 hk6 HI
  go_wp2_with fail
  refine (next_k 20 HI6.out.src (by omega) (by constructor <;> decide)).mono ?_
  rintro e w7 ⟨z, rfl, hd, hs7, hk7⟩
  have HI7 := hid (HI6.out.draw hp hs7 hk7)
  clear hd hs7 hk7 HI6
  go_upto_block 0 with fail
  go_cut [8, 10] (fun sv lv wx => ∃ (s l : Int) (u : Bool) (a : Option Addr) (dn cd k' : Nat) (d : List Int), sv = .int .i64 s ∧ lv = .int .i64 l ∧ -1 ≤ s ∧ s ≤ 32 ∧ -1 ≤ l ∧ l ≤ 1099511627777 ∧ Hid (DsI w w0 wx B v cs k' size (.slice (some ⟨b, off, none⟩) n c) bs X X0 u a dn cd d))
  case first =>
    by_cases z0 : z = 0
    · subst z0
      go_wp2_with fail
      refine (next_k 2 HI7.out.src (by omega) (by constructor <;> decide)).mono ?_
      rintro e w8 ⟨r, rfl, hd, hs', hk'⟩
      obtain ⟨hr1, hr2⟩ := hd.2 (by decide)
      have HI8 := hid (HI7.out.draw hp hs' hk')
      clear hd hs' hk' HI7
      have q1 : IntKind.i64.wrap (32 - r) = 32 - r := by rw [IntKind.wrap_i64]; omega
      go_wp2_with fail
      go_meet
      case rel => exact ⟨32 - r, 512 + l, _, _, _, _, _, _, rfl, rfl, by omega, by omega, by omega, by omega, HI8⟩
    have e0 : (z == 0) = false := by simp [z0]
    by_cases z1 : z = 1
    · subst z1
      go_wp2_with fail
      go_meet
      case rel => exact ⟨-1, 512 + l, _, _, _, _, _, _, rfl, rfl, by omega, by omega, by omega, by omega, HI7⟩
    have e1 : (z == 1) = false := by simp [z1]
    by_cases z2 : z = 2
    · subst z2
      go_wp2_with fail
      refine (fill_k 1001 HI7.out.src (by omega) (by omega)).mono ?_
      rintro e w8 ⟨g, d2, rfl, hbl, hbb2, ho, hgB, hs', hgw, hk'⟩
      have hgX : ¬ g = X := fun e => by have := HI7.out.box.lt; omega
      have HI8 := hid (HI7.out.draw hp hs' hk')
      have HO := hid ho
      have HB2 := hid hbb2
      clear ho hs' hk' HI7 hbb2 hgw
      obtain ⟨x0, x1⟩ := HI8.out.box.all2
      have fx := HI8.out.box.frozen
      have HE := hid (HI8.out.data hp hbl (by omega) HB2.out HO.out hgX)
      clear HI8 HO
      go_wp2_with fail
      go_meet
      case rel => exact ⟨s, 512 + l, _, _, _, _, _, _, rfl, rfl, by omega, by omega, by omega, by omega, HE⟩
    have e2 : (z == 2) = false := by simp [z2]
    by_cases z3 : z = 3
    · subst z3
      obtain ⟨x0, x1⟩ := HI7.out.box.all2
      have fx := HI7.out.box.frozen
      have HE := hid (HI7.out.used hp false)
      clear HI7
      go_wp2_with fail
      go_meet
      case rel => exact ⟨s, 512 + l, _, _, _, _, _, _, rfl, rfl, by omega, by omega, by omega, by omega, HE⟩
    have e3 : (z == 3) = false := by simp [z3]
    by_cases z4 : z = 4
    · subst z4
      go_wp2_with fail
      refine (next_k 2 HI7.out.src (by omega) (by constructor <;> decide)).mono ?_
      rintro e w8 ⟨r, rfl, hd, hs', hk'⟩
      obtain ⟨hr1, hr2⟩ := hd.2 (by decide)
      have HI8 := hid (HI7.out.draw hp hs' hk')
      clear hd hs' hk' HI7
      have q1 : IntKind.i64.wrap (1099511627776 + r) = 1099511627776 + r := by rw [IntKind.wrap_i64]; omega
      go_wp2_with fail
      go_meet
      case rel => exact ⟨s, 1099511627776 + r, _, _, _, _, _, _, rfl, rfl, by omega, by omega, by omega, by omega, HI8⟩
    have e4 : (z == 4) = false := by simp [z4]
    by_cases z5 : z = 5
    · subst z5
      go_wp2_with fail
      go_meet
      case rel => exact ⟨s, -1, _, _, _, _, _, _, rfl, rfl, by omega, by omega, by omega, by omega, HI7⟩
    have e5 : (z == 5) = false := by simp [z5]
    by_cases z6 : z = 6
    · subst z6
      by_cases hn4 : n = 4096
      · have HL4 := hid (HL.out.trans hn4)
        have hn16 := numAt_in bs HBB.out 16 2 (by decide) (by decide) (by rw [HL4.out]; decide)
        have kL := l3Bottom_any b off c bs w7 HBB.out HL4.out (by have h := HI7.out.page w7 (Kept.refl _ _); rw [hn4] at h; exact h)
        subst hn4
        go_wp2_with fail
        refine kL.mono ?_
        rintro e w8 ⟨rfl, hk8⟩
        have HI8 := hid (HI7.out.same hk8)
        clear hk8 HI7 kL
        obtain ⟨nb, hnb⟩ : ∃ x, numAt bs 16 2 = x := ⟨_, rfl⟩
        rw [hnb] at hn16 ⊢
        have p16 : (256 : Int) ^ 2 = 65536 := by decide
        rw [p16] at hn16
        clear hnb p16
        have q0 : IntKind.i64.wrap (nb - 148) = nb - 148 := by rw [IntKind.wrap_i64]; omega
        go_wp2_with fail
        refine (next_k 2 HI8.out.src (by omega) (by constructor <;> decide)).mono ?_
        rintro e w9 ⟨r, rfl, hd, hs', hk'⟩
        obtain ⟨hr1, hr2⟩ := hd.2 (by decide)
        have HI9 := hid (HI8.out.draw hp hs' hk')
        clear hd hs' hk' HI8
        obtain ⟨m, hm⟩ : ∃ m, nb - 148 + r = m := ⟨_, rfl⟩
        have q1 : IntKind.i64.wrap (nb - 148 + r) = m := by rw [IntKind.wrap_i64]; omega
        clear hm
        by_cases hm1 : 0 ≤ m
        · by_cases hm2 : m ≤ 1000
          · obtain ⟨N, rfl⟩ : ∃ N : Nat, m = (N : Int) := ⟨m.toNat, by omega⟩
            obtain ⟨x0, x1⟩ := HI9.out.box.all2
            have fx := HI9.out.box.frozen
            have HU := hid (HI9.out.used hp true)
            clear HI9
            go_upto_region 26 with fail
            generalize w9.setCell ⟨X, 0, none⟩ (.bool true) = w10 at HU ⊢
            clear x0 x1 fx
            go_wp2_with fail
            refine (fill_k N HU.out.src (by omega) (by omega)).mono ?_
            rintro e w11 ⟨g, d2, rfl, hbl, hbb2, ho, hgB, hs', hgw, hk'⟩
            have hgX : ¬ g = X := fun e => by have := HU.out.box.lt; omega
            have HV := hid (HU.out.draw hp hs' hk')
            have HO := hid ho
            have HB2 := hid hbb2
            clear ho hs' hk' HU hbb2 hgw
            obtain ⟨x0, x1⟩ := HV.out.box.all2
            have fx := HV.out.box.frozen
            have HE := hid (HV.out.data hp hbl (by omega) HB2.out HO.out hgX)
            clear HV HO
            go_wp2_with fail
            go_meet
            case rel => exact ⟨s, 512 + l, _, _, _, _, _, _, rfl, rfl, by omega, by omega, by omega, by omega, HE⟩
          · have hm3 : ¬ m ≤ 1000 := hm2
            go_wp2_with fail
            go_meet
            case rel => exact ⟨s, 512 + l, _, _, _, _, _, _, rfl, rfl, by omega, by omega, by omega, by omega, HI9⟩
        · have hm3 : ¬ 0 ≤ m := hm1
          go_wp2_with fail
          go_meet
          case rel => exact ⟨s, 512 + l, _, _, _, _, _, _, rfl, rfl, by omega, by omega, by omega, by omega, HI9⟩
      · have hn5 : ¬ (n : Int) = 4096 := by omega
        go_wp2_with fail
        go_meet
        case rel => exact ⟨s, 512 + l, _, _, _, _, _, _, rfl, rfl, by omega, by omega, by omega, by omega, HI7⟩
    have e6 : (z == 6) = false := by simp [z6]
    by_cases z7 : z = 7
    · subst z7
      by_cases hn4 : n = 4096
      · have HL4 := hid (HL.out.trans hn4)
        have hn16 := numAt_in bs HBB.out 16 2 (by decide) (by decide) (by rw [HL4.out]; decide)
        have kL := l3Bottom_any b off c bs w7 HBB.out HL4.out (by have h := HI7.out.page w7 (Kept.refl _ _); rw [hn4] at h; exact h)
        subst hn4
        go_wp2_with fail
        refine kL.mono ?_
        rintro e w8 ⟨rfl, hk8⟩
        have HI8 := hid (HI7.out.same hk8)
        clear hk8 HI7 kL
        obtain ⟨nb, hnb⟩ : ∃ x, numAt bs 16 2 = x := ⟨_, rfl⟩
        rw [hnb] at hn16 ⊢
        have p16 : (256 : Int) ^ 2 = 65536 := by decide
        rw [p16] at hn16
        clear hnb p16
        have q0 : IntKind.i64.wrap (nb - 148) = nb - 148 := by rw [IntKind.wrap_i64]; omega
        go_wp2_with fail
        refine (next_k 2 HI8.out.src (by omega) (by constructor <;> decide)).mono ?_
        rintro e w9 ⟨r, rfl, hd, hs', hk'⟩
        obtain ⟨hr1, hr2⟩ := hd.2 (by decide)
        have HI9 := hid (HI8.out.draw hp hs' hk')
        clear hd hs' hk' HI8
        obtain ⟨m, hm⟩ : ∃ m, nb - 148 + r = m := ⟨_, rfl⟩
        have q1 : IntKind.i64.wrap (nb - 148 + r) = m := by rw [IntKind.wrap_i64]; omega
        clear hm
        by_cases hm1 : 0 ≤ m
        · by_cases hm2 : m ≤ 1000
          · obtain ⟨N, rfl⟩ : ∃ N : Nat, m = (N : Int) := ⟨m.toNat, by omega⟩
            obtain ⟨x0, x1⟩ := HI9.out.box.all2
            have fx := HI9.out.box.frozen
            have HU := hid (HI9.out.used hp true)
            clear HI9
            go_upto_region 26 with fail
            generalize w9.setCell ⟨X, 0, none⟩ (.bool true) = w10 at HU ⊢
            clear x0 x1 fx
            go_wp2_with fail
            refine (fill_k N HU.out.src (by omega) (by omega)).mono ?_
            rintro e w11 ⟨g, d2, rfl, hbl, hbb2, ho, hgB, hs', hgw, hk'⟩
            have hgX : ¬ g = X := fun e => by have := HU.out.box.lt; omega
            have HV := hid (HU.out.draw hp hs' hk')
            have HO := hid ho
            have HB2 := hid hbb2
            clear ho hs' hk' HU hbb2 hgw
            obtain ⟨x0, x1⟩ := HV.out.box.all2
            have fx := HV.out.box.frozen
            have HE := hid (HV.out.data hp hbl (by omega) HB2.out HO.out hgX)
            clear HV HO
            go_wp2_with fail
            go_meet
            case rel => exact ⟨s, 512 + l, _, _, _, _, _, _, rfl, rfl, by omega, by omega, by omega, by omega, HE⟩
          · have hm3 : ¬ m ≤ 1000 := hm2
            go_wp2_with fail
            go_meet
            case rel => exact ⟨s, 512 + l, _, _, _, _, _, _, rfl, rfl, by omega, by omega, by omega, by omega, HI9⟩
        · have hm3 : ¬ 0 ≤ m := hm1
          go_wp2_with fail
          go_meet
          case rel => exact ⟨s, 512 + l, _, _, _, _, _, _, rfl, rfl, by omega, by omega, by omega, by omega, HI9⟩
      · have hn5 : ¬ (n : Int) = 4096 := by omega
        go_wp2_with fail
        go_meet
        case rel => exact ⟨s, 512 + l, _, _, _, _, _, _, rfl, rfl, by omega, by omega, by omega, by omega, HI7⟩
    have e7 : (z == 7) = false := by simp [z7]
    by_cases z8 : z = 8
    · subst z8
      by_cases hn4 : n = 4096
      · have HL4 := hid (HL.out.trans hn4)
        have hn16 := numAt_in bs HBB.out 16 2 (by decide) (by decide) (by rw [HL4.out]; decide)
        have kL := l3Bottom_any b off c bs w7 HBB.out HL4.out (by have h := HI7.out.page w7 (Kept.refl _ _); rw [hn4] at h; exact h)
        subst hn4
        go_wp2_with fail
        refine kL.mono ?_
        rintro e w8 ⟨rfl, hk8⟩
        have HI8 := hid (HI7.out.same hk8)
        clear hk8 HI7 kL
        obtain ⟨nb, hnb⟩ : ∃ x, numAt bs 16 2 = x := ⟨_, rfl⟩
        rw [hnb] at hn16 ⊢
        have p16 : (256 : Int) ^ 2 = 65536 := by decide
        rw [p16] at hn16
        clear hnb p16
        have q0 : IntKind.i64.wrap (nb - 148) = nb - 148 := by rw [IntKind.wrap_i64]; omega
        go_wp2_with fail
        refine (next_k 2 HI8.out.src (by omega) (by constructor <;> decide)).mono ?_
        rintro e w9 ⟨r, rfl, hd, hs', hk'⟩
        obtain ⟨hr1, hr2⟩ := hd.2 (by decide)
        have HI9 := hid (HI8.out.draw hp hs' hk')
        clear hd hs' hk' HI8
        obtain ⟨m, hm⟩ : ∃ m, nb - 148 + r = m := ⟨_, rfl⟩
        have q1 : IntKind.i64.wrap (nb - 148 + r) = m := by rw [IntKind.wrap_i64]; omega
        clear hm
        by_cases hm1 : 0 ≤ m
        · by_cases hm2 : m ≤ 1000
          · obtain ⟨N, rfl⟩ : ∃ N : Nat, m = (N : Int) := ⟨m.toNat, by omega⟩
            obtain ⟨x0, x1⟩ := HI9.out.box.all2
            have fx := HI9.out.box.frozen
            have HU := hid (HI9.out.used hp true)
            clear HI9
            go_upto_region 26 with fail
            generalize w9.setCell ⟨X, 0, none⟩ (.bool true) = w10 at HU ⊢
            clear x0 x1 fx
            go_wp2_with fail
            refine (fill_k N HU.out.src (by omega) (by omega)).mono ?_
            rintro e w11 ⟨g, d2, rfl, hbl, hbb2, ho, hgB, hs', hgw, hk'⟩
            have hgX : ¬ g = X := fun e => by have := HU.out.box.lt; omega
            have HV := hid (HU.out.draw hp hs' hk')
            have HO := hid ho
            have HB2 := hid hbb2
            clear ho hs' hk' HU hbb2 hgw
            obtain ⟨x0, x1⟩ := HV.out.box.all2
            have fx := HV.out.box.frozen
            have HE := hid (HV.out.data hp hbl (by omega) HB2.out HO.out hgX)
            clear HV HO
            go_wp2_with fail
            go_meet
            case rel => exact ⟨s, 512 + l, _, _, _, _, _, _, rfl, rfl, by omega, by omega, by omega, by omega, HE⟩
          · have hm3 : ¬ m ≤ 1000 := hm2
            go_wp2_with fail
            go_meet
            case rel => exact ⟨s, 512 + l, _, _, _, _, _, _, rfl, rfl, by omega, by omega, by omega, by omega, HI9⟩
        · have hm3 : ¬ 0 ≤ m := hm1
          go_wp2_with fail
          go_meet
          case rel => exact ⟨s, 512 + l, _, _, _, _, _, _, rfl, rfl, by omega, by omega, by omega, by omega, HI9⟩
      · have hn5 : ¬ (n : Int) = 4096 := by omega
        go_wp2_with fail
        go_meet
        case rel => exact ⟨s, 512 + l, _, _, _, _, _, _, rfl, rfl, by omega, by omega, by omega, by omega, HI7⟩
    have e8 : (z == 8) = false := by simp [z8]
    go_wp2_with fail
    go_meet
    case rel => exact ⟨s, 512 + l, _, _, _, _, _, _, rfl, rfl, by omega, by omega, by omega, by omega, HI7⟩
  case rest =>
    obtain ⟨w8, rfl⟩ : ∃ x, x = wc := ⟨wc, rfl⟩
    obtain ⟨s, l, u, a, dn, cd, k', d, rfl, rfl, hs1, hs2, hl1, hl2, HI⟩ := hcut
    clear HI7
    have hS : (fun wx : World => wx.cell? ⟨X, 0, none⟩ = some (.bool u) ∧ wx.cell? ⟨X, 1, none⟩ = some (.slice a dn cd)) w8.drew := ⟨(HI.out.same (Kept.refl _ _).drew).box.cell 0, (HI.out.same (Kept.refl _ _).drew).box.cell 1⟩
    go_wp2_with fail
    refine wp_region_V (fun wx : World => wx.cell? ⟨X, 0, none⟩ = some (.bool u) ∧ wx.cell? ⟨X, 1, none⟩ = some (.slice a dn cd)) 99 8 rfl (by kernel_rfl) ?_
    have HIv := hid (HI.out.same (Kept.refl _ _).drew)
    generalize w8.drew = v1 at HIv hS ⊢
    refine tk 0 71 hS ?_
    refine tk 1 72 hS ?_
    refine tk 2 73 hS ?_
    refine tk 3 74 hS ?_
    refine tk 4 2 hS ?_
    refine tk 5 3 hS ?_
    obtain ⟨r0, r1⟩ := HIv.out.res.all2
    have fr := HIv.out.res.frozen
    have lr := HIv.out.res.lt
    have hkr : Kept (fun b => b = X0) v1 ((v1.setCell ⟨X0, 0, none⟩ (.bool u)).setCell ⟨X0, 1, none⟩ (.slice a dn cd)) := ((Kept.refl (fun b => b = X0) v1).setCell (p := ⟨X0, 0, none⟩) (.inr rfl) _).setCell (p := ⟨X0, 1, none⟩) (.inr rfl) _
    have hrb := (HIv.out.res.stored 0 (.bool u)).stored 1 (.slice a dn cd)
    have hbx := HIv.out.box.kept hkr (fun e => by have h1 := hp.x; have h2 := hp.x2; omega)
    refine wpAnyV_one (i := 6) (by kernel_rfl) rfl (fun K hK => ?_)
    go_simp
    have hS : (fun wx : World => wx.cell? ⟨X, 0, none⟩ = some (.bool u) ∧ wx.cell? ⟨X, 1, none⟩ = some (.slice a dn cd)) ((v1.setCell ⟨X0, 0, none⟩ (.bool u)).setCell ⟨X0, 1, none⟩ (.slice a dn cd)) := ⟨hbx.cell 0, hbx.cell 1⟩
    refine hK.out _ _ (fun _ => hS) ?_
    clear hK K
    try simp only [Act.put, sA, s0, sS]
    generalize ((v1.setCell ⟨X0, 0, none⟩ (.bool u)).setCell ⟨X0, 1, none⟩ (.slice a dn cd)) = v2 at hkr hrb hbx hS ⊢
    refine tk 7 5 hS ?_
    refine wpAnyV_done (by kernel_rfl) ?_
    clear hS r0 r1 fr lr
    have z0 : v2.cell? ⟨X0, 0, none⟩ = some (.bool u) := hrb.cell 0
    have z1 : v2.cell? ⟨X0, 1, none⟩ = some (.slice a dn cd) := hrb.cell 1
    have HKR := hid hkr
    clear hkr hrb hbx
    go_wp2_with fail
    (try simp only [Exit.inBlock, Exit.then])
    refine bodyPost_ret (v := .tuple #[.slice (some ⟨b, off, none⟩) n c, .int .i64 s, .agg #[.bool u, .slice a dn cd], .int .i64 l]) ?_ rfl ?_
    · rw [results_c4 rfl]
      go_simp
    have hF : Kept (fun b => b = X ∨ b < w0.heap.size) v1 v2 := HKR.out.mono (fun i _ e => .inr (by have h1 := hp.x2; have e' : i = X0 := e; omega))
    obtain ⟨e1, e2⟩ := HIv.out.len
    exact ⟨b, off, n, c, bs, s, u, a, cd, d, l, by rw [e1], HL.out, hn, HBB.out, HIv.out.page _ hF, by omega, HIv.out.isB, by rw [e1]; exact HIv.out.dat _ hF, by omega, by omega, HIv.out.kept.next HKR.out (fun i hi e => by have h1 := hp.x1; have e' : i = X0 := e; omega)⟩
end Go.Proofs.Ytcnaabjgjmodeaa

namespace Go.Proofs.Ytcnaabjgjmodeaa
set_option maxRecDepth 100000
set_option maxHeartbeats 4000000
open Go.RowKit
set_option linter.unusedVariables false
set_option linter.unusedSimpArgs false
theorem implFault_any (v : Value) (raw : List Int) (number : Int) (w : World) (hB : IsB raw) (hn : raw.length ≤ 1099511627776) (hv : Rd .u8 w v raw) :
    Calls Try.prog 14 #[v, .int .i64 number] w fun e w' => e = .returned (.int .i64 (pageFault raw number)) ∧ Same w w' := by
  obtain ⟨a, c, rfl⟩ := hv.form
  by_cases hl : raw.length = 4096
  · have hR : pageFault raw number = faultP (raw.take 4) (numAt raw 4 8) (numAt raw 12 4) (numAt raw 16 2) (slotsOf raw) raw number := by unfold pageFault; rw [if_neg (by simp [hl])]
    obtain ⟨b, off, rfl, hc⟩ := rd_some hv (by omega)
    have hrg := rd_range hv (by omega)
    have hI : (Try.prog.info? 65).map (·.size) = some (vals .u8 raw).length := by rw [vals_length, hl]; exact page_info
    have hT := takeApart_any raw w hB hl
    have hn12 := numAt_in raw hB 12 4 (by decide) (by decide) (by omega)
    have hn16 := numAt_in raw hB 16 2 (by decide) (by decide) (by omega)
    have hF := fun P wx (h : SP wx P (raw.take 4) (numAt raw 4 8) (numAt raw 12 4) (numAt raw 16 2) (slotsOf raw) raw) => fault_any P (raw.take 4) (numAt raw 4 8) (numAt raw 12 4) (numAt raw 16 2) (slotsOf raw) raw number wx h (slotsOf_small raw hB hl) ⟨hn12.1, by omega⟩ ⟨hn16.1, by omega⟩
    rw [hR, hl]
    obtain ⟨F, hFe⟩ : ∃ F, faultP (raw.take 4) (numAt raw 4 8) (numAt raw 12 4) (numAt raw 16 2) (slotsOf raw) raw number = F := ⟨_, rfl⟩
    rw [hFe] at hF ⊢
    obtain ⟨cs, hcs⟩ : ∃ cs : List Value, vals .u8 raw = cs := ⟨_, rfl⟩
    rw [hcs] at hT hrg hI
    have harr := run_arrayP
    clear hcs hv hB hn hR hl hFe hn12 hn16
    go_enter Try.func14, Try.ntmps14
    go_wp2_with (first
      | (go_at_call 56; refine hT.mono ?_; rintro e w1 ⟨P, rfl, hP, hsp, hk1⟩)
      | (go_at_call 57; refine (hF P _ hsp).mono ?_; rintro e w2 ⟨rfl, hk2⟩)
      | (refine wpList_load_mid rfl 65 _ rfl b off rfl cs _ hrg Try.underlying65 rfl hI ?_))
    go_ret
    exact ⟨rfl, hk1.trans hk2⟩
  · have hR : pageFault raw number = 1 := by unfold pageFault; rw [if_pos hl]
    rw [hR]
    have hl' : ¬ (raw.length : Int) = 4096 := by omega
    clear hv hB
    go_enter Try.func14, Try.ntmps14
    go_wp2
    go_ret
    exact ⟨rfl, Kept.refl _ _⟩
end Go.Proofs.Ytcnaabjgjmodeaa

namespace Go.Proofs.Ytcnaabjgjmodeaa
set_option maxRecDepth 100000
set_option maxHeartbeats 2000000
open Go.RowKit
set_option linter.unusedVariables false
set_option linter.unusedSimpArgs false
theorem conv_any {w : World} {v : Value} {bs : List Int} (h : Rd .u8 w v bs) : (convert 22 9 v).run Try.prog w = .ok (.string (strOfNums bs)) w := by
  rcases h.2 with ⟨rfl, a, c, rfl, _⟩ | ⟨b, off, c, rfl, _, hc⟩
  · rw [run_convert_bytes_string w 22 9 5 _ 0 c (by kernel_rfl) (by kernel_rfl) (by kernel_rfl)]
    cases a <;> simp [Conv.bytesToString, loadCells]
    all_goals rfl
  · exact run_convert_bytes_arg w 22 5 (by kernel_rfl) (by kernel_rfl) b off bs.length c bs rfl hc 9 (by kernel_rfl)
end Go.Proofs.Ytcnaabjgjmodeaa

namespace Go.Proofs.Ytcnaabjgjmodeaa
set_option maxRecDepth 100000
set_option maxHeartbeats 8000000
open Go.RowKit
set_option linter.unusedVariables false
set_option linter.unusedSimpArgs false
theorem sameB_any (va vb : Value) (xs : List Int) (w : World) (hra : Rd .u8 w va xs) (hrb : Rd .u8 w vb xs) :
    Calls Try.prog 59 #[va, vb] w fun e w' => e = .returned (.bool true) ∧ Same w w' := by
  have h1 := conv_any hra
  have h2 := conv_any hrb
  clear hra hrb
  generalize strOfNums xs = s at *
  go_enter Try.func59, Try.ntmps59
  go_wp2
  go_ret
  exact ⟨rfl, Kept.refl _ _⟩
end Go.Proofs.Ytcnaabjgjmodeaa
