import Derived.Test.YtfhdkbibcndmjaaG00
import Derived.Test.YtfhdkbibcndmjaaG09
import Derived.Test.YtfhdkbibcndmjaaG10
import Derived.Test.YtfhdkbibcndmjaaG03
import Derived.Deep.DeepCutAuto
namespace Go.Proofs.Ytfhdkbibcndmjaa
set_option maxRecDepth 100000
set_option maxHeartbeats 2000000
open Go.ChangeShapes Go.WideShapes Go.ChangeAt Go.RowKit
set_option linter.unusedVariables false
set_option linter.unusedSimpArgs false
section
variable {H : Type} {enc : TypeId × Value → H} {w : World} {base : Nat} {spare : Nat → Bool} {held : Bool}
theorem read_rows {E : Type} [Inhabited E] (K : RowK E) (Q : E → Prop) {t e : TypeId} (hm0 : 0 < K.m) (ht : Try.prog.underlying t = some (.slice e)) (hc : Try.prog.cellsOf e = K.m)
    (he : ∀ (n : Nat) (cs : List Value) (x : DataW H × List MemPlace), cs.length = K.m → DataW.trod enc Try.prog w base spare held n e cs = some x → ∃ p : E, cs = K.cells p ∧ Rd .u8 w (K.v p) (K.bs p) ∧ Q p)
    {fuel : Nat} {v : Value} {x : DataW H × List MemPlace} (h : DataW.trod enc Try.prog w base spare held fuel t [v] = some x) : ∃ ps : List E, RdR K w v ps ∧ ∀ p ∈ ps, Q p := by
  rcases Deep.open_slice ht h with ⟨hcs, _⟩ | ⟨a, len, cap, m', n, D, Pl, hcs, hb, hl, hm, hmm, _, hx⟩
  · simp at hcs
    subst hcs
    exact ⟨[], ⟨Nat.zero_le _, .inl ⟨rfl, _, _, rfl⟩, fun p hp => by simp at hp⟩, fun p hp => by simp at hp⟩
  · simp at hcs
    subst hcs
    have hlm : len ≤ m' := by rw [hmm]; split <;> omega
    have each : ∀ i, i < len → ∃ p : E, (∀ j, j < K.m → w.cell? ((a.add (i * K.m)).add j) = (K.cells p)[j]?) ∧ Rd .u8 w (K.v p) (K.bs p) ∧ Q p := fun i hi => by
      obtain ⟨cs', h1, h2⟩ := hx i (by omega)
      rw [hc] at h1
      obtain ⟨_, hlen, hcell⟩ := World.cells?_some h1
      obtain ⟨p, rfl, hr, hq⟩ := he _ _ _ (by omega) h2
      exact ⟨p, fun j hj => hcell j (by omega), hr, hq⟩
    obtain ⟨f, hf⟩ := Deep.choose_lt each
    refine ⟨(List.range len).map f, ⟨by simp; omega, ?_, fun p hp => ?_⟩, fun p hp => ?_⟩
    · by_cases h0 : len = 0
      · subst h0
        exact .inl ⟨by simp, _, _, rfl⟩
      · have ha : ∃ b off, a = ⟨b, off, none⟩ := by
          have h1 := (hf 0 (by omega)).1 0 hm0
          rw [Nat.zero_mul, List.getElem?_eq_getElem (by rw [K.len]; exact hm0)] at h1
          have e0 : a.add 0 = a := by cases a; simp [Addr.add]
          rw [e0] at h1
          exact addr_form (a := a) h1
        obtain ⟨b, off, rfl⟩ := ha
        refine .inr ⟨b, off, cap, by simp, fun j i hj hi => ?_⟩
        have hj' : j < len := by simpa using hj
        have h1 := (hf j hj').1 i hi
        rw [add_none, add_none, Nat.add_assoc] at h1
        simpa using h1
    · obtain ⟨i, hi, rfl⟩ := List.mem_map.1 hp
      exact (hf i (List.mem_range.1 hi)).2.1
    · obtain ⟨i, hi, rfl⟩ := List.mem_map.1 hp
      exact (hf i (List.mem_range.1 hi)).2.2
end
end Go.Proofs.Ytfhdkbibcndmjaa

namespace Go.Proofs.Ytfhdkbibcndmjaa
set_option maxRecDepth 100000
set_option maxHeartbeats 2000000
open Go.ChangeShapes Go.WideShapes Go.ChangeAt Go.RowKit
set_option linter.unusedVariables false
set_option linter.unusedSimpArgs false
section
variable {H : Type} {enc : TypeId × Value → H} {w : World} {base : Nat} {spare : Nat → Bool} {held : Bool}
theorem list3 {cs : List Value} (h : cs.length = 3) : ∃ c0 c1 c2, cs = [c0, c1, c2] := by
  match cs, h with
  | [c0, c1, c2], _ => exact ⟨c0, c1, c2, rfl⟩
theorem read_op (n : Nat) (cs : List Value) (x : DataW H × List MemPlace) (hl : cs.length = 3) (h : DataW.trod enc Try.prog w base spare held n 91 cs = some x) :
    ∃ p : EOp, cs = kOp.cells p ∧ Rd .u8 w (kOp.v p) (kOp.bs p) ∧ True := by
  obtain ⟨c0, c1, c2, rfl⟩ := list3 hl
  obtain ⟨xs, n, _, _, _, hxl, hg⟩ := DataW.trod_struct Try.underlying91 h
  have g0 : ∃ x, DataW.trod enc Try.prog w base spare held n 2 [c0] = some x := ⟨xs[0]'(by rw [hxl]; decide), by have h := hg 0 _ rfl; rw [List.getElem?_eq_getElem (by rw [hxl]; decide)] at h; exact h⟩
  have g1 : ∃ x, DataW.trod enc Try.prog w base spare held n 2 [c1] = some x := ⟨xs[1]'(by rw [hxl]; decide), by have h := hg 1 _ rfl; rw [List.getElem?_eq_getElem (by rw [hxl]; decide)] at h; exact h⟩
  have g2 : ∃ x, DataW.trod enc Try.prog w base spare held n 22 [c2] = some x := ⟨xs[2]'(by rw [hxl]; decide), by have h := hg 2 _ rfl; rw [List.getElem?_eq_getElem (by rw [hxl]; decide)] at h; exact h⟩
  obtain ⟨x0, g0⟩ := g0
  obtain ⟨x1, g1⟩ := g1
  obtain ⟨x2, g2⟩ := g2
  obtain ⟨z0, e0, _, b0⟩ := DataW.trod_int Try.underlying2 g0
  obtain ⟨z1, e1, _, b1⟩ := DataW.trod_int Try.underlying2 g1
  obtain ⟨bs, hbs, hB⟩ := read_intsB Try.underlying22 Try.underlying5 (by kernel_rfl) g2
  simp at e0 e1
  subst e0 e1
  exact ⟨⟨z0, z1, c2, bs⟩, rfl, hbs, trivial⟩
theorem open_ops {r : Reach} {b0 : Nat} {v : Value} {d : DataW H} {p : List MemPlace} (hv : Value.okWide Try.prog w r b0 57 v) (h : DataW.Trod enc Try.prog w base spare held 57 v d p) : ∃ os, RdR kOp w v os := by
  obtain ⟨a, n, c, rfl⟩ := okWide_slice Try.underlying57 hv
  obtain ⟨m, hm⟩ := h
  have iE : Inhabited EOp := ⟨⟨0, 0, .slice none 0 0, []⟩⟩
  obtain ⟨os, ho, _⟩ := read_rows kOp (fun _ => True) (by decide) Try.underlying57 (by kernel_rfl) (fun n cs x hl h => read_op n cs x hl h) hm
  exact ⟨os, ho⟩
end
end Go.Proofs.Ytfhdkbibcndmjaa

namespace Go.Proofs.Ytfhdkbibcndmjaa
set_option maxRecDepth 100000
set_option maxHeartbeats 8000000
open Go.RowKit
set_option linter.unusedVariables false
set_option linter.unusedSimpArgs false
theorem specRunOps_any (dv pv : Value) (dur : List Int) (ps : List PW) (v : Value) (os : List EOp) (limit : Int) (w : World) (hd : dur.length ≤ 1099511627776) (hn : ps.length ≤ 1073741824) (hs : ∀ p ∈ ps, p.bs.length ≤ 1099511627776) (hv : RdD w dv pv dur ps) (hos : ∀ p ∈ os, p.bs.length ≤ 1099511627776) (ho : RdR kOp w v os) :
    Calls Try.prog 34 #[.agg #[dv, pv], v, .int .i64 limit] w fun e w' => ∃ a n c a' n' c' r qs, e = .returned (.agg #[.bool (allO limit (datOpS os).length), .int .i64 (usedO limit (datOpS os).length), .slice a n c, .slice a' n' c']) ∧ IsRun limit dur (dataP ps) (datOpS os) r (dataP qs) ∧
      (∀ b, footD (.slice a n c) (.slice a' n' c') qs b → w.heap.size ≤ b) ∧ OwnD 0 40 5 w' (.slice a n c) (.slice a' n' c') r qs ∧ Same w w' := by
  obtain ⟨a1, c1, rfl⟩ := hv.dur.form
  obtain ⟨a2, c2, rfl⟩ := hv.pend.form
  obtain ⟨ao, co, rfl⟩ := ho.form
  have hmax := ho.max
  unfold maxLen at hmax
  have HV := (show Hid (RdD w (.slice a1 dur.length c1) (.slice a2 ps.length c2) dur ps) from hv)
  have HS : Hid (∀ p ∈ os, p.bs.length ≤ 1099511627776) := hos
  have HOS := (show Hid (RdR kOp w (.slice ao os.length co) os) from ho)
  have HSP : Hid (∀ p ∈ ps, p.bs.length ≤ 1099511627776) := hs
  have HDL := hid hd
  have HNL := hid hn
  clear hv hos ho hs hd hn
  obtain ⟨len, hl⟩ : ∃ x, os.length = x := ⟨_, rfl⟩
  have HL : Hid (os.length = len) := hl
  rw [hl] at HOS hmax ⊢
  have hdo : (datOpS os).length = len := by rw [datOpS_length, hl]
  obtain ⟨dn, hdn⟩ : ∃ x, allO limit (datOpS os).length = x := ⟨_, rfl⟩
  obtain ⟨us, hus⟩ : ∃ x, usedO limit (datOpS os).length = x := ⟨_, rfl⟩
  rw [hdn, hus]
  rw [hdo] at hdn hus
  have HDN := hid hdn
  have HUS := hid hus
  have HDO := hid hdo
  clear hl hdn hus hdo
  have hk0 : Same w ((w.alloc (.cells #[.slice a1 dur.length c1, .slice a2 ps.length c2] 25)).alloc (.cells #[.bool false, .int .i64 0, .slice none 0 0, .slice none 0 0] 31)) := ((Kept.refl _ _).alloc _).alloc _
  have b0 := Blk.newA w [.slice a1 dur.length c1, .slice a2 ps.length c2] 25 [.bool false, .int .i64 0, .slice none 0 0, .slice none 0 0] 31
  have b1 := Blk.newB w [.slice a1 dur.length c1, .slice a2 ps.length c2] 25 [.bool false, .int .i64 0, .slice none 0 0, .slice none 0 0] 31
  go_enter Try.func34, Try.ntmps34
  go_wp2_with fail
  refine (copyDisk_any _ _ dur ps _ HDL.out HNL.out HSP.out (HV.out.same hk0)).mono ?_
  rintro e w1 ⟨a, n, c, a', n', c', qs, rfl, hq, hf, hown, hk1⟩
  have HQ0 := hid hq
  have HO1 := hid hown
  have HK1 := (show Hid (Same w w1) from hk0.trans hk1)
  have HB0 := hid (b0.same hk1)
  have HB1 := hid (b1.same hk1)
  have HF1 : Hid (∀ b, footD (.slice a n c) (.slice a' n' c') qs b → w.heap.size + 1 < b ∧ b < w1.heap.size) := fun b hb => ⟨by have h := hf b hb; simp only [World.size_alloc] at h; omega, (hown.lt b hb).2⟩
  have HX1 := (show Hid (Blk (w1.alloc (.cells #[.bool true, .int .i64 0, .slice a n c, .slice a' n' c'] 31)) w1.heap.size 31 [.bool true, .int .i64 0, .slice a n c, .slice a' n' c']) from Blk.newL w1 [.bool true, .int .i64 0, .slice a n c, .slice a' n' c'] 31)
  obtain ⟨g0, g1⟩ := HB0.out.all2
  have lb1 := HB1.out.lt
  have lb0 := HB0.out.lt
  clear hq hf hown hk0 hk1 b0 b1
  go_wp2_with fail
  refine (specValid_any _ _ dur ps _ (HV.out.same (HK1.out.alloc _))).mono ?_
  rintro e w2 ⟨⟨B, rfl, hB⟩, hk2⟩
  have HBV : Hid (B = true ↔ Valid dur.length (dataP ps)) := hB
  have HK2 := (show Hid (Same w w2) from (HK1.out.alloc _).trans hk2)
  have HX2 := hid (HX1.out.same hk2)
  have HO2 := hid ((HO1.out.same ((Kept.refl _ _).alloc _)).same hk2)
  have HB12 := hid ((HB1.out.alloc _).same hk2)
  have hz2 : w1.heap.size < w2.heap.size := HX2.out.lt
  clear hB hk2 g0 g1 HX1 HO1 HB1 HB0
  go_wp2_with fail
  go_loopw [9] (fun i wr => ∃ (k : Nat) (a : Option Addr) (n c : Nat) (a' : Option Addr) (n' c' : Nat) (r : List Int) (qs : List PW), k ≤ len ∧ i = .int .i64 k ∧ ¬ (0 ≤ limit ∧ limit < k) ∧ Hid (B = true → (r, dataP qs) = runD dur (dataP ps) ((datOpS os).take k)) ∧ Hid (B = false → r = dur ∧ dataP qs = dataP ps) ∧
      Hid (Blk wr w1.heap.size 31 [.bool true, .int .i64 k, .slice a n c, .slice a' n' c']) ∧ Hid (OwnD 0 40 5 wr (.slice a n c) (.slice a' n' c') r qs) ∧ Hid (∀ b, footD (.slice a n c) (.slice a' n' c') qs b → w.heap.size + 1 < b ∧ b ≠ w1.heap.size) ∧ Hid (Blk wr (w.heap.size + 1) 31 [.bool false, .int .i64 0, .slice none 0 0, .slice none 0 0]) ∧ Hid (Same w wr)) (fun i _ => len - (intOf i).toNat)
  case atStart => exact ⟨0, a, n, c, a', n', c', dur, qs, Nat.zero_le _, rfl, by omega, fun _ => by rw [HQ0.out]; rfl, fun _ => ⟨rfl, HQ0.out⟩, HX2, HO2, fun b hb => ⟨(HF1.out b hb).1, by have := (HF1.out b hb).2; omega⟩, HB12, HK2⟩
  case round =>
    obtain ⟨k, a, n, c, a', n', c', r, qs, hk, rfl, hlk, HYES, HNO, HX, HO, HF, HZ, HK⟩ := hrel
    have hxl : w1.heap.size < wr.heap.size := HX.out.lt
    obtain ⟨x0, x1, x2, x3⟩ := HX.out.all4
    have fx := HX.out.frozen
    obtain ⟨z0, z1, z2, z3⟩ := HZ.out.all4
    have fz := HZ.out.frozen
    have lz := HZ.out.lt
    have FIN : k = us → IsRun limit dur (dataP ps) (datOpS os) r (dataP qs) := fun h3 => by
      refine ⟨fun hv => ?_, fun hv => ?_⟩
      · rw [HDO.out, HUS.out, ← h3]; exact HYES.out (HBV.out.2 hv)
      · refine HNO.out ?_
        cases hb : B with
        | false => rfl
        | true => exact absurd (HBV.out.1 hb) hv
    have HFIN := hid FIN
    clear FIN
    by_cases hlt : k < len
    · have hki : (k : Int) < (len : Int) := by omega
      by_cases hbr : 0 ≤ limit ∧ limit ≤ (k : Int)
      · obtain ⟨hb1, hb2⟩ := hbr
        have hku : k = us := by rw [← HUS.out]; unfold usedO; rw [if_pos ⟨hb1, by omega⟩]; omega
        have hdf : dn = false := by rw [← HDN.out]; unfold allO; rw [HUS.out, ← hku]; simp; omega
        have HIS := hid (HFIN.out hku)
        subst hku hdf
        have hb3 : ¬ (k : Int) < limit := by omega
        have HXF := (show Hid (Blk (wr.setCell ⟨w1.heap.size, 0, none⟩ (.bool false)) w1.heap.size 31 [.bool false, .int .i64 k, .slice a n c, .slice a' n' c']) from HX.out.stored 0 _)
        have HST0 := (show Hid (Kept (fun b => b = w1.heap.size) wr (wr.setCell ⟨w1.heap.size, 0, none⟩ (.bool false))) from Kept.setCell (R := fun b => b = w1.heap.size) (Kept.refl _ _) (p := ⟨w1.heap.size, 0, none⟩) (.inr rfl) _)
        have HZF := (show Hid (Blk (wr.setCell ⟨w1.heap.size, 0, none⟩ (.bool false)) (w.heap.size + 1) 31 [.bool false, .int .i64 0, .slice none 0 0, .slice none 0 0]) from HZ.out.kept HST0.out (by intro e; omega))
        have HOF := (show Hid (OwnD 0 40 5 (wr.setCell ⟨w1.heap.size, 0, none⟩ (.bool false)) (.slice a n c) (.slice a' n' c') r qs) from HO.out.kept HST0.out (fun b hb e => (HF.out b hb).2 e))
        have HKF := (show Hid (Same w (wr.setCell ⟨w1.heap.size, 0, none⟩ (.bool false))) from HK.out.next HST0.out (fun i hi e => by omega))
        go_wp2
        have hbf := (((HZF.out.stored 0 (.bool false)).stored 1 (.int .i64 k)).stored 2 (.slice a n c)).stored 3 (.slice a' n' c')
        obtain ⟨f0, f1, f2, f3⟩ := hbf.all4
        refine bodyPost_ret (v := .agg #[.bool false, .int .i64 k, .slice a n c, .slice a' n' c']) (by simp [results, Try.results34, go_sem, f0, f1, f2, f3]) rfl ?_
        have q3 := HOF.out.kept (w' := ((((wr.setCell ⟨w1.heap.size, 0, none⟩ (.bool false)).setCell ⟨w.heap.size + 1, 0, none⟩ (.bool false)).setCell ⟨w.heap.size + 1, 1, none⟩ (.int .i64 k)).setCell ⟨w.heap.size + 1, 2, none⟩ (.slice a n c)).setCell ⟨w.heap.size + 1, 3, none⟩ (.slice a' n' c')) (R := fun b => b = w.heap.size + 1) (by
          (iterate 4 refine Kept.setCell (R := fun b => b = w.heap.size + 1) ?_ (.inr rfl) _)
          exact Kept.refl _ _) (fun b hb e => by have := (HF.out b hb).1; omega)
        have q4 : Same w (((((wr.setCell ⟨w1.heap.size, 0, none⟩ (.bool false)).setCell ⟨w.heap.size + 1, 0, none⟩ (.bool false)).setCell ⟨w.heap.size + 1, 1, none⟩ (.int .i64 k)).setCell ⟨w.heap.size + 1, 2, none⟩ (.slice a n c)).setCell ⟨w.heap.size + 1, 3, none⟩ (.slice a' n' c')) := by
          (iterate 4 refine Kept.setCell ?_ (.inl (Nat.le_succ _)) _)
          exact HKF.out
        have q2 : ∀ b, footD (.slice a n c) (.slice a' n' c') qs b → w.heap.size ≤ b := fun b hb => by have := (HF.out b hb).1; omega
        first | exact ⟨a, n, c, a', n', c', r, qs, rfl, HIS.out, q2, q3, q4⟩ | exact ⟨a, n, c, a', n', c', rfl, r, qs, HIS.out, q2, q3, q4⟩
      · have hn1 : ¬ (0 ≤ limit ∧ limit < ((k + 1 : Nat) : Int)) := by omega
        have hwk : IntKind.i64.wrap ((k : Int) + 1) = (k : Int) + 1 := by rw [IntKind.wrap_i64]; omega
        have hlo : k < (datOpS os).length := by rw [datOpS_length, HL.out]; exact hlt
        cases B with
        | false =>
          have HXF := (show Hid (Blk (wr.setCell ⟨w1.heap.size, 1, none⟩ (.int .i64 ((k : Int) + 1))) w1.heap.size 31 [.bool true, .int .i64 ((k : Int) + 1), .slice a n c, .slice a' n' c']) from HX.out.stored 1 _)
          have HST0 := (show Hid (Kept (fun b => b = w1.heap.size) wr (wr.setCell ⟨w1.heap.size, 1, none⟩ (.int .i64 ((k : Int) + 1)))) from Kept.setCell (R := fun b => b = w1.heap.size) (Kept.refl _ _) (p := ⟨w1.heap.size, 1, none⟩) (.inr rfl) _)
          by_cases hl0 : 0 ≤ limit
          · have hl1 : ¬ limit ≤ (k : Int) := by omega
            go_wp2
            go_roundw
            case rel => exact ⟨k + 1, a, n, c, a', n', c', r, qs, by omega, by go_num, hn1, fun h => (by cases h), (by first | exact HNO | exact HNO.out rfl | exact fun _ => HNO.out rfl), by have h := HXF; rw [show ((k : Int) + 1) = ((k + 1 : Nat) : Int) from by omega] at h; exact h, HO.out.kept HST0.out (fun b hb e => (HF.out b hb).2 e), HF, HZ.out.kept HST0.out (by intro e; omega), HK.out.next HST0.out (fun i hi e => by omega)⟩
            case measure => simp [intOf]; omega
          · go_wp2
            go_roundw
            case rel => exact ⟨k + 1, a, n, c, a', n', c', r, qs, by omega, by go_num, hn1, fun h => (by cases h), (by first | exact HNO | exact HNO.out rfl | exact fun _ => HNO.out rfl), by have h := HXF; rw [show ((k : Int) + 1) = ((k + 1 : Nat) : Int) from by omega] at h; exact h, HO.out.kept HST0.out (fun b hb e => (HF.out b hb).2 e), HF, HZ.out.kept HST0.out (by intro e; omega), HK.out.next HST0.out (fun i hi e => by omega)⟩
            case measure => simp [intOf]; omega
        | true =>
          have HVD : Hid (Valid dur.length (dataP ps)) := HBV.out.1 rfl
          have HRQ : Hid ((r, dataP qs) = runD dur (dataP ps) ((datOpS os).take k)) := HYES.out rfl
          have hvv := runD_valid HVD.out (datOpS os) k (by omega)
          rw [← HRQ.out] at hvv
          dsimp only at hvv
          have HVL : Hid (Valid r.length (dataP qs)) := by unfold Hid; rw [hvv.1]; exact hvv.2
          have HRL : Hid (r.length ≤ 1099511627776) := by unfold Hid; rw [hvv.1]; exact HDL.out
          have hlp : k < os.length := by rw [HL.out]; exact hlt
          obtain ⟨bo, off, rfl, hc⟩ : ∃ bo off, ao = some ⟨bo, off, none⟩ ∧ ∀ j i, (h : j < os.length) → i < 3 → w.cell? ⟨bo, off + (j * 3 + i), none⟩ = (kOp.cells os[j])[i]? := by
            rcases HOS.out.row with ⟨hps, _⟩ | ⟨b, off, c', he, hc⟩
            · rw [hps] at hlp; simp at hlp
            · injection he with he1 he2 he3
              exact ⟨b, off, he1, hc⟩
          have hrd : Rd .u8 w os[k].v os[k].bs := HOS.out.data _ (List.getElem_mem hlp)
          have hbo := HS.out _ (List.getElem_mem hlp)
          have hok : (datOpS os)[k] = os[k].dat := by simp [datOpS]
          obtain ⟨p, hp⟩ : ∃ p, os[k] = p := ⟨_, rfl⟩
          have c0 : w.cell? ⟨bo, off + k * 3, none⟩ = some (.int .i64 p.kind) := by have h := hc k 0 hlp (by decide); rw [hp] at h; exact h
          have c1' : w.cell? ⟨bo, off + k * 3 + 1, none⟩ = some (.int .i64 p.sec) := by have h := hc k 1 hlp (by decide); rw [← Nat.add_assoc, hp] at h; exact h
          have c2' : w.cell? ⟨bo, off + k * 3 + 2, none⟩ = some p.v := by have h := hc k 2 hlp (by decide); rw [← Nat.add_assoc, hp] at h; exact h
          rw [hp] at hrd hbo hok
          clear hp hc hvv
          obtain ⟨kd, sc, pv', ob⟩ := p
          dsimp only at hrd hbo c0 c1' c2'
          obtain ⟨av, cv, e1⟩ := hrd.form
          subst e1
          obtain ⟨nv, hnv⟩ : ∃ x, ob.length = x := ⟨_, rfl⟩
          rw [hnv] at hrd c2'
          have HRB := (show Hid (Rd .u8 w (.slice av nv cv) ob) from hrd)
          have HBO : Hid (ob.length ≤ 1099511627776) := hbo
          have HD0 := hid c0
          have HD1 := hid c1'
          have HD2 := hid c2'
          have d0 := HK.out.cellOf c0 id
          have d1 := HK.out.cellOf c1' id
          have d2 := HK.out.cellOf c2' id
          have HYN : Hid ((((doD r (dataP qs) (kd, sc, ob)).1, (doD r (dataP qs) (kd, sc, ob)).2) : List Int × List (Int × List Int)) = runD dur (dataP ps) ((datOpS os).take (k + 1))) := by
            unfold Hid
            rw [runD_step hlo, ← HRQ.out, hok]
            rfl
          clear hrd hbo hok hnv c0 c1' c2'
          by_cases hl0 : 0 ≤ limit
          · have hl1 : ¬ limit ≤ (k : Int) := by omega
            go_wp2_with fail
            have hS : (fun wx : World => wx.cell? ⟨w1.heap.size, 2, none⟩ = some (.slice a n c) ∧ wx.cell? ⟨w1.heap.size, 3, none⟩ = some (.slice a' n' c') ∧ wx.cell? ⟨bo, off + k * 3, none⟩ = some (.int .i64 kd) ∧ wx.cell? ⟨bo, off + k * 3 + 1, none⟩ = some (.int .i64 sc) ∧ wx.cell? ⟨bo, off + k * 3 + 2, none⟩ = some (.slice av nv cv)) wr.drew := ⟨x2, x3, d0, d1, d2⟩
            refine wp_region_V (fun wx : World => wx.cell? ⟨w1.heap.size, 2, none⟩ = some (.slice a n c) ∧ wx.cell? ⟨w1.heap.size, 3, none⟩ = some (.slice a' n' c') ∧ wx.cell? ⟨bo, off + k * 3, none⟩ = some (.int .i64 kd) ∧ wx.cell? ⟨bo, off + k * 3 + 1, none⟩ = some (.int .i64 sc) ∧ wx.cell? ⟨bo, off + k * 3 + 2, none⟩ = some (.slice av nv cv)) 8 9 rfl (by kernel_rfl) ?_
            refine tk 0 31 hS ?_
            refine tk 1 32 hS ?_
            refine tk 2 33 hS ?_
            refine tk 3 34 hS ?_
            refine tkV 4 35 (.pointer (some ⟨bo, off + k * 3, none⟩)) hS ?_
            refine tk 5 36 hS ?_
            refine wpAnyV_one (i := 6) (by kernel_rfl) rfl (fun K hK => ?_)
            go_simp
            refine (l1Do_any (.slice a n c) (.slice a' n' c') r qs kd sc (.slice av nv cv) ob _ HRL.out HBO.out (HO.out.same (Kept.refl _ _).drew) HVL.out (HRB.out.same (HK.out.drew))).mono ?_
            rintro e w3 ⟨a5, n5, c5, a6, n6, c6, rs, rfl, hq5, hf5, ho5, hk5⟩
            have HQ5 := hid hq5
            have HYR : Hid ((((doD r (dataP qs) (kd, sc, ob)).1, dataP rs) : List Int × List (Int × List Int)) = runD dur (dataP ps) ((datOpS os).take (k + 1))) := by unfold Hid; rw [HQ5.out]; exact HYN.out
            have HO5 := hid ho5
            have HK5 := (show Hid (Kept (fun b => (Value.slice a' n' c').ownBlock = some b) wr w3) from ((Kept.refl (fun b => (Value.slice a' n' c').ownBlock = some b) wr).drew).trans hk5)
            have HX5 := hid (HX.out.kept HK5.out (fun e => (HF.out _ (.inr (.inl e))).2 rfl))
            have HZ5 := hid (HZ.out.kept HK5.out (fun e => by have := (HF.out _ (.inr (.inl e))).1; omega))
            have HKW5 := (show Hid (Same w w3) from HK.out.next HK5.out (fun i hi e => by have := (HF.out _ (.inr (.inl e))).1; omega))
            have HF5 : Hid (∀ b, footD (.slice a5 n5 c5) (.slice a6 n6 c6) rs b → w.heap.size + 1 < b ∧ b ≠ w1.heap.size) := fun b hb => by
              rcases hf5 b hb with h | h
              · exact HF.out b h
              · have h' : wr.heap.size ≤ b := h
                exact ⟨by omega, by omega⟩
            have hS3 : (fun wx : World => wx.cell? ⟨w1.heap.size, 2, none⟩ = some (.slice a n c) ∧ wx.cell? ⟨w1.heap.size, 3, none⟩ = some (.slice a' n' c') ∧ wx.cell? ⟨bo, off + k * 3, none⟩ = some (.int .i64 kd) ∧ wx.cell? ⟨bo, off + k * 3 + 1, none⟩ = some (.int .i64 sc) ∧ wx.cell? ⟨bo, off + k * 3 + 2, none⟩ = some (.slice av nv cv)) w3 := ⟨HX5.out.cell 2, HX5.out.cell 3, HKW5.out.cellOf HD0.out id, HKW5.out.cellOf HD1.out id, HKW5.out.cellOf HD2.out id⟩
            clear hq5 hf5 ho5 hk5 hS x0 x1 x2 x3 fx z0 z1 z2 z3 fz lz d0 d1 d2
            go_wp2_with fail
            refine hK.out _ _ (fun _ => hS3) ?_
            clear hK K
            try simp only [Act.put, sA, s0, sS]
            obtain ⟨x0, x1, x2, x3⟩ := HX5.out.all4
            have fx := HX5.out.frozen
            refine wpAnyV_one (i := 7) (by kernel_rfl) rfl (fun K hK => ?_)
            go_simp
            refine hK.out _ _ (fun _ => hS3) ?_
            clear hK K
            try simp only [Act.put, sA, s0, sS]
            refine wpAnyV_one (i := 8) (by kernel_rfl) rfl (fun K hK => ?_)
            go_simp
            refine hK.out _ _ (fun h => absurd rfl h) ?_
            clear hK K
            refine wpAnyV_done (by kernel_rfl) ?_
            try simp only [Act.put, sA, s0, sS]
            have HXF := (show Hid (Blk (((w3.setCell ⟨w1.heap.size, 2, none⟩ (.slice a5 n5 c5)).setCell ⟨w1.heap.size, 3, none⟩ (.slice a6 n6 c6)).setCell ⟨w1.heap.size, 1, none⟩ (.int .i64 ((k : Int) + 1))) w1.heap.size 31 [.bool true, .int .i64 ((k : Int) + 1), .slice a5 n5 c5, .slice a6 n6 c6]) from ((HX5.out.stored 2 _).stored 3 _).stored 1 _)
            have HST := (show Hid (Kept (fun b => b = w1.heap.size) w3 (((w3.setCell ⟨w1.heap.size, 2, none⟩ (.slice a5 n5 c5)).setCell ⟨w1.heap.size, 3, none⟩ (.slice a6 n6 c6)).setCell ⟨w1.heap.size, 1, none⟩ (.int .i64 ((k : Int) + 1)))) from Kept.setCell (R := fun b => b = w1.heap.size) (Kept.setCell (R := fun b => b = w1.heap.size) (Kept.setCell (R := fun b => b = w1.heap.size) (Kept.refl _ _) (p := ⟨w1.heap.size, 2, none⟩) (.inr rfl) _) (p := ⟨w1.heap.size, 3, none⟩) (.inr rfl) _) (p := ⟨w1.heap.size, 1, none⟩) (.inr rfl) _)
            have lx5 := HX5.out.lt
            go_wp2
            go_roundw
            case rel => exact ⟨k + 1, a5, n5, c5, a6, n6, c6, _, rs, by omega, by go_num, hn1, (by first | exact HYR | exact fun _ => HYR.out), fun h => (by cases h), by have h := HXF; rw [show ((k : Int) + 1) = ((k + 1 : Nat) : Int) from by omega] at h; exact h, HO5.out.kept HST.out (fun b hb e => (HF5.out b hb).2 e), HF5, HZ5.out.kept HST.out (by intro e; omega), HKW5.out.next HST.out (fun i hi e => by omega)⟩
            case measure => simp [intOf]; omega
          · go_wp2_with fail
            have hS : (fun wx : World => wx.cell? ⟨w1.heap.size, 2, none⟩ = some (.slice a n c) ∧ wx.cell? ⟨w1.heap.size, 3, none⟩ = some (.slice a' n' c') ∧ wx.cell? ⟨bo, off + k * 3, none⟩ = some (.int .i64 kd) ∧ wx.cell? ⟨bo, off + k * 3 + 1, none⟩ = some (.int .i64 sc) ∧ wx.cell? ⟨bo, off + k * 3 + 2, none⟩ = some (.slice av nv cv)) wr.drew := ⟨x2, x3, d0, d1, d2⟩
            refine wp_region_V (fun wx : World => wx.cell? ⟨w1.heap.size, 2, none⟩ = some (.slice a n c) ∧ wx.cell? ⟨w1.heap.size, 3, none⟩ = some (.slice a' n' c') ∧ wx.cell? ⟨bo, off + k * 3, none⟩ = some (.int .i64 kd) ∧ wx.cell? ⟨bo, off + k * 3 + 1, none⟩ = some (.int .i64 sc) ∧ wx.cell? ⟨bo, off + k * 3 + 2, none⟩ = some (.slice av nv cv)) 8 9 rfl (by kernel_rfl) ?_
            refine tk 0 31 hS ?_
            refine tk 1 32 hS ?_
            refine tk 2 33 hS ?_
            refine tk 3 34 hS ?_
            refine tkV 4 35 (.pointer (some ⟨bo, off + k * 3, none⟩)) hS ?_
            refine tk 5 36 hS ?_
            refine wpAnyV_one (i := 6) (by kernel_rfl) rfl (fun K hK => ?_)
            go_simp
            refine (l1Do_any (.slice a n c) (.slice a' n' c') r qs kd sc (.slice av nv cv) ob _ HRL.out HBO.out (HO.out.same (Kept.refl _ _).drew) HVL.out (HRB.out.same (HK.out.drew))).mono ?_
            rintro e w3 ⟨a5, n5, c5, a6, n6, c6, rs, rfl, hq5, hf5, ho5, hk5⟩
            have HQ5 := hid hq5
            have HYR : Hid ((((doD r (dataP qs) (kd, sc, ob)).1, dataP rs) : List Int × List (Int × List Int)) = runD dur (dataP ps) ((datOpS os).take (k + 1))) := by unfold Hid; rw [HQ5.out]; exact HYN.out
            have HO5 := hid ho5
            have HK5 := (show Hid (Kept (fun b => (Value.slice a' n' c').ownBlock = some b) wr w3) from ((Kept.refl (fun b => (Value.slice a' n' c').ownBlock = some b) wr).drew).trans hk5)
            have HX5 := hid (HX.out.kept HK5.out (fun e => (HF.out _ (.inr (.inl e))).2 rfl))
            have HZ5 := hid (HZ.out.kept HK5.out (fun e => by have := (HF.out _ (.inr (.inl e))).1; omega))
            have HKW5 := (show Hid (Same w w3) from HK.out.next HK5.out (fun i hi e => by have := (HF.out _ (.inr (.inl e))).1; omega))
            have HF5 : Hid (∀ b, footD (.slice a5 n5 c5) (.slice a6 n6 c6) rs b → w.heap.size + 1 < b ∧ b ≠ w1.heap.size) := fun b hb => by
              rcases hf5 b hb with h | h
              · exact HF.out b h
              · have h' : wr.heap.size ≤ b := h
                exact ⟨by omega, by omega⟩
            have hS3 : (fun wx : World => wx.cell? ⟨w1.heap.size, 2, none⟩ = some (.slice a n c) ∧ wx.cell? ⟨w1.heap.size, 3, none⟩ = some (.slice a' n' c') ∧ wx.cell? ⟨bo, off + k * 3, none⟩ = some (.int .i64 kd) ∧ wx.cell? ⟨bo, off + k * 3 + 1, none⟩ = some (.int .i64 sc) ∧ wx.cell? ⟨bo, off + k * 3 + 2, none⟩ = some (.slice av nv cv)) w3 := ⟨HX5.out.cell 2, HX5.out.cell 3, HKW5.out.cellOf HD0.out id, HKW5.out.cellOf HD1.out id, HKW5.out.cellOf HD2.out id⟩
            clear hq5 hf5 ho5 hk5 hS x0 x1 x2 x3 fx z0 z1 z2 z3 fz lz d0 d1 d2
            go_wp2_with fail
            refine hK.out _ _ (fun _ => hS3) ?_
            clear hK K
            try simp only [Act.put, sA, s0, sS]
            obtain ⟨x0, x1, x2, x3⟩ := HX5.out.all4
            have fx := HX5.out.frozen
            refine wpAnyV_one (i := 7) (by kernel_rfl) rfl (fun K hK => ?_)
            go_simp
            refine hK.out _ _ (fun _ => hS3) ?_
            clear hK K
            try simp only [Act.put, sA, s0, sS]
            refine wpAnyV_one (i := 8) (by kernel_rfl) rfl (fun K hK => ?_)
            go_simp
            refine hK.out _ _ (fun h => absurd rfl h) ?_
            clear hK K
            refine wpAnyV_done (by kernel_rfl) ?_
            try simp only [Act.put, sA, s0, sS]
            have HXF := (show Hid (Blk (((w3.setCell ⟨w1.heap.size, 2, none⟩ (.slice a5 n5 c5)).setCell ⟨w1.heap.size, 3, none⟩ (.slice a6 n6 c6)).setCell ⟨w1.heap.size, 1, none⟩ (.int .i64 ((k : Int) + 1))) w1.heap.size 31 [.bool true, .int .i64 ((k : Int) + 1), .slice a5 n5 c5, .slice a6 n6 c6]) from ((HX5.out.stored 2 _).stored 3 _).stored 1 _)
            have HST := (show Hid (Kept (fun b => b = w1.heap.size) w3 (((w3.setCell ⟨w1.heap.size, 2, none⟩ (.slice a5 n5 c5)).setCell ⟨w1.heap.size, 3, none⟩ (.slice a6 n6 c6)).setCell ⟨w1.heap.size, 1, none⟩ (.int .i64 ((k : Int) + 1)))) from Kept.setCell (R := fun b => b = w1.heap.size) (Kept.setCell (R := fun b => b = w1.heap.size) (Kept.setCell (R := fun b => b = w1.heap.size) (Kept.refl _ _) (p := ⟨w1.heap.size, 2, none⟩) (.inr rfl) _) (p := ⟨w1.heap.size, 3, none⟩) (.inr rfl) _) (p := ⟨w1.heap.size, 1, none⟩) (.inr rfl) _)
            have lx5 := HX5.out.lt
            go_wp2
            go_roundw
            case rel => exact ⟨k + 1, a5, n5, c5, a6, n6, c6, _, rs, by omega, by go_num, hn1, (by first | exact HYR | exact fun _ => HYR.out), fun h => (by cases h), by have h := HXF; rw [show ((k : Int) + 1) = ((k + 1 : Nat) : Int) from by omega] at h; exact h, HO5.out.kept HST.out (fun b hb e => (HF5.out b hb).2 e), HF5, HZ5.out.kept HST.out (by intro e; omega), HKW5.out.next HST.out (fun i hi e => by omega)⟩
            case measure => simp [intOf]; omega
    · obtain rfl : len = k := by omega
      have hku : len = us := by rw [← HUS.out]; unfold usedO; rw [if_neg hlk]
      have hdf : dn = true := by rw [← HDN.out]; unfold allO; rw [HUS.out, ← hku]; simp
      have HIS := hid (HFIN.out hku)
      subst hku hdf
      go_wp2
      have hbf := (((HZ.out.stored 0 (.bool true)).stored 1 (.int .i64 len)).stored 2 (.slice a n c)).stored 3 (.slice a' n' c')
      obtain ⟨f0, f1, f2, f3⟩ := hbf.all4
      refine bodyPost_ret (v := .agg #[.bool true, .int .i64 len, .slice a n c, .slice a' n' c']) (by simp [results, Try.results34, go_sem, f0, f1, f2, f3]) rfl ?_
      have q3 := HO.out.kept (w' := (((wr.setCell ⟨w.heap.size + 1, 0, none⟩ (.bool true)).setCell ⟨w.heap.size + 1, 1, none⟩ (.int .i64 len)).setCell ⟨w.heap.size + 1, 2, none⟩ (.slice a n c)).setCell ⟨w.heap.size + 1, 3, none⟩ (.slice a' n' c')) (R := fun b => b = w.heap.size + 1) (by
        (iterate 4 refine Kept.setCell (R := fun b => b = w.heap.size + 1) ?_ (.inr rfl) _)
        exact Kept.refl _ _) (fun b hb e => by have := (HF.out b hb).1; omega)
      have q4 : Same w ((((wr.setCell ⟨w.heap.size + 1, 0, none⟩ (.bool true)).setCell ⟨w.heap.size + 1, 1, none⟩ (.int .i64 len)).setCell ⟨w.heap.size + 1, 2, none⟩ (.slice a n c)).setCell ⟨w.heap.size + 1, 3, none⟩ (.slice a' n' c')) := by
        (iterate 4 refine Kept.setCell ?_ (.inl (Nat.le_succ _)) _)
        exact HK.out
      have q2 : ∀ b, footD (.slice a n c) (.slice a' n' c') qs b → w.heap.size ≤ b := fun b hb => by have := (HF.out b hb).1; omega
      first | exact ⟨a, n, c, a', n', c', r, qs, rfl, HIS.out, q2, q3, q4⟩ | exact ⟨a, n, c, a', n', c', rfl, r, qs, HIS.out, q2, q3, q4⟩
end Go.Proofs.Ytfhdkbibcndmjaa

namespace Go.Proofs.Ytfhdkbibcndmjaa
set_option maxRecDepth 100000
set_option maxHeartbeats 4000000
open Go.RowKit
set_option linter.unusedVariables false
set_option linter.unusedSimpArgs false
theorem eqOpsResult_own (base : Nat) (dn : Bool) (us : Int) (dv pv dv' pv' : Value) (dur : List Int) (ps qs : List PW) (w : World) (hd : dur.length ≤ 1125899906842624) (hn : ps.length ≤ 1125899906842624)
    (hs : dataP ps = dataP qs) (hsm : ∀ p ∈ ps, p.bs.length ≤ 1125899906842624)
    (ha : OwnD base 40 5 w dv pv dur ps) (hb : OwnD base 40 5 w dv' pv' dur qs) :
    Calls Try.prog 36 #[.agg #[.bool dn, .int .i64 us, dv, pv], .agg #[.bool dn, .int .i64 us, dv', pv']] w fun e w' => e = .returned (.bool true) ∧ Same w w' := by
  obtain ⟨a1, c1, rfl⟩ := ha.rd.dur.form
  obtain ⟨a2, c2, rfl⟩ := ha.rd.pend.form
  obtain ⟨a3, c3, rfl⟩ := hb.rd.dur.form
  obtain ⟨a4, c4, rfl⟩ := hb.rd.pend.form
  have hm := fun wx (hk : Same w wx) => eqDisk_own base (.slice a1 dur.length c1) (.slice a2 ps.length c2) (.slice a3 dur.length c3) (.slice a4 qs.length c4) dur ps qs wx hd hn hs hsm (ha.same hk) (hb.same hk)
  clear ha hb hn hs hsm hd
  have hk0 : Same w ((w.alloc (.cells #[.bool dn, .int .i64 us, .slice a1 dur.length c1, .slice a2 ps.length c2] 31)).alloc (.cells #[.bool dn, .int .i64 us, .slice a3 dur.length c3, .slice a4 qs.length c4] 31)) := ((Kept.refl _ _).alloc _).alloc _
  cases dn <;>
  · go_enter Try.func36, Try.ntmps36
    go_wp2_with fail
    refine (hm _ hk0).mono ?_
    rintro e w1 ⟨rfl, hk⟩
    go_wp2
    go_ret
    exact ⟨rfl, hk0.trans hk⟩
theorem markOpsResult_own (base : Nat) (dn : Bool) (us : Int) (dv pv : Value) (dur : List Int) (ps : List PW) (k0 : Int) (w : World) (h0 : 0 ≤ k0) (h1 : endP (k0 + dur.length) ps ≤ 1125899906842624) (hn : ps.length ≤ 1125899906842624)
    (ha : OwnD base 40 5 w dv pv dur ps) :
    Calls Try.prog 39 #[.agg #[.bool dn, .int .i64 us, dv, pv], .int .i64 k0] w fun e w' => e = .returned (.int .i64 (endP (k0 + dur.length) ps)) ∧
      OwnD base 40 5 w' dv pv (marks k0 dur.length) (markP (k0 + dur.length) ps) ∧ Kept (footD dv pv ps) w w' := by
  obtain ⟨a1, c1, rfl⟩ := ha.rd.dur.form
  obtain ⟨a2, c2, rfl⟩ := ha.rd.pend.form
  have hm := markDisk_own base (.slice a1 dur.length c1) (.slice a2 ps.length c2) dur ps k0 (w.alloc (.cells #[.bool dn, .int .i64 us, .slice a1 dur.length c1, .slice a2 ps.length c2] 31)) h0 h1 hn (ha.same ((Kept.refl _ _).alloc _))
  obtain ⟨En, hE⟩ : ∃ En, endP (k0 + dur.length) ps = En := ⟨_, rfl⟩
  rw [hE] at hm ⊢
  clear ha h1 hE
  go_enter Try.func39, Try.ntmps39
  go_wp2_with fail
  refine hm.mono ?_
  clear hm
  rintro e w1 ⟨rfl, ho, hk⟩
  have HO := hid ho
  have HK := (show Hid (Kept (footD (.slice a1 dur.length c1) (.slice a2 ps.length c2) ps) w w1) from ((Kept.refl _ _).alloc _).trans hk)
  clear ho hk
  go_wp2
  go_ret
  exact ⟨rfl, HO.out, HK.out⟩
theorem heldOpsResult_own (base : Nat) (dn : Bool) (us : Int) (dv pv : Value) (dur : List Int) (ps : List PW) (k0 : Int) (w : World) (h0 : 0 ≤ k0) (h1 : endP (k0 + dur.length) ps ≤ 1125899906842624) (hn : ps.length ≤ 1125899906842624)
    (ha : OwnD base 40 5 w dv pv (marks k0 dur.length) (markP (k0 + dur.length) ps)) :
    Calls Try.prog 40 #[.agg #[.bool dn, .int .i64 us, dv, pv], .int .i64 k0] w fun e w' => e = .returned (.int .i64 (endP (k0 + dur.length) ps)) ∧ Same w w' := by
  obtain ⟨a1, c1, rfl⟩ := ha.rd.dur.form
  obtain ⟨a2, c2, rfl⟩ := ha.rd.pend.form
  generalize (marks k0 dur.length).length = m1 at ha ⊢
  generalize (markP (k0 + dur.length) ps).length = m2 at ha ⊢
  have hm := heldDisk_own base (.slice a1 m1 c1) (.slice a2 m2 c2) dur ps k0 (w.alloc (.cells #[.bool dn, .int .i64 us, .slice a1 m1 c1, .slice a2 m2 c2] 31)) h0 h1 hn (ha.same ((Kept.refl _ _).alloc _))
  have hl := endP_le (k0 + dur.length) ps
  obtain ⟨En, hE⟩ : ∃ En, endP (k0 + dur.length) ps = En := ⟨_, rfl⟩
  rw [hE] at hm hl ⊢
  have hp : ¬ En < 0 := by omega
  clear ha h1 hE
  go_enter Try.func40, Try.ntmps40
  go_wp2_with fail
  refine hm.mono ?_
  clear hm
  rintro e w1 ⟨rfl, hk⟩
  go_wp2
  go_ret
  exact ⟨rfl, ((Kept.refl _ _).alloc _).trans hk⟩
end Go.Proofs.Ytfhdkbibcndmjaa
