import Derived.Test.YtaeikeglaobeeaaGreatG00
import Derived.Test.YtaeikeglaobeeaaGreatG01
import Derived.Test.YtaeikeglaobeeaaGreatG02
import Derived.Deep.DeepCutAuto
import Derived.Deep.AppendLies
namespace Go.Proofs.YtaeikeglaobeeaaGreat
set_option linter.unusedVariables false
set_option linter.unusedSimpArgs false
set_option maxRecDepth 100000
set_option maxHeartbeats 4000000
open Go.RowKit
theorem Rd.cut {w : World} {b off c : Nat} {raw : List Int} (h : Rd .u8 w (.slice (some ⟨b, off, none⟩) raw.length c) raw) (x y : Nat) (hxy : x + y ≤ raw.length) :
  Rd .u8 w (.slice (some (if c = x then ⟨b, off, none⟩ else ⟨b, off + x, none⟩)) y (c - x)) ((raw.drop x).take y) := by
 have hl : ((raw.drop x).take y).length = y := by simp; omega
 rcases h.2 with ⟨rfl, _⟩ | ⟨b', off', c', he, hle, hc⟩
 ·simp at hxy
  obtain ⟨rfl, rfl⟩ := hxy
  exact ⟨by simp, .inl ⟨by simp, _, _, rfl, fun h => by cases h⟩⟩
 ·injection he with h1 h2 h3
  injection h1 with h1
  injection h1 with h1 h4
  subst h1 h4 h3
  by_cases h0 : y = 0
  ·subst h0
   exact ⟨by rw [hl]; simp, .inl ⟨by simp, _, _, rfl, fun h => by cases h⟩⟩
  ·rw [if_neg (by omega)]
   refine ⟨by have := h.1; omega, .inr ⟨b, off + x, c - x, by rw [hl], by omega, fun i hi => ?_⟩⟩
   rw [hl] at hi
   rw [Nat.add_assoc, hc (x + i) (by omega)]
   simp [List.getD, List.getElem?_take, List.getElem?_drop, hi]
theorem Rd.part {k : IntKind} {w : World} {b off n c : Nat} {bs : List Int} (h : ∀ i, i < bs.length → w.cell? ⟨b, off + i, none⟩ = some (.int k (bs.getD i 0))) (lo m : Nat) (hm : lo + m ≤ bs.length) (hn : n = m) (hc : m ≤ c) (hmax : m ≤ maxLen) :
  Rd k w (.slice (some ⟨b, off + lo, none⟩) n c) ((bs.drop lo).take m) := by
 have hl : ((bs.drop lo).take m).length = m := by simp; omega
 refine ⟨by omega, .inr ⟨b, off + lo, c, by rw [hn, hl], by rw [hl]; exact hc, fun i hi => ?_⟩⟩
 rw [hl] at hi
 have h1 := h (lo + i) (by omega)
 rw [← Nat.add_assoc] at h1
 rw [h1]
 simp [List.getD, hi]
structure RI (wx : World) (B0 P : Nat) (rs : List Int) : Prop where
 at_ : ∃ v, Blk wx P 75 [v] ∧ ∀ wy, Kept (fun b => B0 ≤ b) wx wy → Rd .u8 wy v rs
 le : B0 ≤ P
theorem RI.keep {F : Nat → Prop} {wx wy : World} {B0 P : Nat} {rs : List Int} (h : RI wx B0 P rs) (hk : Kept F wx wy) (hP : ¬ F P) (hF : ∀ b, b < wx.heap.size → F b → B0 ≤ b) : RI wy B0 P rs := by
 obtain ⟨⟨v, h1, h2⟩, h3⟩ := h
 exact ⟨⟨v, h1.kept hk hP, fun wz hz => h2 wz ((hk.mono hF).trans hz)⟩, h3⟩
theorem RI.same {wx wy : World} {B0 P : Nat} {rs : List Int} (h : RI wx B0 P rs) (hk : Same wx wy) : RI wy B0 P rs := h.keep hk id (fun _ _ e => e.elim)
theorem RI.lt {wx : World} {B0 P : Nat} {rs : List Int} (h : RI wx B0 P rs) : P < wx.heap.size := by
 obtain ⟨⟨v, h1, h2⟩, h3⟩ := h
 exact h1.lt
theorem Rd.headP {w : World} {b off c : Nat} {raw : List Int} (h : Rd .u8 w (.slice (some ⟨b, off, none⟩) raw.length c) raw) (m : Nat) (hm : m ≤ raw.length) : Rd .u8 w (.slice (some ⟨b, off, none⟩) m c) (raw.take m) := by
 have h1 := h.cut 0 m (by omega)
 have e : (if c = 0 then (⟨b, off, none⟩ : Addr) else ⟨b, off + 0, none⟩) = ⟨b, off, none⟩ := by split <;> rfl
 rw [e] at h1
 exact h1
theorem Rd.restP {w : World} {b off c : Nat} {raw : List Int} (h : Rd .u8 w (.slice (some ⟨b, off, none⟩) raw.length c) raw) (m k o k2 : Nat) (hm : m ≤ raw.length) (hk : k = raw.length - m) (ho : o = if c = m then off else off + m) (h2 : k2 = c - m) : Rd .u8 w (.slice (some ⟨b, o, none⟩) k k2) (raw.drop m) := by
 have h1 := h.cut m (raw.length - m) (by omega)
 rw [List.take_of_length_le (by rw [List.length_drop]; omega)] at h1
 have e : (if c = m then (⟨b, off, none⟩ : Addr) else ⟨b, off + m, none⟩) = ⟨b, o, none⟩ := by rw [ho]; split <;> rfl
 rw [e, ← hk, ← h2] at h1
 exact h1
theorem take_ri {w : World} {B0 P : Nat} {rs : List Int} (n : Int) (hn : -1 ≤ n ∧ n ≤ 65536) (hl : rs.length ≤ 1099511627776) (h : RI w B0 P rs) :
  Calls Tryz.prog 50 #[.pointer (some ⟨P, 0, none⟩), .int .i64 n] w fun e w' => ∃ a c, e = .returned (.slice a (rs.take n.toNat).length c) ∧ (∀ wy, Kept (fun b => B0 ≤ b) w' wy → Rd .u8 wy (.slice a (rs.take n.toNat).length c) (rs.take n.toNat)) ∧ RI w' B0 P (rs.drop n.toNat) ∧ Kept (fun b => b = P) w w' := by
 obtain ⟨⟨v, h1, h2⟩, h3⟩ := h
 have hks : ∀ x, Kept (fun b => b = P) w (w.setCell ⟨P, 0, none⟩ x) := fun x => (Kept.refl (fun b => b = P) w).setCell (p := ⟨P, 0, none⟩) (.inr rfl) _
 have hup : ∀ x wy, Kept (fun b => B0 ≤ b) (w.setCell ⟨P, 0, none⟩ x) wy → Kept (fun b => B0 ≤ b) w wy := fun x wy hy => ((hks x).mono (fun b _ e => by omega)).trans hy
 have HKS := hid hks
 have HUP := hid hup
 have HB := hid h1
 have c0 := h1.c0
 have fb := h1.frozen
 have hlt := h1.lt
 obtain ⟨m, hm⟩ : ∃ m : Nat, min n.toNat rs.length = m := ⟨_, rfl⟩
 have hm1 : m ≤ rs.length := by omega
 have e1 : rs.take n.toNat = rs.take m := by rw [← hm, List.take_eq_take_iff]; omega
 have e2 : rs.drop n.toNat = rs.drop m := by rw [← hm]; by_cases h : n.toNat ≤ rs.length; rw [Nat.min_eq_left h]; rw [Nat.min_eq_right (by omega), List.drop_length, List.drop_eq_nil_of_le (by omega)]
 have el : (rs.take m).length = m := by rw [List.length_take]; omega
 rw [e1, e2, el]
 have HV := hid h2
 clear hks h1 h2 hup e1 e2 el
 rcases (HV.out w (Kept.refl _ _)).2 with ⟨rfl, a, c, rfl, hac⟩ | ⟨b, off, c, rfl, hle, hx⟩
 ·obtain rfl : m = 0 := by simpa using hm1
  have hn0 : max 0 (min n 0) = 0 := by omega
  rcases a with _ | a
  ·obtain rfl : c = 0 := by first | exact hac rfl | simpa using hac
   go_enter Tryz.func50, Tryz.ntmps50
   go_wp2
   all_goals refine bodyPost_ret (v := .slice none 0 0) (by simp [results, Tryz.results50, go_sem]) rfl ⟨_, _, rfl, fun wy hy => ?_, ⟨⟨_, HB.out.stored 0 _, fun wy hy => ?_⟩, h3⟩, HKS.out _⟩
   all_goals exact HV.out wy (HUP.out _ wy hy)
  ·go_enter Tryz.func50, Tryz.ntmps50
   go_wp2
   all_goals refine bodyPost_ret (v := .slice (some a) 0 c) (by simp [results, Tryz.results50, go_sem]) rfl ⟨_, _, rfl, fun wy hy => ?_, ⟨⟨_, HB.out.stored 0 _, fun wy hy => ?_⟩, h3⟩, HKS.out _⟩
   all_goals exact HV.out wy (HUP.out _ wy hy)
 ·clear hx
  by_cases hn0 : n < 0
  ·obtain rfl : m = 0 := by omega
   go_enter Tryz.func50, Tryz.ntmps50
   go_wp2
   all_goals refine bodyPost_ret (v := .slice (some ⟨b, off, none⟩) 0 c) (by simp [results, Tryz.results50, go_sem]) rfl ⟨_, _, rfl, fun wy hy => (HV.out wy (HUP.out _ wy hy)).headP 0 (by omega), ⟨⟨_, HB.out.stored 0 _, fun wy hy => HV.out wy (HUP.out _ wy hy)⟩, h3⟩, HKS.out _⟩
  by_cases hm0 : m = 0
  ·subst hm0
   have hz : max 0 (min n rs.length) = 0 := by omega
   go_enter Tryz.func50, Tryz.ntmps50
   go_wp2
   all_goals refine bodyPost_ret (v := .slice (some ⟨b, off, none⟩) 0 c) (by simp [results, Tryz.results50, go_sem]) rfl ⟨_, _, rfl, fun wy hy => (HV.out wy (HUP.out _ wy hy)).headP 0 (by omega), ⟨⟨_, HB.out.stored 0 _, fun wy hy => ?_⟩, h3⟩, HKS.out _⟩
   all_goals exact HV.out wy (HUP.out _ wy hy)
  by_cases hn1 : n ≤ rs.length
  ·obtain rfl : n = (m : Int) := by omega
   by_cases hcm : c = m
   ·subst hcm
    go_enter Tryz.func50, Tryz.ntmps50
    go_wp2
    refine bodyPost_ret (v := .slice (some ⟨b, off, none⟩) c c) (by simp [results, Tryz.results50, go_sem]) rfl ⟨_, _, rfl, fun wy hy => (HV.out wy (HUP.out _ wy hy)).headP c hm1, ⟨⟨_, HB.out.stored 0 _, fun wy hy => ?_⟩, h3⟩, HKS.out _⟩
    exact (HV.out wy (HUP.out _ wy hy)).restP c _ _ _ hm1 (by omega) (by split <;> omega) (by omega)
   ·have hcm' : ¬ m = c := fun e => hcm e.symm
    go_enter Tryz.func50, Tryz.ntmps50
    go_wp2
    refine bodyPost_ret (v := .slice (some ⟨b, off, none⟩) m c) (by simp [results, Tryz.results50, go_sem]) rfl ⟨_, _, rfl, fun wy hy => (HV.out wy (HUP.out _ wy hy)).headP m hm1, ⟨⟨_, HB.out.stored 0 _, fun wy hy => ?_⟩, h3⟩, HKS.out _⟩
    exact (HV.out wy (HUP.out _ wy hy)).restP m _ _ _ hm1 (by omega) (by split <;> omega) (by omega)
  ·have hmr : m = rs.length := by omega
   have hgt : (rs.length : Int) < n := by omega
   rw [← hmr] at hgt
   clear hn1
   obtain ⟨L, hL⟩ : ∃ L, rs.length = L := ⟨_, rfl⟩
   rw [hL] at hmr c0 HB hle
   subst hmr
   by_cases hcm : c = m
   ·subst hcm
    go_enter Tryz.func50, Tryz.ntmps50
    go_wp2
    refine bodyPost_ret (v := .slice (some ⟨b, off, none⟩) c c) (by simp [results, Tryz.results50, go_sem]) rfl ⟨_, _, rfl, fun wy hy => (HV.out wy (HUP.out _ wy hy)).headP c hm1, ⟨⟨_, HB.out.stored 0 _, fun wy hy => ?_⟩, h3⟩, HKS.out _⟩
    exact (HV.out wy (HUP.out _ wy hy)).restP c _ _ _ hm1 (by omega) (by split <;> omega) (by omega)
   ·have hcm' : ¬ m = c := fun e => hcm e.symm
    go_enter Tryz.func50, Tryz.ntmps50
    go_wp2
    refine bodyPost_ret (v := .slice (some ⟨b, off, none⟩) m c) (by simp [results, Tryz.results50, go_sem]) rfl ⟨_, _, rfl, fun wy hy => (HV.out wy (HUP.out _ wy hy)).headP m hm1, ⟨⟨_, HB.out.stored 0 _, fun wy hy => ?_⟩, h3⟩, HKS.out _⟩
    exact (HV.out wy (HUP.out _ wy hy)).restP m _ _ _ hm1 (by omega) (by split <;> omega) (by omega)
theorem RI.isB {wx : World} {B0 P : Nat} {rs : List Int} (hB : IsB rs) (n : Nat) : IsB (rs.take n) ∧ IsB (rs.drop n) := ⟨fun y hy => hB y (List.mem_of_mem_take hy), fun y hy => hB y (List.mem_of_mem_drop hy)⟩
theorem number_ri {w : World} {B0 P : Nat} {rs : List Int} (n : Nat) (hn : n ≤ 8) (hB : IsB rs) (hl : rs.length ≤ 1099511627776) (h : RI w B0 P rs) :
  Calls Tryz.prog 45 #[.pointer (some ⟨P, 0, none⟩), .int .i64 n] w fun e w' => e = .returned (.int .i64 (nI rs n)) ∧ RI w' B0 P (rs.drop n) ∧ Kept (fun b => b = P) w w' := by
 have k1 := take_ri (n : Int) (by omega) hl h
 rw [Int.toNat_natCast] at k1
 go_enter Tryz.func45, Tryz.ntmps45
 go_wp2_with fail
 refine k1.mono ?_
 rintro e w1 ⟨a, c, rfl, hv, hr, hk⟩
 clear k1
 generalize Value.slice a (rs.take n).length c = V at hv ⊢
 have HV := hid hv
 have HR := hid hr
 have HK := hid hk
 clear hv hr hk h
 go_wp2_with fail
 refine (implGet_any _ (rs.take n) w1 (fun y hy => hB y (List.mem_of_mem_take hy)) (by rw [List.length_take]; omega) (HV.out w1 (Kept.refl _ _))).mono ?_
 rintro e w2 ⟨rfl, hk2⟩
 have HK2 := hid hk2
 clear hk2
 go_wp2_with fail
 exact bodyPost_ret (v := .int .i64 (nI rs n)) (by simp [results, Tryz.results45, go_sem, nI]) rfl ⟨rfl, HR.out.same HK2.out, HK.out.next HK2.out (fun _ _ e => e.elim)⟩
theorem place_ri {w : World} {B0 P : Nat} {rs : List Int} (hB : IsB rs) (hl : rs.length ≤ 1099511627776) (h : RI w B0 P rs) :
  Calls Tryz.prog 46 #[.pointer (some ⟨P, 0, none⟩)] w fun e w' => e = .returned (.agg #[.int .i64 (nI rs 2), .int .i64 (nI (rs.drop 2) 2)]) ∧ RI w' B0 P (rs.drop 4) ∧ Kept (fun b => b = P) w w' := by
 have hPl := h.lt
 have hk0 : Same w (w.alloc (.cells #[.int .i64 0, .int .i64 0] 80)) := (Kept.refl _ _).alloc _
 have HB0 := hid (Blk.newL w [.int .i64 0, .int .i64 0] 80)
 have HK0 := hid hk0
 have H0 := hid (h.same hk0)
 have hne : ¬ w.heap.size = P := by omega
 clear h hk0
 go_enter Tryz.func46, Tryz.ntmps46
 go_wp2_with fail
 refine (number_ri 2 (by omega) hB hl H0.out).mono ?_
 rintro e w1 ⟨rfl, hr1, hk1⟩
 have HB1 := hid (HB0.out.kept hk1 hne)
 have HR1 := hid hr1
 have HK1 := (show Hid (Kept (fun b => b = P) w w1) from (HK0.out.mono (fun _ _ e => e.elim)).trans hk1)
 clear hr1 hk1 H0 HK0 HB0
 go_wp2_with fail
 refine (number_ri 2 (by omega) (fun y hy => hB y (List.mem_of_mem_drop hy)) (by rw [List.length_drop]; omega) HR1.out).mono ?_
 rintro e w2 ⟨rfl, hr2, hk2⟩
 have HB2 := hid (HB1.out.kept hk2 hne)
 have HR2 := hid hr2
 have HK2 := hid (HK1.out.trans hk2)
 clear hr2 hk2 HB1 HR1 HK1
 obtain ⟨c0, c1⟩ := HB2.out.all2
 have fb := HB2.out.frozen
 obtain ⟨x, hx⟩ : ∃ x, nI rs 2 = x := ⟨_, rfl⟩
 obtain ⟨y, hy⟩ : ∃ x, nI (rs.drop 2) 2 = x := ⟨_, rfl⟩
 rw [hx, hy]
 have hks : Kept (fun b => b = w.heap.size) w2 ((w2.setCell ⟨w.heap.size, 0, none⟩ (.int .i64 x)).setCell ⟨w.heap.size, 1, none⟩ (.int .i64 y)) := ((Kept.refl (fun b => b = w.heap.size) w2).setCell (.inr rfl) _).setCell (.inr rfl) _
 have HKS := hid hks
 have hle := HR2.out.le
 have HX := hid hx
 have HY := hid hy
 clear hks hx hy
 go_wp2_with fail
 refine bodyPost_ret (v := .agg #[.int .i64 x, .int .i64 y]) (by simp [results, Tryz.results46, go_sem, c0, c1]) rfl ⟨by rw [HX.out, HY.out], ?_, ?_⟩
 ·have h := HR2.out.keep HKS.out (fun e => hne e.symm) (fun b _ e => by have := HK2.out.size; omega)
  rw [List.drop_drop] at h
  exact h
 ·exact HK2.out.next HKS.out (fun i hi e => by omega)
theorem nI_two {rs : List Int} (hB : IsB rs) : -1 ≤ nI rs 2 ∧ nI rs 2 ≤ 65535 := by
 have hb : IsB (rs.take 2) := fun x hx => hB x (List.mem_of_mem_take hx)
 have hl : (rs.take 2).length ≤ 2 := by rw [List.length_take]; omega
 unfold nI
 match hm : rs.take 2, hl with
 | [], _ => unfold getN; simp
 | [a], _ =>
  have ha := hb a (by rw [hm]; simp)
  have hn : num [a] = a := by simp [num]
  unfold getN
  rw [hn, if_neg (by simp only [List.length_cons, List.length_nil]; omega)]
  omega
 | [a, b], _ =>
  have ha := hb a (by rw [hm]; simp)
  have hb' := hb b (by rw [hm]; simp)
  have hn : num [a, b] = a * 256 + b := by simp [num]
  unfold getN
  rw [hn, if_neg (by simp only [List.length_cons, List.length_nil]; omega)]
  omega
theorem nI_one {rs : List Int} (hB : IsB rs) : -1 ≤ nI rs 1 ∧ nI rs 1 ≤ 255 := by
 have hb : IsB (rs.take 1) := fun x hx => hB x (List.mem_of_mem_take hx)
 have hl : (rs.take 1).length ≤ 1 := by rw [List.length_take]; omega
 unfold nI
 match hm : rs.take 1, hl with
 | [], _ => unfold getN; simp
 | [a], _ =>
  have ha := hb a (by rw [hm]; simp)
  have hn : num [a] = a := by simp [num]
  unfold getN
  rw [hn, if_neg (by simp only [List.length_cons, List.length_nil]; omega)]
  omega
def slI (rs : List Int) : (Bool × List Int) × List Int := rdSlot nI (fun rs n => rs.take n) rs
theorem IsB.dropI {xs : List Int} (n : Nat) (h : IsB xs) : IsB (xs.drop n) := fun x hx => h x (List.mem_of_mem_drop hx)
theorem slI_ok {rs : List Int} (h : IsB rs) : IsB (slI rs).1.2 ∧ IsB (slI rs).2 ∧ (slI rs).1.2.length ≤ 65535 ∧ (slI rs).2.length ≤ rs.length := by
 unfold slI rdSlot
 split
 ·have h2 := nI_two (h.dropI 1)
  refine ⟨fun x hx => h.dropI 3 x (List.mem_of_mem_take hx), (h.dropI 3).dropI _, ?_, ?_⟩
  ·simp only [List.length_take]; omega
  ·simp only [List.length_drop]; omega
 ·exact ⟨fun x hx => by simp at hx, h.dropI 1, by simp, by simp only [List.length_drop]; omega⟩
def Low (B0 : Nat) (w : World) (v : Value) (bs : List Int) : Prop := ∀ wy, Kept (fun b => B0 ≤ b) w wy → Rd .u8 wy v bs
theorem Low.keep {F : Nat → Prop} {B0 : Nat} {w wy : World} {v : Value} {bs : List Int} (h : Low B0 w v bs) (hk : Kept F w wy) (hF : ∀ b, b < w.heap.size → F b → B0 ≤ b) : Low B0 wy v bs := fun wz hz => h wz ((hk.mono hF).trans hz)
theorem Low.rd {B0 : Nat} {w : World} {v : Value} {bs : List Int} (h : Low B0 w v bs) : Rd .u8 w v bs := h w (Kept.refl _ _)
theorem slot_ri {w : World} {B0 P : Nat} {rs : List Int} (hB : IsB rs) (hl : rs.length ≤ 1099511627776) (hBw : B0 ≤ w.heap.size) (h : RI w B0 P rs) :
  Calls Tryz.prog 47 #[.pointer (some ⟨P, 0, none⟩)] w fun e w' => ∃ y : StPageRecord, e = .returned y.val ∧ y.dat = (slI rs).1 ∧ Low B0 w' y.data.v y.data.bs ∧ RI w' B0 P (slI rs).2 ∧ Kept (fun b => b = P) w w' := by
 have hPl := h.lt
 have hB0 := h.le
 have hk0 : Same w (w.alloc (.cells #[.bool false, .slice none 0 0] 24)) := (Kept.refl _ _).alloc _
 have HB0 := hid (Blk.newL w [.bool false, .slice none 0 0] 24)
 have HK0 := hid hk0
 have H0 := hid (h.same hk0)
 clear h hk0
 go_enter Tryz.func47, Tryz.ntmps47
 go_wp2_with fail
 refine (number_ri 1 (by omega) hB hl H0.out).mono ?_
 rintro e w1 ⟨rfl, hr1, hk1⟩
 have hne : ¬ w.heap.size = P := by omega
 have HB1 := hid (HB0.out.kept hk1 hne)
 have HR1 := hid hr1
 have HK1 := (show Hid (Kept (fun b => b = P) w w1) from (HK0.out.mono (fun _ _ e => e.elim)).trans hk1)
 obtain ⟨x, hx⟩ : ∃ x, nI rs 1 = x := ⟨_, rfl⟩
 rw [hx]
 clear hr1 hk1 H0 HK0 HB0
 by_cases h1 : x = 1
 ·subst h1
  obtain ⟨n, hn⟩ : ∃ n, nI (rs.drop 1) 2 = n := ⟨_, rfl⟩
  have hnb := nI_two (hB.dropI 1)
  have HE := (show Hid (slI rs = ((true, (rs.drop 3).take n.toNat), (rs.drop 3).drop n.toNat)) from by unfold Hid slI rdSlot; rw [if_pos hx, hn])
  have k2 := number_ri 2 (by omega) (hB.dropI 1) (by rw [List.length_drop]; omega) HR1.out
  rw [hn, List.drop_drop] at k2
  rw [hn] at hnb
  clear hx hn
  go_wp2_with fail
  refine k2.mono ?_
  rintro e w2 ⟨rfl, hr2, hk2⟩
  have HB2 := hid (HB1.out.kept hk2 hne)
  have HR2 := hid hr2
  have HK2 := hid (HK1.out.trans hk2)
  clear hr2 hk2 k2 HB1 HR1 HK1
  go_wp2_with fail
  refine (take_ri n ⟨hnb.1, by omega⟩ (by rw [List.length_drop]; omega) HR2.out).mono ?_
  rintro e w3 ⟨a, c, rfl, hv3, hr3, hk3⟩
  obtain ⟨db, hdb⟩ : ∃ x, (rs.drop 3).take n.toNat = x := ⟨_, rfl⟩
  rw [hdb] at HE hv3 ⊢
  have hb2 := HB2.out.lt
  have HB3 := hid (HB2.out.kept hk3 hne)
  have hks : Kept (fun b => b = w.heap.size) w3 ((w3.setCell ⟨w.heap.size, 0, none⟩ (.bool true)).setCell ⟨w.heap.size, 1, none⟩ (.slice a db.length c)) := ((Kept.refl (fun b => b = w.heap.size) w3).setCell (p := ⟨w.heap.size, 0, none⟩) (.inr rfl) _).setCell (p := ⟨w.heap.size, 1, none⟩) (.inr rfl) _
  have HV4 := (show Hid (Low B0 ((w3.setCell ⟨w.heap.size, 0, none⟩ (.bool true)).setCell ⟨w.heap.size, 1, none⟩ (.slice a db.length c)) (.slice a db.length c) db) from Low.keep hv3 hks (fun b _ e => by omega))
  have HR4 := (show Hid (RI ((w3.setCell ⟨w.heap.size, 0, none⟩ (.bool true)).setCell ⟨w.heap.size, 1, none⟩ (.slice a db.length c)) B0 P ((rs.drop 3).drop n.toNat)) from hr3.keep hks (fun e => hne e.symm) (fun b _ e => by omega))
  have HK4 := (show Hid (Kept (fun b => b = P) w ((w3.setCell ⟨w.heap.size, 0, none⟩ (.bool true)).setCell ⟨w.heap.size, 1, none⟩ (.slice a db.length c))) from (HK2.out.trans hk3).next hks (fun i hi e => by omega))
  obtain ⟨c0, c1⟩ := HB3.out.all2
  have fb := HB3.out.frozen
  clear hv3 hr3 hk3 hks HB3 HB2 HR2 HK2 hdb
  go_wp2_with fail
  refine bodyPost_ret (v := .agg #[.bool true, .slice a db.length c]) (by simp [results, Tryz.results47, go_sem, c0, c1]) rfl ?_
  rw [HE.out]
  exact ⟨⟨true, ⟨5, a, c, db⟩⟩, rfl, rfl, HV4.out, HR4.out, HK4.out⟩
 ·have h1' : (x != 1) = true := bne_iff_ne.2 h1
  have HE := (show Hid (slI rs = ((false, []), rs.drop 1)) from if_neg (by rw [hx]; exact h1))
  obtain ⟨c0, c1⟩ := HB1.out.all2
  have fb := HB1.out.frozen
  have hks : ∀ v0 v1, Kept (fun b => b = w.heap.size) w1 ((w1.setCell ⟨w.heap.size, 0, none⟩ v0).setCell ⟨w.heap.size, 1, none⟩ v1) := fun _ _ => ((Kept.refl (fun b => b = w.heap.size) w1).setCell (.inr rfl) _).setCell (.inr rfl) _
  have HKS := hid hks
  clear hks hx
  go_wp2_with fail
  refine bodyPost_ret (v := .agg #[.bool false, .slice none 0 0]) (by simp [results, Tryz.results47, go_sem, c0, c1]) rfl ?_
  rw [HE.out]
  refine ⟨⟨false, ⟨0, none, 0, []⟩⟩, rfl, rfl, fun wy hy => (Own.nil 0 0 .u8 wy).rd, ?_, ?_⟩
  ·first
   | exact HR1.out
   | exact HR1.out.keep (HKS.out (.bool false) (.slice none 0 0)) (fun e => hne e.symm) (fun b _ e => by omega)
  ·first | exact HK1.out | exact HK1.out.next (HKS.out _ _) (fun i hi e => by omega)
theorem own_app4I {e : TypeId} {w : World} {g n c : Nat} {bs : List Int} {x y z u : Int} (h : w.ownsRow 0 e 4 (.slice (some ⟨g, 0, none⟩) n c) n (vals .i64 bs ++ [.int .i64 x, .int .i64 y, .int .i64 z, .int .i64 u])) : OwnL w (FR.rows 4 ⟨e, some ⟨g, 0, none⟩, n, c, bs ++ [x, y, z, u]⟩) :=
 OwnF.out (by
  have e1 : vals .i64 bs ++ [.int .i64 x, .int .i64 y, .int .i64 z, .int .i64 u] = vals .i64 (bs ++ [x, y, z, u]) := by simp [vals]
  rw [e1] at h
  exact h)
theorem own_app2I {e : TypeId} {w : World} {g n c : Nat} {bs : List Int} {x y : Int} (h : w.ownsRow 0 e 2 (.slice (some ⟨g, 0, none⟩) n c) n (vals .i64 bs ++ [.int .i64 x, .int .i64 y])) : OwnL w (FR.rows 2 ⟨e, some ⟨g, 0, none⟩, n, c, bs ++ [x, y]⟩) :=
 OwnF.out (by
  have e1 : vals .i64 bs ++ [.int .i64 x, .int .i64 y] = vals .i64 (bs ++ [x, y]) := by simp [vals]
  rw [e1] at h
  exact h)
theorem txL_snocI (num : List Int → Nat → Int) (r : List Int) (j : Nat) : txL num r (j + 1) = txL num r j ++ txE num r j := by unfold txL; rw [List.range_succ, List.flatMap_append]; simp
theorem dyL_snocI (num : List Int → Nat → Int) (r : List Int) (j : Nat) : dyL num r (j + 1) = dyL num r j ++ dyE num r j := by unfold dyL; rw [List.range_succ, List.flatMap_append]; simp
theorem own_nilR (m : Nat) (e : TypeId) (w : World) : OwnL w (FR.rows m ⟨e, none, 0, 0, []⟩) :=
 ⟨fun r hr => by rw [List.mem_singleton.1 hr]; exact ⟨by simp [vals], .inl ⟨rfl, rfl⟩⟩, List.pairwise_singleton _ _⟩
theorem infoTxnI : (Tryz.prog.info? 50).map (fun i => (i.zero, i.size, i.bytes)) = some (some (.agg #[.int .i64 0, .int .i64 0, .int .i64 0, .int .i64 0]), 4, 32) := by kernel_rfl
theorem infoDirtyI : (Tryz.prog.info? 52).map (fun i => (i.zero, i.size, i.bytes)) = some (some (.agg #[.int .i64 0, .int .i64 0]), 2, 16) := by kernel_rfl
theorem txns_ri {w : World} {B0 P : Nat} {rs : List Int} (hB : IsB rs) (hl : rs.length ≤ 1099511627776) (hBw : B0 ≤ w.heap.size) (h : RI w B0 P rs) :
  Calls Tryz.prog 48 #[.pointer (some ⟨P, 0, none⟩)] w fun e w' => ∃ a n c, e = .returned (.slice a n c) ∧ n = (nI rs 1).toNat ∧ OwnL w' (FR.rows 4 ⟨50, a, n, c, txL nI (rs.drop 1) n⟩) ∧ (∀ b, (Value.slice a n c).ownBlock = some b → w.heap.size ≤ b) ∧ RI w' B0 P ((rs.drop 1).drop (21 * n)) ∧ Kept (fun b => b = P) w w' := by
 have hPl := h.lt
 have hB0 := h.le
 have k1 := number_ri 1 (by omega) hB hl h
 obtain ⟨i0, hi, hz1, hz2, hz3⟩ := info_parts infoTxnI
 have hx := nI_one hB
 obtain ⟨x, hxx⟩ : ∃ x, nI rs 1 = x := ⟨_, rfl⟩
 rw [hxx] at hx k1 ⊢
 obtain ⟨N, hN⟩ : ∃ N, x.toNat = N := ⟨_, rfl⟩
 have HNx := hid hN
 have hN1 : N ≤ 255 := by omega
 have hlt0 : ∀ j : Nat, (j : Int) < x ↔ j < N := fun j => by omega
 have HLT := hid hlt0
 obtain ⟨r1, hr⟩ : ∃ r1, rs.drop 1 = r1 := ⟨_, rfl⟩
 have HB1 := (show Hid (IsB r1) from hr ▸ hB.dropI 1)
 have hl1 : r1.length ≤ 1099511627776 := by rw [← hr, List.length_drop]; omega
 rw [hr] at k1 ⊢
 rw [hN]
 clear hxx hN hr hB hl hlt0 h
 go_enter Tryz.func48, Tryz.ntmps48
 go_wp2_with fail
 refine k1.mono ?_
 rintro e w1 ⟨rfl, hr1, hk1⟩
 have HR1 := hid hr1
 have HK1 := hid hk1
 clear hr1 hk1 k1
 go_wp2_with fail
 go_loopw [3, 6] (fun sv iv wr => ∃ (j : Nat) (a : Option Addr) (c : Nat), j ≤ N ∧ sv = .slice a j c ∧ iv = .int .i64 j ∧ Hid (OwnL wr (FR.rows 4 ⟨50, a, j, c, txL nI r1 j⟩)) ∧ Hid (∀ b, (Value.slice a j c).ownBlock = some b → w.heap.size ≤ b) ∧ Hid (RI wr B0 P (r1.drop (21 * j))) ∧ Hid (Kept (fun b => b = P) w wr)) (fun _ iv _ => N - (intOf iv).toNat)
 case atStart => exact ⟨0, none, 0, Nat.zero_le _, rfl, rfl, own_nilR _ _ _, fun b hb => by simp [Value.ownBlock] at hb, HR1, HK1⟩
 case round =>
  obtain ⟨j, a, c, hj, rfl, rfl, HO, HF, HR, HK⟩ := hrel
  have hxb := hx
  by_cases hlt : j < N
  ·have hjx : (j : Int) < x := (HLT.out j).2 hlt
   clear hx
   go_wp2_with fail
   refine (number_ri 4 (by omega) (HB1.out.dropI _) (by simp only [List.length_drop]; omega) HR.out).mono ?_
   rintro e v0 ⟨rfl, hr2, hk2⟩
   obtain ⟨y0, hy0⟩ : ∃ y, nI (r1.drop (21 * j)) 4 = y := ⟨_, rfl⟩
   rw [hy0]
   have HR0 := (show Hid (RI v0 B0 P ((r1.drop (21 * j)).drop 4)) from by have h := hr2; simp only [List.drop_drop] at h ⊢; exact h)
   have HK0 := hid (HK.out.trans hk2)
   have HO0 := hid (HO.out.kept hk2 (fun b hb e => by have := HF.out b ((FootL_one _ _).1 hb); omega))
   clear hr2 hk2 HR HK HO
   go_wp2_with fail
   refine (number_ri 1 (by omega) ((HB1.out.dropI _).dropI _) (by simp only [List.length_drop]; omega) HR0.out).mono ?_
   rintro e v1 ⟨rfl, hr2, hk2⟩
   obtain ⟨y1, hy1⟩ : ∃ y, nI ((r1.drop (21 * j)).drop 4) 1 = y := ⟨_, rfl⟩
   rw [hy1]
   have HR1 := (show Hid (RI v1 B0 P ((r1.drop (21 * j)).drop 5)) from by have h := hr2; simp only [List.drop_drop] at h ⊢; exact h)
   have HK1 := hid (HK0.out.trans hk2)
   have HO1 := hid (HO0.out.kept hk2 (fun b hb e => by have := HF.out b ((FootL_one _ _).1 hb); omega))
   clear hr2 hk2 HR0 HK0 HO0
   go_wp2_with fail
   refine (number_ri 8 (by omega) ((HB1.out.dropI _).dropI _) (by simp only [List.length_drop]; omega) HR1.out).mono ?_
   rintro e v2 ⟨rfl, hr2, hk2⟩
   obtain ⟨y2, hy2⟩ : ∃ y, nI ((r1.drop (21 * j)).drop 5) 8 = y := ⟨_, rfl⟩
   rw [hy2]
   have HR2 := (show Hid (RI v2 B0 P ((r1.drop (21 * j)).drop 13)) from by have h := hr2; simp only [List.drop_drop] at h ⊢; exact h)
   have HK2 := hid (HK1.out.trans hk2)
   have HO2 := hid (HO1.out.kept hk2 (fun b hb e => by have := HF.out b ((FootL_one _ _).1 hb); omega))
   clear hr2 hk2 HR1 HK1 HO1
   go_wp2_with fail
   refine (number_ri 8 (by omega) ((HB1.out.dropI _).dropI _) (by simp only [List.length_drop]; omega) HR2.out).mono ?_
   rintro e v3 ⟨rfl, hr2, hk2⟩
   obtain ⟨y3, hy3⟩ : ∃ y, nI ((r1.drop (21 * j)).drop 13) 8 = y := ⟨_, rfl⟩
   rw [hy3]
   have HR3 := (show Hid (RI v3 B0 P ((r1.drop (21 * j)).drop 21)) from by have h := hr2; simp only [List.drop_drop] at h ⊢; exact h)
   have HK3 := hid (HK2.out.trans hk2)
   have HO3 := hid (HO2.out.kept hk2 (fun b hb e => by have := HF.out b ((FootL_one _ _).1 hb); omega))
   clear hr2 hk2 HR2 HK2 HO2
   have HA := (show Hid (Same v3 (v3.alloc (.cells #[.int .i64 y0, .int .i64 y1, .int .i64 y2, .int .i64 y3] 50))) from (Kept.refl _ _).alloc _)
   have HOA := (show Hid ((v3.alloc (.cells #[.int .i64 y0, .int .i64 y1, .int .i64 y2, .int .i64 y3] 50)).ownsRow 0 50 4 (.slice a j c) j (vals .i64 (txL nI r1 j))) from (HO3.out.same HA.out).1 _ (List.mem_singleton.2 rfl))
   have HNB := (show Hid (Blk (v3.alloc (.cells #[.int .i64 y0, .int .i64 y1, .int .i64 y2, .int .i64 y3] 50)) v3.heap.size 50 [.int .i64 y0, .int .i64 y1, .int .i64 y2, .int .i64 y3]) from Blk.newL v3 [.int .i64 y0, .int .i64 y1, .int .i64 y2, .int .i64 y3] 50)
   have hsz := HK3.out.size
   go_wp2_with (at_builtin; go_loud (refine wpList_append_lies _ rfl (.tmp 8) (.tmp 18) 25 rfl 0 50 i0 _ 4 32 Tryz.underlying25 hi hz1 hz2 hz3 rfl (by omega) (.slice a j c) j (vals .i64 (txL nI r1 j)) rfl (by exact HOA.out) ⟨v3.heap.size, 0, none⟩ 1 1 [.int .i64 y0, .int .i64 y1, .int .i64 y2, .int .i64 y3] rfl rfl (World.news_of_block (cs := #[.int .i64 y0, .int .i64 y1, .int .i64 y2, .int .i64 y3]) (t := 50) (fr := (0, 0)) (by exact HNB.out)) (by simp [Value.oneCell']) (by omega) (by unfold maxLen; omega) (by omega) (Nat.zero_le _) (v3.heap.size + 1) (by simp) ?_); intro g5 cap5 w9 hown5 hgrow5 hat5 hlt5; have HG5 := (show Hid (Kept (fun k => (Value.slice a j c).ownBlock = some k) (v3.alloc (.cells #[.int .i64 y0, .int .i64 y1, .int .i64 y2, .int .i64 y3] 50)) w9) from Kept.of_grown hgrow5 (fun k e => e)); have HO9 := hid (own_app4I hown5); have HAT := hid hat5; clear hown5 hgrow5 hat5)
   go_roundw
   case rel =>
    refine ⟨j + 1, _, _, by omega, rfl, by go_num, ?_, ?_, ?_, ?_⟩
    ·have e9 : txL nI r1 (j + 1) = txL nI r1 j ++ [y0, y1, y2, y3] := by
      rw [txL_snocI]
      congr 1
      simp only [List.drop_drop] at hy0 hy1 hy2 hy3
      unfold txE
      rw [hy0, hy1, hy2, hy3]
     rw [e9]
     exact HO9
    ·intro b hb
     have e : g5 = b := by simpa [Value.ownBlock] using hb
     subst e
     exact HAT.out.elim (HF.out _) (fun h => by omega)
    ·have h := (HR3.out.same HA.out).keep HG5.out (fun e => by have := HF.out P e; omega) (fun b _ e => by have := HF.out b e; omega)
     rw [List.drop_drop, show 21 * j + 21 = 21 * (j + 1) from by omega] at h
     exact h
    ·exact (HK3.out.next HA.out (fun _ _ e => e.elim)).next HG5.out (fun i hi e => by have := HF.out i e; omega)
   case measure => simp [intOf]; omega
  ·obtain rfl : N = j := by omega
   have hjx : ¬ (N : Int) < x := fun h => hlt ((HLT.out N).1 h)
   clear hlt hj hx
   go_wp2_with fail
   go_ret
   exact ⟨_, _, _, rfl, rfl, HO.out, HF.out, HR.out, HK.out⟩
theorem dirty_ri {w : World} {B0 P : Nat} {rs : List Int} (hB : IsB rs) (hl : rs.length ≤ 1099511627776) (hBw : B0 ≤ w.heap.size) (h : RI w B0 P rs) :
  Calls Tryz.prog 49 #[.pointer (some ⟨P, 0, none⟩)] w fun e w' => ∃ a n c, e = .returned (.slice a n c) ∧ n = (nI rs 1).toNat ∧ OwnL w' (FR.rows 2 ⟨52, a, n, c, dyL nI (rs.drop 1) n⟩) ∧ (∀ b, (Value.slice a n c).ownBlock = some b → w.heap.size ≤ b) ∧ RI w' B0 P ((rs.drop 1).drop (10 * n)) ∧ Kept (fun b => b = P) w w' := by
 have hPl := h.lt
 have hB0 := h.le
 have k1 := number_ri 1 (by omega) hB hl h
 obtain ⟨i0, hi, hz1, hz2, hz3⟩ := info_parts infoDirtyI
 have hx := nI_one hB
 obtain ⟨x, hxx⟩ : ∃ x, nI rs 1 = x := ⟨_, rfl⟩
 rw [hxx] at hx k1 ⊢
 obtain ⟨N, hN⟩ : ∃ N, x.toNat = N := ⟨_, rfl⟩
 have HNx := hid hN
 have hN1 : N ≤ 255 := by omega
 have hlt0 : ∀ j : Nat, (j : Int) < x ↔ j < N := fun j => by omega
 have HLT := hid hlt0
 obtain ⟨r1, hr⟩ : ∃ r1, rs.drop 1 = r1 := ⟨_, rfl⟩
 have HB1 := (show Hid (IsB r1) from hr ▸ hB.dropI 1)
 have hl1 : r1.length ≤ 1099511627776 := by rw [← hr, List.length_drop]; omega
 rw [hr] at k1 ⊢
 rw [hN]
 clear hxx hN hr hB hl hlt0 h
 go_enter Tryz.func49, Tryz.ntmps49
 go_wp2_with fail
 refine k1.mono ?_
 rintro e w1 ⟨rfl, hr1, hk1⟩
 have HR1 := hid hr1
 have HK1 := hid hk1
 clear hr1 hk1 k1
 go_wp2_with fail
 go_loopw [3, 6] (fun sv iv wr => ∃ (j : Nat) (a : Option Addr) (c : Nat), j ≤ N ∧ sv = .slice a j c ∧ iv = .int .i64 j ∧ Hid (OwnL wr (FR.rows 2 ⟨52, a, j, c, dyL nI r1 j⟩)) ∧ Hid (∀ b, (Value.slice a j c).ownBlock = some b → w.heap.size ≤ b) ∧ Hid (RI wr B0 P (r1.drop (10 * j))) ∧ Hid (Kept (fun b => b = P) w wr)) (fun _ iv _ => N - (intOf iv).toNat)
 case atStart => exact ⟨0, none, 0, Nat.zero_le _, rfl, rfl, own_nilR _ _ _, fun b hb => by simp [Value.ownBlock] at hb, HR1, HK1⟩
 case round =>
  obtain ⟨j, a, c, hj, rfl, rfl, HO, HF, HR, HK⟩ := hrel
  have hxb := hx
  by_cases hlt : j < N
  ·have hjx : (j : Int) < x := (HLT.out j).2 hlt
   clear hx
   go_wp2_with fail
   refine (number_ri 2 (by omega) (HB1.out.dropI _) (by simp only [List.length_drop]; omega) HR.out).mono ?_
   rintro e v0 ⟨rfl, hr2, hk2⟩
   obtain ⟨y0, hy0⟩ : ∃ y, nI (r1.drop (10 * j)) 2 = y := ⟨_, rfl⟩
   rw [hy0]
   have HR0 := (show Hid (RI v0 B0 P ((r1.drop (10 * j)).drop 2)) from by have h := hr2; simp only [List.drop_drop] at h ⊢; exact h)
   have HK0 := hid (HK.out.trans hk2)
   have HO0 := hid (HO.out.kept hk2 (fun b hb e => by have := HF.out b ((FootL_one _ _).1 hb); omega))
   clear hr2 hk2 HR HK HO
   go_wp2_with fail
   refine (number_ri 8 (by omega) ((HB1.out.dropI _).dropI _) (by simp only [List.length_drop]; omega) HR0.out).mono ?_
   rintro e v1 ⟨rfl, hr2, hk2⟩
   obtain ⟨y1, hy1⟩ : ∃ y, nI ((r1.drop (10 * j)).drop 2) 8 = y := ⟨_, rfl⟩
   rw [hy1]
   have HR1 := (show Hid (RI v1 B0 P ((r1.drop (10 * j)).drop 10)) from by have h := hr2; simp only [List.drop_drop] at h ⊢; exact h)
   have HK1 := hid (HK0.out.trans hk2)
   have HO1 := hid (HO0.out.kept hk2 (fun b hb e => by have := HF.out b ((FootL_one _ _).1 hb); omega))
   clear hr2 hk2 HR0 HK0 HO0
   have HA := (show Hid (Same v1 (v1.alloc (.cells #[.int .i64 y0, .int .i64 y1] 52))) from (Kept.refl _ _).alloc _)
   have HOA := (show Hid ((v1.alloc (.cells #[.int .i64 y0, .int .i64 y1] 52)).ownsRow 0 52 2 (.slice a j c) j (vals .i64 (dyL nI r1 j))) from (HO1.out.same HA.out).1 _ (List.mem_singleton.2 rfl))
   have HNB := (show Hid (Blk (v1.alloc (.cells #[.int .i64 y0, .int .i64 y1] 52)) v1.heap.size 52 [.int .i64 y0, .int .i64 y1]) from Blk.newL v1 [.int .i64 y0, .int .i64 y1] 52)
   have hsz := HK1.out.size
   go_wp2_with (at_builtin; go_loud (refine wpList_append_lies _ rfl (.tmp 8) (.tmp 14) 26 rfl 0 52 i0 _ 2 16 Tryz.underlying26 hi hz1 hz2 hz3 rfl (by omega) (.slice a j c) j (vals .i64 (dyL nI r1 j)) rfl (by exact HOA.out) ⟨v1.heap.size, 0, none⟩ 1 1 [.int .i64 y0, .int .i64 y1] rfl rfl (World.news_of_block (cs := #[.int .i64 y0, .int .i64 y1]) (t := 52) (fr := (0, 0)) (by exact HNB.out)) (by simp [Value.oneCell']) (by omega) (by unfold maxLen; omega) (by omega) (Nat.zero_le _) (v1.heap.size + 1) (by simp) ?_); intro g5 cap5 w9 hown5 hgrow5 hat5 hlt5; have HG5 := (show Hid (Kept (fun k => (Value.slice a j c).ownBlock = some k) (v1.alloc (.cells #[.int .i64 y0, .int .i64 y1] 52)) w9) from Kept.of_grown hgrow5 (fun k e => e)); have HO9 := hid (own_app2I hown5); have HAT := hid hat5; clear hown5 hgrow5 hat5)
   go_roundw
   case rel =>
    refine ⟨j + 1, _, _, by omega, rfl, by go_num, ?_, ?_, ?_, ?_⟩
    ·have e9 : dyL nI r1 (j + 1) = dyL nI r1 j ++ [y0, y1] := by
      rw [dyL_snocI]
      congr 1
      simp only [List.drop_drop] at hy0 hy1
      unfold dyE
      rw [hy0, hy1]
     rw [e9]
     exact HO9
    ·intro b hb
     have e : g5 = b := by simpa [Value.ownBlock] using hb
     subst e
     exact HAT.out.elim (HF.out _) (fun h => by omega)
    ·have h := (HR1.out.same HA.out).keep HG5.out (fun e => by have := HF.out P e; omega) (fun b _ e => by have := HF.out b e; omega)
     rw [List.drop_drop, show 10 * j + 10 = 10 * (j + 1) from by omega] at h
     exact h
    ·exact (HK1.out.next HA.out (fun _ _ e => e.elim)).next HG5.out (fun i hi e => by have := HF.out i e; omega)
   case measure => simp [intOf]; omega
  ·obtain rfl : N = j := by omega
   have hjx : ¬ (N : Int) < x := fun h => hlt ((HLT.out N).1 h)
   clear hlt hj hx
   go_wp2_with fail
   go_ret
   exact ⟨_, _, _, rfl, rfl, HO.out, HF.out, HR.out, HK.out⟩
end Go.Proofs.YtaeikeglaobeeaaGreat
