import Derived.Test.YtdbpaadndaoihaaGreatDoorG24
import Derived.Deep.DeepCutAuto
import Derived.Lib.AppendZerosOnto
namespace Go.Proofs.YtdbpaadndaoihaaGreatDoor
set_option maxRecDepth 100000
set_option maxHeartbeats 8000000
set_option linter.unusedSimpArgs false
open Go.RowKit
structure Plat (w : World) (B : Nat) (dv pv : Value) (dur : List Int) (ds : List (Int × List Int)) : Prop where
 box : FBox w B dv pv
 dur : w.ownsRow 0 113 512 dv (dur.length / 512) (vals .u8 dur)
 pend : w.ownsRow 0 134 513 pv ds.length (penCells ds)
 a1 : dv.ownBlock ≠ some B
 a2 : pv.ownBlock ≠ some B
 a3 : Apart dv pv
theorem made_take {z : Value} {n m : Nat} (hz : z.cells = (List.replicate n (Value.int .u8 0)).toArray) (hn : 0 < n) : (madeCells z.cells (m * n)).toList.take (m * n) = vals .u8 (List.replicate (m * n) 0) := by
 rw [hz, List.take_of_length_le (by rw [Array.length_toList, size_madeCells]; exact Nat.le_refl _)]
 apply List.ext_getElem?
 intro j
 by_cases hj : j < m * n
 ·simp [madeCells, vals, hj, Nat.mod_lt _ hn]
 ·simp [madeCells, vals, hj]
theorem openDisk_any (dv pv : Value) (dur : List Int) (ps : List PW) (w : World) (hv : RdD w dv pv dur ps) (hval : Valid dur.length (dataP ps)) :
  Calls Tryz.prog 43 #[.agg #[dv, pv]] w fun e w' => ∃ B dv' pv', e = .returned (.pointer (some ⟨B, 0, none⟩)) ∧ Plat w' B dv' pv' dur (dataP ps) ∧
   (w.heap.size ≤ B ∧ (∀ b, dv'.ownBlock = some b → w.heap.size ≤ b) ∧ ∀ b, pv'.ownBlock = some b → w.heap.size ≤ b) ∧ Same w w' := by
 have hu91 := Tryz.underlying113
 obtain ⟨j0, hj, hy0, hy1, hy2⟩ := info_parts Tryz.info91
 obtain ⟨i0, hi, hz0, hz1, hz2⟩ := info_parts Tryz.info93
 have hpl : ps.length ≤ 8192 := by have := hval.1.2.2.2; rwa [dataP_length] at this
 have hdl : 512 ≤ dur.length := by have := hval.1.2.1; omega
 have hdm : dur.length ≤ maxLen := hv.dur.1
 obtain ⟨n, hn⟩ : ∃ n : Nat, dur.length = n * 512 := ⟨dur.length / 512, by have := hval.1.1; omega⟩
 have hn1 : n ≤ 1024 := by have := hval.1.2.2.1; omega
 obtain ⟨b0, o0, c1, rfl, hl0, hc0⟩ : ∃ b off c, dv = .slice (some ⟨b, off, none⟩) dur.length c ∧ dur.length ≤ c ∧ ∀ i, i < dur.length → w.cell? ⟨b, off + i, none⟩ = some (.int .u8 (dur.getD i 0)) := by
  rcases hv.dur.2 with ⟨rfl, _⟩ | h
  ·simp at hdl
  ·exact h
 obtain ⟨a2, c2, rfl⟩ := hv.pend.form
 have HP : Hid (RdP w (.slice a2 ps.length c2) ps) := hv.pend
 have HC0 : Hid (∀ i, i < dur.length → w.cell? ⟨b0, o0 + i, none⟩ = some (.int .u8 (dur.getD i 0))) := hc0
 have HV : Hid (Valid dur.length (dataP ps)) := hval
 have HN : Hid (dur.length = n * 512) := hn
 clear hv hval hc0 hn
 go_enter Tryz.func43, Tryz.ntmps43
 go_wp2_with fail
 go_cut [3] (fun v wc => ∃ (B gd gp : Nat), v = .pointer (some ⟨B, 0, none⟩) ∧ Hid (FBox wc B (.slice (some ⟨gd, 0, none⟩) n n) (.slice (some ⟨gp, 0, none⟩) 0 (ps.length + 1))) ∧ Hid (w.heap.size < B ∧ w.heap.size < gd ∧ w.heap.size < gp ∧ gd ≠ gp ∧ gd ≠ B ∧ gp ≠ B) ∧
   Hid (wc.ownsRow 0 113 512 (.slice (some ⟨gd, 0, none⟩) n n) n (vals .u8 (List.replicate (n * 512) 0))) ∧ Hid (wc.ownsRow 0 134 513 (.slice (some ⟨gp, 0, none⟩) 0 (ps.length + 1)) 0 []) ∧
   Hid (FBox wc w.heap.size (.slice (some ⟨b0, o0, none⟩) dur.length c1) (.slice a2 ps.length c2)) ∧ Hid (Same w wc))
 case first =>
  have hwp : IntKind.i64.wrap ((ps.length : Int) + 1) = (ps.length : Int) + 1 := by rw [IntKind.wrap_i64]; omega
  have HB0 := (show Hid (FBox (w.alloc (.cells #[.slice (some ⟨b0, o0, none⟩) dur.length c1, .slice a2 ps.length c2] 27)) w.heap.size (.slice (some ⟨b0, o0, none⟩) dur.length c1) (.slice a2 ps.length c2)) from FBox.new _ _ _ _)
  have hS : (fun w' => w'.cell? ⟨w.heap.size, 0, none⟩ = some (.slice (some ⟨b0, o0, none⟩) dur.length c1) ∧ w'.cell? ⟨w.heap.size, 1, none⟩ = some (.slice a2 ps.length c2)) (w.alloc (.cells #[.slice (some ⟨b0, o0, none⟩) dur.length c1, .slice a2 ps.length c2] 27)).drew := by go_keep
  refine wp_region_V (fun w' => w'.cell? ⟨w.heap.size, 0, none⟩ = some (.slice (some ⟨b0, o0, none⟩) dur.length c1) ∧ w'.cell? ⟨w.heap.size, 1, none⟩ = some (.slice a2 ps.length c2)) 99 11 rfl (by kernel_rfl) ?_
  refine tk 0 7 hS ?_
  refine tk 3 10 hS ?_
  refine tk 4 11 hS ?_
  refine tk 5 12 hS ?_
  refine tk 6 13 hS ?_
  refine wpAnyV_two (i := 1) (j := 7) (by kernel_rfl) rfl rfl (fun K hK => ?_) (fun K hK => ?_)
  ·go_simp
   refine (countSectors_any _ _ _ _ _ _ _ hdm).mono ?_
   rintro e wx ⟨rfl, hwx⟩
   have HGwx := (show Hid (Same (w.alloc (.cells #[.slice (some ⟨b0, o0, none⟩) dur.length c1, .slice a2 ps.length c2] 27)).drew wx) from (by rw [hwx]; exact (Kept.refl _ _).alloc _))
   have HKwx := (show Hid (Same (w.alloc (.cells #[.slice (some ⟨b0, o0, none⟩) dur.length c1, .slice a2 ps.length c2] 27)) wx) from (by rw [hwx]; exact ((Kept.refl (fun _ => False) (w.alloc (.cells #[.slice (some ⟨b0, o0, none⟩) dur.length c1, .slice a2 ps.length c2] 27))).drew).alloc _))
   clear hwx
   obtain ⟨ywx1, ywx2, _, _⟩ := HB0.out.same HKwx.out
   go_wp2_with fail
   have hSwx : (fun w' => w'.cell? ⟨w.heap.size, 0, none⟩ = some (.slice (some ⟨b0, o0, none⟩) dur.length c1) ∧ w'.cell? ⟨w.heap.size, 1, none⟩ = some (.slice a2 ps.length c2)) wx := by go_keep
   refine hK.out _ _ (fun _ => hSwx) ?_
   clear hK K
   try simp only [Act.put, sA, s0, sS]
   refine wpAnyV_two (i := 2) (j := 7) (by kernel_rfl) rfl rfl (fun K hK => ?_) (fun K hK => ?_)
   ·refine step_make (by rfl) (.tmp 8) (.tmp 8) 129 (by rfl) 0 113 j0 _ 512 Tryz.underlying129 hj hy0 hy1 .i64 .i64 _ _ n n (by rfl) (by rfl) (by have := HN.out; omega) (by have := HN.out; omega) (Nat.le_refl _) (by rw [hy2]; omega) (by unfold maxLen; omega) (Nat.zero_le _) ?_
    intro wy howy hgwy hlwy
    have HR86wy := (show Hid (wy.ownsRow 0 113 512 (.slice (some ⟨wx.heap.size, 0, none⟩) n n) n (vals .u8 (List.replicate (n * 512) 0))) from (by rw [made_take rfl (by omega)] at howy; exact howy))
    have HGwy := (show Hid (Same wx wy) from Kept.of_grown hgwy (fun k e => by cases e))
    have HKwy := hid (HKwx.out.trans HGwy.out)
    clear howy hgwy
    obtain ⟨ywy1, ywy2, _, _⟩ := HB0.out.same HKwy.out
    have hSwy : (fun w' => w'.cell? ⟨w.heap.size, 0, none⟩ = some (.slice (some ⟨b0, o0, none⟩) dur.length c1) ∧ w'.cell? ⟨w.heap.size, 1, none⟩ = some (.slice a2 ps.length c2)) wy := by go_keep
    refine hK.out _ _ (fun _ => hSwy) ?_
    clear hK K
    try simp only [Act.put, sA, s0, sS]
    refine wpAnyV_one (i := 7) (by kernel_rfl) rfl (fun K hK => ?_)
    refine step_make (by rfl) (.const (.int .i64 0)) (.tmp 13) 130 (by rfl) 0 134 i0 _ 513 Tryz.underlying130 hi hz0 hz1 .i64 .i64 _ _ 0 (ps.length + 1) (by rfl) (by rfl) (by rfl) (by omega) (Nat.zero_le _) (by rw [hz2]; omega) (by unfold maxLen; omega) (Nat.zero_le _) ?_
    intro wz howz hgwz hlwz
    have HR87wz := (show Hid (wz.ownsRow 0 134 513 (.slice (some ⟨wy.heap.size, 0, none⟩) 0 (ps.length + 1)) 0 []) from (by unfold Hid; simpa using howz))
    have HGwz := (show Hid (Same wy wz) from Kept.of_grown hgwz (fun k e => by cases e))
    have HKwz := hid (HKwy.out.trans HGwz.out)
    clear howz hgwz
    obtain ⟨ywz1, ywz2, _, _⟩ := HB0.out.same HKwz.out
    have hSwz : (fun w' => w'.cell? ⟨w.heap.size, 0, none⟩ = some (.slice (some ⟨b0, o0, none⟩) dur.length c1) ∧ w'.cell? ⟨w.heap.size, 1, none⟩ = some (.slice a2 ps.length c2)) wz := by go_keep
    refine hK.out _ _ (fun _ => hSwz) ?_
    clear hK K
    try simp only [Act.put, sA, s0, sS]
    refine tk 8 15 hSwz ?_
    refine wpAnyV_one (i := 9) (by kernel_rfl) rfl (fun K hK => ?_)
    go_simp
    have zz := (HB0.out.same HKwz.out).lt
    have hSq : (fun w' => w'.cell? ⟨w.heap.size, 0, none⟩ = some (.slice (some ⟨b0, o0, none⟩) dur.length c1) ∧ w'.cell? ⟨w.heap.size, 1, none⟩ = some (.slice a2 ps.length c2)) (wz.alloc (.cells #[.slice (some ⟨wx.heap.size, 0, none⟩) n n, .slice (some ⟨wy.heap.size, 0, none⟩) 0 (ps.length + 1)] 132)) := by go_keep
    refine hK.out _ _ (fun _ => hSq) ?_
    clear hK K
    try simp only [Act.put, sA, s0, sS]
    refine tk 10 3 hSq ?_
    refine wpAnyV_done (by kernel_rfl) ?_
    go_wp2_with fail
    go_meet
    case rel =>
     have k1 := HKwx.out.size
     have k2 := HGwy.out.size
     have k3 := HGwz.out.size
     simp only [World.size_alloc] at k1
     refine ⟨wz.heap.size, wx.heap.size, wy.heap.size, rfl, FBox.new _ _ _ _, ⟨by omega, by omega, by omega, by omega, by omega, by omega⟩, ?_, ?_, HB0.out.same (HKwz.out.alloc _), (((Kept.refl _ _).alloc _).trans HKwz.out).alloc _⟩
     ·exact Kept.owns (R := fun _ => False) (HGwz.out.alloc _) HR86wy.out (fun _ _ => id)
     ·exact Kept.owns (R := fun _ => False) ((Kept.refl _ _).alloc _) HR87wz.out (fun _ _ => id)
   ·refine step_make (by rfl) (.const (.int .i64 0)) (.tmp 13) 130 (by rfl) 0 134 i0 _ 513 Tryz.underlying130 hi hz0 hz1 .i64 .i64 _ _ 0 (ps.length + 1) (by rfl) (by rfl) (by rfl) (by omega) (Nat.zero_le _) (by rw [hz2]; omega) (by unfold maxLen; omega) (Nat.zero_le _) ?_
    intro wy howy hgwy hlwy
    have HR87wy := (show Hid (wy.ownsRow 0 134 513 (.slice (some ⟨wx.heap.size, 0, none⟩) 0 (ps.length + 1)) 0 []) from (by unfold Hid; simpa using howy))
    have HGwy := (show Hid (Same wx wy) from Kept.of_grown hgwy (fun k e => by cases e))
    have HKwy := hid (HKwx.out.trans HGwy.out)
    clear howy hgwy
    obtain ⟨ywy1, ywy2, _, _⟩ := HB0.out.same HKwy.out
    have hSwy : (fun w' => w'.cell? ⟨w.heap.size, 0, none⟩ = some (.slice (some ⟨b0, o0, none⟩) dur.length c1) ∧ w'.cell? ⟨w.heap.size, 1, none⟩ = some (.slice a2 ps.length c2)) wy := by go_keep
    refine hK.out _ _ (fun _ => hSwy) ?_
    clear hK K
    try simp only [Act.put, sA, s0, sS]
    refine wpAnyV_one (i := 2) (by kernel_rfl) rfl (fun K hK => ?_)
    refine step_make (by rfl) (.tmp 8) (.tmp 8) 129 (by rfl) 0 113 j0 _ 512 Tryz.underlying129 hj hy0 hy1 .i64 .i64 _ _ n n (by rfl) (by rfl) (by have := HN.out; omega) (by have := HN.out; omega) (Nat.le_refl _) (by rw [hy2]; omega) (by unfold maxLen; omega) (Nat.zero_le _) ?_
    intro wz howz hgwz hlwz
    have HR86wz := (show Hid (wz.ownsRow 0 113 512 (.slice (some ⟨wy.heap.size, 0, none⟩) n n) n (vals .u8 (List.replicate (n * 512) 0))) from (by rw [made_take rfl (by omega)] at howz; exact howz))
    have HGwz := (show Hid (Same wy wz) from Kept.of_grown hgwz (fun k e => by cases e))
    have HKwz := hid (HKwy.out.trans HGwz.out)
    clear howz hgwz
    obtain ⟨ywz1, ywz2, _, _⟩ := HB0.out.same HKwz.out
    have hSwz : (fun w' => w'.cell? ⟨w.heap.size, 0, none⟩ = some (.slice (some ⟨b0, o0, none⟩) dur.length c1) ∧ w'.cell? ⟨w.heap.size, 1, none⟩ = some (.slice a2 ps.length c2)) wz := by go_keep
    refine hK.out _ _ (fun _ => hSwz) ?_
    clear hK K
    try simp only [Act.put, sA, s0, sS]
    refine tk 8 15 hSwz ?_
    refine wpAnyV_one (i := 9) (by kernel_rfl) rfl (fun K hK => ?_)
    go_simp
    have zz := (HB0.out.same HKwz.out).lt
    have hSq : (fun w' => w'.cell? ⟨w.heap.size, 0, none⟩ = some (.slice (some ⟨b0, o0, none⟩) dur.length c1) ∧ w'.cell? ⟨w.heap.size, 1, none⟩ = some (.slice a2 ps.length c2)) (wz.alloc (.cells #[.slice (some ⟨wy.heap.size, 0, none⟩) n n, .slice (some ⟨wx.heap.size, 0, none⟩) 0 (ps.length + 1)] 132)) := by go_keep
    refine hK.out _ _ (fun _ => hSq) ?_
    clear hK K
    try simp only [Act.put, sA, s0, sS]
    refine tk 10 3 hSq ?_
    refine wpAnyV_done (by kernel_rfl) ?_
    go_wp2_with fail
    go_meet
    case rel =>
     have k1 := HKwx.out.size
     have k2 := HGwy.out.size
     have k3 := HGwz.out.size
     simp only [World.size_alloc] at k1
     refine ⟨wz.heap.size, wy.heap.size, wx.heap.size, rfl, FBox.new _ _ _ _, ⟨by omega, by omega, by omega, by omega, by omega, by omega⟩, ?_, ?_, HB0.out.same (HKwz.out.alloc _), (((Kept.refl _ _).alloc _).trans HKwz.out).alloc _⟩
     ·exact Kept.owns (R := fun _ => False) ((Kept.refl _ _).alloc _) HR86wz.out (fun _ _ => id)
     ·exact Kept.owns (R := fun _ => False) (HGwz.out.alloc _) HR87wy.out (fun _ _ => id)
  ·refine step_make (by rfl) (.const (.int .i64 0)) (.tmp 13) 130 (by rfl) 0 134 i0 _ 513 Tryz.underlying130 hi hz0 hz1 .i64 .i64 _ _ 0 (ps.length + 1) (by rfl) (by rfl) (by rfl) (by omega) (Nat.zero_le _) (by rw [hz2]; omega) (by unfold maxLen; omega) (Nat.zero_le _) ?_
   intro wx howx hgwx hlwx
   have HR87wx := (show Hid (wx.ownsRow 0 134 513 (.slice (some ⟨(w.alloc (.cells #[.slice (some ⟨b0, o0, none⟩) dur.length c1, .slice a2 ps.length c2] 27)).drew.heap.size, 0, none⟩) 0 (ps.length + 1)) 0 []) from (by unfold Hid; simpa using howx))
   have HGwx := (show Hid (Same (w.alloc (.cells #[.slice (some ⟨b0, o0, none⟩) dur.length c1, .slice a2 ps.length c2] 27)).drew wx) from Kept.of_grown hgwx (fun k e => by cases e))
   have HKwx := (show Hid (Same (w.alloc (.cells #[.slice (some ⟨b0, o0, none⟩) dur.length c1, .slice a2 ps.length c2] 27)) wx) from ((Kept.refl (fun _ => False) (w.alloc (.cells #[.slice (some ⟨b0, o0, none⟩) dur.length c1, .slice a2 ps.length c2] 27))).drew).trans HGwx.out)
   clear howx hgwx
   obtain ⟨ywx1, ywx2, _, _⟩ := HB0.out.same HKwx.out
   have hSwx : (fun w' => w'.cell? ⟨w.heap.size, 0, none⟩ = some (.slice (some ⟨b0, o0, none⟩) dur.length c1) ∧ w'.cell? ⟨w.heap.size, 1, none⟩ = some (.slice a2 ps.length c2)) wx := by go_keep
   refine hK.out _ _ (fun _ => hSwx) ?_
   clear hK K
   try simp only [Act.put, sA, s0, sS]
   refine wpAnyV_one (i := 1) (by kernel_rfl) rfl (fun K hK => ?_)
   go_simp
   refine (countSectors_any _ _ _ _ _ _ _ hdm).mono ?_
   rintro e wy ⟨rfl, hwy⟩
   have HGwy := (show Hid (Same wx wy) from (by rw [hwy]; exact (Kept.refl _ _).alloc _))
   have HKwy := (show Hid (Same (w.alloc (.cells #[.slice (some ⟨b0, o0, none⟩) dur.length c1, .slice a2 ps.length c2] 27)) wy) from (by rw [hwy]; exact HKwx.out.alloc _))
   clear hwy
   obtain ⟨ywy1, ywy2, _, _⟩ := HB0.out.same HKwy.out
   go_wp2_with fail
   have hSwy : (fun w' => w'.cell? ⟨w.heap.size, 0, none⟩ = some (.slice (some ⟨b0, o0, none⟩) dur.length c1) ∧ w'.cell? ⟨w.heap.size, 1, none⟩ = some (.slice a2 ps.length c2)) wy := by go_keep
   refine hK.out _ _ (fun _ => hSwy) ?_
   clear hK K
   try simp only [Act.put, sA, s0, sS]
   refine wpAnyV_one (i := 2) (by kernel_rfl) rfl (fun K hK => ?_)
   refine step_make (by rfl) (.tmp 8) (.tmp 8) 129 (by rfl) 0 113 j0 _ 512 Tryz.underlying129 hj hy0 hy1 .i64 .i64 _ _ n n (by rfl) (by rfl) (by have := HN.out; omega) (by have := HN.out; omega) (Nat.le_refl _) (by rw [hy2]; omega) (by unfold maxLen; omega) (Nat.zero_le _) ?_
   intro wz howz hgwz hlwz
   have HR86wz := (show Hid (wz.ownsRow 0 113 512 (.slice (some ⟨wy.heap.size, 0, none⟩) n n) n (vals .u8 (List.replicate (n * 512) 0))) from (by rw [made_take rfl (by omega)] at howz; exact howz))
   have HGwz := (show Hid (Same wy wz) from Kept.of_grown hgwz (fun k e => by cases e))
   have HKwz := hid (HKwy.out.trans HGwz.out)
   clear howz hgwz
   obtain ⟨ywz1, ywz2, _, _⟩ := HB0.out.same HKwz.out
   have hSwz : (fun w' => w'.cell? ⟨w.heap.size, 0, none⟩ = some (.slice (some ⟨b0, o0, none⟩) dur.length c1) ∧ w'.cell? ⟨w.heap.size, 1, none⟩ = some (.slice a2 ps.length c2)) wz := by go_keep
   refine hK.out _ _ (fun _ => hSwz) ?_
   clear hK K
   try simp only [Act.put, sA, s0, sS]
   refine tk 8 15 hSwz ?_
   refine wpAnyV_one (i := 9) (by kernel_rfl) rfl (fun K hK => ?_)
   go_simp
   have zz := (HB0.out.same HKwz.out).lt
   have hSq : (fun w' => w'.cell? ⟨w.heap.size, 0, none⟩ = some (.slice (some ⟨b0, o0, none⟩) dur.length c1) ∧ w'.cell? ⟨w.heap.size, 1, none⟩ = some (.slice a2 ps.length c2)) (wz.alloc (.cells #[.slice (some ⟨wy.heap.size, 0, none⟩) n n, .slice (some ⟨(w.heap.size + 1), 0, none⟩) 0 (ps.length + 1)] 132)) := by go_keep
   refine hK.out _ _ (fun _ => hSq) ?_
   clear hK K
   try simp only [Act.put, sA, s0, sS]
   refine tk 10 3 hSq ?_
   refine wpAnyV_done (by kernel_rfl) ?_
   go_wp2_with fail
   go_meet
   case rel =>
    have k1 := HKwx.out.size
    have k2 := HGwy.out.size
    have k3 := HGwz.out.size
    simp only [World.size_alloc] at k1
    have k0 : w.heap.size + 1 < wx.heap.size := by simpa using hlwx
    refine ⟨wz.heap.size, wy.heap.size, (w.heap.size + 1), rfl, FBox.new _ _ _ _, ⟨by omega, by omega, by omega, by omega, by omega, by omega⟩, ?_, ?_, HB0.out.same (HKwz.out.alloc _), (((Kept.refl _ _).alloc _).trans HKwz.out).alloc _⟩
    ·exact Kept.owns (R := fun _ => False) ((Kept.refl _ _).alloc _) HR86wz.out (fun _ _ => id)
    ·exact Kept.owns (R := fun _ => False) ((HGwy.out.trans HGwz.out).alloc _) (by simpa using HR87wx.out) (fun _ _ => id)
 case rest =>
  obtain ⟨B, gd, gp, rfl, HX, HD, HRD, HRP, HB0, HK⟩ := hcut
  obtain ⟨d1, d2, d3, d4, d5, d6⟩ := HD.out
  obtain ⟨x1, x2, x3, x4⟩ := HX.out
  go_wp2
  clear x1 x2 x3 x4
  go_loopw [22] (fun i wr => ∃ (k : Nat), k ≤ n ∧ i = .int .i64 k ∧ Hid (FBox wr B (.slice (some ⟨gd, 0, none⟩) n n) (.slice (some ⟨gp, 0, none⟩) 0 (ps.length + 1))) ∧ Hid (FBox wr w.heap.size (.slice (some ⟨b0, o0, none⟩) dur.length c1) (.slice a2 ps.length c2)) ∧
    Hid (wr.ownsRow 0 113 512 (.slice (some ⟨gd, 0, none⟩) n n) n (vals .u8 (fillUp dur (k * 512)))) ∧ Hid (wr.ownsRow 0 134 513 (.slice (some ⟨gp, 0, none⟩) 0 (ps.length + 1)) 0 []) ∧ Hid (Same w wr)) (fun i _ => n - (intOf i).toNat)
  case atStart => exact ⟨0, Nat.zero_le _, rfl, HX, HB0, by rw [Nat.zero_mul, fillUp_zero, HN.out]; exact HRD, HRP, HK⟩
  case round =>
   obtain ⟨k, hk, rfl, HXr, HB0r, HRDr, HRPr, HKr⟩ := hrel
   by_cases hlt : k < n
   ·obtain ⟨x1, x2, x3, x4⟩ := HXr.out
    obtain ⟨u1, u2, _, _⟩ := HB0r.out
    have hnn := HN.out
    have hb0w : b0 < w.heap.size := World.block_lt_of_cell? w _ (HC0.out 0 (by omega))
    have hcl : (vals .u8 ((dur.drop (k * 512)).take 512)).length = 512 := by rw [vals_length, List.length_take, List.length_drop]; omega
    have RG : Hid (wr.drew.rangeAt b0 (o0 + k * 512) (vals .u8 ((dur.drop (k * 512)).take 512))) := fun j v hjv => by
     have hj : j < 512 := by have := (List.getElem?_eq_some_iff.1 hjv).1; omega
     have h1 := HKr.out.cellOf (HC0.out (k * 512 + j) (by omega)) id
     rw [← Nat.add_assoc] at h1
     rw [vals_at _ _ _ (by rw [← vals_length .u8]; omega)] at hjv
     rw [← hjv]
     show wr.cell? _ = _
     rw [h1]
     simp [List.getD, hj]
    have HTH : Hid (wr.drew.there gd (k * 512) (vals .u8 ((dur.drop (k * 512)).take 512)).toArray.size) := by
     rw [List.size_toArray, hcl]
     exact owns_there (HRDr.out.drew) (k * 512) 512 (by rw [vals_length, fillUp_length _ _ (by omega)]; omega)
    have hi91 : (Tryz.prog.info? 113).map (·.size) = some (vals .u8 ((dur.drop (k * 512)).take 512)).length := by rw [hcl, hj]; simp [hy1]
    have HIN : Hid ((Tryz.prog.info? 113).map (·.size) = some (vals .u8 ((dur.drop (k * 512)).take 512)).toArray.size) := by rw [List.size_toArray]; exact hi91
    have e1 : ((k : Int) * 512).toNat = k * 512 := by omega
    have e2 : (((k : Int) + 1) * 512).toNat = k * 512 + 512 := by omega
    have g0 : (0 : Int) ≤ (k : Int) := by omega
    have g1 : ((k : Int) + 1) * 512 ≤ (c1 : Int) := by omega
    have g2 : (0 : Int) ≤ ((k : Int) + 1) * 512 := by omega
    have g3 : (k : Int) * 512 ≤ ((k : Int) + 1) * 512 := by omega
    have g4 : (0 : Int) ≤ (k : Int) * 512 := by omega
    have g5 : IntKind.i64.wrap ((k : Int) * 512) = (k : Int) * 512 := by rw [IntKind.wrap_i64]; omega
    have g6 : IntKind.i64.wrap ((k : Int) + 1) = (k : Int) + 1 := by rw [IntKind.wrap_i64]; omega
    have g7 : IntKind.i64.wrap (((k : Int) + 1) * 512) = ((k : Int) + 1) * 512 := by rw [IntKind.wrap_i64]; omega
    have g8 : (k : Int) < (n : Int) := by omega
    have g9 : ¬ c1 = k * 512 := by omega
    have har := fun (wx : World) (ad : Option Addr) (c : Nat) => run_arrayAt wx ad 512 c (by omega)
    have g10 : (k : Int) * 512 ≤ (k : Int) * 512 + 512 := by omega
    have HHI : Hid ((Tryz.prog.info? 113).map (·.size) = some (vals .u8 ((dur.drop (k * 512)).take 512)).length) := hi91
    clear hnn
    go_wp2_with fail
    have hS : (fun w' => w'.cell? ⟨B, 0, none⟩ = some (.slice (some ⟨gd, 0, none⟩) n n) ∧ w'.cell? ⟨w.heap.size, 0, none⟩ = some (.slice (some ⟨b0, o0, none⟩) dur.length c1) ∧ w'.rangeAt b0 (o0 + k * 512) (vals .u8 ((dur.drop (k * 512)).take 512))) wr.drew := by exact ⟨x1, u1, RG.out⟩
    refine wp_region_V (fun w' => w'.cell? ⟨B, 0, none⟩ = some (.slice (some ⟨gd, 0, none⟩) n n) ∧ w'.cell? ⟨w.heap.size, 0, none⟩ = some (.slice (some ⟨b0, o0, none⟩) dur.length c1) ∧ w'.rangeAt b0 (o0 + k * 512) (vals .u8 ((dur.drop (k * 512)).take 512))) 16 17 rfl (by kernel_rfl) ?_
    refine tk 0 25 hS ?_
    refine tk 1 26 hS ?_
    refine tk 2 27 hS ?_
    refine tk 3 28 hS ?_
    refine tk 4 29 hS ?_
    refine tk 5 30 hS ?_
    refine tk 6 31 hS ?_
    refine tk 7 32 hS ?_
    refine tk 8 33 hS ?_
    refine tk 9 34 hS ?_
    refine tk 10 35 hS ?_
    refine tk 11 36 hS ?_
    refine tk 12 37 hS ?_
    refine tk 13 38 hS ?_
    refine wpAnyV_take (i := 14) (v := .agg (vals .u8 ((dur.drop (k * 512)).take 512)).toArray) (some 39) rfl rfl (by kernel_rfl) (by kernel_rfl) (by kernel_rfl) (by kernel_rfl) (fun _ _ _ h => h) (yieldsIf_load_mid (by rfl) _ _ rfl _ _ rfl _ _ (fun w hSw => by (try dsimp (config := { zetaDelta := true }) only at hSw); exact hSw.2.2) hu91 rfl hi91) hS ?_
    try simp only [Act.put, sA, s0, sS]
    refine tk 15 40 hS ?_
    refine wpAnyV_one (i := 16) (by kernel_rfl) rfl (fun K hK => ?_)
    rw [if_pos (by rfl)]
    refine wp_store_mid _ _ _ rfl gd (k * 512) (vals .u8 ((dur.drop (k * 512)).take 512)).toArray rfl rfl ?hth1 ?hin1 (all_oneCell_toArray (fun v hv => vals_one v hv)) ?_
    case hth1 => exact HTH.out
    case hin1 => exact HIN.out
    simp only [List.getElem_toArray, List.getElem_cons_succ, List.getElem_cons_zero, List.toList_toArray]
    refine hK.out _ _ (fun h => absurd rfl h) ?_
    clear hK K
    refine wpAnyV_done (by kernel_rfl) ?_
    try simp only [Act.put, sA, s0, sS]
    obtain ⟨q1, q2⟩ := owns_setCellsP (vals .u8 ((dur.drop (k * 512)).take 512)) (k * 512) wr.drew _ HRDr.out.drew (by rw [hcl, vals_length, fillUp_length _ _ (by have := HN.out; omega)]; have := HN.out; omega)
    rw [lay_fill dur (k * 512) (by have := HN.out; omega)] at q1
    have hkk : Kept (fun b => b = gd) wr (wr.drew.setCells gd (k * 512) (vals .u8 ((dur.drop (k * 512)).take 512))) := (Kept.refl _ _).drew.trans (Kept.of_grown q2 (fun k e => (Option.some.inj e).symm))
    have HX2 := (show Hid (FBox _ B (.slice (some ⟨gd, 0, none⟩) n n) (.slice (some ⟨gp, 0, none⟩) 0 (ps.length + 1))) from HXr.out.kept hkk (by show ¬ B = gd; omega))
    have HB2 := (show Hid (FBox _ w.heap.size (.slice (some ⟨b0, o0, none⟩) dur.length c1) (.slice a2 ps.length c2)) from HB0r.out.kept hkk (by show ¬ w.heap.size = gd; omega))
    have HR2 := (show Hid (World.ownsRow _ 0 113 512 (.slice (some ⟨gd, 0, none⟩) n n) n (vals .u8 (fillUp dur (k * 512 + 512)))) from q1)
    have HP2 := (show Hid (World.ownsRow _ 0 134 513 (.slice (some ⟨gp, 0, none⟩) 0 (ps.length + 1)) 0 []) from hkk.owns HRPr.out (fun b hb => by have : b = gp := (Option.some.inj hb).symm; show ¬ b = gd; omega))
    have HK2 := (show Hid (Same w _) from HKr.out.next hkk (fun b hb e => by have e' : b = gd := e; omega))
    generalize wr.drew.setCells gd (k * 512) (vals .u8 ((dur.drop (k * 512)).take 512)) = wn at *
    clear q1 q2 hkk hS x1 x2 x3 x4 u1 u2
    go_wp2
    go_roundw
    case rel => exact ⟨k + 1, by omega, by go_num, HX2, HB2, by rw [show (k + 1) * 512 = k * 512 + 512 from by omega]; exact HR2, HP2, HK2⟩
    case measure => simp [intOf]; omega
   ·obtain rfl : k = n := by omega
    have HRF := (show Hid (wr.ownsRow 0 113 512 (.slice (some ⟨gd, 0, none⟩) k k) k (vals .u8 dur)) from (by have h := HRDr.out; rw [← HN.out, fillUp_all] at h; exact h))
    obtain ⟨x1, x2, x3, x4⟩ := HXr.out
    obtain ⟨u1, u2, _, _⟩ := HB0r.out
    obtain ⟨wo, rfl⟩ : ∃ wo : World, wo = wr := ⟨_, rfl⟩
    go_wp2
    clear x1 x2 x3 x4 u1 u2
    obtain ⟨nn, rfl⟩ : ∃ nn, nn = k := ⟨_, rfl⟩
    go_loopw [45] (fun i wr => ∃ (k gq cq : Nat), k ≤ ps.length ∧ i = .int .i64 k ∧ Hid (w.heap.size < gq ∧ gq ≠ B ∧ gq ≠ gd ∧ gq < wr.heap.size) ∧ Hid (FBox wr B (.slice (some ⟨gd, 0, none⟩) nn nn) (.slice (some ⟨gq, 0, none⟩) k cq)) ∧
      Hid (wr.ownsRow 0 113 512 (.slice (some ⟨gd, 0, none⟩) nn nn) nn (vals .u8 dur)) ∧ Hid (wr.ownsRow 0 134 513 (.slice (some ⟨gq, 0, none⟩) k cq) k (penCells (dataP (ps.take k)))) ∧ Hid (Same w wr)) (fun i _ => ps.length - (intOf i).toNat)
    case atStart => exact ⟨0, gp, ps.length + 1, Nat.zero_le _, rfl, ⟨d3, d6, fun e => d4 e.symm, (World.ownsRow.lt HRPr.out gp rfl).2⟩, HXr, HRF, HRPr, HKr⟩
    case round =>
     obtain ⟨k, gq, cq, hk, rfl, HGQ, HX, HRD2, HRP2, HKr⟩ := hrel
     by_cases hlt : k < ps.length
     ·obtain ⟨b, off, rfl, hc⟩ : ∃ b off, a2 = some ⟨b, off, none⟩ ∧ ∀ i (h : i < ps.length), w.cell? ⟨b, off + i * 2, none⟩ = some (.int .i64 ps[i].sec) ∧ w.cell? ⟨b, off + i * 2 + 1, none⟩ = some ps[i].v := by
       rcases HP.out.row with ⟨rfl, _⟩ | ⟨b, off, c, e, hc⟩
       ·simp at hlt
       ·simp only [Value.slice.injEq, true_and] at e
        obtain ⟨rfl, rfl⟩ := e
        exact ⟨b, off, rfl, hc⟩
      obtain ⟨v1, v2, v3⟩ := HV.out.2 (ps[k].sec, ps[k].bs) (List.mem_map.2 ⟨ps[k], List.getElem_mem hlt, rfl⟩)
      simp only at v1 v2 v3
      obtain ⟨b3, o3, c3, ev, hsrc⟩ : ∃ b3 o3 c3, ps[k].v = .slice (some ⟨b3, o3, none⟩) ps[k].bs.length c3 ∧ ∀ i, i < ps[k].bs.length → w.cell? ⟨b3, o3 + i, none⟩ = some (.int .u8 (ps[k].bs.getD i 0)) := by
       rcases (HP.out.data _ (List.getElem_mem hlt)).2 with ⟨h, _⟩ | ⟨b3, o3, c3, h, _, hc⟩
       ·simp [h] at v3
       ·exact ⟨b3, o3, c3, h, hc⟩
      have q1 := HKr.out.cellOf (hc k hlt).1 id
      have q2 := HKr.out.cellOf (hc k hlt).2 id
      rw [ev] at q2
      have HB3 : Hid (b3 < w.heap.size) := World.block_lt_of_cell? w _ (hsrc 0 (by omega))
      have hcl : (vals .u8 ps[k].bs).length = 512 := by rw [vals_length]; exact v3
      have RG0 := (show Hid ((wr.alloc (.cells #[.int .i64 ps[k].sec, .slice (some ⟨b3, o3, none⟩) ps[k].bs.length c3] 128)).rangeAt b3 o3 (vals .u8 ps[k].bs)) from fun j v hj => by
       have hjl : j < ps[k].bs.length := by have := (List.getElem?_eq_some_iff.1 hj).1; rwa [vals_length] at this
       rw [vals_at _ _ _ hjl] at hj
       rw [← hj]
       exact (HKr.out.alloc _).cellOf (hsrc j hjl) id)
      have RG := (show Hid ((wr.alloc (.cells #[.int .i64 ps[k].sec, .slice (some ⟨b3, o3, none⟩) ps[k].bs.length c3] 128)).drew.rangeAt b3 o3 (vals .u8 ps[k].bs)) from RG0.out)
      have hi91 : (Tryz.prog.info? 113).map (·.size) = some (vals .u8 ps[k].bs).length := by rw [hcl, hj]; simp [hy1]
      have har := fun (wx : World) (ad : Option Addr) (c : Nat) => run_arrayAt wx ad ps[k].bs.length c (by omega)
      have hzc : (Value.agg zeros93).cells.size = 513 := by kernel_rfl
      have HOB : Hid (∀ wx, Same (wr.alloc (.cells #[.int .i64 ps[k].sec, .slice (some ⟨b3, o3, none⟩) ps[k].bs.length c3] 128)) wx → wx.ownsRow 0 134 513 (.slice (some ⟨gq, 0, none⟩) k cq) k (penCells (dataP (ps.take k)))) := fun wx hx => (((Kept.refl (fun _ => False) wr).alloc _).trans hx).owns HRP2.out (fun _ _ => id)
      have HNB : Hid (∀ wx, wx = ((wr.alloc (.cells #[.int .i64 ps[k].sec, .slice (some ⟨b3, o3, none⟩) ps[k].bs.length c3] 128)).drew.alloc (.cells (Value.int .i64 ps[k].sec :: vals .u8 ps[k].bs).toArray 134)) → ∀ j u, (Value.int .i64 ps[k].sec :: vals .u8 ps[k].bs)[j]? = some u → wx.cell? ((⟨wr.heap.size + 1, 0, none⟩ : Addr).add j) = some u) := fun wx hx j u hj => by
       have h := World.news_of_block (w := wx) (B := wr.heap.size + 1) (cs := (Value.int .i64 ps[k].sec :: vals .u8 ps[k].bs).toArray) (t := 134) (fr := (0, 0)) (by rw [hx]; have := heap_alloc_new (wr.alloc (.cells #[.int .i64 ps[k].sec, .slice (some ⟨b3, o3, none⟩) ps[k].bs.length c3] 128)).drew (.cells (Value.int .i64 ps[k].sec :: vals .u8 ps[k].bs).toArray 134); simpa using this)
       exact h j u (by simpa using hj)
      have HONE : Hid (∀ u ∈ (Value.int .i64 ps[k].sec :: vals .u8 ps[k].bs), u.oneCell' = true) := fun u hu => by
       rcases List.mem_cons.1 hu with rfl | hu
       ·rfl
       ·exact vals_one u hu
      have HXa := (show Hid (FBox (wr.alloc (.cells #[.int .i64 ps[k].sec, .slice (some ⟨b3, o3, none⟩) ps[k].bs.length c3] 128)) B (.slice (some ⟨gd, 0, none⟩) nn nn) (.slice (some ⟨gq, 0, none⟩) k cq)) from HX.out.next _)
      have HBa := (show Hid (FBox (wr.alloc (.cells #[.int .i64 ps[k].sec, .slice (some ⟨b3, o3, none⟩) ps[k].bs.length c3] 128)) wr.heap.size (.int .i64 ps[k].sec) (.slice (some ⟨b3, o3, none⟩) ps[k].bs.length c3)) from FBox.new _ _ _ _)
      have HV3 : Hid (ps[k].bs.length = 512) := v3
      obtain ⟨t1, t2, t3, t4⟩ := HGQ.out
      have tB := HX.out.lt
      have hki : (k : Int) < (ps.length : Int) := by omega
      have hk0 : (0 : Int) ≤ (k : Int) := by omega
      obtain ⟨_, z1, _, z4⟩ := HXa.out
      obtain ⟨z2, z3, _, _⟩ := HBa.out
      clear ev hc hsrc v1 v2 v3
      go_wp2_with fail
      have hS : (fun w' => w'.cell? ⟨B, 1, none⟩ = some (.slice (some ⟨gq, 0, none⟩) k cq) ∧ w'.cell? ⟨wr.heap.size, 0, none⟩ = some (.int .i64 ps[k].sec) ∧ w'.cell? ⟨wr.heap.size, 1, none⟩ = some (.slice (some ⟨b3, o3, none⟩) ps[k].bs.length c3) ∧ w'.frozen? ⟨B, 1, none⟩ = false ∧ w'.rangeAt b3 o3 (vals .u8 ps[k].bs)) (wr.alloc (.cells #[.int .i64 ps[k].sec, .slice (some ⟨b3, o3, none⟩) ps[k].bs.length c3] 128)).drew := by exact ⟨z1, z2, z3, z4, RG.out⟩
      refine wp_region_V (fun w' => w'.cell? ⟨B, 1, none⟩ = some (.slice (some ⟨gq, 0, none⟩) k cq) ∧ w'.cell? ⟨wr.heap.size, 0, none⟩ = some (.int .i64 ps[k].sec) ∧ w'.cell? ⟨wr.heap.size, 1, none⟩ = some (.slice (some ⟨b3, o3, none⟩) ps[k].bs.length c3) ∧ w'.frozen? ⟨B, 1, none⟩ = false ∧ w'.rangeAt b3 o3 (vals .u8 ps[k].bs)) 16 17 rfl (by kernel_rfl) ?_
      refine tk 0 49 hS ?_
      refine tk 1 50 hS ?_
      refine tk 2 51 hS ?_
      refine tk 3 52 hS ?_
      refine tk 4 53 hS ?_
      refine tk 5 54 hS ?_
      refine tk 6 55 hS ?_
      refine tk 7 56 hS ?_
      refine tk 8 57 hS ?_
      refine tk 9 58 hS ?_
      refine wpAnyV_take (i := 10) (v := .agg (vals .u8 ps[k].bs).toArray) (some 59) rfl rfl (by kernel_rfl) (by kernel_rfl) (by kernel_rfl) (by kernel_rfl) (fun _ _ _ h => h) (yieldsIf_load_mid (by rfl) _ _ rfl _ _ rfl _ _ (fun w hSw => by (try dsimp (config := { zetaDelta := true }) only at hSw); exact hSw.2.2.2.2) hu91 rfl hi91) hS ?_
      try simp only [Act.put, sA, s0, sS]
      refine wpAnyV_take (i := 11) (v := .agg (Value.int .i64 ps[k].sec :: vals .u8 ps[k].bs).toArray) (some 60) rfl rfl (by kernel_rfl) (by kernel_rfl) (by kernel_rfl) (by kernel_rfl) (fun _ _ _ h => h) (yields_build93 (by rfl) _ _ rfl ps[k].sec (vals .u8 ps[k].bs) (by rfl) (by rfl) hcl) hS ?_
      try simp only [Act.put, sA, s0, sS]
      refine wpAnyV_one (i := 12) (by kernel_rfl) rfl (fun K hK => ?_)
      refine step_row93 (by rfl) (.tmp 60) (by rfl) (Value.int .i64 ps[k].sec :: vals .u8 ps[k].bs) (by rfl) (by rw [List.length_cons, hcl]) (wr.heap.size + 1) (by simp) ?_
      simp only [List.getElem_toArray, List.getElem_cons_succ, List.getElem_cons_zero]
      obtain ⟨wb, hwb⟩ : ∃ wb, wb = ((wr.alloc (.cells #[.int .i64 ps[k].sec, .slice (some ⟨b3, o3, none⟩) ps[k].bs.length c3] 128)).drew.alloc (.cells (Value.int .i64 ps[k].sec :: vals .u8 ps[k].bs).toArray 134)) := ⟨_, rfl⟩
      have HWB := (show Hid (wb = ((wr.alloc (.cells #[.int .i64 ps[k].sec, .slice (some ⟨b3, o3, none⟩) ps[k].bs.length c3] 128)).drew.alloc (.cells (Value.int .i64 ps[k].sec :: vals .u8 ps[k].bs).toArray 134))) from hwb)
      rw [← hwb]
      clear hwb
      have HKB := (show Hid (Same (wr.alloc (.cells #[.int .i64 ps[k].sec, .slice (some ⟨b3, o3, none⟩) ps[k].bs.length c3] 128)) wb) from (by rw [HWB.out]; exact (Kept.refl _ _).drew.alloc _))
      have hbs : wb.heap.size = wr.heap.size + 1 + 1 := by rw [HWB.out]; simp
      obtain ⟨_, y1, _, y4⟩ := HXa.out.same HKB.out
      obtain ⟨y2, y3, _, _⟩ := HBa.out.same HKB.out
      have RGB := (show Hid (wb.rangeAt b3 o3 (vals .u8 ps[k].bs)) from fun j v hj => HKB.out.cellOf (RG0.out j v hj) id)
      have hS2 : (fun w' => w'.cell? ⟨B, 1, none⟩ = some (.slice (some ⟨gq, 0, none⟩) k cq) ∧ w'.cell? ⟨wr.heap.size, 0, none⟩ = some (.int .i64 ps[k].sec) ∧ w'.cell? ⟨wr.heap.size, 1, none⟩ = some (.slice (some ⟨b3, o3, none⟩) ps[k].bs.length c3) ∧ w'.frozen? ⟨B, 1, none⟩ = false ∧ w'.rangeAt b3 o3 (vals .u8 ps[k].bs)) wb := by exact ⟨y1, y2, y3, y4, RGB.out⟩
      refine hK.out _ _ (fun _ => hS2) ?_
      clear hK K
      try simp only [Act.put, sA, s0, sS]
      refine wpAnyV_one (i := 13) (by kernel_rfl) rfl (fun K hK => ?_)
      refine step_append_lies _ (by rfl) (.tmp 53) (.tmp 61) 130 (by rfl) 0 134 i0 _ 513 520 Tryz.underlying130 hi hz0 hz1 hz2 hzc (by omega) (.slice (some ⟨gq, 0, none⟩) k cq) k (penCells (dataP (ps.take k))) (by rfl) (by exact HOB.out wb HKB.out) ⟨wr.heap.size + 1, 0, none⟩ 1 1 (Value.int .i64 ps[k].sec :: vals .u8 ps[k].bs) (by rfl) (by rw [List.length_cons, hcl]) (by exact HNB.out wb HWB.out) (by exact HONE.out) (by omega) (by unfold maxLen; omega) (by omega) (Nat.zero_le _) (wr.heap.size + 1 + 1) hbs ?_
      intro g5 cap5 w3 hown5 hgrow5 hat5 hlt5
      simp only [List.getElem_toArray, List.getElem_cons_succ, List.getElem_cons_zero]
      have hk5 : Kept (fun b => b = gq) wb w3 := Kept.of_grown hgrow5 (fun k e => (Option.some.inj e).symm)
      have HK5 := (show Hid (Kept (fun b => b = gq) wb w3) from hk5)
      have HOWN5 := (show Hid (w3.ownsRow 0 134 513 (.slice (some ⟨g5, 0, none⟩) (k + 1) cap5) (k + 1) (penCells (dataP (ps.take k)) ++ (Value.int .i64 ps[k].sec :: vals .u8 ps[k].bs))) from hown5)
      have HAT5 : Hid (g5 = gq ∨ g5 = wr.heap.size + 1 + 1) := hat5.imp (fun e => (Option.some.inj e).symm) id
      obtain ⟨_, y11, _, y14⟩ := (HXa.out.same HKB.out).kept hk5 (by show ¬ B = gq; omega)
      obtain ⟨y12, y13, _, _⟩ := (HBa.out.same HKB.out).kept hk5 (by show ¬ wr.heap.size = gq; omega)
      have RG5 := (show Hid (w3.rangeAt b3 o3 (vals .u8 ps[k].bs)) from fun j v hj => hk5.cellOf (RGB.out j v hj) (by show ¬ b3 = gq; have := HB3.out; omega))
      clear hown5 hgrow5 hat5 hk5
      have hS4 : (fun w' => w'.cell? ⟨B, 1, none⟩ = some (.slice (some ⟨gq, 0, none⟩) k cq) ∧ w'.cell? ⟨wr.heap.size, 0, none⟩ = some (.int .i64 ps[k].sec) ∧ w'.cell? ⟨wr.heap.size, 1, none⟩ = some (.slice (some ⟨b3, o3, none⟩) ps[k].bs.length c3) ∧ w'.frozen? ⟨B, 1, none⟩ = false ∧ w'.rangeAt b3 o3 (vals .u8 ps[k].bs)) w3 := by exact ⟨y11, y12, y13, y14, RG5.out⟩
      refine hK.out _ _ (fun _ => hS4) ?_
      clear hK K
      try simp only [Act.put, sA, s0, sS]
      refine wpAnyV_one (i := 14) (by kernel_rfl) rfl (fun K hK => ?_)
      go_simp
      refine hK.out _ _ (fun _ => hS4) ?_
      clear hK K
      try simp only [Act.put, sA, s0, sS]
      refine wpAnyV_one (i := 15) (by kernel_rfl) rfl (fun K hK => ?_)
      go_simp
      refine hK.out _ _ (fun _ => hS4) ?_
      clear hK K
      try simp only [Act.put, sA, s0, sS]
      refine wpAnyV_one (i := 16) (by kernel_rfl) rfl (fun K hK => ?_)
      go_simp
      refine hK.out _ _ (fun h => absurd rfl h) ?_
      clear hK K
      refine wpAnyV_done (by kernel_rfl) ?_
      try simp only [Act.put, sA, s0, sS]
      have hkb : Same wr wb := ((Kept.refl _ _).alloc _).trans HKB.out
      have hk3 : Kept (fun b => b = gq ∨ b = B) wr (w3.setCell ⟨B, 1, none⟩ (.slice (some ⟨g5, 0, none⟩) (k + 1) cap5)) :=
       Kept.setCell ((hkb.mono (fun _ _ h => h.elim)).trans (HK5.out.mono (fun _ _ h => .inl h))) (p := ⟨B, 1, none⟩) (.inr (.inr rfl)) _
      have HX3 := (show Hid (FBox (w3.setCell ⟨B, 1, none⟩ (.slice (some ⟨g5, 0, none⟩) (k + 1) cap5)) B (.slice (some ⟨gd, 0, none⟩) nn nn) (.slice (some ⟨g5, 0, none⟩) (k + 1) cap5)) from ((HXa.out.same HKB.out).kept HK5.out (by show ¬ B = gq; omega)).set1 _)
      have hg5 : w.heap.size < g5 ∧ g5 ≠ B ∧ g5 ≠ gd ∧ g5 < w3.heap.size := by
       have h1 := (World.ownsRow.lt HOWN5.out g5 rfl).2
       have h2 := (World.ownsRow.lt HRD2.out gd rfl).2
       have h3 := HKr.out.size
       rcases HAT5.out with h | h
       ·exact ⟨by omega, by omega, by omega, h1⟩
       ·exact ⟨by omega, by omega, by omega, h1⟩
      have HG3 := (show Hid (w.heap.size < g5 ∧ g5 ≠ B ∧ g5 ≠ gd ∧ g5 < (w3.setCell ⟨B, 1, none⟩ (.slice (some ⟨g5, 0, none⟩) (k + 1) cap5)).heap.size) from ⟨hg5.1, hg5.2.1, hg5.2.2.1, by simpa [World.setCell] using hg5.2.2.2⟩)
      have HD3 := (show Hid (World.ownsRow (w3.setCell ⟨B, 1, none⟩ (.slice (some ⟨g5, 0, none⟩) (k + 1) cap5)) 0 113 512 (.slice (some ⟨gd, 0, none⟩) nn nn) nn (vals .u8 dur)) from hk3.owns HRD2.out (fun b hb => by have e : b = gd := (Option.some.inj hb).symm; show ¬ (b = gq ∨ b = B); omega))
      have HP3 := (show Hid (World.ownsRow (w3.setCell ⟨B, 1, none⟩ (.slice (some ⟨g5, 0, none⟩) (k + 1) cap5)) 0 134 513 (.slice (some ⟨g5, 0, none⟩) (k + 1) cap5) (k + 1) (penCells (dataP (ps.take (k + 1))))) from (by
       have e : penCells (dataP (ps.take (k + 1))) = penCells (dataP (ps.take k)) ++ (Value.int .i64 ps[k].sec :: vals .u8 ps[k].bs) := by
        rw [List.take_succ_eq_append_getElem hlt]
        unfold dataP
        rw [List.map_append, penCells_append]
        simp [penCells]
       rw [e]
       exact Kept.owns (R := fun b => b = B) (Kept.setCell (Kept.refl (fun b => b = B) w3) (p := ⟨B, 1, none⟩) (.inr rfl) _) HOWN5.out (fun b hb => by have e : b = g5 := (Option.some.inj hb).symm; show ¬ b = B; omega)))
      have HK3 := (show Hid (Same w (w3.setCell ⟨B, 1, none⟩ (.slice (some ⟨g5, 0, none⟩) (k + 1) cap5))) from HKr.out.next hk3 (fun b hb e => by rcases e with e | e <;> omega))
      clear hkb hk3 hg5 hS hS2 hS4 z1 z2 z3 z4 y1 y2 y3 y4 y11 y12 y13 y14 q1 q2
      go_wp2
      go_roundw
      case rel => exact ⟨k + 1, g5, cap5, by omega, by go_num, HG3, HX3, HD3, HP3, HK3⟩
      case measure => simp [intOf]; omega
     ·obtain rfl : k = ps.length := by omega
      go_wp2
      go_ret
      obtain ⟨t1, t2, t3, t4⟩ := HGQ.out
      have hnn := HN.out
      refine ⟨B, _, _, rfl, ⟨HX.out, ?_, ?_, ?_, ?_, ?_⟩, ⟨by omega, fun b hb => ?_, fun b hb => ?_⟩, HKr.out⟩
      ·have e : dur.length / 512 = nn := by omega
       rw [e]; exact HRD2.out
      ·have h := HRP2.out
       rw [List.take_length] at h
       rw [dataP_length]; exact h
      ·simp [Value.ownBlock]; omega
      ·simp [Value.ownBlock]; omega
      ·intro b hb hb'
       simp [Value.ownBlock] at hb hb'
       omega
      ·simp [Value.ownBlock] at hb; omega
      ·simp [Value.ownBlock] at hb; omega
theorem zero93 : ∀ w, (zeroValue 134).run Tryz.prog w = .ok (.agg zeros93) w := by
 obtain ⟨i0, hi, hz0, hz1, hz2⟩ := info_parts Tryz.info93
 intro w
 simp [zeroValue, typeInfo, hi, hz0]
theorem sync_any (B : Nat) (dv pv : Value) (dur : List Int) (ds : List (Int × List Int)) (w : World) (hp : Plat w B dv pv dur ds) (hval : Valid dur.length ds) :
  Calls Tryz.prog 44 #[.pointer (some ⟨B, 0, none⟩)] w fun e w' => e = .returned (.tuple #[]) ∧ Plat w' B dv (.slice none 0 0) (settleN (fun _ => true) dur ds ds.length) [] ∧ Kept (fun b => b = B ∨ dv.ownBlock = some b) w w' := by
 obtain ⟨gd, cd, rfl⟩ : ∃ gd cd, dv = .slice (some ⟨gd, 0, none⟩) (dur.length / 512) cd := by
  rcases hp.dur.2 with ⟨_, h⟩ | ⟨g, cap, _, h, _⟩
  ·have := hval.1.2.1; omega
  ·exact ⟨g, cap, h⟩
 obtain ⟨aq, cq, rfl⟩ : ∃ aq cq, pv = .slice aq ds.length cq := by
  rcases hp.pend.2 with ⟨rfl, h⟩ | ⟨g, cap, _, h, _⟩
  ·exact ⟨none, 0, by rw [h]⟩
  ·exact ⟨_, _, h⟩
 have HP : Hid (Plat w B (.slice (some ⟨gd, 0, none⟩) (dur.length / 512) cd) (.slice aq ds.length cq) dur ds) := hp
 have HV : Hid (Valid dur.length ds) := hval
 have hdl : ds.length ≤ 8192 := hval.1.2.2.2
 have hdn : dur.length / 512 ≤ 1024 := hval.1.2.2.1
 obtain ⟨n, hn⟩ : ∃ n, dur.length / 512 = n := ⟨_, rfl⟩
 rw [hn] at HP hdn ⊢
 have HN : Hid (dur.length = n * 512) := by have := hval.1.1; unfold Hid; omega
 have hbd : gd ≠ B := fun e => HP.out.a1 (by rw [e]; rfl)
 clear hp hval hn
 have hz93 := zero93
 obtain ⟨p1, p2, p3, p4⟩ := HP.out.box
 go_enter Tryz.func44, Tryz.ntmps44
 go_wp2
 go_loopw [9] (fun i wr => ∃ (k : Nat), k ≤ ds.length ∧ i = .int .i64 k ∧ Hid (wr.ownsRow 0 113 512 (.slice (some ⟨gd, 0, none⟩) n cd) n (vals .u8 (settleN (fun _ => true) dur ds k))) ∧ Hid (Kept (fun b => b = gd) w wr)) (fun i _ => ds.length - (intOf i).toNat)
 case atStart => exact ⟨0, Nat.zero_le _, rfl, (by have h := HP.out.dur; rw [show dur.length / 512 = n from by have := HN.out; omega] at h; exact h), Kept.refl _ _⟩
 case round =>
  obtain ⟨k, hk, rfl, HRr, HKr⟩ := hrel
  by_cases hlt : k < ds.length
  ·obtain ⟨gq, rfl⟩ : ∃ gq, aq = some ⟨gq, 0, none⟩ := by
    rcases HP.out.pend.2 with ⟨h, h0⟩ | ⟨g, cap, _, h, _⟩
    ·omega
    ·simp only [Value.slice.injEq] at h; exact ⟨g, h.1⟩
   have hgq : gq ≠ gd := fun e => HP.out.a3 gd rfl (by rw [e]; rfl)
   obtain ⟨v1, v2, v3⟩ := HV.out.2 ds[k] (List.getElem_mem hlt)
   have hpr := HKr.out.owns HP.out.pend (fun b hb => by have e : b = gq := (Option.some.inj hb).symm; show ¬ b = gd; omega)
   have hplen : (penCells ds).length = ds.length * 513 := penCells_length ds (fun p hp => (HV.out.2 p hp).2.2)
   have hrange : wr.rangeAt gq (k * 513) (Value.int .i64 ds[k].1 :: vals .u8 ds[k].2) := by
    have h := owns_range hpr (k * 513) 513 (by rw [hplen]; omega)
    rw [penCells_at ds (fun p hp => (HV.out.2 p hp).2.2) k hlt] at h
    have e : (Value.int .i64 ds[k].1 :: (vals .u8 ds[k].2 ++ penCells (ds.drop (k + 1)))).take 513 = Value.int .i64 ds[k].1 :: vals .u8 ds[k].2 := by
     rw [List.take_succ_cons, List.take_append_of_le_length (by rw [vals_length, v3]; exact Nat.le_refl _), List.take_of_length_le (by rw [vals_length, v3]; exact Nat.le_refl _)]
    rw [e] at h
    exact h
   have HRG := (show Hid (wr.rangeAt gq (k * 513) (Value.int .i64 ds[k].1 :: vals .u8 ds[k].2)) from hrange)
   have hcl : (vals .u8 ds[k].2).length = 512 := by rw [vals_length]; exact v3
   have HCL : Hid ((Value.int .i64 ds[k].1 :: vals .u8 ds[k].2).length = 513) := by unfold Hid; rw [List.length_cons, hcl]
   have HI93 : Hid ((Tryz.prog.info? 134).map (·.size) = some (Value.int .i64 ds[k].1 :: vals .u8 ds[k].2).length) := by
    obtain ⟨i0, hi, hz0, hz1, hz2⟩ := info_parts Tryz.info93
    unfold Hid; rw [HCL.out, hi]; simp [hz1]
   obtain ⟨cs, hcs⟩ : ∃ cs, cs = Value.int .i64 ds[k].1 :: vals .u8 ds[k].2 := ⟨_, rfl⟩
   rw [← hcs] at HRG HCL HI93
   have HCS : Hid (cs = Value.int .i64 ds[k].1 :: vals .u8 ds[k].2) := hcs
   have HONE : Hid (∀ u ∈ cs, u.oneCell' = true) := fun u hu => by
    rw [hcs] at hu
    rcases List.mem_cons.1 hu with rfl | hu
    ·rfl
    ·exact vals_one u hu
   have hzs : zeros93.size = 513 := by kernel_rfl
   have HTH : Hid ((wr.alloc (.cells zeros93 134)).there wr.heap.size 0 cs.toArray.size) := fun j hj => by
    rw [List.size_toArray, HCL.out] at hj
    refine ⟨?_, ?_⟩
    ·rw [cell_of_row _ wr.heap.size (0 + j) zeros93 134 (0, 0) (heap_alloc_new wr _)]
     simp [hzs, hj]
    ·exact frozen_of_row _ _ _ zeros93 134 (heap_alloc_new wr _)
   have HI93' : Hid ((Tryz.prog.info? 134).map (·.size) = some cs.toArray.size) := by rw [List.size_toArray]; exact HI93
   obtain ⟨wb, hwb⟩ : ∃ wb, wb = (wr.alloc (.cells zeros93 134)).setCells wr.heap.size 0 cs := ⟨_, rfl⟩
   have HRB : Hid (wb.rangeAt wr.heap.size 0 cs) := by rw [hwb]; exact World.rangeAt_setCells_same _ _ _ _ (by have h := HTH.out; rwa [List.size_toArray] at h)
   have HKB : Hid (Same wr wb) := by
    obtain ⟨_, hgr⟩ := owns_setCellsP (base := 0) (e := 134) (size := 513) (g := wr.heap.size) (n := 1) (cap := 1) cs 0 (wr.alloc (.cells zeros93 134)) zeros93.toList (World.ownsRow_lit wr zeros93 1 (Nat.zero_le _) (by unfold maxLen; omega) (by rw [hzs])) (by rw [HCL.out, Array.length_toList, hzs]; exact Nat.le_refl _)
    rw [hwb]
    exact ((Kept.refl _ _).alloc _).grown hgr (fun k e => .inl (by have : wr.heap.size = k := Option.some.inj e; omega))
   have HWB : Hid (wb = (wr.alloc (.cells zeros93 134)).setCells wr.heap.size 0 cs) := hwb
   clear hcs hwb
   have hki : (k : Int) < (ds.length : Int) := by omega
   have hk0 : (0 : Int) ≤ (k : Int) := by omega
   clear hpr hplen hrange p1 p2 p3 p4
   have hst : ∀ k, k ≤ ds.length → (settleN (fun _ => true) dur ds k).length = dur.length := fun k hk => settleN_length _ _ _ HV.out k hk
   obtain ⟨sn, hsn⟩ : ∃ sn : Nat, ds[k].1 = sn := ⟨ds[k].1.toNat, by omega⟩
   have hnn := HN.out
   have hsn1 : sn < n := by have := v2; omega
   have x1 := ((HP.out.box.kept HKr.out (by show ¬ B = gd; omega)).same HKB.out).1
   have x2 := ((HP.out.box.kept HKr.out (by show ¬ B = gd; omega)).same HKB.out).2.1
   have y1 : wb.cell? ⟨wr.heap.size, 0, none⟩ = some (.int .i64 (sn : Int)) := by have h := HRB.out 0 (.int .i64 ds[k].1) (by rw [HCS.out]; rfl); rw [hsn] at h; exact h
   have RG : Hid (wb.drew.rangeAt wr.heap.size 1 (vals .u8 ds[k].2)) := fun j v hj => by
    have h := HRB.out (j + 1) v (by rw [HCS.out, List.getElem?_cons_succ]; exact hj)
    show wb.cell? _ = _
    rw [← h]
    congr 2
    omega
   have HI91 : Hid ((Tryz.prog.info? 113).map (·.size) = some (vals .u8 ds[k].2).length) := by
    obtain ⟨j0, hj, hy0, hy1, hy2⟩ := info_parts Tryz.info91
    unfold Hid; rw [hcl, hj]; simp [hy1]
   have HID : Hid ((Tryz.prog.info? 113).map (·.size) = some (vals .u8 ds[k].2).toArray.size) := by rw [List.size_toArray]; exact HI91
   have HOD := (show Hid (wb.drew.ownsRow 0 113 512 (.slice (some ⟨gd, 0, none⟩) n cd) n (vals .u8 (settleN (fun _ => true) dur ds k))) from (HKB.out.owns HRr.out (fun _ _ => id)).drew)
   have HFD : Hid (sn * 512 + 512 ≤ (vals .u8 (settleN (fun _ => true) dur ds k)).length) := by unfold Hid; rw [vals_length, hst k (by omega)]; omega
   have HTD : Hid (wb.drew.there gd (sn * 512) (vals .u8 ds[k].2).toArray.size) := by rw [List.size_toArray, hcl]; exact owns_there HOD.out (sn * 512) 512 HFD.out
   have HST : Hid (vals .u8 (settleN (fun _ => true) dur ds (k + 1)) = lay (vals .u8 (settleN (fun _ => true) dur ds k)) (sn * 512) (vals .u8 ds[k].2)) := by
    unfold Hid
    have e : ds.getD k (0, []) = ds[k] := by simp [List.getD, hlt]
    rw [settleN, if_pos rfl, e, hsn, Int.toNat_natCast]
    simp [vals, putAt, lay]
   have g1 : (sn : Int) < (n : Int) := by omega
   have g2 : (0 : Int) ≤ (sn : Int) := by omega
   have HSN : Hid (ds[k].1 = sn) := hsn
   have HCL2 : Hid ((vals .u8 ds[k].2).length = 512) := hcl
   clear hst hnn hsn v1 v2 v3 hcl hzs
   go_wp2_with (first | (refine wpList_load_mid rfl 134 _ rfl gq (k * 513) rfl cs _ HRG.out Tryz.underlying134 rfl HI93.out ?_) | (refine wpList_store_mid rfl 134 _ _ rfl wr.heap.size 0 cs.toArray rfl rfl HTH.out HI93'.out (all_oneCell_toArray HONE.out) ?_; rw [List.toList_toArray, ← HWB.out]))
   have hS : (fun w' => w'.cell? ⟨B, 0, none⟩ = some (.slice (some ⟨gd, 0, none⟩) n cd) ∧ w'.cell? ⟨wr.heap.size, 0, none⟩ = some (.int .i64 (sn : Int)) ∧ w'.rangeAt wr.heap.size 1 (vals .u8 ds[k].2)) wb.drew := by exact ⟨x1, y1, RG.out⟩
   refine wp_region_V (fun w' => w'.cell? ⟨B, 0, none⟩ = some (.slice (some ⟨gd, 0, none⟩) n cd) ∧ w'.cell? ⟨wr.heap.size, 0, none⟩ = some (.int .i64 (sn : Int)) ∧ w'.rangeAt wr.heap.size 1 (vals .u8 ds[k].2)) 9 10 rfl (by kernel_rfl) ?_
   refine tk 0 13 hS ?_
   refine tk 1 14 hS ?_
   refine tk 2 15 hS ?_
   refine tk 3 16 hS ?_
   refine tk 4 17 hS ?_
   refine tk 5 18 hS ?_
   refine tk 6 19 hS ?_
   refine wpAnyV_take (i := 7) (v := .agg (vals .u8 ds[k].2).toArray) (some 20) rfl rfl (by kernel_rfl) (by kernel_rfl) (by kernel_rfl) (by kernel_rfl) (fun _ _ _ h => h) (yieldsIf_load_mid (by rfl) _ _ rfl _ _ rfl _ _ (fun w hSw => by (try dsimp (config := { zetaDelta := true }) only at hSw); exact hSw.2.2) Tryz.underlying113 rfl HI91.out) hS ?_
   try simp only [Act.put, sA, s0, sS]
   refine tk 8 21 hS ?_
   refine wpAnyV_one (i := 9) (by kernel_rfl) rfl (fun K hK => ?_)
   rw [if_pos (by rfl)]
   refine wp_store_mid _ _ _ rfl gd (sn * 512) (vals .u8 ds[k].2).toArray rfl rfl HTD.out HID.out (all_oneCell_toArray (fun v hv => vals_one v hv)) ?_
   simp only [List.getElem_toArray, List.getElem_cons_succ, List.getElem_cons_zero, List.toList_toArray]
   refine hK.out _ _ (fun h => absurd rfl h) ?_
   clear hK K
   refine wpAnyV_done (by kernel_rfl) ?_
   try simp only [Act.put, sA, s0, sS]
   obtain ⟨q1, q2⟩ := owns_setCellsP (vals .u8 ds[k].2) (sn * 512) wb.drew _ HOD.out (by rw [HCL2.out]; exact HFD.out)
   rw [← HST.out] at q1
   have HR2 := (show Hid (World.ownsRow _ 0 113 512 (.slice (some ⟨gd, 0, none⟩) n cd) n (vals .u8 (settleN (fun _ => true) dur ds (k + 1)))) from q1)
   have HK2 := (show Hid (Kept (fun b => b = gd) w _) from (HKr.out.trans ((HKB.out.mono (fun _ _ h => h.elim)).drew)).trans (Kept.of_grown q2 (fun k e => (Option.some.inj e).symm)))
   generalize wb.drew.setCells gd (sn * 512) (vals .u8 ds[k].2) = wn at *
   clear q1 q2 hS x1 x2 y1
   go_wp2
   go_roundw
   case rel => exact ⟨k + 1, by omega, by go_num, HR2, HK2⟩
   case measure => simp [intOf]; omega
  ·obtain rfl : k = ds.length := by omega
   have HX := (show Hid (FBox wr B (.slice (some ⟨gd, 0, none⟩) n cd) (.slice aq ds.length cq)) from HP.out.box.kept HKr.out (by show ¬ B = gd; omega))
   clear p1 p2 p3 p4
   obtain ⟨p1, p2, p3, p4⟩ := HX.out
   go_wp2
   go_end0
   have hl := settleN_length (fun _ => true) dur ds HV.out ds.length (Nat.le_refl _)
   have hk2 : Kept (fun b => b = B) wr (wr.setCell ⟨B, 1, none⟩ (.slice none 0 0)) := Kept.setCell (Kept.refl (fun b => b = B) wr) (p := ⟨B, 1, none⟩) (.inr rfl) _
   refine ⟨rfl, ⟨HX.out.set1 _, ?_, World.ownsRow_nil _ _ _ _, HP.out.a1, by simp [Value.ownBlock], fun b _ hb => by simp [Value.ownBlock] at hb⟩, ?_⟩
   ·rw [hl, show dur.length / 512 = n from by have := HN.out; omega]
    exact hk2.owns HRr.out (fun b hb => by have e : b = gd := (Option.some.inj hb).symm; show ¬ b = B; omega)
   ·exact (HKr.out.mono (fun b _ e => .inr (by rw [e]; rfl))).trans (hk2.mono (fun b _ e => .inl e))
section
variable {P : Program} {ops : Array Oper} {rest : List Oper} {o : Oper} {a : Act} {Q : Exit → Act → World → Prop}
theorem wpList_grow_nil (w : World) (hgd : o.guard = none) (s x : Operand) (t tn : TypeId) (ho : o.op = .call { callee := .builtin .append, args := #[s, x], argTypes := #[t, tn] })
  (e : TypeId) (i : TypeInfo) (z : Value) (size : Nat) (kn : IntKind) (ht : P.underlying t = some (.slice e)) (htn : P.underlying tn = some (.int kn)) (hi : P.info? e = some i) (hz : i.zero = some z) (hsz : i.size = size) (hzs : z.cells.size = size) (h1 : 0 < size)
  (k : IntKind) (n : Nat) (hs : a.eval s = .slice none 0 0) (hx : a.eval x = .int k n) (h0 : 0 < n) (h63 : n ≤ maxLen) (h48 : n * i.bytes ≤ 281474976710656)
  (h : ∀ cap w', n ≤ cap → cap ≤ maxLen → w'.ownsRow 0 e size (.slice (some ⟨w.heap.size, 0, none⟩) 0 cap) 0 [] → w.grownBy w' none → wpList P ops Q rest (a.put o.dst (.slice (some ⟨w.heap.size, 0, none⟩) n cap)) w') :
  wpList P ops Q (o :: rest) a w := by
 refine wpList_plain hgd fun K hK => ?_
 have hrun := Lib.run_append_nil_zeros (P := P) w t tn o.type e i z k kn ht htn hi hz n h0 (by omega) (by unfold maxLen at h63; omega) h48
 unfold Oper.wp
 simp [execOp, ho, resolve, invoke, builtin, hs, hx, hrun, Result.andThen]
 refine hK _ _ (h _ _ (grownCap_ge w n 0 e) (grownCap_le_maxLen w n 0 e h63) ⟨by simp, .inr ⟨w.heap.size, grownCap w n 0 e, _, rfl, Nat.zero_le _, heap_alloc_new w.drew _, Nat.zero_le _, grownCap_le_maxLen w n 0 e h63, ?_, by simp⟩⟩ ⟨rfl, rfl, rfl, by simp, fun k hk _ => Below.heap_alloc w.drew _ k hk⟩)
 have hc := grownCap_ge w n 0 e
 rw [Array.size_append, size_zeroCells, size_zeroCells, hzs, ← Nat.add_mul]
 congr 1
 omega
end
theorem growB_any (n : Nat) (w : World) (hn : n ≤ 1099511627776) :
  Calls Tryz.prog 76 #[.slice none 0 0, .int .i64 n] w fun e w' => ∃ a c, e = .returned (.slice a 0 c) ∧ w'.ownsRow 0 5 1 (.slice a 0 c) 0 [] ∧ (∀ b, (Value.slice a 0 c).ownBlock = some b → w.heap.size ≤ b) ∧ Same w w' := by
 by_cases h : n = 0
 ·subst h
  go_enter Tryz.func76, Tryz.ntmps76
  go_wp2
  go_ret
  exact ⟨none, 0, rfl, World.ownsRow_nil _ _ _ _, fun b hb => by simp [Value.ownBlock] at hb, Kept.refl _ _⟩
 ·have h1 : (0 : Int) < (n : Int) := by omega
  go_enter Tryz.func76, Tryz.ntmps76
  obtain ⟨i0, hi, hz0, hz1, hz2⟩ := info_parts Tryz.infoByte'
  go_wp2_with (at_builtin; refine wpList_grow_nil _ rfl (.tmp 20) (.tmp 21) 22 3 rfl 5 i0 (.int .u8 0) 1 .i64 Tryz.underlying22 Tryz.underlying3 hi hz0 hz1 rfl (by omega) .i64 n rfl rfl (by omega) (by unfold maxLen; omega) (by rw [hz2]; omega) ?_; intro cap w1 hc1 hc2 ho hg; have HO := (show Hid (w1.ownsRow 0 5 1 (.slice (some ⟨w.heap.size, 0, none⟩) 0 cap) 0 []) from ho); have HG := (show Hid (Same w w1) from Kept.of_grown hg (fun k e => by cases e)); clear ho hg)
  go_ret
  exact ⟨_, _, rfl, HO.out, fun b hb => by simp [Value.ownBlock] at hb; omega, HG.out⟩
theorem growP_any (n : Nat) (w : World) (hn : n ≤ 1073741824) :
  Calls Tryz.prog 77 #[.slice none 0 0, .int .i64 n] w fun e w' => ∃ a c, e = .returned (.slice a 0 c) ∧ w'.ownsRow 0 128 2 (.slice a 0 c) 0 [] ∧ (∀ b, (Value.slice a 0 c).ownBlock = some b → w.heap.size ≤ b) ∧ Same w w' := by
 by_cases h : n = 0
 ·subst h
  go_enter Tryz.func77, Tryz.ntmps77
  go_wp2
  go_ret
  exact ⟨none, 0, rfl, World.ownsRow_nil _ _ _ _, fun b hb => by simp [Value.ownBlock] at hb, Kept.refl _ _⟩
 ·have h1 : (0 : Int) < (n : Int) := by omega
  go_enter Tryz.func77, Tryz.ntmps77
  obtain ⟨i0, hi, hz0, hz1, hz2⟩ := info_parts Tryz.infoSW
  go_wp2_with (at_builtin; refine wpList_grow_nil _ rfl (.tmp 20) (.tmp 21) 25 3 rfl 128 i0 (.agg #[.int .i64 0, .slice none 0 0]) 2 .i64 Tryz.underlying25 Tryz.underlying3 hi hz0 hz1 rfl (by omega) .i64 n rfl rfl (by omega) (by unfold maxLen; omega) (by rw [hz2]; omega) ?_; intro cap w1 hc1 hc2 ho hg; have HO := (show Hid (w1.ownsRow 0 128 2 (.slice (some ⟨w.heap.size, 0, none⟩) 0 cap) 0 []) from ho); have HG := (show Hid (Same w w1) from Kept.of_grown hg (fun k e => by cases e)); clear ho hg)
  go_ret
  exact ⟨_, _, rfl, HO.out, fun b hb => by simp [Value.ownBlock] at hb; omega, HG.out⟩
end Go.Proofs.YtdbpaadndaoihaaGreatDoor
