/-
  FnHolds: what it keeps in memory; laws.lwFits.
-/
import Derived.Test.YtagcefbnhpkdiabHoldsInv
import Derived.Test.YtagcefbnhpkdiabTyHoldS
namespace Go.Proofs.Ytagcefbnhpkdiab
set_option maxRecDepth 100000
set_option maxHeartbeats 4000000
open Go.RowKit
set_option linter.unusedVariables false
set_option linter.unusedSimpArgs false

theorem lwFits_any (v : Value) (zs : List Int) (w : World) (hv : Rd .i64 w v zs) (hl : zs.length = 32) (hb : ∀ i, zs.getD i 0 ≤ 1000) (hs : sumP zs 32 ≤ 3948) :
    Calls Try.prog 28 #[v] w fun e w' => e = .returned (.bool true) ∧ w' = w := by
  obtain ⟨a, c, rfl⟩ := hv.form
  rw [hl] at hv ⊢
  have HV := hid hv
  have HL := hid hl
  have HB := hid hb
  have HS := hid hs
  have HP : Hid (∀ k, k ≤ 32 → 0 ≤ sumP zs k ∧ sumP zs k ≤ 1000 * (k : Int)) := by
    intro k
    induction k with
    | zero => intro _; exact ⟨Int.le_refl _, by simp [sumP]⟩
    | succ k ih =>
      intro hk
      have h1 := ih (by omega)
      have h2 := hb k
      unfold sumP
      split <;> omega
  clear hv hl hb hs
  go_enter Try.func28, Try.ntmps28
  go_wp2_with fail
  go_loopw [3, 4] (fun s i wr => ∃ (k : Nat), k ≤ 32 ∧ s = .int .i64 (sumP zs k) ∧ i = .int .i64 k ∧ wr = w) (fun _ i _ => 32 - (intOf i).toNat)
  case atStart => exact ⟨0, by omega, rfl, rfl, rfl⟩
  case round =>
    obtain ⟨k, hk, rfl, rfl, rfl⟩ := hrel
    by_cases hlt : k < 32
    · obtain ⟨b, off, rfl, hc⟩ := HV.out.at (show k < zs.length from by rw [HL.out]; exact hlt)
      have hlt' : (k : Int) < 32 := by omega
      have hp := HP.out k hk
      have hb := HB.out k
      have hsp : sumP zs (k + 1) = if 0 < zs.getD k 0 then sumP zs k + zs.getD k 0 else sumP zs k := rfl
      generalize zs.getD k 0 = z at hc hb hsp
      have HSP := hid hsp
      generalize sumP zs k = s at hp HSP
      clear hsp
      by_cases h1 : 0 < z
      · have hw : IntKind.i64.wrap (s + z) = s + z := by rw [IntKind.wrap_i64]; omega
        have HE : Hid (sumP zs (k + 1) = s + z) := by unfold Hid; rw [HSP.out, if_pos h1]
        go_wp2
        go_roundw
        case rel => exact ⟨k + 1, by omega, by rw [HE.out], by go_num, by trivial⟩
        case measure => simp [intOf]; omega
      · have HE : Hid (sumP zs (k + 1) = s) := by unfold Hid; rw [HSP.out, if_neg h1]
        go_wp2
        go_roundw
        case rel => exact ⟨k + 1, by omega, by rw [HE.out], by go_num, by trivial⟩
        case measure => simp [intOf]; omega
    · obtain rfl : k = 32 := by omega
      have h := HS.out
      generalize sumP zs 32 = s at h
      go_wp2
      go_ret
      exact ⟨by simp [h], rfl⟩

/-- one row in the place of another -/
theorem OwnL.set {w w' : World} {rs : List Row} {r r' : Row} {k : Nat} (h : OwnL w rs) (hr : rs[k]? = some r) (hk : Kept (fun b => r.v.ownBlock = some b) w w') (ho : w'.ownsRow 0 r'.e r'.m r'.v r'.n r'.xs) (hf : ∀ b, r'.v.ownBlock = some b → r.v.ownBlock = some b ∨ w.heap.size ≤ b) : OwnL w' (rs.set k r') := by
  obtain ⟨hkl, hrk⟩ := List.getElem?_eq_some_iff.1 hr
  have hap := List.pairwise_iff_getElem.1 h.apart
  have hne : ∀ i (hi : i < rs.length), i ≠ k → ∀ b, rs[i].v.ownBlock = some b → ¬ r.v.ownBlock = some b := fun i hi hik b hb hb' => by
    rcases Nat.lt_or_gt_of_ne hik with hlt | hgt
    · have := hap i k hi hkl hlt
      rw [hrk] at this
      exact this b hb hb'
    · have := hap k i hkl hi hgt
      rw [hrk] at this
      exact this b hb' hb
  have hlt : ∀ i (hi : i < rs.length) b, rs[i].v.ownBlock = some b → b < w.heap.size := fun i hi b hb => (World.ownsRow.lt (h.own _ (List.getElem_mem hi)) b hb).2
  refine ⟨fun s hs => ?_, List.pairwise_iff_getElem.2 (fun i j hi hj hij => ?_)⟩
  · obtain ⟨i, hi, rfl⟩ := List.getElem_of_mem hs
    rw [List.length_set] at hi
    rw [List.getElem_set]
    split
    · exact ho
    · rename_i hne'
      exact hk.owns (h.own _ (List.getElem_mem hi)) (fun b hb => hne i hi (fun e => hne' e.symm) b hb)
  · rw [List.length_set] at hi hj
    rw [List.getElem_set, List.getElem_set]
    split <;> split
    · omega
    · rename_i e1 e2
      subst e1
      intro b hb hb'
      rcases hf b hb with h1 | h1
      · exact hne j hj (fun e => e2 e.symm) b hb' h1
      · have := hlt j hj b hb'; omega
    · rename_i e1 e2
      subst e2
      intro b hb hb'
      rcases hf b hb' with h1 | h1
      · exact hne i hi (fun e => e1 e.symm) b hb h1
      · have := hlt i hi b hb; omega
    · exact hap i j hi hj hij
theorem OwnL.at {w : World} {rs : List Row} {r : Row} {k : Nat} (h : OwnL w rs) (hr : rs[k]? = some r) : w.ownsRow 0 r.e r.m r.v r.n r.xs := by
  obtain ⟨hkl, hrk⟩ := List.getElem?_eq_some_iff.1 hr
  rw [← hrk]
  exact h.own _ (List.getElem_mem hkl)

/-- a list of numbers that a transaction has changed -/
structure IS where
  a : Option Addr
  c : Nat
  bs : List Int
def IS.v (x : IS) : Value := .slice x.a x.bs.length x.c
def IS.row (x : IS) : Row := ints 2 .i64 x.v x.bs
def hrows (gl cl go gi gz : Nat) (hv : FR) (zs os : List Int) (iv zv : List IS) : List Row :=
  ⟨2, 1, .slice (some ⟨gl, 0, none⟩) 32 cl, 32, vals .i64 zs⟩ :: ⟨hv.e, 3, hv.v, hv.n, vals .i64 hv.bs⟩ :: ⟨3, 1, .slice (some ⟨go, 0, none⟩) 32 32, 32, vals .i64 os⟩ ::
    ⟨30, 1, .slice (some ⟨gi, 0, none⟩) 4 4, 4, iv.map IS.v⟩ :: ⟨30, 1, .slice (some ⟨gz, 0, none⟩) 4 4, 4, zv.map IS.v⟩ :: (iv.map IS.row ++ zv.map IS.row)
structure HM (w0 w : World) (gl cl go gi gz : Nat) (hv : FR) (zs os : List Int) (iv zv : List IS) : Prop where
  own : OwnL w (hrows gl cl go gi gz hv zs os iv zv)
  new : ∀ b, FootL (hrows gl cl go gi gz hv zs os iv zv) b → w0.heap.size ≤ b
  kept : Same w0 w
  il : iv.length = 4
  zl : zv.length = 4
section
variable {w0 w w' : World} {gl cl go gi gz : Nat} {hv : FR} {zs os : List Int} {iv zv : List IS}
theorem HM.same (h : HM w0 w gl cl go gi gz hv zs os iv zv) (hk : Same w w') : HM w0 w' gl cl go gi gz hv zs os iv zv := ⟨h.own.same hk, h.new, h.kept.trans hk, h.il, h.zl⟩
/-- what a step over one row leaves -/
theorem HM.step (h : HM w0 w gl cl go gi gz hv zs os iv zv) {k : Nat} {r r' : Row} {hv' : FR} {zs' os' : List Int} {iv' zv' : List IS} (hr : (hrows gl cl go gi gz hv zs os iv zv)[k]? = some r) (hk : Kept (fun b => r.v.ownBlock = some b) w w') (ho : w'.ownsRow 0 r'.e r'.m r'.v r'.n r'.xs)
    (hf : ∀ b, r'.v.ownBlock = some b → r.v.ownBlock = some b ∨ w.heap.size ≤ b) (he : (hrows gl cl go gi gz hv zs os iv zv).set k r' = hrows gl cl go gi gz hv' zs' os' iv' zv') (hi : iv'.length = 4) (hz : zv'.length = 4) : HM w0 w' gl cl go gi gz hv' zs' os' iv' zv' := by
  refine ⟨he ▸ h.own.set hr hk ho hf, fun b hb => ?_, h.kept.next hk (fun i hi e => ?_), hi, hz⟩
  · rw [← he] at hb
    obtain ⟨s, hs, hsb⟩ := hb
    rcases List.mem_or_eq_of_mem_set hs with hs | rfl
    · exact h.new b ⟨s, hs, hsb⟩
    · rcases hf b hsb with h1 | h1
      · exact h.new b ⟨r, List.mem_of_getElem? hr, h1⟩
      · exact Nat.le_trans h.kept.size h1
  · have := h.new i ⟨r, List.mem_of_getElem? hr, e⟩
    omega
theorem HM.zrow (h : HM w0 w gl cl go gi gz hv zs os iv zv) : w.ownsRow 0 2 1 (.slice (some ⟨gl, 0, none⟩) 32 cl) 32 (vals .i64 zs) := h.own.at (k := 0) rfl
theorem HM.hrow (h : HM w0 w gl cl go gi gz hv zs os iv zv) : OwnL w (FR.rows 3 hv) := ⟨fun r hr => by rw [List.mem_singleton.1 hr]; exact h.own.at (k := 1) rfl, List.pairwise_singleton _ _⟩
theorem HM.orow (h : HM w0 w gl cl go gi gz hv zs os iv zv) : w.ownsRow 0 3 1 (.slice (some ⟨go, 0, none⟩) 32 32) 32 (vals .i64 os) := h.own.at (k := 2) rfl
theorem HM.irow (h : HM w0 w gl cl go gi gz hv zs os iv zv) : w.ownsRow 0 30 1 (.slice (some ⟨gi, 0, none⟩) 4 4) 4 (iv.map IS.v) := h.own.at (k := 3) rfl
theorem HM.jrow (h : HM w0 w gl cl go gi gz hv zs os iv zv) : w.ownsRow 0 30 1 (.slice (some ⟨gz, 0, none⟩) 4 4) 4 (zv.map IS.v) := h.own.at (k := 4) rfl
theorem hrows_i {t : Nat} {x : IS} (h : iv[t]? = some x) : (hrows gl cl go gi gz hv zs os iv zv)[5 + t]? = some x.row := by
  obtain ⟨ht, rfl⟩ := List.getElem?_eq_some_iff.1 h
  have e : (hrows gl cl go gi gz hv zs os iv zv)[5 + t]? = (iv.map IS.row ++ zv.map IS.row)[t]? := by
    rw [Nat.add_comm]
    rfl
  rw [e, List.getElem?_append_left (by simpa using ht)]
  simp [ht]
theorem hrows_z {t : Nat} {x : IS} (hl : iv.length = 4) (h : zv[t]? = some x) : (hrows gl cl go gi gz hv zs os iv zv)[9 + t]? = some x.row := by
  obtain ⟨ht, rfl⟩ := List.getElem?_eq_some_iff.1 h
  have e : (hrows gl cl go gi gz hv zs os iv zv)[9 + t]? = (iv.map IS.row ++ zv.map IS.row)[4 + t]? := by
    rw [show 9 + t = (4 + t) + 5 from by omega]
    rfl
  rw [e, List.getElem?_append_right (by simp [hl])]
  simp [hl, ht]
theorem hrows_seti {t : Nat} {x : IS} (ht : t < iv.length) : ((hrows gl cl go gi gz hv zs os iv zv).set (5 + t) x.row).set 3 ⟨30, 1, .slice (some ⟨gi, 0, none⟩) 4 4, 4, (iv.map IS.v).set t x.v⟩ = hrows gl cl go gi gz hv zs os (iv.set t x) zv := by
  unfold hrows
  rw [show 5 + t = t + 1 + 1 + 1 + 1 + 1 from by omega]
  simp only [List.set_cons_succ, List.set_cons_zero]
  rw [List.set_append_left _ _ (by simpa using ht), List.map_set, List.map_set]
theorem hrows_setz {t : Nat} {x : IS} (hl : iv.length = 4) (ht : t < zv.length) : ((hrows gl cl go gi gz hv zs os iv zv).set (9 + t) x.row).set 4 ⟨30, 1, .slice (some ⟨gz, 0, none⟩) 4 4, 4, (zv.map IS.v).set t x.v⟩ = hrows gl cl go gi gz hv zs os iv (zv.set t x) := by
  unfold hrows
  rw [show 9 + t = (4 + t) + 1 + 1 + 1 + 1 + 1 from by omega]
  simp only [List.set_cons_succ, List.set_cons_zero]
  rw [List.set_append_right _ _ (by simp [hl]), List.map_set, List.map_set]
  simp [hl]
/-- two rows, one behind the other -/
theorem HM.two (h : HM w0 w gl cl go gi gz hv zs os iv zv) {k q : Nat} {r r' s s' : Row} {w1 : World} {iv' zv' : List IS} (hkq : k ≠ q) (hr : (hrows gl cl go gi gz hv zs os iv zv)[k]? = some r) (hk : Kept (fun b => r.v.ownBlock = some b) w w1) (ho : w1.ownsRow 0 r'.e r'.m r'.v r'.n r'.xs)
    (hf : ∀ b, r'.v.ownBlock = some b → r.v.ownBlock = some b ∨ w.heap.size ≤ b) (hs : (hrows gl cl go gi gz hv zs os iv zv)[q]? = some s) (hsv : s'.v = s.v) (hk2 : Kept (fun b => s.v.ownBlock = some b) w1 w') (ho2 : w1.ownsRow 0 s.e s.m s.v s.n s.xs → w'.ownsRow 0 s'.e s'.m s'.v s'.n s'.xs)
    (he : ((hrows gl cl go gi gz hv zs os iv zv).set k r').set q s' = hrows gl cl go gi gz hv zs os iv' zv') (hi : iv'.length = 4) (hz : zv'.length = 4) : HM w0 w' gl cl go gi gz hv zs os iv' zv' := by
  have h1 := h.own.set hr hk ho hf
  have hs1 : ((hrows gl cl go gi gz hv zs os iv zv).set k r')[q]? = some s := by rw [List.getElem?_set_ne hkq]; exact hs
  have h2 := h1.set hs1 hk2 (ho2 (h1.at hs1)) (fun b hb => .inl (by rw [hsv] at hb; exact hb))
  have hk1 : Same w0 w1 := h.kept.next hk (fun i hi e => by have := h.new i ⟨r, List.mem_of_getElem? hr, e⟩; omega)
  refine ⟨he ▸ h2, fun b hb => ?_, hk1.next hk2 (fun i hi e => by have := h.new i ⟨s, List.mem_of_getElem? hs, e⟩; omega), hi, hz⟩
  rw [← he] at hb
  obtain ⟨u, hu, hub⟩ := hb
  rcases List.mem_or_eq_of_mem_set hu with hu | rfl
  · rcases List.mem_or_eq_of_mem_set hu with hu | rfl
    · exact h.new b ⟨u, hu, hub⟩
    · rcases hf b hub with h3 | h3
      · exact h.new b ⟨r, List.mem_of_getElem? hr, h3⟩
      · exact Nat.le_trans h.kept.size h3
  · rw [hsv] at hub
    exact h.new b ⟨s, List.mem_of_getElem? hs, hub⟩
theorem HM.setI (h : HM w0 w gl cl go gi gz hv zs os iv zv) {t : Nat} {x x' : IS} {w1 : World} (hx : iv[t]? = some x) (hk : Kept (fun b => x.v.ownBlock = some b) w w1) (ho : w1.ownsRow 0 2 1 x'.v x'.bs.length (vals .i64 x'.bs)) (hf : ∀ b, x'.v.ownBlock = some b → x.v.ownBlock = some b ∨ w.heap.size ≤ b) :
    HM w0 (w1.setCell ⟨gi, t, none⟩ x'.v) gl cl go gi gz hv zs os (iv.set t x') zv := by
  have ht : t < iv.length := (List.getElem?_eq_some_iff.1 hx).1
  exact h.two (k := 5 + t) (q := 3) (r := x.row) (r' := x'.row) (s' := ⟨30, 1, .slice (some ⟨gi, 0, none⟩) 4 4, 4, (iv.map IS.v).set t x'.v⟩) (by omega) (hrows_i hx) hk ho hf rfl rfl (Kept.setCell (R := fun b => (Value.slice (some ⟨gi, 0, none⟩) 4 4).ownBlock = some b) (Kept.refl _ _) (p := ⟨gi, t, none⟩) (.inr rfl) _) (fun hh => (World.ownsRow.stored hh t x'.v).1) (hrows_seti ht) (by rw [List.length_set]; exact h.il) h.zl
theorem HM.setZ (h : HM w0 w gl cl go gi gz hv zs os iv zv) {t : Nat} {x x' : IS} {w1 : World} (hx : zv[t]? = some x) (hk : Kept (fun b => x.v.ownBlock = some b) w w1) (ho : w1.ownsRow 0 2 1 x'.v x'.bs.length (vals .i64 x'.bs)) (hf : ∀ b, x'.v.ownBlock = some b → x.v.ownBlock = some b ∨ w.heap.size ≤ b) :
    HM w0 (w1.setCell ⟨gz, t, none⟩ x'.v) gl cl go gi gz hv zs os iv (zv.set t x') := by
  have ht : t < zv.length := (List.getElem?_eq_some_iff.1 hx).1
  exact h.two (k := 9 + t) (q := 4) (r := x.row) (r' := x'.row) (s' := ⟨30, 1, .slice (some ⟨gz, 0, none⟩) 4 4, 4, (zv.map IS.v).set t x'.v⟩) (by omega) (hrows_z h.il hx) hk ho hf rfl rfl (Kept.setCell (R := fun b => (Value.slice (some ⟨gz, 0, none⟩) 4 4).ownBlock = some b) (Kept.refl _ _) (p := ⟨gz, t, none⟩) (.inr rfl) _) (fun hh => (World.ownsRow.stored hh t x'.v).1) (hrows_setz h.il ht) h.il (by rw [List.length_set]; exact h.zl)
theorem HM.setL (h : HM w0 w gl cl go gi gz hv zs os iv zv) (j : Nat) (x : Int) : HM w0 (w.setCell ⟨gl, j, none⟩ (.int .i64 x)) gl cl go gi gz hv (zs.set j x) os iv zv :=
  h.step (k := 0) (r' := ⟨2, 1, .slice (some ⟨gl, 0, none⟩) 32 cl, 32, vals .i64 (zs.set j x)⟩) rfl (Kept.setCell (R := fun b => (Value.slice (some ⟨gl, 0, none⟩) 32 cl).ownBlock = some b) (Kept.refl _ _) (p := ⟨gl, j, none⟩) (.inr rfl) _)
    (by have := (World.ownsRow.stored h.zrow j (.int .i64 x)).1
        rwa [show (vals .i64 zs).set j (.int .i64 x) = vals .i64 (zs.set j x) from by simp [vals]] at this) (fun b hb => .inl hb) rfl h.il h.zl
theorem HM.setO (h : HM w0 w gl cl go gi gz hv zs os iv zv) (j : Nat) (x : Int) : HM w0 (w.setCell ⟨go, j, none⟩ (.int .i64 x)) gl cl go gi gz hv zs (os.set j x) iv zv :=
  h.step (k := 2) (r' := ⟨3, 1, .slice (some ⟨go, 0, none⟩) 32 32, 32, vals .i64 (os.set j x)⟩) rfl (Kept.setCell (R := fun b => (Value.slice (some ⟨go, 0, none⟩) 32 32).ownBlock = some b) (Kept.refl _ _) (p := ⟨go, j, none⟩) (.inr rfl) _)
    (by have := (World.ownsRow.stored h.orow j (.int .i64 x)).1
        rwa [show (vals .i64 os).set j (.int .i64 x) = vals .i64 (os.set j x) from by simp [vals]] at this) (fun b hb => .inl hb) rfl h.il h.zl
/-- other holds -/
theorem HM.setH (h : HM w0 w gl cl go gi gz hv zs os iv zv) {y : FR} (hk : Same w w') (ho : OwnL w' (FR.rows 3 y)) (hf : ∀ b, FootL (FR.rows 3 y) b → w.heap.size ≤ b) : HM w0 w' gl cl go gi gz y zs os iv zv :=
  h.step (k := 1) (r' := ⟨y.e, 3, y.v, y.n, vals .i64 y.bs⟩) rfl (hk.mono (fun b _ e => e.elim)) (FR.own_one ho) (fun b hb => .inr (hf b ((FootL_one _ _).2 hb))) rfl h.il h.zl
theorem ints_cell {e : TypeId} {g n c : Nat} {bs : List Int} (h : w.ownsRow 0 e 1 (.slice (some ⟨g, 0, none⟩) n c) n (vals .i64 bs)) (j : Nat) (hj : j < n) : w.cell? ⟨g, j, none⟩ = some (.int .i64 (bs.getD j 0)) := by
  have h1 := h.1
  rw [vals_length] at h1
  rw [World.ownsRow.cellAt h j (by omega), vals_at .i64 bs j (by omega)]
theorem vs_cell {g : Nat} {xs : List IS} (h : w.ownsRow 0 30 1 (.slice (some ⟨g, 0, none⟩) 4 4) 4 (xs.map IS.v)) {j : Nat} {x : IS} (hx : xs[j]? = some x) (hj : j < 4) : w.cell? ⟨g, j, none⟩ = some x.v := by
  rw [World.ownsRow.cellAt h j (by omega)]
  rw [List.getElem?_map, hx]
  rfl
theorem HM.rd (h : HM w0 w gl cl go gi gz hv zs os iv zv) (hz : zs.length = 32) : Rd .i64 w (.slice (some ⟨gl, 0, none⟩) 32 cl) zs := by
  have : Own 0 2 .i64 w (.slice (some ⟨gl, 0, none⟩) 32 cl) zs := by
    have h1 := h.zrow
    rw [← hz] at h1 ⊢
    exact h1
  exact this.rd
theorem HM.inner (h : HM w0 w gl cl go gi gz hv zs os iv zv) {t : Nat} {x : IS} (hx : iv[t]? = some x) : w.ownsRow 0 2 1 x.v x.bs.length (vals .i64 x.bs) := h.own.at (hrows_i hx)
theorem HM.innerZ (h : HM w0 w gl cl go gi gz hv zs os iv zv) {t : Nat} {x : IS} (hx : zv[t]? = some x) : w.ownsRow 0 2 1 x.v x.bs.length (vals .i64 x.bs) := h.own.at (hrows_z h.il hx)
end
/-- the front of a row -/
theorem own_front {w : World} {e : TypeId} {x : IS} (h : w.ownsRow 0 e 1 x.v x.bs.length (vals .i64 x.bs)) (m : Nat) (hm : m ≤ x.bs.length) : w.ownsRow 0 e 1 (IS.v ⟨x.a, x.c, x.bs.take m⟩) (x.bs.take m).length (vals .i64 (x.bs.take m)) := by
  have hl : (x.bs.take m).length = m := by rw [List.length_take]; omega
  refine ⟨by rw [vals_length, Nat.mul_one], ?_⟩
  rcases h.2 with ⟨h1, h2⟩ | ⟨g, cap, cur, h1, hb, hgg, hc, hmx, hs, ht⟩
  · unfold IS.v at h1 ⊢
    injection h1 with a1 a2 a3
    dsimp only
    rw [a1, a3, hl]
    obtain rfl : m = 0 := by omega
    exact .inl ⟨rfl, by simp [vals]⟩
  · unfold IS.v at h1 ⊢
    injection h1 with a1 a2 a3
    dsimp only
    rw [hl]
    refine .inr ⟨g, cap, cur, by rw [a1, a3], hb, hgg, by omega, hmx, hs, ?_⟩
    rw [Nat.mul_one] at ht ⊢
    have := congrArg (List.take m) ht
    rw [List.take_take, show min m x.bs.length = m from by omega] at this
    rw [this]
    simp [vals]
end Go.Proofs.Ytagcefbnhpkdiab
