import Derived.Test.YtbbllmlokddolaaG01
import Derived.Deep.DeepCutAuto
namespace Go.Proofs.Ytbbllmlokddolaa
set_option maxRecDepth 100000
set_option maxHeartbeats 4000000
open Go.RowKit
set_option linter.unusedVariables false
set_option linter.unusedSimpArgs false
def idxFrom (f : EFrame → Bool) : Nat → List EFrame → Int
  | _, [] => -1
  | k, p :: ps => if f p = true then (k : Int) else idxFrom f (k + 1) ps
theorem idxFrom_at {f : EFrame → Bool} {ps : List EFrame} {k : Nat} (hk : k < ps.length) :
    idxFrom f k (ps.drop k) = if f ps[k] = true then (k : Int) else idxFrom f (k + 1) (ps.drop (k + 1)) := by
  rw [List.drop_eq_getElem_cons hk]
  rfl
theorem idxFrom_end {f : EFrame → Bool} {ps : List EFrame} : idxFrom f ps.length (ps.drop ps.length) = -1 := by
  rw [List.drop_length]
  rfl
theorem idxFrom_any (f : EFrame → Bool) (ps : List EFrame) (k : Nat) : decide (0 ≤ idxFrom f k ps) = ps.any f := by
  induction ps generalizing k with
  | nil => rfl
  | cons p ps ih =>
    rw [List.any_cons]
    by_cases h : f p = true
    · have e : idxFrom f k (p :: ps) = k := if_pos h
      rw [e, h]; simp
    · have e : idxFrom f k (p :: ps) = idxFrom f (k + 1) ps := if_neg h
      rw [e, ih (k + 1), show f p = false from by simpa using h]; simp
def Enters (fid : FuncId) : Prop := ∀ (args : Array Value) (wx : World), (callFunc fid args).run Try.prog wx = .ok (.enter fid args) wx
def Asks0 (fid : FuncId) (f : EFrame → Bool) (w : World) (ps : List EFrame) : Prop :=
  ∀ (p : EFrame) (wx : World) (a : Option Addr) (c : Nat), p ∈ ps → p.v = .slice a p.bs.length c → Same w wx → Calls Try.prog fid #[.agg #[.int .i64 p.page, p.v, .int .i64 p.pins, .bool p.dirty, .int .i64 p.rl, .bool p.rf]] wx fun e w' => e = .returned (.bool (f p)) ∧ Same wx w'
theorem indexF0_any (fid : FuncId) (f : EFrame → Bool) (v : Value) (ps : List EFrame) (w : World) (hv : RdR kFrame w v ps) (hent : Enters fid) (hf : Asks0 fid f w ps) :
    Calls Try.prog 28 #[v, .func (.func fid) #[] #[]] w fun e w' => e = .returned (.int .i64 (idxFrom f 0 ps)) ∧ Same w w' := by
  have hmax := hv.max
  unfold maxLen at hmax
  rcases hv.row with ⟨rfl, a, c, rfl⟩ | ⟨b, off, c, rfl, hc⟩
  · clear hv hmax hf
    go_enter Try.func28, Try.ntmps28
    go_wp2
    refine wp_loop_rounds 1 ?_
    rw [rounds_succ]
    go_wp2
    go_ret
    exact ⟨rfl, Kept.refl _ _⟩
  · have HV := (show Hid (RdR kFrame w (.slice (some ⟨b, off, none⟩) ps.length c) ps) from hv)
    have HC : Hid (∀ j i, (h : j < ps.length) → i < 6 → w.cell? ⟨b, off + (j * 6 + i), none⟩ = (kFrame.cells ps[j])[i]?) := hc
    have HF : Hid (Asks0 fid f w ps) := hf
    obtain ⟨R, hR⟩ : ∃ R, idxFrom f 0 ps = R := ⟨_, rfl⟩
    have HR : Hid (idxFrom f 0 (ps.drop 0) = R) := by rw [List.drop_zero]; exact hR
    rw [hR]
    clear hv hc hf hR
    have hent' : ∀ (args : Array Value) (wx : World), (callFunc fid args).run Try.prog wx = .ok (.enter fid args) wx := hent
    clear hent
    generalize hl : ps.length = len at hmax HV ⊢
    have HL : Hid (ps.length = len) := hl
    clear hl
    go_enter Try.func28, Try.ntmps28
    go_wp2
    go_loopw [8] (fun i wr => ∃ k : Nat, k ≤ len ∧ i = .int .i64 k ∧ Hid (idxFrom f k (ps.drop k) = R) ∧ Hid (Same w wr)) (fun i _ => len - (intOf i).toNat)
    case atStart => exact ⟨0, Nat.zero_le _, rfl, HR, Kept.refl _ _⟩
    case round =>
      obtain ⟨k, hk, rfl, HA, HK⟩ := hrel
      by_cases hlt : k < len
      · have hlp : k < ps.length := by rw [HL.out]; exact hlt
        obtain ⟨a1, c1, e1⟩ := (show Rd .u8 w ps[k].v ps[k].bs from HV.out.data _ (List.getElem_mem hlp)).form
        have d0 : wr.cell? ⟨b, off + k * 6, none⟩ = some (.int .i64 ps[k].page) := HK.out.cellOf (p := ⟨b, off + k * 6, none⟩) (by have h := HC.out k 0 hlp (by decide); exact h) id
        have d1 : wr.cell? ⟨b, off + k * 6 + 1, none⟩ = some (ps[k].v) := HK.out.cellOf (p := ⟨b, off + k * 6 + 1, none⟩) (by have h := HC.out k 1 hlp (by decide); rw [← Nat.add_assoc] at h; exact h) id
        have d2 : wr.cell? ⟨b, off + k * 6 + 2, none⟩ = some (.int .i64 ps[k].pins) := HK.out.cellOf (p := ⟨b, off + k * 6 + 2, none⟩) (by have h := HC.out k 2 hlp (by decide); rw [← Nat.add_assoc] at h; exact h) id
        have d3 : wr.cell? ⟨b, off + k * 6 + 3, none⟩ = some (.bool ps[k].dirty) := HK.out.cellOf (p := ⟨b, off + k * 6 + 3, none⟩) (by have h := HC.out k 3 hlp (by decide); rw [← Nat.add_assoc] at h; exact h) id
        have d4 : wr.cell? ⟨b, off + k * 6 + 4, none⟩ = some (.int .i64 ps[k].rl) := HK.out.cellOf (p := ⟨b, off + k * 6 + 4, none⟩) (by have h := HC.out k 4 hlp (by decide); rw [← Nat.add_assoc] at h; exact h) id
        have d5 : wr.cell? ⟨b, off + k * 6 + 5, none⟩ = some (.bool ps[k].rf) := HK.out.cellOf (p := ⟨b, off + k * 6 + 5, none⟩) (by have h := HC.out k 5 hlp (by decide); rw [← Nat.add_assoc] at h; exact h) id
        have HA2 : Hid ((if f ps[k] = true then (k : Int) else idxFrom f (k + 1) (ps.drop (k + 1))) = R) := by have h := HA.out; rw [idxFrom_at hlp] at h; exact h
        have kf := HF.out ps[k] wr a1 c1 (List.getElem_mem hlp) e1 HK.out
        rw [e1] at d1 kf
        cases hb : f ps[k] with
        | true =>
          have HE : Hid ((k : Int) = R) := by have h := HA2.out; rw [if_pos hb] at h; exact h
          rw [hb] at kf
          clear HA2 HA e1 hb
          go_wp2_with fail
          refine kf.mono ?_
          rintro e w1 ⟨rfl, hk1⟩
          have HK1 := (show Hid (Same w w1) from HK.out.trans hk1)
          clear d0 d1 d2 d3 d4 d5 kf hk1
          go_wp2
          go_ret
          exact ⟨by rw [← HE.out]; rfl, HK1.out⟩
        | false =>
          have HE : Hid (idxFrom f (k + 1) (ps.drop (k + 1)) = R) := by have h := HA2.out; rw [if_neg (by simp [hb])] at h; exact h
          rw [hb] at kf
          clear HA2 HA e1 hb
          go_wp2_with fail
          refine kf.mono ?_
          rintro e w1 ⟨rfl, hk1⟩
          have HK1 := (show Hid (Same w w1) from HK.out.trans hk1)
          clear d0 d1 d2 d3 d4 d5 kf hk1
          go_wp2
          go_roundw
          case rel => exact ⟨k + 1, by omega, by go_num, HE, HK1⟩
          case measure => simp [intOf]; omega
      · obtain rfl : len = k := by omega
        have he : (-1 : Int) = R := by have h := HA.out; rw [← HL.out, idxFrom_end] at h; exact h
        go_wp2
        go_ret
        exact ⟨by rw [← he]; rfl, HK.out⟩
theorem containsF0_any (fid : FuncId) (f : EFrame → Bool) (v : Value) (ps : List EFrame) (w : World) (hv : RdR kFrame w v ps) (hent : Enters fid) (hf : Asks0 fid f w ps) :
    Calls Try.prog 23 #[v, .func (.func fid) #[] #[]] w fun e w' => e = .returned (.bool (ps.any f)) ∧ Same w w' := by
  have k0 := indexF0_any fid f v ps w hv hent hf
  have hx := idxFrom_any f ps 0
  obtain ⟨a, c, rfl⟩ := hv.form
  generalize idxFrom f 0 ps = r at k0 hx
  rw [← hx]
  clear hx hv hf hent
  go_enter Try.func23, Try.ntmps23
  go_wp2_with fail
  refine k0.mono ?_
  rintro e w1 ⟨rfl, hk1⟩
  go_wp2
  go_ret
  exact ⟨rfl, hk1⟩
def Asks1 (fid : FuncId) (x : Value) (f : EFrame → Bool) (w : World) (ps : List EFrame) : Prop :=
  ∀ (p : EFrame) (wx : World) (a : Option Addr) (c : Nat), p ∈ ps → p.v = .slice a p.bs.length c → Same w wx → Calls Try.prog fid #[.agg #[.int .i64 p.page, p.v, .int .i64 p.pins, .bool p.dirty, .int .i64 p.rl, .bool p.rf], x] wx fun e w' => e = .returned (.bool (f p)) ∧ Same wx w'
theorem indexF1_any (fid : FuncId) (x : Value) (f : EFrame → Bool) (v : Value) (ps : List EFrame) (w : World) (hv : RdR kFrame w v ps) (hent : Enters fid) (hf : Asks1 fid x f w ps) :
    Calls Try.prog 28 #[v, .func (.func fid) #[] #[x]] w fun e w' => e = .returned (.int .i64 (idxFrom f 0 ps)) ∧ Same w w' := by
  have hmax := hv.max
  unfold maxLen at hmax
  rcases hv.row with ⟨rfl, a, c, rfl⟩ | ⟨b, off, c, rfl, hc⟩
  · clear hv hmax hf
    go_enter Try.func28, Try.ntmps28
    go_wp2
    refine wp_loop_rounds 1 ?_
    rw [rounds_succ]
    go_wp2
    go_ret
    exact ⟨rfl, Kept.refl _ _⟩
  · have HV := (show Hid (RdR kFrame w (.slice (some ⟨b, off, none⟩) ps.length c) ps) from hv)
    have HC : Hid (∀ j i, (h : j < ps.length) → i < 6 → w.cell? ⟨b, off + (j * 6 + i), none⟩ = (kFrame.cells ps[j])[i]?) := hc
    have HF : Hid (Asks1 fid x f w ps) := hf
    obtain ⟨R, hR⟩ : ∃ R, idxFrom f 0 ps = R := ⟨_, rfl⟩
    have HR : Hid (idxFrom f 0 (ps.drop 0) = R) := by rw [List.drop_zero]; exact hR
    rw [hR]
    clear hv hc hf hR
    have hent' : ∀ (args : Array Value) (wx : World), (callFunc fid args).run Try.prog wx = .ok (.enter fid args) wx := hent
    clear hent
    generalize hl : ps.length = len at hmax HV ⊢
    have HL : Hid (ps.length = len) := hl
    clear hl
    go_enter Try.func28, Try.ntmps28
    go_wp2
    go_loopw [8] (fun i wr => ∃ k : Nat, k ≤ len ∧ i = .int .i64 k ∧ Hid (idxFrom f k (ps.drop k) = R) ∧ Hid (Same w wr)) (fun i _ => len - (intOf i).toNat)
    case atStart => exact ⟨0, Nat.zero_le _, rfl, HR, Kept.refl _ _⟩
    case round =>
      obtain ⟨k, hk, rfl, HA, HK⟩ := hrel
      by_cases hlt : k < len
      · have hlp : k < ps.length := by rw [HL.out]; exact hlt
        obtain ⟨a1, c1, e1⟩ := (show Rd .u8 w ps[k].v ps[k].bs from HV.out.data _ (List.getElem_mem hlp)).form
        have d0 : wr.cell? ⟨b, off + k * 6, none⟩ = some (.int .i64 ps[k].page) := HK.out.cellOf (p := ⟨b, off + k * 6, none⟩) (by have h := HC.out k 0 hlp (by decide); exact h) id
        have d1 : wr.cell? ⟨b, off + k * 6 + 1, none⟩ = some (ps[k].v) := HK.out.cellOf (p := ⟨b, off + k * 6 + 1, none⟩) (by have h := HC.out k 1 hlp (by decide); rw [← Nat.add_assoc] at h; exact h) id
        have d2 : wr.cell? ⟨b, off + k * 6 + 2, none⟩ = some (.int .i64 ps[k].pins) := HK.out.cellOf (p := ⟨b, off + k * 6 + 2, none⟩) (by have h := HC.out k 2 hlp (by decide); rw [← Nat.add_assoc] at h; exact h) id
        have d3 : wr.cell? ⟨b, off + k * 6 + 3, none⟩ = some (.bool ps[k].dirty) := HK.out.cellOf (p := ⟨b, off + k * 6 + 3, none⟩) (by have h := HC.out k 3 hlp (by decide); rw [← Nat.add_assoc] at h; exact h) id
        have d4 : wr.cell? ⟨b, off + k * 6 + 4, none⟩ = some (.int .i64 ps[k].rl) := HK.out.cellOf (p := ⟨b, off + k * 6 + 4, none⟩) (by have h := HC.out k 4 hlp (by decide); rw [← Nat.add_assoc] at h; exact h) id
        have d5 : wr.cell? ⟨b, off + k * 6 + 5, none⟩ = some (.bool ps[k].rf) := HK.out.cellOf (p := ⟨b, off + k * 6 + 5, none⟩) (by have h := HC.out k 5 hlp (by decide); rw [← Nat.add_assoc] at h; exact h) id
        have HA2 : Hid ((if f ps[k] = true then (k : Int) else idxFrom f (k + 1) (ps.drop (k + 1))) = R) := by have h := HA.out; rw [idxFrom_at hlp] at h; exact h
        have kf := HF.out ps[k] wr a1 c1 (List.getElem_mem hlp) e1 HK.out
        rw [e1] at d1 kf
        cases hb : f ps[k] with
        | true =>
          have HE : Hid ((k : Int) = R) := by have h := HA2.out; rw [if_pos hb] at h; exact h
          rw [hb] at kf
          clear HA2 HA e1 hb
          go_wp2_with fail
          refine kf.mono ?_
          rintro e w1 ⟨rfl, hk1⟩
          have HK1 := (show Hid (Same w w1) from HK.out.trans hk1)
          clear d0 d1 d2 d3 d4 d5 kf hk1
          go_wp2
          go_ret
          exact ⟨by rw [← HE.out]; rfl, HK1.out⟩
        | false =>
          have HE : Hid (idxFrom f (k + 1) (ps.drop (k + 1)) = R) := by have h := HA2.out; rw [if_neg (by simp [hb])] at h; exact h
          rw [hb] at kf
          clear HA2 HA e1 hb
          go_wp2_with fail
          refine kf.mono ?_
          rintro e w1 ⟨rfl, hk1⟩
          have HK1 := (show Hid (Same w w1) from HK.out.trans hk1)
          clear d0 d1 d2 d3 d4 d5 kf hk1
          go_wp2
          go_roundw
          case rel => exact ⟨k + 1, by omega, by go_num, HE, HK1⟩
          case measure => simp [intOf]; omega
      · obtain rfl : len = k := by omega
        have he : (-1 : Int) = R := by have h := HA.out; rw [← HL.out, idxFrom_end] at h; exact h
        go_wp2
        go_ret
        exact ⟨by rw [← he]; rfl, HK.out⟩
theorem enters_wf : Enters 24 := fun args wx => by simp [callFunc, go_sem, Try.func24, Try.f24]
end Go.Proofs.Ytbbllmlokddolaa

namespace Go.Proofs.Ytbbllmlokddolaa
set_option maxRecDepth 100000
set_option maxHeartbeats 4000000
open Go.RowKit
set_option linter.unusedVariables false
set_option linter.unusedSimpArgs false
def heldV (ps : List EFrame) (k : Nat) : List Value := (List.range 16).map fun (x : Nat) => .bool ((ps.take k).any fun q => q.page == (x : Int))
theorem heldV_length (ps : List EFrame) (k : Nat) : (heldV ps k).length = 16 := by simp [heldV]
theorem heldV_at (ps : List EFrame) (k x : Nat) (h : x < 16) : (heldV ps k)[x]? = some (.bool ((ps.take k).any fun q => q.page == (x : Int))) := by simp [heldV, h]
theorem heldV_zero (ps : List EFrame) : heldV ps 0 = [.bool false, .bool false, .bool false, .bool false, .bool false, .bool false, .bool false, .bool false, .bool false, .bool false, .bool false, .bool false, .bool false, .bool false, .bool false, .bool false] := rfl
theorem heldV_skip {ps : List EFrame} {k : Nat} (hk : k < ps.length) (h : ps[k].page = -1) : heldV ps (k + 1) = heldV ps k := by
  unfold heldV
  rw [List.take_succ_eq_append_getElem hk]
  apply List.map_congr_left
  intro x _
  have : (ps[k].page == (x : Int)) = false := by rw [h]; simp
  rw [List.any_append]
  simp [this]
theorem heldV_step {ps : List EFrame} {k x : Nat} (hk : k < ps.length) (hx : x < 16) (h : ps[k].page = (x : Int)) : (heldV ps k).set x (.bool true) = heldV ps (k + 1) := by
  apply List.ext_getElem?
  intro i
  by_cases hi : i < 16
  · rw [heldV_at ps (k + 1) i hi, List.take_succ_eq_append_getElem hk, List.any_append]
    by_cases he : i = x
    · subst he
      rw [List.getElem?_set_self (by rw [heldV_length]; exact hi)]
      simp [h]
    · rw [List.getElem?_set_ne (by omega), heldV_at ps k i hi]
      have : (ps[k].page == (i : Int)) = false := by rw [h]; simp; omega
      simp [this]
  · rw [List.getElem?_eq_none (by rw [List.length_set, heldV_length]; omega), List.getElem?_eq_none (by rw [heldV_length]; omega)]
def PageOK (p : EFrame) : Prop := p.page = -1 ∨ ∃ x : Nat, p.page = (x : Int) ∧ x < 16
theorem pageOK_of {p : EFrame} (h : bad3 p = false) : PageOK p := by
  unfold bad3 at h
  by_cases hm : p.page = -1
  · exact .inl hm
  · rw [if_neg hm] at h
    simp [inB] at h
    exact .inr ⟨p.page.toNat, by omega, by omega⟩
theorem any_range_step {f : Nat → Bool} {k : Nat} (h : (List.range k).any f = false) (hk : f k = false) : (List.range (k + 1)).any f = false := by
  rw [List.range_succ, List.any_append, h]
  simp [hk]
theorem pageTwice_any (v : Value) (ps : List EFrame) (w : World) (hv : RdR kFrame w v ps) (hp : ∀ p ∈ ps, PageOK p) :
    Calls Try.prog 26 #[v] w fun e w' => e = .returned (.bool (dup ps)) ∧ Same w w' := by
  have hmax := hv.max
  unfold maxLen at hmax
  rcases hv.row with ⟨rfl, a, c, rfl⟩ | ⟨b, off, c, rfl, hc⟩
  · clear hv hmax hp
    go_enter Try.func26, Try.ntmps26
    go_wp2
    refine wp_loop_rounds 1 ?_
    rw [rounds_succ]
    go_wp2
    go_ret
    exact ⟨rfl, (Kept.refl _ _).alloc _⟩
  · have HV := (show Hid (RdR kFrame w (.slice (some ⟨b, off, none⟩) ps.length c) ps) from hv)
    have HC : Hid (∀ j i, (h : j < ps.length) → i < 6 → w.cell? ⟨b, off + (j * 6 + i), none⟩ = (kFrame.cells ps[j])[i]?) := hc
    have HP : Hid (∀ p ∈ ps, PageOK p) := hp
    obtain ⟨R, hR⟩ : ∃ R, dup ps = R := ⟨_, rfl⟩
    have HR : Hid (dup ps = R) := hR
    rw [hR]
    clear hv hc hp hR
    generalize hl : ps.length = len at hmax HV ⊢
    have HL : Hid (ps.length = len) := hl
    clear hl
    have HB0 := (show Hid (Blk (w.alloc (.cells #[.bool false, .bool false, .bool false, .bool false, .bool false, .bool false, .bool false, .bool false, .bool false, .bool false, .bool false, .bool false, .bool false, .bool false, .bool false, .bool false] 69)) w.heap.size 69 (heldV ps 0)) from by rw [heldV_zero]; exact Blk.newL w [.bool false, .bool false, .bool false, .bool false, .bool false, .bool false, .bool false, .bool false, .bool false, .bool false, .bool false, .bool false, .bool false, .bool false, .bool false, .bool false] 69)
    go_enter Try.func26, Try.ntmps26
    go_wp2
    go_loopw [8] (fun i wr => ∃ k : Nat, k ≤ len ∧ i = .int .i64 k ∧ Hid ((List.range k).any (dupAt ps) = false) ∧ Hid (Blk wr w.heap.size 69 (heldV ps k)) ∧ Hid (Same w wr)) (fun i _ => len - (intOf i).toNat)
    case atStart => exact ⟨0, Nat.zero_le _, rfl, rfl, HB0, (Kept.refl _ _).alloc _⟩
    case round =>
      obtain ⟨k, hk, rfl, HA, HB, HK⟩ := hrel
      by_cases hlt : k < len
      · have hlp : k < ps.length := by rw [HL.out]; exact hlt
        obtain ⟨a1, c1, e1⟩ := (show Rd .u8 w ps[k].v ps[k].bs from HV.out.data _ (List.getElem_mem hlp)).form
        have hpk := HP.out ps[k] (List.getElem_mem hlp)
        have hda : dupAt ps k = (ps[k].page != -1 && (ps.take k).any (fun q => ps[k].page == q.page)) := by unfold dupAt; rw [List.getElem?_eq_getElem hlp]
        have d0 : wr.cell? ⟨b, off + k * 6, none⟩ = some (.int .i64 ps[k].page) := HK.out.cellOf (p := ⟨b, off + k * 6, none⟩) (by have h := HC.out k 0 hlp (by decide); exact h) id
        have d1 : wr.cell? ⟨b, off + k * 6 + 1, none⟩ = some (ps[k].v) := HK.out.cellOf (p := ⟨b, off + k * 6 + 1, none⟩) (by have h := HC.out k 1 hlp (by decide); rw [← Nat.add_assoc] at h; exact h) id
        have d2 : wr.cell? ⟨b, off + k * 6 + 2, none⟩ = some (.int .i64 ps[k].pins) := HK.out.cellOf (p := ⟨b, off + k * 6 + 2, none⟩) (by have h := HC.out k 2 hlp (by decide); rw [← Nat.add_assoc] at h; exact h) id
        have d3 : wr.cell? ⟨b, off + k * 6 + 3, none⟩ = some (.bool ps[k].dirty) := HK.out.cellOf (p := ⟨b, off + k * 6 + 3, none⟩) (by have h := HC.out k 3 hlp (by decide); rw [← Nat.add_assoc] at h; exact h) id
        have d4 : wr.cell? ⟨b, off + k * 6 + 4, none⟩ = some (.int .i64 ps[k].rl) := HK.out.cellOf (p := ⟨b, off + k * 6 + 4, none⟩) (by have h := HC.out k 4 hlp (by decide); rw [← Nat.add_assoc] at h; exact h) id
        have d5 : wr.cell? ⟨b, off + k * 6 + 5, none⟩ = some (.bool ps[k].rf) := HK.out.cellOf (p := ⟨b, off + k * 6 + 5, none⟩) (by have h := HC.out k 5 hlp (by decide); rw [← Nat.add_assoc] at h; exact h) id
        rw [e1] at d1
        obtain ⟨pg, hpg⟩ : ∃ x, ps[k].page = x := ⟨_, rfl⟩
        unfold PageOK at hpk
        rw [hpg] at hpk d0 hda
        have HPG : Hid (ps[k].page = pg) := hpg
        have hwl : w.heap.size < wr.heap.size := HB.out.lt
        have hki : (k : Int) < (len : Int) := by omega
        clear hpg e1
        rcases hpk with rfl | ⟨x, rfl, hx⟩
        · have HD : Hid (dupAt ps k = false) := by rw [hda]; rfl
          clear hda
          go_wp2
          go_roundw
          case rel => exact ⟨k + 1, by omega, by go_num, any_range_step HA.out HD.out, by rw [heldV_skip hlp HPG.out]; exact HB.out.same ((Kept.refl _ _).alloc _), HK.out.alloc _⟩
          case measure => simp [intOf]; omega
        · have hcx := HB.out.cell x
          rw [heldV_at ps k x hx] at hcx
          have fz := HB.out.frozen
          have hsame : ((ps.take k).any fun q => (x : Int) == q.page) = (ps.take k).any fun q => q.page == (x : Int) := by
            congr 1
            funext q
            rw [Bool.eq_iff_iff]
            simp
            omega
          rw [hsame, show ((x : Int) != -1) = true from by simp, Bool.true_and] at hda
          cases hb : (ps.take k).any fun q => q.page == (x : Int) with
          | true =>
            rw [hb] at hcx hda
            have HD : Hid (dupAt ps k = true) := hda
            clear hda hb hsame
            go_wp2
            go_ret
            refine ⟨?_, HK.out.alloc _⟩
            rw [← HR.out, show dup ps = true from List.any_eq_true.2 ⟨k, by simpa using hlp, HD.out⟩]
            rfl
          | false =>
            rw [hb] at hcx hda
            have HD : Hid (dupAt ps k = false) := hda
            clear hda hb hsame
            go_wp2
            go_roundw
            case rel =>
              refine ⟨k + 1, by omega, by go_num, any_range_step HA.out HD.out, ?_, ?_⟩
              · rw [← heldV_step hlp hx HPG.out]
                exact (HB.out.stored x (.bool true)).alloc _
              · exact (Kept.setCell HK.out (p := ⟨w.heap.size, x, none⟩) (.inl (Nat.le_refl _)) _).alloc _
            case measure => simp [intOf]; omega
      · obtain rfl : len = k := by omega
        go_wp2
        go_ret
        refine ⟨?_, HK.out⟩
        have h := HA.out
        rw [← HL.out] at h
        rw [← HR.out, show dup ps = false from h]
        rfl
end Go.Proofs.Ytbbllmlokddolaa

namespace Go.Proofs.Ytbbllmlokddolaa
set_option maxRecDepth 100000
set_option maxHeartbeats 4000000
open Go.RowKit
set_option linter.unusedVariables false
set_option linter.unusedSimpArgs false
theorem enters_wr : Enters 25 := fun args wx => by simp [callFunc, go_sem, Try.func25, Try.f25]
theorem implPoolFault_any (v : Value) (hand : Int) (ps : List EFrame) (w : World) (hv : RdR kFrame w v ps) :
    Calls Try.prog 7 #[.agg #[v, .int .i64 hand]] w fun e w' => e = .returned (.int .i64 (poolF ps hand)) ∧ Same w w' := by
  obtain ⟨a, c, rfl⟩ := hv.form
  have hmax := hv.max
  unfold maxLen at hmax
  have HV := (show Hid (RdR kFrame w (.slice a ps.length c) ps) from hv)
  clear hv
  have HB0 := (show Hid (Blk (w.alloc (.cells #[.slice a ps.length c, .int .i64 hand] 25)) w.heap.size 25 [.slice a ps.length c, .int .i64 hand]) from Blk.newL w [.slice a ps.length c, .int .i64 hand] 25)
  have HK0 := hid (sameA w [.slice a ps.length c, .int .i64 hand] 25)
  have k3 := fun (wx : World) (h : Same w wx) => containsF0_any 24 bad3 (.slice a ps.length c) ps wx (HV.out.same h) enters_wf (fun p wy a1 c1 hp he hk => wrongFrame_any p a1 c1 wy he)
  have k4 := fun (wx : World) (h : Same w wx) => containsF0_any 25 bad4 (.slice a ps.length c) ps wx (HV.out.same h) enters_wr (fun p wy a1 c1 hp he hk => wrongRecLSN_any p a1 c1 wy he)
  obtain ⟨len, hl⟩ : ∃ n, ps.length = n := ⟨_, rfl⟩
  have HL : Hid (ps.length = len) := hl
  obtain ⟨R, hR⟩ : ∃ R, poolF ps hand = R := ⟨_, rfl⟩
  rw [hR]
  unfold poolF at hR
  rw [hl] at HV HB0 HK0 hmax hR k3 k4 ⊢
  clear hl
  by_cases h1 : len < 1 ∨ 16 < len
  · rw [if_pos h1] at hR
    subst hR
    by_cases h1a : len < 1
    · have q : ((len : Int) < 1) := by omega
      clear h1
      go_enter Try.func7, Try.ntmps7
      go_wp2
      go_ret
      exact ⟨rfl, HK0.out⟩
    · have q : ¬ ((len : Int) < 1) := by omega
      have q2 : (16 : Int) < (len : Int) := by omega
      clear h1
      go_enter Try.func7, Try.ntmps7
      go_wp2
      go_ret
      exact ⟨rfl, HK0.out⟩
  rw [if_neg h1] at hR
  have q1 : ¬ ((len : Int) < 1) := by omega
  have q2 : ¬ ((16 : Int) < (len : Int)) := by omega
  have hl16 : len ≤ 16 := by omega
  clear h1
  by_cases h2 : hand < 0 ∨ (len : Int) ≤ hand
  · rw [if_pos h2] at hR
    subst hR
    by_cases h2a : hand < 0
    · clear h2
      go_enter Try.func7, Try.ntmps7
      go_wp2
      go_ret
      exact ⟨rfl, HK0.out⟩
    · have q3 : (len : Int) ≤ hand := by omega
      clear h2
      go_enter Try.func7, Try.ntmps7
      go_wp2
      go_ret
      exact ⟨rfl, HK0.out⟩
  rw [if_neg h2] at hR
  have q3 : ¬ hand < 0 := by omega
  have q4 : ¬ (len : Int) ≤ hand := by omega
  clear h2
  cases f3 : ps.any bad3 with
  | true =>
    rw [f3] at k3 hR
    rw [if_pos rfl] at hR
    subst hR
    go_enter Try.func7, Try.ntmps7
    go_wp2_with fail
    refine (k3 _ HK0.out).mono ?_
    rintro e w1 ⟨rfl, hk1⟩
    have HK1 := (show Hid (Same w w1) from (HK0.out).trans hk1)
    obtain ⟨g1, g1'⟩ := (HB0.out.same hk1).all2
    have HB1 := hid (HB0.out.same hk1)
    clear hk1
    go_wp2
    go_ret
    exact ⟨rfl, HK1.out⟩
  | false =>
    have hpo : ∀ p ∈ ps, PageOK p := fun p hp => pageOK_of (by
      cases hx : bad3 p with
      | false => rfl
      | true => rw [List.any_eq_true.2 ⟨p, hp, hx⟩] at f3; cases f3)
    have k5 := fun (wx : World) (h : Same w wx) => pageTwice_any (.slice a len c) ps wx (HV.out.same h) hpo
    rw [f3] at k3 hR
    rw [if_neg (by simp)] at hR
    cases f4 : ps.any bad4 with
    | true =>
      rw [f4] at k4 hR
      rw [if_pos rfl] at hR
      subst hR
      go_enter Try.func7, Try.ntmps7
      go_wp2_with fail
      refine (k3 _ HK0.out).mono ?_
      rintro e w1 ⟨rfl, hk1⟩
      have HK1 := (show Hid (Same w w1) from (HK0.out).trans hk1)
      obtain ⟨g1, g1'⟩ := (HB0.out.same hk1).all2
      have HB1 := hid (HB0.out.same hk1)
      clear hk1
      go_wp2_with fail
      refine (k4 _ HK1.out).mono ?_
      rintro e w2 ⟨rfl, hk2⟩
      have HK2 := (show Hid (Same w w2) from (HK1.out).trans hk2)
      obtain ⟨g2, g2'⟩ := (HB1.out.same hk2).all2
      have HB2 := hid (HB1.out.same hk2)
      clear hk2
      go_wp2
      go_ret
      exact ⟨rfl, HK2.out⟩
    | false =>
      rw [f4] at k4 hR
      rw [if_neg (by simp)] at hR
      cases f5 : dup ps with
      | true =>
        rw [f5] at k5 hR
        rw [if_pos rfl] at hR
        subst hR
        go_enter Try.func7, Try.ntmps7
        go_wp2_with fail
        refine (k3 _ HK0.out).mono ?_
        rintro e w1 ⟨rfl, hk1⟩
        have HK1 := (show Hid (Same w w1) from (HK0.out).trans hk1)
        obtain ⟨g1, g1'⟩ := (HB0.out.same hk1).all2
        have HB1 := hid (HB0.out.same hk1)
        clear hk1
        go_wp2_with fail
        refine (k4 _ HK1.out).mono ?_
        rintro e w2 ⟨rfl, hk2⟩
        have HK2 := (show Hid (Same w w2) from (HK1.out).trans hk2)
        obtain ⟨g2, g2'⟩ := (HB1.out.same hk2).all2
        have HB2 := hid (HB1.out.same hk2)
        clear hk2
        go_wp2_with fail
        refine (k5 _ HK2.out).mono ?_
        rintro e w3 ⟨rfl, hk3⟩
        have HK3 := (show Hid (Same w w3) from (HK2.out).trans hk3)
        obtain ⟨g3, g3'⟩ := (HB2.out.same hk3).all2
        have HB3 := hid (HB2.out.same hk3)
        clear hk3
        go_wp2
        go_ret
        exact ⟨rfl, HK3.out⟩
      | false =>
        rw [f5] at k5 hR
        rw [if_neg (by simp)] at hR
        subst hR
        go_enter Try.func7, Try.ntmps7
        go_wp2_with fail
        refine (k3 _ HK0.out).mono ?_
        rintro e w1 ⟨rfl, hk1⟩
        have HK1 := (show Hid (Same w w1) from (HK0.out).trans hk1)
        obtain ⟨g1, g1'⟩ := (HB0.out.same hk1).all2
        have HB1 := hid (HB0.out.same hk1)
        clear hk1
        go_wp2_with fail
        refine (k4 _ HK1.out).mono ?_
        rintro e w2 ⟨rfl, hk2⟩
        have HK2 := (show Hid (Same w w2) from (HK1.out).trans hk2)
        obtain ⟨g2, g2'⟩ := (HB1.out.same hk2).all2
        have HB2 := hid (HB1.out.same hk2)
        clear hk2
        go_wp2_with fail
        refine (k5 _ HK2.out).mono ?_
        rintro e w3 ⟨rfl, hk3⟩
        have HK3 := (show Hid (Same w w3) from (HK2.out).trans hk3)
        obtain ⟨g3, g3'⟩ := (HB2.out.same hk3).all2
        have HB3 := hid (HB2.out.same hk3)
        clear hk3
        go_wp2
        go_ret
        exact ⟨rfl, HK3.out⟩
end Go.Proofs.Ytbbllmlokddolaa

namespace Go.Proofs.Ytbbllmlokddolaa
set_option maxRecDepth 100000
set_option maxHeartbeats 8000000
open Go.RowKit
set_option linter.unusedVariables false
set_option linter.unusedSimpArgs false
theorem Try.infoPtrF : (Try.prog.info? 78).map (fun i => (i.zero, i.size, i.bytes)) = some (some (.pointer none), 1, 8) := by kernel_rfl
theorem made_ptrs (n : Nat) : (madeCells (Value.pointer none).cells (n * 1)).toList.take (n * 1) = List.replicate n (.pointer none) := by
  apply List.ext_getElem?
  intro j
  by_cases hj : j < n
  · rw [List.getElem?_take_of_lt (by omega)]
    simp [madeCells, hj, Value.cells, Nat.mod_one]
  · rw [List.getElem?_eq_none (by simp [madeCells]; omega), List.getElem?_eq_none (by simp; omega)]
structure FP (w : World) (P : Nat) (hand : Int) (g n cap : Nat) (bl : List Nat) (ps : List EFrame) : Prop where
  top : Blk w P 77 [.slice (some ⟨g, 0, none⟩) n cap, .int .i64 hand]
  len : n = ps.length
  row : w.ownsRow 0 78 1 (.slice (some ⟨g, 0, none⟩) n cap) n (bl.map ptrV)
  ptr : Ptrs kFrame 36 5 w bl ps
  pg : P ≠ g
  outP : ¬ footS kFrame bl ps P
  outg : ¬ footS kFrame bl ps g
def footFP (P g : Nat) (bl : List Nat) (ps : List EFrame) (b : Nat) : Prop := b = P ∨ b = g ∨ footS kFrame bl ps b
theorem ptrs_step (bl : List Nat) (n k b : Nat) (hk : k < n) (hl : bl.length = k) : (bl.map ptrV ++ List.replicate (n - k) (Value.pointer none)).set k (ptrV b) = (bl ++ [b]).map ptrV ++ List.replicate (n - (k + 1)) (Value.pointer none) := by
  rw [List.set_append_right (h := by simp [hl]), List.length_map, hl, Nat.sub_self, show n - k = (n - (k + 1)) + 1 from by omega, List.replicate_succ, List.set_cons_zero]
  simp
theorem openPool_any (v : Value) (hand : Int) (ps : List EFrame) (w : World) (hv : RdR kFrame w v ps) (hl0 : 1 ≤ ps.length) (hl16 : ps.length ≤ 16) (hsm : ∀ p ∈ ps, p.bs.length ≤ 1099511627776) :
    Calls Try.prog 48 #[.agg #[v, .int .i64 hand]] w fun e w' => ∃ P g n cap bl qs, e = .returned (.pointer (some ⟨P, 0, none⟩)) ∧ datFrameS qs = datFrameS ps ∧ FP w' P hand g n cap bl qs ∧ (∀ b, footFP P g bl qs b → w.heap.size ≤ b) ∧ Same w w' := by
  obtain ⟨i0, hi, hz0, hz1, hz2⟩ := info_parts Try.infoPtrF
  rcases hv.row with ⟨hps, _⟩ | ⟨b, off, c, rfl, hc⟩
  · rw [hps] at hl0; simp at hl0
  have HV := (show Hid (RdR kFrame w (.slice (some ⟨b, off, none⟩) ps.length c) ps) from hv)
  have HC : Hid (∀ j i, (h : j < ps.length) → i < 6 → w.cell? ⟨b, off + (j * 6 + i), none⟩ = (kFrame.cells ps[j])[i]?) := hc
  have HS : Hid (∀ p ∈ ps, p.bs.length ≤ 1099511627776) := hsm
  clear hv hc hsm
  generalize hl : ps.length = len at hl0 hl16 HV ⊢
  have HL : Hid (ps.length = len) := hl
  clear hl
  have HB0 := (show Hid (Blk (w.alloc (.cells #[.slice (some ⟨b, off, none⟩) len c, .int .i64 hand] 25)) w.heap.size 25 [.slice (some ⟨b, off, none⟩) len c, .int .i64 hand]) from Blk.newL w [.slice (some ⟨b, off, none⟩) len c, .int .i64 hand] 25)
  go_enter Try.func48, Try.ntmps48
  go_wp2_with fail
  go_cut [3] (fun v wc => ∃ (P g : Nat), v = .pointer (some ⟨P, 0, none⟩) ∧ Hid (Blk wc P 77 [.slice (some ⟨g, 0, none⟩) len len, .int .i64 hand]) ∧ w.heap.size < P ∧ P ≠ g ∧ w.heap.size < g ∧ Hid (wc.ownsRow 0 78 1 (.slice (some ⟨g, 0, none⟩) len len) len (List.replicate len (.pointer none))) ∧
      Hid (Blk wc w.heap.size 25 [.slice (some ⟨b, off, none⟩) len c, .int .i64 hand]) ∧ Hid (Same w wc))
  case first =>
    have hS : (fun wx : World => wx.cell? ⟨w.heap.size, 0, none⟩ = some (.slice (some ⟨b, off, none⟩) len c) ∧ wx.cell? ⟨w.heap.size, 1, none⟩ = some (.int .i64 hand)) (w.alloc (.cells #[.slice (some ⟨b, off, none⟩) len c, .int .i64 hand] 25)).drew := ⟨HB0.out.cell 0, HB0.out.cell 1⟩
    refine wp_region_V (fun wx : World => wx.cell? ⟨w.heap.size, 0, none⟩ = some (.slice (some ⟨b, off, none⟩) len c) ∧ wx.cell? ⟨w.heap.size, 1, none⟩ = some (.int .i64 hand)) 9 10 rfl (by kernel_rfl) ?_
    refine tk 0 6 hS ?_
    refine tk 1 7 hS ?_
    refine tk 2 8 hS ?_
    refine tk 4 10 hS ?_
    refine tk 5 11 hS ?_
    refine wpAnyV_one (i := 3) (by kernel_rfl) rfl (fun K hK => ?_)
    refine step_mk (by rfl) (.tmp 8) (.tmp 8) 73 (by rfl) 0 78 i0 _ 1 Try.underlying73 hi hz0 hz1 .i64 .i64 _ _ len len (by rfl) (by rfl) (by rfl) (by rfl) (Nat.le_refl _) (by rw [hz2]; omega) (by unfold maxLen; omega) (Nat.zero_le _) ?_
    intro w1 hown1 hgrow1 hlt1
    rw [made_ptrs] at hown1
    have hk1 : Same (w.alloc (.cells #[.slice (some ⟨b, off, none⟩) len c, .int .i64 hand] 25)) w1 := (Kept.refl (fun _ => False) (w.alloc (.cells #[.slice (some ⟨b, off, none⟩) len c, .int .i64 hand] 25))).drew.trans (Kept.of_grown hgrow1 (fun k e => by cases e))
    have HK1 := (show Hid (Same (w.alloc (.cells #[.slice (some ⟨b, off, none⟩) len c, .int .i64 hand] 25)) w1) from hk1)
    have HO1 := (show Hid (w1.ownsRow 0 78 1 (.slice (some ⟨w.heap.size + 1, 0, none⟩) len len) len (List.replicate len (.pointer none))) from (by unfold Hid; simpa using hown1))
    have hz1' : w.heap.size + 1 < w1.heap.size := by simpa using hlt1
    have hB1 := HB0.out.same hk1
    have hS1 : (fun wx : World => wx.cell? ⟨w.heap.size, 0, none⟩ = some (.slice (some ⟨b, off, none⟩) len c) ∧ wx.cell? ⟨w.heap.size, 1, none⟩ = some (.int .i64 hand)) w1 := ⟨hB1.cell 0, hB1.cell 1⟩
    refine hK.out _ _ (fun _ => hS1) ?_
    clear hK K hown1 hgrow1 hlt1 hk1
    try simp only [Act.put, sA, s0, sS]
    refine tk 6 12 hS1 ?_
    refine tk 7 13 hS1 ?_
    refine wpAnyV_one (i := 8) (by kernel_rfl) rfl (fun K hK => ?_)
    go_simp
    have hS2 : (fun wx : World => wx.cell? ⟨w.heap.size, 0, none⟩ = some (.slice (some ⟨b, off, none⟩) len c) ∧ wx.cell? ⟨w.heap.size, 1, none⟩ = some (.int .i64 hand)) (w1.alloc (.cells #[.slice (some ⟨w.heap.size + 1, 0, none⟩) len len, .int .i64 hand] 77)) := ⟨(hB1.alloc _).cell 0, (hB1.alloc _).cell 1⟩
    refine hK.out _ _ (fun _ => hS2) ?_
    clear hK K
    try simp only [Act.put, sA, s0, sS]
    refine wpAnyV_one (i := 9) (by kernel_rfl) rfl (fun K hK => ?_)
    go_simp
    refine hK.out _ _ (fun h => absurd rfl h) ?_
    clear hK K
    refine wpAnyV_done (by kernel_rfl) ?_
    try simp only [Act.put, sA, s0, sS]
    go_wp2_with fail
    go_meet
    case rel =>
      refine ⟨w1.heap.size, w.heap.size + 1, rfl, Blk.newL _ _ _, by omega, by omega, by omega, ?_, hB1.alloc _, ?_⟩
      · exact Kept.owns (R := fun _ => False) ((Kept.refl _ _).alloc _) HO1.out (fun _ _ => id)
      · exact (((Kept.refl _ _).alloc _).trans HK1.out).alloc _
  obtain ⟨P, g, rfl, HX, hP, hPg, hg, HR, HB, HK⟩ := hcut
  obtain ⟨x0, x1⟩ := HB.out.all2
  have hPl := HX.out.lt
  have hgl : g < wc.heap.size := (World.ownsRow.lt HR.out g rfl).2
  clear HB0
  go_wp2_with fail
  go_loopw [18] (fun i wr => ∃ (k : Nat) (bl : List Nat) (qs : List EFrame), k ≤ len ∧ i = .int .i64 k ∧ Hid (bl.length = k) ∧ Hid (datFrameS qs = datFrameS (ps.take k)) ∧ Hid (Blk wr P 77 [.slice (some ⟨g, 0, none⟩) len len, .int .i64 hand]) ∧
      Hid (wr.ownsRow 0 78 1 (.slice (some ⟨g, 0, none⟩) len len) len (bl.map ptrV ++ List.replicate (len - k) (.pointer none))) ∧ Hid (Ptrs kFrame 36 5 wr bl qs) ∧ Hid (∀ b, footS kFrame bl qs b → wc.heap.size ≤ b) ∧ Hid (Same w wr) ∧ wc.heap.size ≤ wr.heap.size) (fun i _ => len - (intOf i).toNat)
  case atStart => exact ⟨0, [], [], Nat.zero_le _, rfl, rfl, rfl, HX, HR, Ptrs.nil _ _ _ _, fun b h => by rcases h with h | ⟨p, h, _⟩ <;> simp at h, HK, Nat.le_refl _⟩
  case round =>
    obtain ⟨k, bl, qs, hk, rfl, HBL, HQ, HXr, HRr, HPr, HFr, HKr, hzr⟩ := hrel
    by_cases hlt : k < len
    · have hlp : k < ps.length := by rw [HL.out]; exact hlt
      obtain ⟨p, hp⟩ : ∃ p, ps[k] = p := ⟨_, rfl⟩
      have hrd : Rd .u8 w ps[k].v ps[k].bs := HV.out.data _ (List.getElem_mem hlp)
      have hm1 := HS.out _ (List.getElem_mem hlp)
      have hcc : ∀ i, i < 6 → wr.cell? ⟨b, off + (k * 6 + i), none⟩ = (kFrame.cells ps[k])[i]? := fun i hi => by
        have h := HC.out k i hlp hi
        have hlen : (kFrame.cells ps[k]).length = 6 := kFrame.len _
        rw [List.getElem?_eq_getElem (by omega)] at h ⊢
        exact HKr.out.cellOf h id
      rw [hp] at hrd hm1 hcc
      have HPE : Hid (ps[k] = p) := hp
      clear hp
      obtain ⟨pg, pv, fb, pn, dt, rl, rf⟩ := p
      dsimp only at hrd hm1
      obtain ⟨a1, c1, e1⟩ := hrd.form
      subst e1
      obtain ⟨n1, hn1⟩ : ∃ n, fb.length = n := ⟨_, rfl⟩
      rw [hn1] at hrd hcc
      have HRD := (show Hid (Rd .u8 w (.slice a1 n1 c1) fb) from hrd)
      have HM1 : Hid (fb.length ≤ 1099511627776) := hm1
      have d0 : wr.cell? ⟨b, off + k * 6, none⟩ = some (.int .i64 pg) := by have h := hcc 0 (by decide); exact h
      have d1 : wr.cell? ⟨b, off + k * 6 + 1, none⟩ = some (.slice a1 n1 c1) := by have h := hcc 1 (by decide); rw [← Nat.add_assoc] at h; exact h
      have d2 : wr.cell? ⟨b, off + k * 6 + 2, none⟩ = some (.int .i64 pn) := by have h := hcc 2 (by decide); rw [← Nat.add_assoc] at h; exact h
      have d3 : wr.cell? ⟨b, off + k * 6 + 3, none⟩ = some (.bool dt) := by have h := hcc 3 (by decide); rw [← Nat.add_assoc] at h; exact h
      have d4 : wr.cell? ⟨b, off + k * 6 + 4, none⟩ = some (.int .i64 rl) := by have h := hcc 4 (by decide); rw [← Nat.add_assoc] at h; exact h
      have d5 : wr.cell? ⟨b, off + k * 6 + 5, none⟩ = some (.bool rf) := by have h := hcc 5 (by decide); rw [← Nat.add_assoc] at h; exact h
      clear hcc hrd hm1 hn1 x0 x1
      have ba := Blk.newL wr [.int .i64 pg, .slice a1 n1 c1, .int .i64 pn, .bool dt, .int .i64 rl, .bool rf] 36
      have hki : (k : Int) < (len : Int) := by omega
      go_wp2_with fail
      refine (cloneS_any _ fb _ HM1.out (HRD.out.same (HKr.out.trans ((Kept.refl _ _).alloc _)))).mono ?_
      rintro e w2 ⟨a4, n4, c4, rfl, ho4, hf4, hk4⟩
      have HB4 := hid (ba.same hk4)
      have HK4 := (show Hid (Same wr w2) from ((Kept.refl _ _).alloc _).trans hk4)
      have HO4 := (show Hid (Own 0 5 .u8 w2 (.slice a4 n4 c4) fb) from ho4)
      have HF4 : Hid (∀ b, (Value.slice a4 n4 c4).ownBlock = some b → wr.heap.size < b) := fun b hb => by have h := hf4 b hb; rw [World.size_alloc] at h; omega
      clear ho4 hf4 hk4 ba d0 d1 d2 d3 d4 d5
      have h2l : wr.heap.size < w2.heap.size := HB4.out.lt
      obtain ⟨c0, c1', c2, c3, c4', c5⟩ := HB4.out.all6
      have fz := HB4.out.frozen
      obtain ⟨y0, y1⟩ := (HXr.out.same HK4.out).all2
      have hrow4 := Kept.owns HK4.out HRr.out (fun _ _ => id)
      have yk : w2.cell? ⟨g, k, none⟩ = some (.pointer none) := by
        have h := World.ownsRow.cellAt hrow4 k (by omega)
        rw [h, List.getElem?_append_right (by simp [HBL.out]), List.length_map, HBL.out, Nat.sub_self, List.getElem?_replicate, if_pos (by omega)]
      have fg := World.ownsRow.frozenAt hrow4
      have HR4 := hid hrow4
      clear hrow4
      have HK23 := (show Hid (Kept (fun b => b = wr.heap.size) w2 (w2.setCell ⟨wr.heap.size, 1, none⟩ (.slice a4 n4 c4))) from Kept.setCell (R := fun b => b = wr.heap.size) (Kept.refl _ _) (p := ⟨wr.heap.size, 1, none⟩) (.inr rfl) _)
      have HK34 := (show Hid (Kept (fun b => b = g) (w2.setCell ⟨wr.heap.size, 1, none⟩ (.slice a4 n4 c4)) ((w2.setCell ⟨wr.heap.size, 1, none⟩ (.slice a4 n4 c4)).setCell ⟨g, k, none⟩ (.pointer (some ⟨wr.heap.size, 0, none⟩)))) from Kept.setCell (R := fun b => b = g) (Kept.refl _ _) (p := ⟨g, k, none⟩) (.inr rfl) _)
      have HFT : Hid (∀ b, footS kFrame bl qs b → wc.heap.size ≤ b ∧ b < wr.heap.size) := fun b hb => ⟨HFr.out b hb, HPr.out.lt b hb⟩
      have HU3 := (show Hid (Own 0 5 .u8 (w2.setCell ⟨wr.heap.size, 1, none⟩ (.slice a4 n4 c4)) (.slice a4 n4 c4) fb) from HO4.out.kept HK23.out (fun b hb e => by have := HF4.out b hb; omega))
      have HP3 := (show Hid (Ptrs kFrame 36 5 (w2.setCell ⟨wr.heap.size, 1, none⟩ (.slice a4 n4 c4)) (bl ++ [wr.heap.size]) (qs ++ [(⟨pg, .slice a4 n4 c4, fb, pn, dt, rl, rf⟩ : EFrame)])) from
        Ptrs.snoc (p := (⟨pg, .slice a4 n4 c4, fb, pn, dt, rl, rf⟩ : EFrame)) ((HPr.out.same HK4.out).kept HK23.out (fun b hb e => by have := HFT.out b hb; omega)) (HB4.out.stored 1 _) HU3.out (fun h => by have := HFT.out _ h; omega)
          (fun x hx => ⟨fun h => by have h1 := HFT.out x h; have h2 := HF4.out x hx; omega, by have h2 := HF4.out x hx; omega⟩))
      have HFN : Hid (∀ b, footS kFrame (bl ++ [wr.heap.size]) (qs ++ [(⟨pg, .slice a4 n4 c4, fb, pn, dt, rl, rf⟩ : EFrame)]) b → wc.heap.size ≤ b) := fun b hb => by
        rcases hb with hb | ⟨q, hq, hb⟩
        · rcases List.mem_append.1 hb with hb | hb
          · exact (HFT.out b (.inl hb)).1
          · simp at hb; omega
        · rcases List.mem_append.1 hq with hq | hq
          · exact (HFT.out b (.inr ⟨q, hq, hb⟩)).1
          · simp at hq
            subst hq
            have := HF4.out b hb
            omega
      go_wp2
      go_roundw
      case rel =>
        refine ⟨k + 1, bl ++ [wr.heap.size], qs ++ [(⟨pg, .slice a4 n4 c4, fb, pn, dt, rl, rf⟩ : EFrame)], by omega, by go_num, ?_, ?_, ?_, ?_, HP3.out.kept HK34.out (fun b hb e => by have := HFN.out b hb; omega), HFN, ?_, ?_⟩
        · have := HBL.out; simp [Hid, this]
        · have h1 := HQ.out
          unfold Hid
          rw [List.take_succ_eq_append_getElem hlp, HPE.out]
          simp only [datFrameS, List.map_append] at h1 ⊢
          rw [h1]; rfl
        · exact ((HXr.out.same HK4.out).kept HK23.out (by intro e; omega)).kept HK34.out hPg
        · unfold Hid
          rw [← ptrs_step bl len k wr.heap.size hlt HBL.out]
          exact (World.ownsRow.stored (Kept.owns HK23.out HR4.out (fun x hx e => by simp [Value.ownBlock] at hx; omega)) k _).1
        · exact ((HKr.out.trans HK4.out).next HK23.out (fun i hi e => by omega)).next HK34.out (fun i hi e => by omega)
        · simp [World.setCell]; omega
      case measure => simp [intOf]; omega
    · obtain rfl : len = k := by omega
      go_wp2
      go_ret
      refine ⟨P, g, len, len, bl, qs, rfl, ?_, ⟨HXr.out, ?_, ?_, HPr.out, hPg, fun h => by have := HFr.out _ h; omega, fun h => by have := HFr.out _ h; omega⟩, ?_, HKr.out⟩
      · have h := HQ.out
        rw [← HL.out, List.take_length] at h
        exact h
      · rw [← HPr.out.len]; exact HBL.out.symm
      · have h := HRr.out
        rw [Nat.sub_self, List.replicate_zero, List.append_nil] at h
        exact h
      · intro b hb
        rcases hb with rfl | rfl | hb
        · omega
        · omega
        · have h1 := HFr.out b hb
          have h2 := HK.out.size
          omega
end Go.Proofs.Ytbbllmlokddolaa
