/-
  WHAT IS ONLY READ: slices of integers, pending writes and disks anywhere in memory (arguments; a part of a row). No program in sight.
-/
import Derived.Test.YtednajibnjofmaaMem
namespace Go.Proofs.Ytednajibnjofmaa
open Go.RowKit

/-- v is a slice, wherever it lies, that reads as the integers bs. -/
def Rd (k : IntKind) (w : World) (v : Value) (bs : List Int) : Prop :=
  bs.length ≤ maxLen ∧ ((bs = [] ∧ ∃ a c, v = .slice a 0 c ∧ (a = none → c = 0)) ∨ ∃ b off c, v = .slice (some ⟨b, off, none⟩) bs.length c ∧ bs.length ≤ c ∧ ∀ i, i < bs.length → w.cell? ⟨b, off + i, none⟩ = some (.int k (bs.getD i 0)))
theorem Rd.kept {R : Nat → Prop} {k : IntKind} {w w' : World} {v : Value} {bs : List Int} (h : Rd k w v bs) (hk : Kept R w w') (hr : ∀ b, v.ownBlock = some b → ¬ R b) : Rd k w' v bs := by
  refine ⟨h.1, ?_⟩
  rcases h.2 with h | ⟨b, off, c, rfl, hl, hc⟩
  · exact .inl h
  · exact .inr ⟨b, off, c, rfl, hl, fun i hi => hk.cellOf (hc i hi) (hr b rfl)⟩
theorem Rd.same {k : IntKind} {w w' : World} {v : Value} {bs : List Int} (h : Rd k w v bs) (hk : Same w w') : Rd k w' v bs := h.kept hk (fun _ _ => id)
theorem Rd.form {k : IntKind} {w : World} {v : Value} {bs : List Int} (h : Rd k w v bs) : ∃ a c, v = .slice a bs.length c := by
  rcases h.2 with ⟨rfl, a, c, rfl, _⟩ | ⟨b, off, c, rfl, _⟩ <;> exact ⟨_, _, rfl⟩
theorem Own.rd {base : Nat} {e : TypeId} {k : IntKind} {w : World} {v : Value} {bs : List Int} (h : Own base e k w v bs) : Rd k w v bs := by
  rcases h.form with ⟨rfl, rfl⟩ | ⟨g, cap, rfl, _, _, hc, hm⟩
  · exact ⟨by simp, .inl ⟨rfl, _, _, rfl, fun _ => rfl⟩⟩
  · exact ⟨Nat.le_trans hc hm, .inr ⟨g, 0, cap, rfl, hc, fun i hi => by rw [Nat.zero_add]; exact h.cell rfl i hi⟩⟩

/-- Numbers that are bytes; a number of 64 bits. -/
def IsB (bs : List Int) : Prop := ∀ x ∈ bs, 0 ≤ x ∧ x ≤ 255
def IsI (a : Int) : Prop := -9223372036854775808 ≤ a ∧ a ≤ 9223372036854775807
theorem IsB.at {bs : List Int} (h : IsB bs) (i : Nat) (hi : i < bs.length) : 0 ≤ bs.getD i 0 ∧ bs.getD i 0 ≤ 255 := by
  rw [List.getD_eq_getElem?_getD, List.getElem?_eq_getElem hi]
  exact h _ (List.getElem_mem hi)

/-- v is a slice, wherever it lies, that reads as pending writes. -/
structure RdP (w : World) (v : Value) (ps : List PW) : Prop where
  len : ps.length ≤ maxLen
  row : (ps = [] ∧ ∃ a c, v = .slice a 0 c) ∨ ∃ b off c, v = .slice (some ⟨b, off, none⟩) ps.length c ∧ ∀ i (h : i < ps.length), w.cell? ⟨b, off + i * 2, none⟩ = some (.int .i64 ps[i].sec) ∧ w.cell? ⟨b, off + i * 2 + 1, none⟩ = some ps[i].v
  data : ∀ p ∈ ps, Rd .u8 w p.v p.bs
theorem RdP.kept {R : Nat → Prop} {w w' : World} {v : Value} {ps : List PW} (h : RdP w v ps) (hk : Kept R w w') (hr : ∀ b, footP v ps b → ¬ R b) : RdP w' v ps := by
  refine ⟨h.len, ?_, fun p hp => (h.data p hp).kept hk (fun b hb => hr b (.inr ⟨p, hp, hb⟩))⟩
  rcases h.row with h | ⟨b, off, c, rfl, hc⟩
  · exact .inl h
  · exact .inr ⟨b, off, c, rfl, fun i hi => ⟨hk.cellOf (hc i hi).1 (hr b (.inl rfl)), hk.cellOf (hc i hi).2 (hr b (.inl rfl))⟩⟩
theorem RdP.same {w w' : World} {v : Value} {ps : List PW} (h : RdP w v ps) (hk : Same w w') : RdP w' v ps := h.kept hk (fun _ _ => id)
theorem RdP.form {w : World} {v : Value} {ps : List PW} (h : RdP w v ps) : ∃ a c, v = .slice a ps.length c := by
  rcases h.row with ⟨rfl, a, c, rfl⟩ | ⟨b, off, c, rfl, _⟩ <;> exact ⟨_, _, rfl⟩
theorem OwnP.rd {base : Nat} {tw tb : TypeId} {w : World} {v : Value} {ps : List PW} (h : OwnP base tw tb w v ps) : RdP w v ps := by
  refine ⟨?_, ?_, fun p hp => (h.data p hp).rd⟩
  · rcases h.form with ⟨rfl, rfl⟩ | ⟨g, cap, rfl, _, _, hc, hm⟩
    · simp
    · exact Nat.le_trans hc hm
  · rcases h.form with ⟨rfl, rfl⟩ | ⟨g, cap, rfl, _, _, hc, hm⟩
    · exact .inl ⟨rfl, _, _, rfl⟩
    · exact .inr ⟨g, 0, cap, rfl, fun i hi => ⟨by rw [Nat.zero_add]; exact h.sec rfl i hi, by rw [Nat.zero_add]; exact h.val rfl i hi⟩⟩

structure RdD (w : World) (dv pv : Value) (dur : List Int) (ps : List PW) : Prop where
  dur : Rd .u8 w dv dur
  pend : RdP w pv ps
theorem RdD.kept {R : Nat → Prop} {w w' : World} {dv pv : Value} {dur : List Int} {ps : List PW} (h : RdD w dv pv dur ps) (hk : Kept R w w') (hr : ∀ b, footD dv pv ps b → ¬ R b) : RdD w' dv pv dur ps :=
  ⟨h.dur.kept hk (fun b hb => hr b (.inl hb)), h.pend.kept hk (fun b hb => hr b (.inr hb))⟩
theorem RdD.same {w w' : World} {dv pv : Value} {dur : List Int} {ps : List PW} (h : RdD w dv pv dur ps) (hk : Same w w') : RdD w' dv pv dur ps := h.kept hk (fun _ _ => id)
theorem OwnD.rd {base : Nat} {tw tb : TypeId} {w : World} {dv pv : Value} {dur : List Int} {ps : List PW} (h : OwnD base tw tb w dv pv dur ps) : RdD w dv pv dur ps := ⟨h.dur.rd, h.pend.rd⟩

/-- All bytes of pending writes, and the writes themselves, counted. -/
def sizeP : List PW → Nat
  | [] => 0
  | p :: ps => p.bs.length + sizeP ps
theorem sizeP_append (ps qs : List PW) : sizeP (ps ++ qs) = sizeP ps + sizeP qs := by
  induction ps with
  | nil => simp [sizeP]
  | cons p ps ih => simp only [List.cons_append, sizeP, ih]; omega
theorem sizeP_take (ps : List PW) (j : Nat) : sizeP (ps.take j) ≤ sizeP ps := by
  have h := sizeP_append (ps.take j) (ps.drop j)
  rw [List.take_append_drop] at h
  omega
theorem sizeP_step (ps : List PW) (j : Nat) (h : j < ps.length) : sizeP (ps.take (j + 1)) = sizeP (ps.take j) + ps[j].bs.length := by
  rw [List.take_succ_eq_append_getElem h, sizeP_append]
  simp [sizeP]
theorem sizeP_mem (ps : List PW) (p : PW) (h : p ∈ ps) : p.bs.length ≤ sizeP ps := by
  induction ps with
  | nil => simp at h
  | cons q ps ih =>
    rcases List.mem_cons.1 h with rfl | h
    · simp only [sizeP]; omega
    · have := ih h; simp only [sizeP]; omega
theorem endP_size (k : Int) (ps : List PW) : endP k ps = k + ps.length + sizeP ps := by
  induction ps generalizing k with
  | nil => simp [endP, sizeP]
  | cons p ps ih => simp only [endP, ih, sizeP, List.length_cons]; omega
theorem dataP_sizeP {ps qs : List PW} (h : dataP ps = dataP qs) : sizeP ps = sizeP qs := by
  have key : ∀ rs : List PW, sizeP rs = ((dataP rs).map fun x => x.2.length).sum := fun rs => by
    induction rs with
    | nil => rfl
    | cons r rs ih => simp only [sizeP, ih, dataP, List.map_cons, List.sum_cons]
  rw [key, key, h]
set_option linter.unusedSimpArgs false
theorem isB_take {bs : List Int} (h : IsB bs) (k : Nat) : IsB (bs.take k) := fun y hy => h y (List.mem_of_mem_take hy)
theorem isB_drop {bs : List Int} (h : IsB bs) (k : Nat) : IsB (bs.drop k) := fun y hy => h y (List.mem_of_mem_drop hy)
theorem Rd.front {k : IntKind} {w : World} {b off c : Nat} {bs : List Int} (h : Rd k w (.slice (some ⟨b, off, none⟩) bs.length c) bs) (m : Nat) (hm : m ≤ bs.length) : Rd k w (.slice (some ⟨b, off, none⟩) m c) (bs.take m) := by
  refine ⟨Nat.le_trans (by simp; omega) h.1, ?_⟩
  rcases h.2 with ⟨hn, a, c', e, _⟩ | ⟨b', off', c', e, hl, hc⟩
  · subst hn
    obtain rfl : m = 0 := by simpa using hm
    exact .inl ⟨by simp, _, _, rfl, fun e => by cases e⟩
  · cases e
    have el : (bs.take m).length = m := by simp; omega
    refine .inr ⟨b, off, c, by rw [el], by omega, fun i hi => ?_⟩
    have := hc i (by omega)
    rw [this]
    simp [List.getD, List.getElem?_take, show i < m by omega]
theorem Rd.back {k : IntKind} {w : World} {b off c : Nat} {bs : List Int} (h : Rd k w (.slice (some ⟨b, off, none⟩) bs.length c) bs) (m : Nat) (hm : m ≤ bs.length) : Rd k w (.slice (some ⟨b, off + m, none⟩) (bs.length - m) (c - m)) (bs.drop m) := by
  refine ⟨Nat.le_trans (by simp) h.1, ?_⟩
  rcases h.2 with ⟨hn, a, c', e, _⟩ | ⟨b', off', c', e, hl, hc⟩
  · subst hn
    exact .inl ⟨by simp, _, _, by simp; exact ⟨rfl, rfl⟩, fun e => by cases e⟩
  · cases e
    have el : (bs.drop m).length = bs.length - m := by simp
    refine .inr ⟨b, off + m, c - m, by rw [el], by omega, fun i hi => ?_⟩
    have := hc (m + i) (by omega)
    rw [Nat.add_assoc, this]
    simp [List.getD, List.getElem?_drop]
end Go.Proofs.Ytednajibnjofmaa
