import Derived.Test.YtabmhcdldfehnaaG00
import Derived.Deep.MidRow
import Derived.Deep.WholeRow
namespace Go.Proofs.Ytabmhcdldfehnaa
open Go.RowKit
set_option linter.unusedVariables false
theorem addr_add (B o j : Nat) : (⟨B, o, none⟩ : Addr).add j = ⟨B, o + j, none⟩ := by unfold Addr.add; split <;> simp_all
theorem Blk.loads {P : Program} {w : World} {B : Nat} {e : TypeId} {xs : List Value} (h : Blk w B e xs) (o n : Nat) (hn : o + n ≤ xs.length) : (loadCellsFrom ⟨B, o, none⟩ 0 n #[]).run P w = .ok ((xs.drop o).take n).toArray w := by
  have hl : ((xs.drop o).take n).length = n := by simp; omega
  have := run_loadCells_list (P := P) w ⟨B, o, none⟩ ((xs.drop o).take n) (fun j v hv => by
    rw [addr_add, h.cell]
    have hj : j < n := by have := (List.getElem?_eq_some_iff.1 hv).1; omega
    rw [List.getElem?_take_of_lt hj, List.getElem?_drop] at hv
    exact hv)
  simpa [loadCells, hl] using this
theorem Blk.setCells {B : Nat} {e : TypeId} : ∀ (vs : List Value) (o : Nat) {w : World} {xs : List Value}, Blk w B e xs → o + vs.length ≤ xs.length → Blk (w.setCells B o vs) B e (lay xs o vs)
  | [], o, w, xs, h, _ => by rw [lay_nil]; exact h
  | v :: vs, o, w, xs, h, hl => by
    simp only [List.length_cons] at hl
    have := Blk.setCells vs (o + 1) (h.stored o v) (by rw [List.length_set]; omega)
    rw [lay_cons _ _ _ _ hl] at this
    exact this
theorem Kept.setCells {R : Nat → Prop} {a : World} {B : Nat} (hB : a.heap.size ≤ B ∨ R B) : ∀ (vs : List Value) (o : Nat) {b : World}, Kept R a b → Kept R a (b.setCells B o vs)
  | [], _, _, h => h
  | v :: vs, o, b, h => Kept.setCells hB vs (o + 1) (h.setCell (p := ⟨B, o, none⟩) hB v)
theorem Blk.range {w : World} {B : Nat} {e : TypeId} {xs : List Value} (h : Blk w B e xs) (o : Nat) (cs : List Value) (hc : ∀ j v, cs[j]? = some v → xs[o + j]? = some v) : w.rangeAt B o cs := fun j v hv => by
  rw [h.cell]
  exact hc j v hv
theorem Blk.there {w : World} {B : Nat} {e : TypeId} {xs : List Value} (h : Blk w B e xs) (o n : Nat) (hn : o + n ≤ xs.length) : w.there B o n := fun j hj => ⟨by rw [h.cell, List.getElem?_eq_getElem (by omega)]; rfl, h.frozen _⟩
end Go.Proofs.Ytabmhcdldfehnaa

namespace Go.Proofs.Ytabmhcdldfehnaa
open Go Go.RowKit
set_option linter.unusedVariables false
set_option linter.unusedSimpArgs false
variable {E : Type}
theorem lay_midR (A B C B' : List Value) (h : B'.length = B.length) : lay (A ++ (B ++ C)) A.length B' = A ++ (B' ++ C) := by
  unfold lay
  rw [List.take_left, h, List.drop_append, List.drop_of_length_le (by omega), Nat.add_sub_cancel_left, List.drop_left, List.nil_append]
theorem owns_setCells {base : Nat} {e : TypeId} {size g n cap : Nat} : ∀ (vs : List Value) (o : Nat) {w : World} {xs : List Value}, w.ownsRow base e size (.slice (some ⟨g, 0, none⟩) n cap) n xs → o + vs.length ≤ xs.length → (w.setCells g o vs).ownsRow base e size (.slice (some ⟨g, 0, none⟩) n cap) n (lay xs o vs)
  | [], o, w, xs, h, _ => by rw [lay_nil]; exact h
  | v :: vs, o, w, xs, h, hl => by
    simp only [List.length_cons] at hl
    have h1 := (World.ownsRow.stored h o v).1
    have := owns_setCells vs (o + 1) h1 (by rw [List.length_set]; omega)
    rw [lay_cons _ _ _ _ hl] at this
    exact this
section
variable {K : RowK E} {base : Nat} {tw tb : TypeId} {w w' : World}
theorem OwnR.setElem {g n cap : Nat} {pre post : List E} {p p' : E} (h : OwnR K base tw tb w (.slice (some ⟨g, 0, none⟩) n cap) (pre ++ p :: post)) (hn : n = (pre ++ p :: post).length) (j : Nat) (hj : j = pre.length * K.m)
    (hu : Own base tb .u8 w (K.v p') (K.bs p')) (hf : ∀ b, (K.v p').ownBlock = some b → ¬ footR K (.slice (some ⟨g, 0, none⟩) n cap) (pre ++ p :: post) b) :
    OwnR K base tw tb (w.setCells g j (K.cells p')) (.slice (some ⟨g, 0, none⟩) n cap) (pre ++ p' :: post) := by
  subst hn hj
  have hk : Kept (fun b => b = g) w (w.setCells g (pre.length * K.m) (K.cells p')) := Kept.setCells (R := fun b => b = g) (.inr rfl) _ _ (Kept.refl _ _)
  have hug : ∀ b, (K.v p').ownBlock = some b → ¬ b = g := fun b hb e => hf b hb (.inl (by rw [e]; rfl))
  have hold : ∀ q ∈ pre ++ post, q ∈ pre ++ p :: post := fun q hq => by
    rcases List.mem_append.1 hq with hq | hq
    · simp [hq]
    · simp [hq]
  have hea := h.each
  rw [List.map_append, List.map_cons] at hea
  obtain ⟨h1, h2, h3⟩ := List.pairwise_append.1 hea
  have h4 := List.pairwise_cons.1 h2
  refine ⟨?_, fun q hq => ?_, ?_, ?_⟩
  · have hs := owns_setCells (K.cells p') (pre.length * K.m) h.row (by rw [K.len, K.all_length, List.length_append, List.length_cons, Nat.add_mul, Nat.add_mul]; omega)
    have e : K.all (pre ++ p' :: post) = lay (K.all (pre ++ p :: post)) (pre.length * K.m) (K.cells p') := by
      rw [K.all_append, K.all_append, RowK.all, RowK.all, ← K.all_length pre, lay_midR _ _ _ _ (by rw [K.len, K.len])]
    rw [e]
    simpa using hs
  · have hd : ∀ q ∈ pre ++ post, Own base tb .u8 (w.setCells g (pre.length * K.m) (K.cells p')) (K.v q) (K.bs q) := fun q hq =>
      (h.data q (hold q hq)).kept hk (fun b hb e => h.out (K.v q) (List.mem_map_of_mem (hold q hq)) b (by rw [e]; rfl) hb)
    rcases List.mem_append.1 hq with hq | hq
    · exact hd q (by simp [hq])
    · rcases List.mem_cons.1 hq with rfl | hq
      · exact hu.kept hk hug
      · exact hd q (by simp [hq])
  · intro x hx
    rw [List.map_append, List.map_cons] at hx
    have hx' : x ∈ (pre ++ post).map K.v ∨ x = K.v p' := by
      simp only [List.mem_append, List.mem_cons, List.map_append] at hx ⊢
      rcases hx with hx | hx | hx
      · exact .inl (.inl hx)
      · exact .inr hx
      · exact .inl (.inr hx)
    rcases hx' with hx' | rfl
    · obtain ⟨q, hq, rfl⟩ := List.mem_map.1 hx'
      exact h.out (K.v q) (List.mem_map_of_mem (hold q hq))
    · exact fun b hb hu' => hf b hu' (.inl hb)
  · rw [List.map_append, List.map_cons]
    have hua : ∀ q ∈ pre ++ post, Apart (K.v p') (K.v q) := fun q hq b hb hq' => hf b hb (.inr ⟨q, hold q hq, hq'⟩)
    refine List.pairwise_append.2 ⟨h1, List.pairwise_cons.2 ⟨fun x hx => ?_, h4.2⟩, fun x hx y hy => ?_⟩
    · obtain ⟨q, hq, rfl⟩ := List.mem_map.1 hx
      exact hua q (by simp [hq])
    · obtain ⟨q, hq, rfl⟩ := List.mem_map.1 hx
      rcases List.mem_cons.1 hy with rfl | hy
      · exact (hua q (by simp [hq])).symm
      · exact h3 (K.v q) hx y (List.mem_cons_of_mem _ hy)
theorem OwnR.cellMid {g n cap : Nat} {pre post : List E} {p : E} (h : OwnR K base tw tb w (.slice (some ⟨g, 0, none⟩) n cap) (pre ++ p :: post)) (hn : n = (pre ++ p :: post).length) (i : Nat) (hi : i < K.m) (j : Nat) (hj : j = pre.length * K.m + i) :
    w.cell? ⟨g, j, none⟩ = (K.cells p)[i]? := by
  subst hj
  rw [h.cell hn pre.length i (by simp) hi]
  simp
theorem ownR_made {v : Value} {n : Nat} {z : Value} {zp : E} (hm : 0 < K.m) (hz : z.cells = (K.cells zp).toArray) (hv : K.v zp = .slice none 0 0) (hb : K.bs zp = []) (h : w.ownsRow base tw K.m v n (madeCells z.cells (n * K.m)).toList) :
    OwnR K base tw tb w v (List.replicate n zp) := by
  have e : K.all (List.replicate n zp) = (madeCells z.cells (n * K.m)).toList := by
    apply List.ext_getElem?
    intro j
    by_cases hj : j < n * K.m
    · have hl : j / K.m < (List.replicate n zp).length := by rw [List.length_replicate]; exact Nat.div_lt_of_lt_mul (by rw [Nat.mul_comm]; exact hj)
      have hi : j % K.m < K.m := Nat.mod_lt _ hm
      have h2 := K.all_at _ (j / K.m) (j % K.m) hl hi
      rw [show j / K.m * K.m + j % K.m = j from by rw [Nat.mul_comm]; exact Nat.div_add_mod j K.m] at h2
      rw [h2]
      have hlen := K.len zp
      simp [madeCells, hj, hz, hlen, hi]
    · rw [List.getElem?_eq_none (by rw [K.all_length, List.length_replicate]; omega), List.getElem?_eq_none (by simp [madeCells]; omega)]
  refine ⟨by rw [List.length_replicate, e]; exact h, fun p hp => ?_, fun u hu => ?_, ?_⟩
  · rw [List.eq_of_mem_replicate hp, hv, hb]; exact Own.nil _ _ _ _
  · rw [List.map_replicate] at hu
    rw [List.eq_of_mem_replicate hu, hv]
    intro b _ hb'
    simp [Value.ownBlock] at hb'
  · rw [List.map_replicate]
    refine List.pairwise_replicate.2 (.inr ?_)
    rw [hv]
    intro b _ hb'
    simp [Value.ownBlock] at hb'
end
end Go.Proofs.Ytabmhcdldfehnaa

namespace Go.Proofs.Ytabmhcdldfehnaa
set_option maxHeartbeats 400000
open Go.RowKit
theorem Try.infoByte' : (Try.prog.info? 5).map (fun i => (i.zero, i.size, i.bytes)) = some (some (.int .u8 0), 1, 1) := by kernel_rfl
def fillUp (bs : List Int) (k : Nat) : List Int := bs.take k ++ List.replicate (bs.length - k) 0
theorem fillUp_length (bs : List Int) (k : Nat) (h : k ≤ bs.length) : (fillUp bs k).length = bs.length := by simp [fillUp]; omega
theorem fillUp_zero (bs : List Int) : fillUp bs 0 = List.replicate bs.length 0 := by simp [fillUp]
theorem fillUp_all (bs : List Int) : fillUp bs bs.length = bs := by simp [fillUp]
theorem fillUp_step (bs : List Int) (k : Nat) (h : k < bs.length) : (fillUp bs k).set k (bs.getD k 0) = fillUp bs (k + 1) := by
  unfold fillUp
  have e : bs.length - k = (bs.length - (k + 1)) + 1 := by omega
  have e2 : bs.getD k 0 = bs[k] := by simp [h, List.getD]
  rw [e2, List.set_append_right (h := by simp; omega), List.length_take, Nat.min_eq_left (Nat.le_of_lt h), Nat.sub_self, e, List.replicate_succ, List.set_cons_zero, List.take_succ_eq_append_getElem h, List.append_assoc]
  rfl
theorem toByteS_any (v : Value) (bs : List Int) (w : World) (hn : bs.length ≤ 1099511627776) (hv : Rd .u8 w v bs) :
    Calls Try.prog 17 #[v] w fun e w' => ∃ g, e = .returned (.slice (some ⟨g, 0, none⟩) bs.length bs.length) ∧ w.heap.size ≤ g ∧ Own 0 5 .u8 w' (.slice (some ⟨g, 0, none⟩) bs.length bs.length) bs ∧ Same w w' := by
  obtain ⟨i0, hi, hz0, hz1, hz2⟩ := info_parts Try.infoByte'
  rcases hv.2 with ⟨rfl, a, c, rfl, _⟩ | ⟨b, off, c, rfl, _, hc⟩
  · clear hv hn
    go_enter Try.func17, Try.ntmps17
    go_wp2_with (at_make; refine wpList_make_full _ rfl (.tmp 6) (.tmp 6) 35 rfl 0 5 i0 (.int .u8 0) 1 Try.underlying35 hi hz0 hz1 .i64 .i64 _ _ 0 rfl rfl (by simp) (by simp) (by simp) (by simp) (Nat.zero_le _) ?_; intro w1 hown1 hgrow1; have HO : Hid (Own 0 5 .u8 w1 (.slice (some ⟨w.heap.size, 0, none⟩) 0 0) []) := own_made (n := 0) (by simpa using hown1); have HK : Hid (Same w w1) := Kept.of_grown hgrow1 (fun k e => by cases e); clear hown1 hgrow1)
    refine wp_loop_rounds 1 ?_
    rw [rounds_succ]
    go_wp2
    go_ret
    exact ⟨w.heap.size, rfl, Nat.le_refl _, HO.out, HK.out⟩
  · have HC : Hid (∀ i, i < bs.length → w.cell? ⟨b, off + i, none⟩ = some (.int .u8 (bs.getD i 0))) := hc
    clear hc hv
    generalize hl : bs.length = len at hn ⊢
    have HL : Hid (bs.length = len) := hl
    clear hl
    go_enter Try.func17, Try.ntmps17
    go_wp2_with (at_make; refine wpList_make_full _ rfl (.tmp 6) (.tmp 6) 35 rfl 0 5 i0 (.int .u8 0) 1 Try.underlying35 hi hz0 hz1 .i64 .i64 _ _ len rfl rfl (by simp) (by simp) (by rw [hz2]; omega) (by unfold maxLen; omega) (Nat.zero_le _) ?_; intro w1 hown1 hgrow1; have HO : Hid (Own 0 5 .u8 w1 (.slice (some ⟨w.heap.size, 0, none⟩) len len) (List.replicate len 0)) := own_made (by simpa using hown1); have HK : Hid (Same w w1) := Kept.of_grown hgrow1 (fun k e => by cases e); clear hown1 hgrow1)
    go_loopw [4] (fun i wr => ∃ (k : Nat), k ≤ len ∧ i = .int .i64 k ∧ Hid (Own 0 5 .u8 wr (.slice (some ⟨w.heap.size, 0, none⟩) len len) (fillUp bs k)) ∧ Hid (Same w wr)) (fun i _ => len - (intOf i).toNat)
    case atStart => exact ⟨0, Nat.zero_le _, rfl, by rw [fillUp_zero, HL.out]; exact HO, HK⟩
    case round =>
      obtain ⟨k, hk, rfl, HOr, HKr⟩ := hrel
      by_cases hlt : k < len
      · have hlp : k < bs.length := by rw [HL.out]; exact hlt
        have q1 := HKr.out.cellOf (HC.out k hlp) id
        have q2 := HOr.out.frozen (by rw [fillUp_length _ _ (by have := HL.out; omega)]; exact HL.out.symm) k
        have q3 := HOr.out.cell (by rw [fillUp_length _ _ (by have := HL.out; omega)]; exact HL.out.symm) k hlt
        go_wp2
        go_roundw
        case rel =>
          have h := HOr.out.stored (by rw [fillUp_length _ _ (by have := HL.out; omega)]; exact HL.out.symm) k (bs.getD k 0)
          rw [fillUp_step _ _ hlp] at h
          refine ⟨k + 1, by omega, by go_num, ?_, ?_⟩
          · simpa [hlp, List.getD, Hid] using h
          · exact HKr.out.setCell (.inl (Nat.le_refl _)) _
        case measure => simp [intOf]; omega
      · go_wp2
        go_ret
        obtain rfl : k = len := by omega
        have h := HOr.out
        have h2 := HL.out
        rw [← h2, fillUp_all, h2] at h
        exact ⟨w.heap.size, rfl, Nat.le_refl _, h, HKr.out⟩
end Go.Proofs.Ytabmhcdldfehnaa

namespace Go.Proofs.Ytabmhcdldfehnaa
set_option maxHeartbeats 400000
open Go.RowKit
theorem szByteS_any (a : Option Addr) (n c : Nat) (left : Int) (w : World) (h0 : 0 ≤ left) (h1 : left ≤ 1048576) (hn : n ≤ maxLen) :
    Calls Try.prog 66 #[.slice a n c, .int .i64 left] w fun e w' => ∃ r : Int, e = .returned (.int .i64 r) ∧ ((r = -1 ∧ left < n) ∨ (r = left - n ∧ 0 ≤ r)) ∧ w' = w := by
  unfold maxLen at hn
  by_cases h : left < n
  · go_enter Try.func66, Try.ntmps66
    go_wp2
    go_ret
    exact ⟨_, rfl, .inl ⟨rfl, h⟩, rfl⟩
  · go_enter Try.func66, Try.ntmps66
    go_wp2
    go_ret
    exact ⟨_, rfl, .inr ⟨rfl, by omega⟩, rfl⟩
end Go.Proofs.Ytabmhcdldfehnaa
