import Derived.Test.YtabmhcdldfehnabG00
import Derived.Deep.RegionWith
import Derived.Deep.DeepMust
import Derived.Deep.DeepCutAuto
namespace Go.Proofs.Ytabmhcdldfehnab
open Go Go.RowKit
set_option linter.unusedVariables false
set_option linter.unusedSimpArgs false
variable {E : Type}
theorem lay_midR (A B C B' : List Value) (h : B'.length = B.length) : lay (A ++ (B ++ C)) A.length B' = A ++ (B' ++ C) := by
  unfold lay
  rw [List.take_left, h, List.drop_append, List.drop_of_length_le (by omega), Nat.add_sub_cancel_left, List.drop_left, List.nil_append]
theorem owns_setCells {base : Nat} {e : TypeId} {size g n cap : Nat} : ∀ (vs : List Value) (o : Nat) {w : World} {xs : List Value}, w.ownsRow base e size (.slice (some ⟨g, 0, none⟩) n cap) n xs → o + vs.length ≤ xs.length → (w.setCells g o vs).ownsRow base e size (.slice (some ⟨g, 0, none⟩) n cap) n (lay xs o vs)
  | [], o, w, xs, h, _ => by rw [lay_nil]; exact h
  | v :: vs, o, w, xs, h, hl => by
    simp only [List.length_cons] at hl
    have h1 := (World.ownsRow.stored h o v).1
    have := owns_setCells vs (o + 1) h1 (by rw [List.length_set]; omega)
    rw [lay_cons _ _ _ _ hl] at this
    exact this
section
variable {K : RowK E} {base : Nat} {tw tb : TypeId} {w w' : World}
theorem OwnR.setElem {g n cap : Nat} {pre post : List E} {p p' : E} (h : OwnR K base tw tb w (.slice (some ⟨g, 0, none⟩) n cap) (pre ++ p :: post)) (hn : n = (pre ++ p :: post).length) (j : Nat) (hj : j = pre.length * K.m)
    (hu : Own base tb .u8 w (K.v p') (K.bs p')) (hf : ∀ b, (K.v p').ownBlock = some b → ¬ footR K (.slice (some ⟨g, 0, none⟩) n cap) (pre ++ p :: post) b) :
    OwnR K base tw tb (w.setCells g j (K.cells p')) (.slice (some ⟨g, 0, none⟩) n cap) (pre ++ p' :: post) := by
  subst hn hj
  have hk : Kept (fun b => b = g) w (w.setCells g (pre.length * K.m) (K.cells p')) := Kept.setCells (R := fun b => b = g) (.inr rfl) _ _ (Kept.refl _ _)
  have hug : ∀ b, (K.v p').ownBlock = some b → ¬ b = g := fun b hb e => hf b hb (.inl (by rw [e]; rfl))
  have hold : ∀ q ∈ pre ++ post, q ∈ pre ++ p :: post := fun q hq => by
    rcases List.mem_append.1 hq with hq | hq
    · simp [hq]
    · simp [hq]
  have hea := h.each
  rw [List.map_append, List.map_cons] at hea
  obtain ⟨h1, h2, h3⟩ := List.pairwise_append.1 hea
  have h4 := List.pairwise_cons.1 h2
  refine ⟨?_, fun q hq => ?_, ?_, ?_⟩
  · have hs := owns_setCells (K.cells p') (pre.length * K.m) h.row (by rw [K.len, K.all_length, List.length_append, List.length_cons, Nat.add_mul, Nat.add_mul]; omega)
    have e : K.all (pre ++ p' :: post) = lay (K.all (pre ++ p :: post)) (pre.length * K.m) (K.cells p') := by
      rw [K.all_append, K.all_append, RowK.all, RowK.all, ← K.all_length pre, lay_midR _ _ _ _ (by rw [K.len, K.len])]
    rw [e]
    simpa using hs
  · have hd : ∀ q ∈ pre ++ post, Own base tb .u8 (w.setCells g (pre.length * K.m) (K.cells p')) (K.v q) (K.bs q) := fun q hq =>
      (h.data q (hold q hq)).kept hk (fun b hb e => h.out (K.v q) (List.mem_map_of_mem (hold q hq)) b (by rw [e]; rfl) hb)
    rcases List.mem_append.1 hq with hq | hq
    · exact hd q (by simp [hq])
    · rcases List.mem_cons.1 hq with rfl | hq
      · exact hu.kept hk hug
      · exact hd q (by simp [hq])
  · intro x hx
    rw [List.map_append, List.map_cons] at hx
    have hx' : x ∈ (pre ++ post).map K.v ∨ x = K.v p' := by
      simp only [List.mem_append, List.mem_cons, List.map_append] at hx ⊢
      rcases hx with hx | hx | hx
      · exact .inl (.inl hx)
      · exact .inr hx
      · exact .inl (.inr hx)
    rcases hx' with hx' | rfl
    · obtain ⟨q, hq, rfl⟩ := List.mem_map.1 hx'
      exact h.out (K.v q) (List.mem_map_of_mem (hold q hq))
    · exact fun b hb hu' => hf b hu' (.inl hb)
  · rw [List.map_append, List.map_cons]
    have hua : ∀ q ∈ pre ++ post, Apart (K.v p') (K.v q) := fun q hq b hb hq' => hf b hb (.inr ⟨q, hold q hq, hq'⟩)
    refine List.pairwise_append.2 ⟨h1, List.pairwise_cons.2 ⟨fun x hx => ?_, h4.2⟩, fun x hx y hy => ?_⟩
    · obtain ⟨q, hq, rfl⟩ := List.mem_map.1 hx
      exact hua q (by simp [hq])
    · obtain ⟨q, hq, rfl⟩ := List.mem_map.1 hx
      rcases List.mem_cons.1 hy with rfl | hy
      · exact (hua q (by simp [hq])).symm
      · exact h3 (K.v q) hx y (List.mem_cons_of_mem _ hy)
theorem OwnR.cellMid {g n cap : Nat} {pre post : List E} {p : E} (h : OwnR K base tw tb w (.slice (some ⟨g, 0, none⟩) n cap) (pre ++ p :: post)) (hn : n = (pre ++ p :: post).length) (i : Nat) (hi : i < K.m) (j : Nat) (hj : j = pre.length * K.m + i) :
    w.cell? ⟨g, j, none⟩ = (K.cells p)[i]? := by
  subst hj
  rw [h.cell hn pre.length i (by simp) hi]
  simp
theorem ownR_made {v : Value} {n : Nat} {z : Value} {zp : E} (hm : 0 < K.m) (hz : z.cells = (K.cells zp).toArray) (hv : K.v zp = .slice none 0 0) (hb : K.bs zp = []) (h : w.ownsRow base tw K.m v n (madeCells z.cells (n * K.m)).toList) :
    OwnR K base tw tb w v (List.replicate n zp) := by
  have e : K.all (List.replicate n zp) = (madeCells z.cells (n * K.m)).toList := by
    apply List.ext_getElem?
    intro j
    by_cases hj : j < n * K.m
    · have hl : j / K.m < (List.replicate n zp).length := by rw [List.length_replicate]; exact Nat.div_lt_of_lt_mul (by rw [Nat.mul_comm]; exact hj)
      have hi : j % K.m < K.m := Nat.mod_lt _ hm
      have h2 := K.all_at _ (j / K.m) (j % K.m) hl hi
      rw [show j / K.m * K.m + j % K.m = j from by rw [Nat.mul_comm]; exact Nat.div_add_mod j K.m] at h2
      rw [h2]
      have hlen := K.len zp
      simp [madeCells, hj, hz, hlen, hi]
    · rw [List.getElem?_eq_none (by rw [K.all_length, List.length_replicate]; omega), List.getElem?_eq_none (by simp [madeCells]; omega)]
  refine ⟨by rw [List.length_replicate, e]; exact h, fun p hp => ?_, fun u hu => ?_, ?_⟩
  · rw [List.eq_of_mem_replicate hp, hv, hb]; exact Own.nil _ _ _ _
  · rw [List.map_replicate] at hu
    rw [List.eq_of_mem_replicate hu, hv]
    intro b _ hb'
    simp [Value.ownBlock] at hb'
  · rw [List.map_replicate]
    refine List.pairwise_replicate.2 (.inr ?_)
    rw [hv]
    intro b _ hb'
    simp [Value.ownBlock] at hb'
end
end Go.Proofs.Ytabmhcdldfehnab

namespace Go.Proofs.Ytabmhcdldfehnab
set_option maxHeartbeats 400000
open Go.RowKit
theorem Try.infoByte' : (Try.prog.info? 5).map (fun i => (i.zero, i.size, i.bytes)) = some (some (.int .u8 0), 1, 1) := by kernel_rfl
def fillUp (bs : List Int) (k : Nat) : List Int := bs.take k ++ List.replicate (bs.length - k) 0
theorem fillUp_length (bs : List Int) (k : Nat) (h : k ≤ bs.length) : (fillUp bs k).length = bs.length := by simp [fillUp]; omega
theorem fillUp_zero (bs : List Int) : fillUp bs 0 = List.replicate bs.length 0 := by simp [fillUp]
theorem fillUp_all (bs : List Int) : fillUp bs bs.length = bs := by simp [fillUp]
theorem fillUp_step (bs : List Int) (k : Nat) (h : k < bs.length) : (fillUp bs k).set k (bs.getD k 0) = fillUp bs (k + 1) := by
  unfold fillUp
  have e : bs.length - k = (bs.length - (k + 1)) + 1 := by omega
  have e2 : bs.getD k 0 = bs[k] := by simp [h, List.getD]
  rw [e2, List.set_append_right (h := by simp; omega), List.length_take, Nat.min_eq_left (Nat.le_of_lt h), Nat.sub_self, e, List.replicate_succ, List.set_cons_zero, List.take_succ_eq_append_getElem h, List.append_assoc]
  rfl
theorem toByteS_any (v : Value) (bs : List Int) (w : World) (hn : bs.length ≤ 1099511627776) (hv : Rd .u8 w v bs) :
    Calls Try.prog 44 #[v] w fun e w' => ∃ g, e = .returned (.slice (some ⟨g, 0, none⟩) bs.length bs.length) ∧ w.heap.size ≤ g ∧ Own 0 5 .u8 w' (.slice (some ⟨g, 0, none⟩) bs.length bs.length) bs ∧ Same w w' := by
  obtain ⟨i0, hi, hz0, hz1, hz2⟩ := info_parts Try.infoByte'
  rcases hv.2 with ⟨rfl, a, c, rfl, _⟩ | ⟨b, off, c, rfl, _, hc⟩
  · clear hv hn
    go_enter Try.func44, Try.ntmps44
    go_wp2_with (at_make; refine wpList_make_full _ rfl (.tmp 6) (.tmp 6) 44 rfl 0 5 i0 (.int .u8 0) 1 Try.underlying44 hi hz0 hz1 .i64 .i64 _ _ 0 rfl rfl (by simp) (by simp) (by simp) (by simp) (Nat.zero_le _) ?_; intro w1 hown1 hgrow1; have HO : Hid (Own 0 5 .u8 w1 (.slice (some ⟨w.heap.size, 0, none⟩) 0 0) []) := own_made (n := 0) (by simpa using hown1); have HK : Hid (Same w w1) := Kept.of_grown hgrow1 (fun k e => by cases e); clear hown1 hgrow1)
    refine wp_loop_rounds 1 ?_
    rw [rounds_succ]
    go_wp2
    go_ret
    exact ⟨w.heap.size, rfl, Nat.le_refl _, HO.out, HK.out⟩
  · have HC : Hid (∀ i, i < bs.length → w.cell? ⟨b, off + i, none⟩ = some (.int .u8 (bs.getD i 0))) := hc
    clear hc hv
    generalize hl : bs.length = len at hn ⊢
    have HL : Hid (bs.length = len) := hl
    clear hl
    go_enter Try.func44, Try.ntmps44
    go_wp2_with (at_make; refine wpList_make_full _ rfl (.tmp 6) (.tmp 6) 44 rfl 0 5 i0 (.int .u8 0) 1 Try.underlying44 hi hz0 hz1 .i64 .i64 _ _ len rfl rfl (by simp) (by simp) (by rw [hz2]; omega) (by unfold maxLen; omega) (Nat.zero_le _) ?_; intro w1 hown1 hgrow1; have HO : Hid (Own 0 5 .u8 w1 (.slice (some ⟨w.heap.size, 0, none⟩) len len) (List.replicate len 0)) := own_made (by simpa using hown1); have HK : Hid (Same w w1) := Kept.of_grown hgrow1 (fun k e => by cases e); clear hown1 hgrow1)
    go_loopw [4] (fun i wr => ∃ (k : Nat), k ≤ len ∧ i = .int .i64 k ∧ Hid (Own 0 5 .u8 wr (.slice (some ⟨w.heap.size, 0, none⟩) len len) (fillUp bs k)) ∧ Hid (Same w wr)) (fun i _ => len - (intOf i).toNat)
    case atStart => exact ⟨0, Nat.zero_le _, rfl, by rw [fillUp_zero, HL.out]; exact HO, HK⟩
    case round =>
      obtain ⟨k, hk, rfl, HOr, HKr⟩ := hrel
      by_cases hlt : k < len
      · have hlp : k < bs.length := by rw [HL.out]; exact hlt
        have q1 := HKr.out.cellOf (HC.out k hlp) id
        have q2 := HOr.out.frozen (by rw [fillUp_length _ _ (by have := HL.out; omega)]; exact HL.out.symm) k
        have q3 := HOr.out.cell (by rw [fillUp_length _ _ (by have := HL.out; omega)]; exact HL.out.symm) k hlt
        go_wp2
        go_roundw
        case rel =>
          have h := HOr.out.stored (by rw [fillUp_length _ _ (by have := HL.out; omega)]; exact HL.out.symm) k (bs.getD k 0)
          rw [fillUp_step _ _ hlp] at h
          refine ⟨k + 1, by omega, by go_num, ?_, ?_⟩
          · simpa [hlp, List.getD, Hid] using h
          · exact HKr.out.setCell (.inl (Nat.le_refl _)) _
        case measure => simp [intOf]; omega
      · go_wp2
        go_ret
        obtain rfl : k = len := by omega
        have h := HOr.out
        have h2 := HL.out
        rw [← h2, fillUp_all, h2] at h
        exact ⟨w.heap.size, rfl, Nat.le_refl _, h, HKr.out⟩
end Go.Proofs.Ytabmhcdldfehnab

namespace Go.Proofs.Ytabmhcdldfehnab
set_option maxHeartbeats 400000
open Go.RowKit
theorem szByteS_any (a : Option Addr) (n c : Nat) (left : Int) (w : World) (h0 : 0 ≤ left) (h1 : left ≤ 1048576) (hn : n ≤ maxLen) :
    Calls Try.prog 43 #[.slice a n c, .int .i64 left] w fun e w' => ∃ r : Int, e = .returned (.int .i64 r) ∧ ((r = -1 ∧ left < n) ∨ (r = left - n ∧ 0 ≤ r)) ∧ w' = w := by
  unfold maxLen at hn
  by_cases h : left < n
  · go_enter Try.func43, Try.ntmps43
    go_wp2
    go_ret
    exact ⟨_, rfl, .inl ⟨rfl, h⟩, rfl⟩
  · go_enter Try.func43, Try.ntmps43
    go_wp2
    go_ret
    exact ⟨_, rfl, .inr ⟨rfl, by omega⟩, rfl⟩
end Go.Proofs.Ytabmhcdldfehnab

namespace Go.Proofs.Ytabmhcdldfehnab
set_option maxRecDepth 100000
set_option maxHeartbeats 4000000
open Go.RowKit
set_option linter.unusedVariables false
set_option linter.unusedSimpArgs false
structure EFrame where
  page : Int
  v : Value
  bs : List Int
  pins : Int
  dirty : Bool
  rl : Int
  rf : Bool
def kFrame : RowK EFrame := ⟨6, fun p => [.int .i64 p.page, p.v, .int .i64 p.pins, .bool p.dirty, .int .i64 p.rl, .bool p.rf], fun _ => rfl, EFrame.v, EFrame.bs⟩
def EFrame.dat (p : EFrame) : Int × List Int × Int × Bool × Int × Bool := (p.page, p.bs, p.pins, p.dirty, p.rl, p.rf)
def datFrameS (ps : List EFrame) : List (Int × List Int × Int × Bool × Int × Bool) := ps.map EFrame.dat
theorem datFrameS_length (ps : List EFrame) : (datFrameS ps).length = ps.length := by simp [datFrameS]
theorem datFrameS_at {ps qs : List EFrame} (h : datFrameS ps = datFrameS qs) (k : Nat) (h1 : k < ps.length) (h2 : k < qs.length) : ps[k].dat = qs[k].dat := by
  have := congrArg (fun l => l[k]?) h
  simpa [datFrameS, h1, h2] using this
theorem Try.infoRFrame : (Try.prog.info? 46).map (fun i => (i.zero, i.size, i.bytes)) = some (some (.agg #[.int .i64 0, .slice none 0 0, .int .i64 0, .bool false, .int .i64 0, .bool false]), 6, 64) := by kernel_rfl
def sizeFrameS : List EFrame → Nat
  | [] => 0
  | p :: ps => p.bs.length + sizeFrameS ps
theorem sizeFrameS_append (ps qs : List EFrame) : sizeFrameS (ps ++ qs) = sizeFrameS ps + sizeFrameS qs := by
  induction ps with
  | nil => simp [sizeFrameS]
  | cons p ps ih => simp only [List.cons_append, sizeFrameS, ih]; omega
theorem sizeFrameS_step (ps : List EFrame) (j : Nat) (h : j < ps.length) : sizeFrameS (ps.take (j + 1)) = sizeFrameS (ps.take j) + ps[j].bs.length := by
  rw [List.take_succ_eq_append_getElem h, sizeFrameS_append]
  simp [sizeFrameS]
theorem sizeFrameS_mem (ps : List EFrame) (p : EFrame) (h : p ∈ ps) : p.bs.length ≤ sizeFrameS ps := by
  induction ps with
  | nil => cases h
  | cons q qs ih =>
    rcases List.mem_cons.1 h with rfl | h
    · simp [sizeFrameS]
    · have := ih h; simp only [sizeFrameS]; omega
theorem eqFrame_own {ta tb : TypeId} (base : Nat) (page : Int) (pins : Int) (dirty : Bool) (rl : Int) (rf : Bool) (va vb : Value) (bs : List Int) (w : World) (hn : bs.length ≤ 1125899906842624) (ha : Own base ta .u8 w va bs) (hb : Own base tb .u8 w vb bs) :
    Calls Try.prog 37 #[.agg #[.int .i64 page, va, .int .i64 pins, .bool dirty, .int .i64 rl, .bool rf], .agg #[.int .i64 page, vb, .int .i64 pins, .bool dirty, .int .i64 rl, .bool rf]] w fun e w' => e = .returned (.bool true) ∧ Same w w' := by
  obtain ⟨aa, na, ca, rfl⟩ := slice_of_own ha
  obtain ⟨ab, nb, cb, rfl⟩ := slice_of_own hb
  have HA : Hid (Own base ta .u8 w (.slice aa na ca) bs) := ha
  have HB : Hid (Own base tb .u8 w (.slice ab nb cb) bs) := hb
  have b0 := (Blk.newL w [.int .i64 page, .slice aa na ca, .int .i64 pins, .bool dirty, .int .i64 rl, .bool rf] 46).same ((Kept.refl _ _).alloc (.cells #[.int .i64 page, .slice ab nb cb, .int .i64 pins, .bool dirty, .int .i64 rl, .bool rf] 46))
  have b1 := Blk.newB w [.int .i64 page, .slice aa na ca, .int .i64 pins, .bool dirty, .int .i64 rl, .bool rf] 46 [.int .i64 page, .slice ab nb cb, .int .i64 pins, .bool dirty, .int .i64 rl, .bool rf] 46
  clear ha hb
  go_enter Try.func37, Try.ntmps37
  go_wp2_with fail
  refine (eqByteS_own base _ _ bs _ hn (HA.out.same (((Kept.refl _ _).alloc _).alloc _)) (HB.out.same (((Kept.refl _ _).alloc _).alloc _))).mono ?_
  rintro e w1 ⟨rfl, n1, hw⟩
  have hk : Same ((w.alloc (.cells #[.int .i64 page, .slice aa na ca, .int .i64 pins, .bool dirty, .int .i64 rl, .bool rf] 46)).alloc (.cells #[.int .i64 page, .slice ab nb cb, .int .i64 pins, .bool dirty, .int .i64 rl, .bool rf] 46)) w1 := by rw [hw]; exact (Kept.refl _ _).drewN _
  clear hw
  have p2 := (b0.same hk).c2
  have q2 := (b1.same hk).c2
  have p3 := (b0.same hk).c3
  have q3 := (b1.same hk).c3
  have p4 := (b0.same hk).c4
  have q4 := (b1.same hk).c4
  have p5 := (b0.same hk).c5
  have q5 := (b1.same hk).c5
  go_wp2
  go_ret
  exact ⟨rfl, (((Kept.refl _ _).alloc _).alloc _).trans hk⟩
theorem eqFrameS_own {ta tb : TypeId} (base : Nat) (va vb : Value) (ps qs : List EFrame) (w : World) (hn : ps.length ≤ 1125899906842624) (hs : datFrameS ps = datFrameS qs) (hsm : ∀ p ∈ ps, p.bs.length ≤ 1125899906842624)
    (ha : OwnR kFrame base 46 ta w va ps) (hb : OwnR kFrame base 46 tb w vb qs) :
    Calls Try.prog 23 #[va, vb] w fun e w' => e = .returned (.bool true) ∧ Same w w' := by
  have hlen : qs.length = ps.length := by rw [← datFrameS_length, ← datFrameS_length, hs]
  by_cases hz : ps.length = 0
  · obtain rfl : ps = [] := List.length_eq_zero_iff.1 hz
    obtain rfl : qs = [] := List.length_eq_zero_iff.1 hlen
    obtain ⟨aa, ca, rfl⟩ : ∃ aa ca, va = .slice aa 0 ca := by rcases ha.form with ⟨rfl, _⟩ | ⟨g, cap, rfl, _⟩ <;> exact ⟨_, _, rfl⟩
    obtain ⟨ab, cb, rfl⟩ : ∃ aa ca, vb = .slice aa 0 ca := by rcases hb.form with ⟨rfl, _⟩ | ⟨g, cap, rfl, _⟩ <;> exact ⟨_, _, rfl⟩
    clear ha hb hn hz hs
    go_enter Try.func23, Try.ntmps23
    go_wp2
    refine wp_loop_rounds 1 ?_
    rw [rounds_succ]
    go_wp2
    go_ret
    exact ⟨rfl, Kept.refl _ _⟩
  · obtain ⟨ga, ca, rfl⟩ : ∃ g cap, va = .slice (some ⟨g, 0, none⟩) ps.length cap := by
      rcases ha.form with ⟨_, h⟩ | ⟨g, cap, h, _⟩
      · simp [h] at hz
      · exact ⟨g, cap, h⟩
    obtain ⟨gb, cb, rfl⟩ : ∃ g cap, vb = .slice (some ⟨g, 0, none⟩) ps.length cap := by
      rcases hb.form with ⟨_, h⟩ | ⟨g, cap, h, _⟩
      · simp [h] at hlen; omega
      · exact ⟨g, cap, by rw [h, hlen]⟩
    have HA : Hid (OwnR kFrame base 46 ta w (.slice (some ⟨ga, 0, none⟩) ps.length ca) ps) := ha
    have HB : Hid (OwnR kFrame base 46 tb w (.slice (some ⟨gb, 0, none⟩) ps.length cb) qs) := hb
    have HQ : Hid (qs.length = ps.length) := hlen
    have HS : Hid (datFrameS ps = datFrameS qs) := hs
    have HM : Hid (∀ p ∈ ps, p.bs.length ≤ 1125899906842624) := hsm
    clear ha hb hs hlen hsm
    generalize hl : ps.length = len at hn hz HA HB ⊢
    have HL : Hid (ps.length = len) := hl
    clear hl
    go_enter Try.func23, Try.ntmps23
    go_wp2
    go_loopw [5] (fun i wr => ∃ (k : Nat), k ≤ len ∧ i = .int .i64 k ∧ Hid (Same w wr)) (fun i _ => len - (intOf i).toNat)
    case atStart => exact ⟨0, Nat.zero_le _, rfl, Kept.refl _ _⟩
    case round =>
      obtain ⟨k, hk, rfl, HK⟩ := hrel
      by_cases hlt : k < len
      · have hlp : k < ps.length := by rw [HL.out]; exact hlt
        have hlq : k < qs.length := by rw [HQ.out]; exact hlp
        have hoa := HA.out.same HK.out
        have hob := HB.out.same HK.out
        have hdd := datFrameS_at HS.out k hlp hlq
        simp only [EFrame.dat, Prod.mk.injEq] at hdd
        obtain ⟨d0, d1, d2, d3, d4, d5⟩ := hdd
        have s3 := HM.out _ (List.getElem_mem hlp)
        have ha0 : wr.cell? ⟨ga, k * 6, none⟩ = some (.int .i64 ps[k].page) := hoa.cell HL.out.symm k 0 hlp (by decide)
        have ha1 : wr.cell? ⟨ga, k * 6 + 1, none⟩ = some (ps[k].v) := hoa.cell HL.out.symm k 1 hlp (by decide)
        have ha2 : wr.cell? ⟨ga, k * 6 + 2, none⟩ = some (.int .i64 ps[k].pins) := hoa.cell HL.out.symm k 2 hlp (by decide)
        have ha3 : wr.cell? ⟨ga, k * 6 + 3, none⟩ = some (.bool ps[k].dirty) := hoa.cell HL.out.symm k 3 hlp (by decide)
        have ha4 : wr.cell? ⟨ga, k * 6 + 4, none⟩ = some (.int .i64 ps[k].rl) := hoa.cell HL.out.symm k 4 hlp (by decide)
        have ha5 : wr.cell? ⟨ga, k * 6 + 5, none⟩ = some (.bool ps[k].rf) := hoa.cell HL.out.symm k 5 hlp (by decide)
        have hb0 : wr.cell? ⟨gb, k * 6, none⟩ = some (.int .i64 ps[k].page) := by rw [d0]; exact hob.cell (by rw [HQ.out, HL.out]) k 0 hlq (by decide)
        have hb1 : wr.cell? ⟨gb, k * 6 + 1, none⟩ = some (qs[k].v) := hob.cell (by rw [HQ.out, HL.out]) k 1 hlq (by decide)
        have hb2 : wr.cell? ⟨gb, k * 6 + 2, none⟩ = some (.int .i64 ps[k].pins) := by rw [d2]; exact hob.cell (by rw [HQ.out, HL.out]) k 2 hlq (by decide)
        have hb3 : wr.cell? ⟨gb, k * 6 + 3, none⟩ = some (.bool ps[k].dirty) := by rw [d3]; exact hob.cell (by rw [HQ.out, HL.out]) k 3 hlq (by decide)
        have hb4 : wr.cell? ⟨gb, k * 6 + 4, none⟩ = some (.int .i64 ps[k].rl) := by rw [d4]; exact hob.cell (by rw [HQ.out, HL.out]) k 4 hlq (by decide)
        have hb5 : wr.cell? ⟨gb, k * 6 + 5, none⟩ = some (.bool ps[k].rf) := by rw [d5]; exact hob.cell (by rw [HQ.out, HL.out]) k 5 hlq (by decide)
        have HDA : Hid (Own base ta .u8 wr ps[k].v ps[k].bs) := hoa.data _ (List.getElem_mem hlp)
        have HDB : Hid (Own base tb .u8 wr qs[k].v ps[k].bs) := by have := hob.data _ (List.getElem_mem hlq); rw [d1]; exact this
        clear d0 d1 d2 d3 d4 d5 hoa hob
        go_wp2_with fail
        go_region_with (go_at_call 37; refine (eqFrame_own base ps[k].page ps[k].pins ps[k].dirty ps[k].rl ps[k].rf ps[k].v qs[k].v ps[k].bs _ s3 (by exact HDA.out.same (Kept.refl _ _).drew) (by exact HDB.out.same (Kept.refl _ _).drew)).mono ?_; rintro e w1 ⟨rfl, hk1⟩)
        all_goals
          have HK1 : Hid (Same w w1) := HK.out.drew.trans hk1
          clear hk1 ha0 hb0 ha1 hb1 ha2 hb2 ha3 hb3 ha4 hb4 ha5 hb5 HDA HDB
          go_wp2
          go_roundw
          case rel => exact ⟨k + 1, by omega, by go_num, HK1⟩
          case measure => simp [intOf]; omega
      · go_wp2
        go_ret
        exact ⟨rfl, HK.out⟩
theorem szFrame_any (page : Int) (pins : Int) (dirty : Bool) (rl : Int) (rf : Bool) (a : Option Addr) (n c : Nat) (left : Int) (w : World) (h0 : 0 ≤ left) (h1 : left ≤ 1048576) (hn : n ≤ maxLen) :
    Calls Try.prog 29 #[.agg #[.int .i64 page, .slice a n c, .int .i64 pins, .bool dirty, .int .i64 rl, .bool rf], .int .i64 left] w fun e w' => ∃ r : Int, e = .returned (.int .i64 r) ∧ ((r = -1 ∧ left < n) ∨ (r = left - n ∧ 0 ≤ r)) ∧ Same w w' := by
  go_enter Try.func29, Try.ntmps29
  go_wp2_with fail
  refine (szByteS_any a n c left _ h0 h1 hn).mono ?_
  rintro e w1 ⟨r, rfl, hr, rfl⟩
  rcases hr with ⟨rfl, hr⟩ | ⟨hr, hr0⟩
  · go_wp2
    go_ret
    exact ⟨_, rfl, .inl ⟨rfl, hr⟩, (Kept.refl _ _).alloc _⟩
  · have HR : Hid (r = left - n) := hr
    clear hr
    go_wp2
    go_ret
    exact ⟨_, rfl, .inr ⟨HR.out, hr0⟩, (Kept.refl _ _).alloc _⟩
theorem szFrameS_any (v : Value) (ps : List EFrame) (left : Int) (w : World) (h0 : 0 ≤ left) (h1 : left ≤ 1048576) (hp : RdR kFrame w v ps) :
    Calls Try.prog 16 #[v, .int .i64 left] w fun e w' => ∃ r : Int, e = .returned (.int .i64 r) ∧ (r = -1 ∨ (r = left - ps.length - sizeFrameS ps ∧ 0 ≤ r)) ∧ Same w w' := by
  have hn := hp.max
  unfold maxLen at hn
  rcases hp.row with ⟨rfl, a, c, rfl⟩ | ⟨b, off, c, rfl, hc⟩
  · clear hp hn
    go_enter Try.func16, Try.ntmps16
    go_wp2
    refine wp_loop_rounds 1 ?_
    rw [rounds_succ]
    go_wp2
    go_ret
    exact ⟨_, rfl, .inr ⟨by simp [sizeFrameS], by omega⟩, Kept.refl _ _⟩
  · have HP : Hid (RdR kFrame w (.slice (some ⟨b, off, none⟩) ps.length c) ps) := hp
    have HC : Hid (∀ j i, (h : j < ps.length) → i < 6 → w.cell? ⟨b, off + (j * 6 + i), none⟩ = (kFrame.cells ps[j])[i]?) := hc
    clear hp hc
    generalize hl : ps.length = len at hn HP ⊢
    have HL : Hid (ps.length = len) := hl
    clear hl
    by_cases h : left < len
    · go_enter Try.func16, Try.ntmps16
      go_wp2
      go_ret
      exact ⟨_, rfl, .inl rfl, Kept.refl _ _⟩
    · go_enter Try.func16, Try.ntmps16
      go_wp2
      go_loopw [1, 5] (fun u i wr => ∃ (k : Nat) (r : Int), k ≤ len ∧ i = .int .i64 k ∧ u = .int .i64 r ∧ 0 ≤ r ∧ r ≤ left ∧ Hid (r = left - len - sizeFrameS (ps.take k)) ∧ Hid (Same w wr)) (fun _ i _ => len - (intOf i).toNat)
      case atStart => exact ⟨0, left - len, Nat.zero_le _, rfl, rfl, by omega, by omega, by simp [sizeFrameS, Hid], Kept.refl _ _⟩
      case round =>
        obtain ⟨k, r, hk, rfl, rfl, hr0, hr1, HR, HK⟩ := hrel
        by_cases hlt : k < len
        · have hlp : k < ps.length := by rw [HL.out]; exact hlt
          obtain ⟨a1, c1, e1⟩ := (show Rd .u8 w ps[k].v ps[k].bs from HP.out.data _ (List.getElem_mem hlp)).form
          have hm1 := (show Rd .u8 w ps[k].v ps[k].bs from HP.out.data _ (List.getElem_mem hlp)).1
          have q0 : wr.cell? ⟨b, off + k * 6, none⟩ = some (.int .i64 ps[k].page) := HK.out.cellOf (p := ⟨b, off + k * 6, none⟩) (by have h := HC.out k 0 hlp (by decide); exact h) id
          have q1 : wr.cell? ⟨b, off + k * 6 + 1, none⟩ = some (ps[k].v) := HK.out.cellOf (p := ⟨b, off + k * 6 + 1, none⟩) (by have h := HC.out k 1 hlp (by decide); rw [← Nat.add_assoc] at h; exact h) id
          have q2 : wr.cell? ⟨b, off + k * 6 + 2, none⟩ = some (.int .i64 ps[k].pins) := HK.out.cellOf (p := ⟨b, off + k * 6 + 2, none⟩) (by have h := HC.out k 2 hlp (by decide); rw [← Nat.add_assoc] at h; exact h) id
          have q3 : wr.cell? ⟨b, off + k * 6 + 3, none⟩ = some (.bool ps[k].dirty) := HK.out.cellOf (p := ⟨b, off + k * 6 + 3, none⟩) (by have h := HC.out k 3 hlp (by decide); rw [← Nat.add_assoc] at h; exact h) id
          have q4 : wr.cell? ⟨b, off + k * 6 + 4, none⟩ = some (.int .i64 ps[k].rl) := HK.out.cellOf (p := ⟨b, off + k * 6 + 4, none⟩) (by have h := HC.out k 4 hlp (by decide); rw [← Nat.add_assoc] at h; exact h) id
          have q5 : wr.cell? ⟨b, off + k * 6 + 5, none⟩ = some (.bool ps[k].rf) := HK.out.cellOf (p := ⟨b, off + k * 6 + 5, none⟩) (by have h := HC.out k 5 hlp (by decide); rw [← Nat.add_assoc] at h; exact h) id
          rw [e1] at q1
          clear e1
          go_wp2_with fail
          refine (szFrame_any _ _ _ _ _ _ _ _ _ _ hr0 (by omega) hm1).mono ?_
          rintro e w1 ⟨r1, rfl, hr2, hk1⟩
          have HK1 : Hid (Same w w1) := HK.out.trans hk1
          clear q0 q1 q2 q3 q4 q5 hk1
          rcases hr2 with ⟨rfl, hr2⟩ | ⟨hr2, hr3⟩
          · go_wp2
            go_ret
            exact ⟨_, rfl, .inl rfl, HK1.out⟩
          · have hr4 : r1 ≤ left := by omega
            have HR1 : Hid (r1 = r - ps[k].bs.length) := hr2
            clear hr2
            go_wp2
            go_roundw
            case rel => exact ⟨k + 1, r1, by omega, by go_num, rfl, hr3, hr4, by have h1 := HR1.out; have h2 := HR.out; have h3 := sizeFrameS_step ps k hlp; unfold Hid; omega, HK1⟩
            case measure => simp [intOf]; omega
        · go_wp2
          go_ret
          obtain rfl : k = len := by omega
          have h1 := HR.out
          have h2 := HL.out
          rw [← h2, List.take_length] at h1
          exact ⟨r, rfl, .inr ⟨by omega, hr0⟩, HK.out⟩
def mFrame : MarkK kFrame := ⟨fun k p => ⟨k, p.v, marks (k + 1) p.bs.length, k + 1 + (p.bs.length : Int), (k + 1 + (p.bs.length : Int) + 1) % 3 == 0, k + 1 + (p.bs.length : Int) + 1 + 1, (k + 1 + (p.bs.length : Int) + 1 + 1 + 1) % 3 == 0⟩, fun p => 5 + p.bs.length, fun _ _ => rfl⟩
theorem endFrameS_size (k : Int) (ps : List EFrame) : endR mFrame k ps = k + 5 * ps.length + sizeFrameS ps := by
  induction ps generalizing k with
  | nil => simp [endR, sizeFrameS]
  | cons p ps ih =>
    have h : ((mFrame.sz p : Nat) : Int) = 5 + (p.bs.length : Int) := by simp [mFrame]
    simp only [endR, ih, sizeFrameS, List.length_cons]
    omega
theorem datFrameS_size {ps qs : List EFrame} (h : datFrameS ps = datFrameS qs) : sizeFrameS ps = sizeFrameS qs := by
  induction ps generalizing qs with
  | nil => cases qs with
    | nil => rfl
    | cons q qs => simp [datFrameS] at h
  | cons p ps ih => cases qs with
    | nil => simp [datFrameS] at h
    | cons q qs =>
      simp only [datFrameS, List.map_cons, List.cons.injEq, EFrame.dat, Prod.mk.injEq] at h
      simp only [sizeFrameS, ih h.2, h.1.2.1]
theorem markFrameS_own {tb : TypeId} (base : Nat) (va : Value) (ps : List EFrame) (k0 : Int) (w : World) (h0 : 0 ≤ k0) (h1 : endR mFrame k0 ps ≤ 1125899906842624) (hn : ps.length ≤ 1125899906842624)
    (ha : OwnR kFrame base 46 tb w va ps) :
    Calls Try.prog 24 #[va, .int .i64 k0] w fun e w' => e = .returned (.int .i64 (endR mFrame k0 ps)) ∧ OwnR kFrame base 46 tb w' va (markR mFrame k0 ps) ∧ Kept (footR kFrame va ps) w w' := by
  by_cases hz : ps.length = 0
  · obtain rfl : ps = [] := List.length_eq_zero_iff.1 hz
    obtain ⟨aa, ca, rfl⟩ : ∃ aa ca, va = .slice aa 0 ca := by rcases ha.form with ⟨rfl, _⟩ | ⟨g, cap, rfl, _⟩ <;> exact ⟨_, _, rfl⟩
    have HA : Hid (OwnR kFrame base 46 tb w (.slice aa 0 ca) []) := ha
    clear ha hn hz h1
    go_enter Try.func24, Try.ntmps24
    go_wp2
    refine wp_loop_rounds 1 ?_
    rw [rounds_succ]
    go_wp2
    go_ret
    exact ⟨by simp [endR], by simpa [markR] using HA.out, Kept.refl _ _⟩
  · obtain ⟨g, cap, rfl, hb, hlt, _, _⟩ : ∃ g cap, va = .slice (some ⟨g, 0, none⟩) ps.length cap ∧ base ≤ g ∧ g < w.heap.size ∧ ps.length ≤ cap ∧ cap ≤ maxLen := by
      rcases ha.form with ⟨_, rfl⟩ | h
      · simp at hz
      · exact h
    have H1 : Hid (endR mFrame k0 ps ≤ 1125899906842624) := h1
    have HA0 : Hid (OwnR kFrame base 46 tb w (.slice (some ⟨g, 0, none⟩) ps.length cap) ps) := ha
    clear h1 ha
    generalize hl : ps.length = len at *
    have HL : Hid (ps.length = len) := hl
    clear hl
    go_enter Try.func24, Try.ntmps24
    go_wp2
    go_loopw [1, 5] (fun v i wr => ∃ (k : Nat) (c : Int), k ≤ len ∧ i = .int .i64 k ∧ v = .int .i64 c ∧ Hid (c = endR mFrame k0 (ps.take k)) ∧ Hid (OwnR kFrame base 46 tb wr (.slice (some ⟨g, 0, none⟩) len cap) (partR mFrame k0 ps k)) ∧ Hid (Kept (footR kFrame (.slice (some ⟨g, 0, none⟩) len cap) ps) w wr)) (fun _ i _ => len - (intOf i).toNat)
    case atStart => exact ⟨0, k0, Nat.zero_le _, rfl, rfl, rfl, by rw [partR_zero]; exact HA0.out, Kept.refl _ _⟩
    case round =>
      obtain ⟨k, c, hk, rfl, rfl, HC, HO, HK⟩ := hrel
      by_cases hlt : k < len
      · have hlp : k < ps.length := by rw [HL.out]; exact hlt
        have hc0' : k0 ≤ c := by rw [HC.out]; exact endR_le _ _ _
        have hst := endR_step mFrame k0 ps k hlp
        have hc1' : c + 5 + ps[k].bs.length ≤ 1125899906842624 := by have h2 := endR_take_le mFrame k0 ps (k + 1); have h3 := H1.out; have h4 := HC.out; simp only [mFrame] at hst; simp only [mFrame] at h2 h3 h4; omega
        have HST := (show Hid (endR mFrame k0 (ps.take (k + 1)) = endR mFrame k0 (ps.take k) + (mFrame.sz ps[k] : Nat)) from hst)
        clear hst
        have HP0 : Hid (OwnR kFrame base 46 tb wr (.slice (some ⟨g, 0, none⟩) len cap) (markR mFrame k0 (ps.take k) ++ ps[k] :: ps.drop (k + 1))) := by
          have h := HO.out
          rw [partR_at _ _ _ _ hlp] at h
          exact h
        have HLN : ∀ e : EFrame, Hid (len = (markR mFrame k0 (ps.take k) ++ e :: ps.drop (k + 1)).length) := fun e => by have hl := HL.out; simp [Hid, markR_length]; omega
        have HPL : Hid ((markR mFrame k0 (ps.take k)).length = k) := by have hl := HL.out; simp [Hid, markR_length]; omega
        have hc0 : wr.cell? ⟨g, k * 6, none⟩ = some (.int .i64 ps[k].page) := HP0.out.cellMid (HLN _).out 0 (by decide) _ (by rw [HPL.out]; rfl)
        have hc1 : wr.cell? ⟨g, k * 6 + 1, none⟩ = some (ps[k].v) := HP0.out.cellMid (HLN _).out 1 (by decide) _ (by rw [HPL.out]; rfl)
        have hc2 : wr.cell? ⟨g, k * 6 + 2, none⟩ = some (.int .i64 ps[k].pins) := HP0.out.cellMid (HLN _).out 2 (by decide) _ (by rw [HPL.out]; rfl)
        have hc3 : wr.cell? ⟨g, k * 6 + 3, none⟩ = some (.bool ps[k].dirty) := HP0.out.cellMid (HLN _).out 3 (by decide) _ (by rw [HPL.out]; rfl)
        have hc4 : wr.cell? ⟨g, k * 6 + 4, none⟩ = some (.int .i64 ps[k].rl) := HP0.out.cellMid (HLN _).out 4 (by decide) _ (by rw [HPL.out]; rfl)
        have hc5 : wr.cell? ⟨g, k * 6 + 5, none⟩ = some (.bool ps[k].rf) := HP0.out.cellMid (HLN _).out 5 (by decide) _ (by rw [HPL.out]; rfl)
        have fr := HO.out.frozen (by rw [partR_length]; exact HL.out.symm)
        have HP1 : Hid (OwnR kFrame base 46 tb (wr.setCell ⟨g, k * 6, none⟩ (.int .i64 (c))) (.slice (some ⟨g, 0, none⟩) len cap) (markR mFrame k0 (ps.take k) ++ ⟨c, ps[k].v, ps[k].bs, ps[k].pins, ps[k].dirty, ps[k].rl, ps[k].rf⟩ :: ps.drop (k + 1))) := HP0.out.set (p' := ⟨c, ps[k].v, ps[k].bs, ps[k].pins, ps[k].dirty, ps[k].rl, ps[k].rf⟩) (HLN _).out 0 (.int .i64 (c)) (by decide) rfl rfl rfl (k * 6) (by first | (rw [HPL.out]; done) | (rw [HPL.out]; rfl))
        go_wp2_with fail
        refine (markByteS_own base ps[k].v ps[k].bs (c + 1) _ (by omega) (by omega) (by omega) (HP1.out.data ⟨c, ps[k].v, ps[k].bs, ps[k].pins, ps[k].dirty, ps[k].rl, ps[k].rf⟩ (by simp))).mono ?_
        rintro e w1 ⟨rfl, ho, hk1⟩
        have HQ0 : Hid (OwnR kFrame base 46 tb w1 (.slice (some ⟨g, 0, none⟩) len cap) (markR mFrame k0 (ps.take k) ++ ⟨c, ps[k].v, marks (c + 1) ps[k].bs.length, ps[k].pins, ps[k].dirty, ps[k].rl, ps[k].rf⟩ :: ps.drop (k + 1))) := HP1.out.setData (p' := (⟨c, ps[k].v, marks (c + 1) ps[k].bs.length, ps[k].pins, ps[k].dirty, ps[k].rl, ps[k].rf⟩ : EFrame)) hk1 rfl rfl ho
        have hd2 : w1.cell? ⟨g, k * 6 + 2, none⟩ = some (.int .i64 ps[k].pins) := HQ0.out.cellMid (HLN _).out 2 (by decide) _ (by rw [HPL.out]; rfl)
        have hd3 : w1.cell? ⟨g, k * 6 + 3, none⟩ = some (.bool ps[k].dirty) := HQ0.out.cellMid (HLN _).out 3 (by decide) _ (by rw [HPL.out]; rfl)
        have hd4 : w1.cell? ⟨g, k * 6 + 4, none⟩ = some (.int .i64 ps[k].rl) := HQ0.out.cellMid (HLN _).out 4 (by decide) _ (by rw [HPL.out]; rfl)
        have hd5 : w1.cell? ⟨g, k * 6 + 5, none⟩ = some (.bool ps[k].rf) := HQ0.out.cellMid (HLN _).out 5 (by decide) _ (by rw [HPL.out]; rfl)
        have fr1 : ∀ j, w1.frozen? ⟨g, j, none⟩ = false := fun j => HQ0.out.frozen (HLN _).out j
        have HQ1 : Hid (OwnR kFrame base 46 tb (w1.setCell ⟨g, k * 6 + 2, none⟩ (.int .i64 (c + 1 + (ps[k].bs.length : Int)))) (.slice (some ⟨g, 0, none⟩) len cap) (markR mFrame k0 (ps.take k) ++ ⟨c, ps[k].v, marks (c + 1) ps[k].bs.length, c + 1 + (ps[k].bs.length : Int), ps[k].dirty, ps[k].rl, ps[k].rf⟩ :: ps.drop (k + 1))) := HQ0.out.set (p' := ⟨c, ps[k].v, marks (c + 1) ps[k].bs.length, c + 1 + (ps[k].bs.length : Int), ps[k].dirty, ps[k].rl, ps[k].rf⟩) (HLN _).out 2 (.int .i64 (c + 1 + (ps[k].bs.length : Int))) (by decide) rfl rfl rfl (k * 6 + 2) (by first | (rw [HPL.out]; done) | (rw [HPL.out]; rfl))
        have HQ2 : Hid (OwnR kFrame base 46 tb ((w1.setCell ⟨g, k * 6 + 2, none⟩ (.int .i64 (c + 1 + (ps[k].bs.length : Int)))).setCell ⟨g, k * 6 + 3, none⟩ (.bool ((c + 1 + (ps[k].bs.length : Int) + 1) % 3 == 0))) (.slice (some ⟨g, 0, none⟩) len cap) (markR mFrame k0 (ps.take k) ++ ⟨c, ps[k].v, marks (c + 1) ps[k].bs.length, c + 1 + (ps[k].bs.length : Int), (c + 1 + (ps[k].bs.length : Int) + 1) % 3 == 0, ps[k].rl, ps[k].rf⟩ :: ps.drop (k + 1))) := HQ1.out.set (p' := ⟨c, ps[k].v, marks (c + 1) ps[k].bs.length, c + 1 + (ps[k].bs.length : Int), (c + 1 + (ps[k].bs.length : Int) + 1) % 3 == 0, ps[k].rl, ps[k].rf⟩) (HLN _).out 3 (.bool ((c + 1 + (ps[k].bs.length : Int) + 1) % 3 == 0)) (by decide) rfl rfl rfl (k * 6 + 3) (by first | (rw [HPL.out]; done) | (rw [HPL.out]; rfl))
        have HQ3 : Hid (OwnR kFrame base 46 tb (((w1.setCell ⟨g, k * 6 + 2, none⟩ (.int .i64 (c + 1 + (ps[k].bs.length : Int)))).setCell ⟨g, k * 6 + 3, none⟩ (.bool ((c + 1 + (ps[k].bs.length : Int) + 1) % 3 == 0))).setCell ⟨g, k * 6 + 4, none⟩ (.int .i64 (c + 1 + (ps[k].bs.length : Int) + 1 + 1))) (.slice (some ⟨g, 0, none⟩) len cap) (markR mFrame k0 (ps.take k) ++ ⟨c, ps[k].v, marks (c + 1) ps[k].bs.length, c + 1 + (ps[k].bs.length : Int), (c + 1 + (ps[k].bs.length : Int) + 1) % 3 == 0, c + 1 + (ps[k].bs.length : Int) + 1 + 1, ps[k].rf⟩ :: ps.drop (k + 1))) := HQ2.out.set (p' := ⟨c, ps[k].v, marks (c + 1) ps[k].bs.length, c + 1 + (ps[k].bs.length : Int), (c + 1 + (ps[k].bs.length : Int) + 1) % 3 == 0, c + 1 + (ps[k].bs.length : Int) + 1 + 1, ps[k].rf⟩) (HLN _).out 4 (.int .i64 (c + 1 + (ps[k].bs.length : Int) + 1 + 1)) (by decide) rfl rfl rfl (k * 6 + 4) (by first | (rw [HPL.out]; done) | (rw [HPL.out]; rfl))
        have HQ4 : Hid (OwnR kFrame base 46 tb ((((w1.setCell ⟨g, k * 6 + 2, none⟩ (.int .i64 (c + 1 + (ps[k].bs.length : Int)))).setCell ⟨g, k * 6 + 3, none⟩ (.bool ((c + 1 + (ps[k].bs.length : Int) + 1) % 3 == 0))).setCell ⟨g, k * 6 + 4, none⟩ (.int .i64 (c + 1 + (ps[k].bs.length : Int) + 1 + 1))).setCell ⟨g, k * 6 + 5, none⟩ (.bool ((c + 1 + (ps[k].bs.length : Int) + 1 + 1 + 1) % 3 == 0))) (.slice (some ⟨g, 0, none⟩) len cap) (markR mFrame k0 (ps.take k) ++ ⟨c, ps[k].v, marks (c + 1) ps[k].bs.length, c + 1 + (ps[k].bs.length : Int), (c + 1 + (ps[k].bs.length : Int) + 1) % 3 == 0, c + 1 + (ps[k].bs.length : Int) + 1 + 1, (c + 1 + (ps[k].bs.length : Int) + 1 + 1 + 1) % 3 == 0⟩ :: ps.drop (k + 1))) := HQ3.out.set (p' := ⟨c, ps[k].v, marks (c + 1) ps[k].bs.length, c + 1 + (ps[k].bs.length : Int), (c + 1 + (ps[k].bs.length : Int) + 1) % 3 == 0, c + 1 + (ps[k].bs.length : Int) + 1 + 1, (c + 1 + (ps[k].bs.length : Int) + 1 + 1 + 1) % 3 == 0⟩) (HLN _).out 5 (.bool ((c + 1 + (ps[k].bs.length : Int) + 1 + 1 + 1) % 3 == 0)) (by decide) rfl rfl rfl (k * 6 + 5) (by first | (rw [HPL.out]; done) | (rw [HPL.out]; rfl))
        have HO3 : Hid (OwnR kFrame base 46 tb ((((w1.setCell ⟨g, k * 6 + 2, none⟩ (.int .i64 (c + 1 + (ps[k].bs.length : Int)))).setCell ⟨g, k * 6 + 3, none⟩ (.bool ((c + 1 + (ps[k].bs.length : Int) + 1) % 3 == 0))).setCell ⟨g, k * 6 + 4, none⟩ (.int .i64 (c + 1 + (ps[k].bs.length : Int) + 1 + 1))).setCell ⟨g, k * 6 + 5, none⟩ (.bool ((c + 1 + (ps[k].bs.length : Int) + 1 + 1 + 1) % 3 == 0))) (.slice (some ⟨g, 0, none⟩) len cap) (partR mFrame k0 ps (k + 1))) := by
          rw [partR_step _ _ _ _ hlp, ← HC.out]
          exact HQ4.out
        have HK3 : Hid (Kept (footR kFrame (.slice (some ⟨g, 0, none⟩) len cap) ps) w ((((w1.setCell ⟨g, k * 6 + 2, none⟩ (.int .i64 (c + 1 + (ps[k].bs.length : Int)))).setCell ⟨g, k * 6 + 3, none⟩ (.bool ((c + 1 + (ps[k].bs.length : Int) + 1) % 3 == 0))).setCell ⟨g, k * 6 + 4, none⟩ (.int .i64 (c + 1 + (ps[k].bs.length : Int) + 1 + 1))).setCell ⟨g, k * 6 + 5, none⟩ (.bool ((c + 1 + (ps[k].bs.length : Int) + 1 + 1 + 1) % 3 == 0)))) := ((((((HK.out.setCell (p := ⟨g, k * 6, none⟩) (.inr (.inl rfl)) _).trans (hk1.mono fun b _ hb => .inr ⟨ps[k], List.getElem_mem _, hb⟩)).setCell (p := ⟨g, k * 6 + 2, none⟩) (.inr (.inl rfl)) _).setCell (p := ⟨g, k * 6 + 3, none⟩) (.inr (.inl rfl)) _).setCell (p := ⟨g, k * 6 + 4, none⟩) (.inr (.inl rfl)) _).setCell (p := ⟨g, k * 6 + 5, none⟩) (.inr (.inl rfl)) _)
        clear ho hk1 HO HP0 HP1 hc0 hc1 hc2 hc3 hc4 hc5
        go_wp2
        go_roundw
        case rel =>
          exact ⟨k + 1, c + 1 + (ps[k].bs.length : Int) + 1 + 1 + 1 + 1, by omega, by go_num, rfl, by unfold Hid; rw [HST.out, ← HC.out]; simp only [mFrame]; omega, HO3, HK3⟩
        case measure => simp [intOf]; omega
      · go_wp2
        go_ret
        obtain rfl : k = len := by omega
        have hl := HL.out
        have hc := HC.out
        have ho := HO.out
        rw [← hl, List.take_length] at hc
        rw [← hl, partR_all, hl] at ho
        exact ⟨ret_int hc, ho, HK.out⟩
theorem heldFrameS_own {tb : TypeId} (base : Nat) (va : Value) (ps : List EFrame) (k0 : Int) (w : World) (h0 : 0 ≤ k0) (h1 : endR mFrame k0 ps ≤ 1125899906842624) (hn : ps.length ≤ 1125899906842624)
    (ha : OwnR kFrame base 46 tb w va (markR mFrame k0 ps)) :
    Calls Try.prog 39 #[va, .int .i64 k0] w fun e w' => e = .returned (.int .i64 (endR mFrame k0 ps)) ∧ w' = w := by
  by_cases hz : ps.length = 0
  · obtain rfl : ps = [] := List.length_eq_zero_iff.1 hz
    obtain ⟨aa, ca, rfl⟩ : ∃ aa ca, va = .slice aa 0 ca := by rcases ha.form with ⟨rfl, _⟩ | ⟨g, cap, rfl, _⟩ <;> exact ⟨_, _, rfl⟩
    clear ha hn hz h1
    go_enter Try.func39, Try.ntmps39
    go_wp2
    refine wp_loop_rounds 1 ?_
    rw [rounds_succ]
    go_wp2
    go_ret
    exact ⟨by simp [endR], rfl⟩
  · obtain ⟨g, cap, rfl⟩ : ∃ g cap, va = .slice (some ⟨g, 0, none⟩) ps.length cap := by
      rcases ha.form with ⟨_, h⟩ | ⟨g, cap, h, _⟩
      · have := congrArg List.length h; simp [markR_length] at this; simp [this] at hz
      · exact ⟨g, cap, by rw [h, markR_length]⟩
    have H1 : Hid (endR mFrame k0 ps ≤ 1125899906842624) := h1
    have HA : Hid (OwnR kFrame base 46 tb w (.slice (some ⟨g, 0, none⟩) ps.length cap) (markR mFrame k0 ps)) := ha
    clear h1 ha
    generalize hl : ps.length = len at hn hz HA ⊢
    have HL : Hid (ps.length = len) := hl
    clear hl
    go_enter Try.func39, Try.ntmps39
    go_wp2
    go_loop [1, 5] (fun v i => ∃ (k : Nat) (c : Int), k ≤ len ∧ i = .int .i64 k ∧ v = .int .i64 c ∧ Hid (c = endR mFrame k0 (ps.take k))) (fun _ i => len - (intOf i).toNat)
    case atStart => exact ⟨0, k0, Nat.zero_le _, rfl, rfl, rfl⟩
    case round =>
      obtain ⟨k, c, hk, rfl, rfl, HC⟩ := hrel
      by_cases hlt : k < len
      · have hlp : k < ps.length := by rw [HL.out]; exact hlt
        have hlm : k < (markR mFrame k0 ps).length := by rw [markR_length]; exact hlp
        have hc0 : w.cell? ⟨g, k * 6, none⟩ = some (.int .i64 (c)) := by have h := HA.out.cell (by rw [markR_length]; exact HL.out.symm) k 0 hlm (by decide); rw [markR_at _ _ _ _ hlp, ← HC.out] at h; exact h
        have hc1 : w.cell? ⟨g, k * 6 + 1, none⟩ = some (ps[k].v) := by have h := HA.out.cell (by rw [markR_length]; exact HL.out.symm) k 1 hlm (by decide); rw [markR_at _ _ _ _ hlp, ← HC.out] at h; exact h
        have hc2 : w.cell? ⟨g, k * 6 + 2, none⟩ = some (.int .i64 (c + 1 + (ps[k].bs.length : Int))) := by have h := HA.out.cell (by rw [markR_length]; exact HL.out.symm) k 2 hlm (by decide); rw [markR_at _ _ _ _ hlp, ← HC.out] at h; exact h
        have hc3 : w.cell? ⟨g, k * 6 + 3, none⟩ = some (.bool ((c + 1 + (ps[k].bs.length : Int) + 1) % 3 == 0)) := by have h := HA.out.cell (by rw [markR_length]; exact HL.out.symm) k 3 hlm (by decide); rw [markR_at _ _ _ _ hlp, ← HC.out] at h; exact h
        have hc4 : w.cell? ⟨g, k * 6 + 4, none⟩ = some (.int .i64 (c + 1 + (ps[k].bs.length : Int) + 1 + 1)) := by have h := HA.out.cell (by rw [markR_length]; exact HL.out.symm) k 4 hlm (by decide); rw [markR_at _ _ _ _ hlp, ← HC.out] at h; exact h
        have hc5 : w.cell? ⟨g, k * 6 + 5, none⟩ = some (.bool ((c + 1 + (ps[k].bs.length : Int) + 1 + 1 + 1) % 3 == 0)) := by have h := HA.out.cell (by rw [markR_length]; exact HL.out.symm) k 5 hlm (by decide); rw [markR_at _ _ _ _ hlp, ← HC.out] at h; exact h
        have hd := HA.out.data _ (List.getElem_mem hlm)
        rw [markR_at _ _ _ _ hlp, ← HC.out] at hd
        have HD : Hid (Own base tb .u8 w ps[k].v (marks (c + 1) ps[k].bs.length)) := hd
        have hc0' : k0 ≤ c := by rw [HC.out]; exact endR_le _ _ _
        have hst := endR_step mFrame k0 ps k hlp
        have hc1' : c + 5 + ps[k].bs.length ≤ 1125899906842624 := by have h2 := endR_take_le mFrame k0 ps (k + 1); have h3 := H1.out; have h4 := HC.out; simp only [mFrame] at hst; simp only [mFrame] at h2 h3 h4; omega
        have HST := (show Hid (endR mFrame k0 (ps.take (k + 1)) = endR mFrame k0 (ps.take k) + (mFrame.sz ps[k] : Nat)) from hst)
        clear hd hst
        go_wp2_with fail
        refine (heldByteS_own base ps[k].v ps[k].bs.length (c + 1) _ (by omega) (by omega) (by omega) HD.out).mono ?_
        rintro e w1 ⟨rfl, rfl⟩
        go_wp2
        go_round
        case rel => exact ⟨k + 1, c + 1 + (ps[k].bs.length : Int) + 1 + 1 + 1 + 1, by omega, by go_num, rfl, by unfold Hid; rw [HST.out, ← HC.out]; simp only [mFrame]; omega⟩
        case measure => simp [intOf]; omega
      · go_wp2
        go_ret
        obtain rfl : k = len := by omega
        have hl := HL.out
        have hc := HC.out
        rw [← hl, List.take_length] at hc
        exact ⟨ret_int hc, rfl⟩
theorem toFrame_any (page : Int) (pins : Int) (dirty : Bool) (rl : Int) (rf : Bool) (v : Value) (bs : List Int) (w : World) (hn : bs.length ≤ 1099511627776) (hv : Rd .u8 w v bs) :
    Calls Try.prog 32 #[.agg #[.int .i64 page, v, .int .i64 pins, .bool dirty, .int .i64 rl, .bool rf]] w fun e w' => ∃ g, e = .returned (.agg #[.int .i64 page, .slice (some ⟨g, 0, none⟩) bs.length bs.length, .int .i64 pins, .bool dirty, .int .i64 rl, .bool rf]) ∧ w.heap.size ≤ g ∧ Own 0 5 .u8 w' (.slice (some ⟨g, 0, none⟩) bs.length bs.length) bs ∧ Same w w' := by
  obtain ⟨a, c, rfl⟩ := hv.form
  have HV := (show Hid (Rd .u8 w _ bs) from hv)
  clear hv
  have b0 : Blk (((w.alloc (.cells #[.int .i64 page, .slice a bs.length c, .int .i64 pins, .bool dirty, .int .i64 rl, .bool rf] 57)).alloc (.cells #[.int .i64 0, .slice none 0 0, .int .i64 0, .bool false, .int .i64 0, .bool false] 46)).alloc (.cells #[.int .i64 page, .slice none 0 0, .int .i64 0, .bool false, .int .i64 0, .bool false] 46)) w.heap.size 57 [.int .i64 page, .slice a bs.length c, .int .i64 pins, .bool dirty, .int .i64 rl, .bool rf] := ((Blk.newL w [.int .i64 page, .slice a bs.length c, .int .i64 pins, .bool dirty, .int .i64 rl, .bool rf] 57).same ((Kept.refl _ _).alloc _)).same ((Kept.refl _ _).alloc _)
  have b1 : Blk (((w.alloc (.cells #[.int .i64 page, .slice a bs.length c, .int .i64 pins, .bool dirty, .int .i64 rl, .bool rf] 57)).alloc (.cells #[.int .i64 0, .slice none 0 0, .int .i64 0, .bool false, .int .i64 0, .bool false] 46)).alloc (.cells #[.int .i64 page, .slice none 0 0, .int .i64 0, .bool false, .int .i64 0, .bool false] 46)) (w.heap.size + 1) 46 [.int .i64 0, .slice none 0 0, .int .i64 0, .bool false, .int .i64 0, .bool false] := (Blk.newB w [.int .i64 page, .slice a bs.length c, .int .i64 pins, .bool dirty, .int .i64 rl, .bool rf] 57 [.int .i64 0, .slice none 0 0, .int .i64 0, .bool false, .int .i64 0, .bool false] 46).same ((Kept.refl _ _).alloc _)
  have b2 : Blk (((w.alloc (.cells #[.int .i64 page, .slice a bs.length c, .int .i64 pins, .bool dirty, .int .i64 rl, .bool rf] 57)).alloc (.cells #[.int .i64 0, .slice none 0 0, .int .i64 0, .bool false, .int .i64 0, .bool false] 46)).alloc (.cells #[.int .i64 page, .slice none 0 0, .int .i64 0, .bool false, .int .i64 0, .bool false] 46)) (w.heap.size + 1 + 1) 46 [.int .i64 page, .slice none 0 0, .int .i64 0, .bool false, .int .i64 0, .bool false] := by have h := Blk.newL ((w.alloc (.cells #[.int .i64 page, .slice a bs.length c, .int .i64 pins, .bool dirty, .int .i64 rl, .bool rf] 57)).alloc (.cells #[.int .i64 0, .slice none 0 0, .int .i64 0, .bool false, .int .i64 0, .bool false] 46)) [.int .i64 page, .slice none 0 0, .int .i64 0, .bool false, .int .i64 0, .bool false] 46; rwa [World.size_alloc, World.size_alloc] at h
  go_enter Try.func32, Try.ntmps32
  go_wp2_with fail
  refine (toByteS_any _ bs _ hn (HV.out.same ((((Kept.refl _ _).alloc _).alloc _).alloc _))).mono ?_
  rintro e w1 ⟨g, rfl, hg, ho, hk⟩
  simp only [World.size_alloc] at hg
  have HO := (show Hid (Own 0 5 .u8 w1 _ bs) from ho)
  have HK : Hid (Same w w1) := ((((Kept.refl _ _).alloc _).alloc _).alloc _).trans hk
  have p2 := (b0.same hk).c2
  have p3 := (b0.same hk).c3
  have p4 := (b0.same hk).c4
  have p5 := (b0.same hk).c5
  have z0 := (b1.same hk).c0
  have z1 := (b1.same hk).c1
  have z2 := (b1.same hk).c2
  have z3 := (b1.same hk).c3
  have z4 := (b1.same hk).c4
  have z5 := (b1.same hk).c5
  have o0 := (b2.same hk).c0
  have o1 := (b2.same hk).c1
  have o2 := (b2.same hk).c2
  have o3 := (b2.same hk).c3
  have o4 := (b2.same hk).c4
  have o5 := (b2.same hk).c5
  have f1 := (b1.same hk).frozen
  have f2 := (b2.same hk).frozen
  have hz1 : w.heap.size + 1 + 1 < w1.heap.size := (b2.same hk).lt
  clear ho hk b0 b1 b2
  go_wp2
  refine bodyPost_ret (v := .agg #[.int .i64 page, .slice (some ⟨g, 0, none⟩) bs.length bs.length, .int .i64 pins, .bool dirty, .int .i64 rl, .bool rf]) (by simp [results, Try.results32, go_sem, z0, z1, z2, z3, z4, z5]) rfl ⟨g, rfl, by omega, ?_, ?_⟩
  · refine HO.out.kept (R := fun b => b = w.heap.size + 1 ∨ b = w.heap.size + 1 + 1) ?_ (fun b hb e => by simp [Value.ownBlock] at hb; omega)
    (iterate 11 refine Kept.setCell (R := fun b => b = w.heap.size + 1 ∨ b = w.heap.size + 1 + 1) ?_ (by first | exact .inr (.inl rfl) | exact .inr (.inr rfl)) _)
    exact Kept.refl _ _
  · (iterate 11 refine Kept.setCell ?_ (by first | exact .inl (Nat.le_succ _) | exact .inl (Nat.le_succ_of_le (Nat.le_succ _))) _)
    exact HK.out
def zFrame : EFrame := ⟨0, .slice none 0 0, [], 0, false, 0, false⟩
theorem toFrameS_any (v : Value) (ps : List EFrame) (w : World) (hn : ps.length ≤ 1073741824) (hs : ∀ p ∈ ps, p.bs.length ≤ 1099511627776) (hv : RdR kFrame w v ps) :
    Calls Try.prog 19 #[v] w fun e w' => ∃ g qs, e = .returned (.slice (some ⟨g, 0, none⟩) ps.length ps.length) ∧ datFrameS qs = datFrameS ps ∧ (∀ b, footR kFrame (.slice (some ⟨g, 0, none⟩) ps.length ps.length) qs b → w.heap.size ≤ b) ∧
      OwnR kFrame 0 46 5 w' (.slice (some ⟨g, 0, none⟩) ps.length ps.length) qs ∧ Same w w' := by
  obtain ⟨i0, hi, hz0, hz1, hz2⟩ := info_parts Try.infoRFrame
  rcases hv.row with ⟨rfl, a, c, rfl⟩ | ⟨b, off, c, rfl, hc⟩
  · clear hv hn hs
    go_enter Try.func19, Try.ntmps19
    go_wp2_with (at_make; refine wpList_make_full _ rfl (.tmp 6) (.tmp 6) 26 rfl 0 46 i0 (.agg #[.int .i64 0, .slice none 0 0, .int .i64 0, .bool false, .int .i64 0, .bool false]) 6 Try.underlying26 hi hz0 hz1 .i64 .i64 _ _ 0 rfl rfl (by simp) (by simp) (by simp) (by simp) (Nat.zero_le _) ?_; intro w1 hown1 hgrow1; have HO : Hid (OwnR kFrame 0 46 5 w1 (.slice (some ⟨w.heap.size, 0, none⟩) 0 0) []) := ownR_made (K := kFrame) (zp := zFrame) (z := .agg #[.int .i64 0, .slice none 0 0, .int .i64 0, .bool false, .int .i64 0, .bool false]) (by decide) rfl rfl rfl (n := 0) (by first | exact hown1 | simpa [kFrame] using hown1); have HK : Hid (Same w w1) := Kept.of_grown hgrow1 (fun k e => by cases e); clear hown1 hgrow1)
    refine wp_loop_rounds 1 ?_
    rw [rounds_succ]
    go_wp2
    go_ret
    refine ⟨w.heap.size, [], rfl, rfl, fun b hb => ?_, HO.out, HK.out⟩
    rcases hb with hb | ⟨p, hp, _⟩
    · simp [Value.ownBlock] at hb; omega
    · simp at hp
  · have HP : Hid (RdR kFrame w (.slice (some ⟨b, off, none⟩) ps.length c) ps) := hv
    have HC : Hid (∀ j i, (h : j < ps.length) → i < 6 → w.cell? ⟨b, off + (j * 6 + i), none⟩ = (kFrame.cells ps[j])[i]?) := hc
    have HS : Hid (∀ p ∈ ps, p.bs.length ≤ 1099511627776) := hs
    clear hc hv hs
    generalize hl : ps.length = len at hn HP ⊢
    have HL : Hid (ps.length = len) := hl
    clear hl
    go_enter Try.func19, Try.ntmps19
    go_wp2_with (at_make; refine wpList_make_full _ rfl (.tmp 6) (.tmp 6) 26 rfl 0 46 i0 (.agg #[.int .i64 0, .slice none 0 0, .int .i64 0, .bool false, .int .i64 0, .bool false]) 6 Try.underlying26 hi hz0 hz1 .i64 .i64 _ _ len rfl rfl (by simp) (by simp) (by rw [hz2]; omega) (by unfold maxLen; omega) (Nat.zero_le _) ?_; intro w1 hown1 hgrow1; have HO : Hid (OwnR kFrame 0 46 5 w1 (.slice (some ⟨w.heap.size, 0, none⟩) len len) (List.replicate len zFrame)) := ownR_made (K := kFrame) (zp := zFrame) (z := .agg #[.int .i64 0, .slice none 0 0, .int .i64 0, .bool false, .int .i64 0, .bool false]) (by decide) rfl rfl rfl (by first | exact hown1 | simpa [kFrame] using hown1); have HK : Hid (Same w w1) := Kept.of_grown hgrow1 (fun k e => by cases e); clear hown1 hgrow1)
    go_loopw [4] (fun i wr => ∃ (k : Nat) (qs : List EFrame), k ≤ len ∧ i = .int .i64 k ∧ qs.length = k ∧ Hid (datFrameS qs = datFrameS (ps.take k)) ∧ Hid (∀ b, (∃ p ∈ qs, (kFrame.v p).ownBlock = some b) → w.heap.size ≤ b) ∧ Hid (OwnR kFrame 0 46 5 wr (.slice (some ⟨w.heap.size, 0, none⟩) len len) (qs ++ List.replicate (len - k) zFrame)) ∧ Hid (Same w wr)) (fun i _ => len - (intOf i).toNat)
    case atStart => exact ⟨0, [], Nat.zero_le _, rfl, rfl, rfl, fun b ⟨p, hp, _⟩ => by simp at hp, by simpa using HO, HK⟩
    case round =>
      obtain ⟨k, qs, hk, rfl, hql, HQ, HF, HOr, HKr⟩ := hrel
      have HQL : Hid (qs.length = k) := hql
      clear hql
      by_cases hlt : k < len
      · have hlp : k < ps.length := by rw [HL.out]; exact hlt
        have HREP : Hid (List.replicate (len - k) zFrame = zFrame :: List.replicate (len - (k + 1)) zFrame) := by unfold Hid; rw [show len - k = len - (k + 1) + 1 from by omega, List.replicate_succ]
        have hd0 : Rd .u8 w ps[k].v ps[k].bs := HP.out.data _ (List.getElem_mem hlp)
        obtain ⟨a1, c1, e1⟩ := hd0.form
        have hd := hd0.same HKr.out
        have hm1 := HS.out _ (List.getElem_mem hlp)
        have q0 : wr.cell? ⟨b, off + k * 6, none⟩ = some (.int .i64 ps[k].page) := HKr.out.cellOf (p := ⟨b, off + k * 6, none⟩) (by have h := HC.out k 0 hlp (by decide); exact h) id
        have q1 : wr.cell? ⟨b, off + k * 6 + 1, none⟩ = some (ps[k].v) := HKr.out.cellOf (p := ⟨b, off + k * 6 + 1, none⟩) (by have h := HC.out k 1 hlp (by decide); rw [← Nat.add_assoc] at h; exact h) id
        have q2 : wr.cell? ⟨b, off + k * 6 + 2, none⟩ = some (.int .i64 ps[k].pins) := HKr.out.cellOf (p := ⟨b, off + k * 6 + 2, none⟩) (by have h := HC.out k 2 hlp (by decide); rw [← Nat.add_assoc] at h; exact h) id
        have q3 : wr.cell? ⟨b, off + k * 6 + 3, none⟩ = some (.bool ps[k].dirty) := HKr.out.cellOf (p := ⟨b, off + k * 6 + 3, none⟩) (by have h := HC.out k 3 hlp (by decide); rw [← Nat.add_assoc] at h; exact h) id
        have q4 : wr.cell? ⟨b, off + k * 6 + 4, none⟩ = some (.int .i64 ps[k].rl) := HKr.out.cellOf (p := ⟨b, off + k * 6 + 4, none⟩) (by have h := HC.out k 4 hlp (by decide); rw [← Nat.add_assoc] at h; exact h) id
        have q5 : wr.cell? ⟨b, off + k * 6 + 5, none⟩ = some (.bool ps[k].rf) := HKr.out.cellOf (p := ⟨b, off + k * 6 + 5, none⟩) (by have h := HC.out k 5 hlp (by decide); rw [← Nat.add_assoc] at h; exact h) id
        rw [e1] at q1 hd
        have HD := (show Hid (Rd .u8 wr _ ps[k].bs) from hd)
        have HLN : Hid (len = (qs ++ zFrame :: List.replicate (len - (k + 1)) zFrame).length) := by unfold Hid; simp [HQL.out]; omega
        clear e1 hd hd0
        go_wp2_with fail
        refine (toFrame_any _ _ _ _ _ _ ps[k].bs _ hm1 HD.out).mono ?_
        rintro e w2 ⟨g, rfl, hg, ho, hk2⟩
        have HO2 : Hid (OwnR kFrame 0 46 5 w2 (.slice (some ⟨w.heap.size, 0, none⟩) len len) (qs ++ zFrame :: List.replicate (len - (k + 1)) zFrame)) := by have h := HOr.out.same hk2; rw [HREP.out] at h; exact h
        have r0 : w2.cell? ⟨w.heap.size, k * 6, none⟩ = some (.int .i64 0) := HO2.out.cellMid HLN.out 0 (by decide) _ (by rw [HQL.out]; rfl)
        have r1 : w2.cell? ⟨w.heap.size, k * 6 + 1, none⟩ = some (.slice none 0 0) := HO2.out.cellMid HLN.out 1 (by decide) _ (by rw [HQL.out]; rfl)
        have r2 : w2.cell? ⟨w.heap.size, k * 6 + 2, none⟩ = some (.int .i64 0) := HO2.out.cellMid HLN.out 2 (by decide) _ (by rw [HQL.out]; rfl)
        have r3 : w2.cell? ⟨w.heap.size, k * 6 + 3, none⟩ = some (.bool false) := HO2.out.cellMid HLN.out 3 (by decide) _ (by rw [HQL.out]; rfl)
        have r4 : w2.cell? ⟨w.heap.size, k * 6 + 4, none⟩ = some (.int .i64 0) := HO2.out.cellMid HLN.out 4 (by decide) _ (by rw [HQL.out]; rfl)
        have r5 : w2.cell? ⟨w.heap.size, k * 6 + 5, none⟩ = some (.bool false) := HO2.out.cellMid HLN.out 5 (by decide) _ (by rw [HQL.out]; rfl)
        have rf : ∀ j, w2.frozen? ⟨w.heap.size, j, none⟩ = false := fun j => HO2.out.frozen HLN.out j
        have HK2 : Hid (Same w w2) := HKr.out.trans hk2
        have HO3 : Hid (Own 0 5 .u8 w2 (.slice (some ⟨g, 0, none⟩) ps[k].bs.length ps[k].bs.length) ps[k].bs) := ho
        have hg0 : w.heap.size ≤ g := Nat.le_trans HKr.out.size hg
        have HG : Hid (wr.heap.size ≤ g) := hg
        have HFIN : Hid (OwnR kFrame 0 46 5 (w2.setCells w.heap.size (k * 6) (kFrame.cells ⟨ps[k].page, .slice (some ⟨g, 0, none⟩) ps[k].bs.length ps[k].bs.length, ps[k].bs, ps[k].pins, ps[k].dirty, ps[k].rl, ps[k].rf⟩)) (.slice (some ⟨w.heap.size, 0, none⟩) len len) (qs ++ (⟨ps[k].page, .slice (some ⟨g, 0, none⟩) ps[k].bs.length ps[k].bs.length, ps[k].bs, ps[k].pins, ps[k].dirty, ps[k].rl, ps[k].rf⟩ : EFrame) :: List.replicate (len - (k + 1)) zFrame)) := HO2.out.setElem (p' := (⟨ps[k].page, .slice (some ⟨g, 0, none⟩) ps[k].bs.length ps[k].bs.length, ps[k].bs, ps[k].pins, ps[k].dirty, ps[k].rl, ps[k].rf⟩ : EFrame)) HLN.out (k * 6) (by rw [HQL.out]; rfl) HO3.out (fun b hb hf => by
          have h1 : b = g := (Option.some.inj hb : g = b).symm
          have h2 : footR kFrame (.slice (some ⟨w.heap.size, 0, none⟩) len len) (qs ++ List.replicate (len - k) zFrame) b := by rw [HREP.out]; exact hf
          have h3 := (HOr.out.lt b h2).2
          have h4 := HG.out
          omega)
        clear ho hk2 hg q0 q1 q2 q3 q4 q5
        go_wp2
        go_roundw
        case rel =>
          refine ⟨k + 1, qs ++ [⟨ps[k].page, .slice (some ⟨g, 0, none⟩) ps[k].bs.length ps[k].bs.length, ps[k].bs, ps[k].pins, ps[k].dirty, ps[k].rl, ps[k].rf⟩], by omega, by go_num, by simp [HQL.out], ?_, ?_, ?_, ?_⟩
          · have h1 := HQ.out
            unfold Hid
            rw [List.take_succ_eq_append_getElem hlp]
            simp only [datFrameS, List.map_append] at h1 ⊢
            rw [h1]; rfl
          · rintro b ⟨p, hp, hb⟩
            rcases List.mem_append.1 hp with hp | hp
            · exact HF.out b ⟨p, hp, hb⟩
            · obtain rfl := List.mem_singleton.1 hp
              have h : g = b := Option.some.inj hb
              omega
          · rw [List.append_assoc]
            exact HFIN
          · (iterate 6 refine Kept.setCell ?_ (.inl (Nat.le_refl _)) _)
            exact HK2.out
        case measure => simp [intOf]; omega
      · go_wp2
        go_ret
        obtain rfl : k = len := by omega
        have h := HOr.out
        have h2 := HL.out
        have h3 := HQ.out
        rw [Nat.sub_self, List.replicate_zero, List.append_nil] at h
        rw [← h2, List.take_length] at h3
        refine ⟨w.heap.size, qs, rfl, h3, fun b hb => ?_, h, HKr.out⟩
        rcases hb with hb | hb
        · simp [Value.ownBlock] at hb; omega
        · exact HF.out b hb
end Go.Proofs.Ytabmhcdldfehnab
