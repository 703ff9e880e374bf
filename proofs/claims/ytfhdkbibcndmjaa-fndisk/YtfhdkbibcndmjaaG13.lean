import Derived.Test.YtfhdkbibcndmjaaG08
import Derived.Test.YtfhdkbibcndmjaaG10
import Derived.Test.YtfhdkbibcndmjaaG00
import Derived.Test.YtfhdkbibcndmjaaG02
import Derived.Test.YtfhdkbibcndmjaaG01
import Derived.Deep.AppendLies
namespace Go.Proofs.Ytfhdkbibcndmjaa
set_option maxRecDepth 100000
open Go.RowKit
set_option linter.unusedSimpArgs false
set_option linter.unusedVariables false
def secB (dur : List Int) (i : Nat) : List Int := (dur.drop (i * 512)).take 512
def lastN (sel : Nat → Bool) (s : Int) (ds : List (Int × List Int)) : Nat → Option (List Int)
  | 0 => none
  | k + 1 => if (ds.getD k (0, [])).1 = s ∧ sel k = true then some (ds.getD k (0, [])).2 else lastN sel s ds k
theorem putAt_same (dur bs : List Int) (lo : Nat) (h : lo ≤ dur.length) : ((putAt dur lo bs).drop lo).take bs.length = bs := by
  unfold putAt
  have h1 : (dur.take lo).length = lo := by rw [List.length_take]; omega
  rw [List.drop_append, h1, List.drop_of_length_le (by omega), Nat.sub_self, List.drop_zero, List.nil_append, List.take_append_of_le_length (Nat.le_refl _), List.take_length]
theorem putAt_get (dur bs : List Int) (lo : Nat) (h : lo + bs.length ≤ dur.length) (k : Nat) (hk : k < lo ∨ lo + bs.length ≤ k) : (putAt dur lo bs)[k]? = dur[k]? := by
  unfold putAt
  have h1 : (dur.take lo).length = lo := by rw [List.length_take]; omega
  rcases hk with hk | hk
  · rw [List.getElem?_append_left (by omega), List.getElem?_take, if_pos hk]
  · rw [List.getElem?_append_right (by omega), List.getElem?_append_right (by omega), List.getElem?_drop, h1]
    congr 1
    omega
theorem secB_other (dur bs : List Int) (i j : Nat) (hij : i ≠ j) (hb : bs.length = 512) (h : j * 512 + 512 ≤ dur.length) : secB (putAt dur (j * 512) bs) i = secB dur i := by
  unfold secB
  apply List.ext_getElem?
  intro k
  rw [List.getElem?_take, List.getElem?_take]
  split
  · rw [List.getElem?_drop, List.getElem?_drop, putAt_get _ _ _ (by omega) _ (by rw [hb]; omega)]
  · rfl
theorem secB_same (dur bs : List Int) (i : Nat) (hb : bs.length = 512) (h : i * 512 + 512 ≤ dur.length) : secB (putAt dur (i * 512) bs) i = bs := by
  have := putAt_same dur bs (i * 512) (by omega)
  rw [hb] at this
  exact this
theorem settle_sec (sel : Nat → Bool) (dur : List Int) (ds : List (Int × List Int)) (hv : Valid dur.length ds) (i : Nat) (hi : i < dur.length / 512) : ∀ n, n ≤ ds.length → secB (settleN sel dur ds n) i = (lastN sel (i : Int) ds n).getD (secB dur i)
  | 0, _ => rfl
  | n + 1, hn => by
    have ih := settle_sec sel dur ds hv i hi n (by omega)
    have hl := settleN_length sel dur ds hv n (by omega)
    have hm : ds.getD n (0, []) ∈ ds := by simp [List.getD, show n < ds.length from by omega]
    obtain ⟨h1, h2, h3⟩ := hv.2 _ hm
    have h4 := hv.1.1
    unfold settleN lastN
    by_cases hs : sel n = true
    · rw [if_pos hs]
      by_cases hsec : (ds.getD n (0, [])).1 = (i : Int)
      · rw [if_pos ⟨hsec, hs⟩, hsec, show ((i : Int)).toNat = i from by omega, secB_same _ _ _ h3 (by omega)]
        rfl
      · rw [if_neg (fun h => hsec h.1), ← ih]
        exact secB_other _ _ _ _ (by omega) h3 (by omega)
    · rw [if_neg hs, if_neg (fun h => hs h.2)]
      exact ih
theorem lastP_lastN (s : Int) (ds : List (Int × List Int)) : ∀ n, n ≤ ds.length → lastP s (ds.take n) = lastN (fun _ => true) s ds n
  | 0, _ => by simp [lastP, lastN]
  | n + 1, hn => by
    have ih := lastP_lastN s ds n (by omega)
    have hg : ds.getD n (0, []) = ds[n]'(by omega) := by simp [List.getD, show n < ds.length from by omega]
    rw [List.take_succ_eq_append_getElem (by omega)]
    unfold lastN
    rw [hg]
    by_cases h : (ds[n]'(by omega)).1 = s
    · rw [if_pos ⟨h, rfl⟩, ← h]
      exact lastP_snoc _ _ _
    · rw [if_neg (fun q => h q.1), ← ih]
      exact lastP_append_none _ _ _ (fun p hp => by rw [List.mem_singleton.1 hp]; exact h)
theorem seeD_lastN (i : Nat) (dur : List Int) (ds : List (Int × List Int)) : seeD (i : Int) dur ds = (lastN (fun _ => true) (i : Int) ds ds.length).getD (secB dur i) := by
  have h := lastP_lastN (i : Int) ds ds.length (Nat.le_refl _)
  rw [List.take_length] at h
  unfold seeD secB
  rw [h, show ((i : Int)).toNat = i from by omega]
theorem runD_append (dur : List Int) (ds : List (Int × List Int)) (a b : List (Int × Int × List Int)) : runD dur ds (a ++ b) = runD (runD dur ds a).1 (runD dur ds a).2 b := by
  unfold runD
  rw [List.foldl_append]
theorem runD_parts (dur : List Int) (ds : List (Int × List Int)) (ops : List (Int × Int × List Int)) (k : Nat) : runD (runD dur ds (ops.take k)).1 (runD dur ds (ops.take k)).2 (ops.drop k) = runD dur ds ops := by
  rw [← runD_append, List.take_append_drop]
end Go.Proofs.Ytfhdkbibcndmjaa

namespace Go.Proofs.Ytfhdkbibcndmjaa
set_option maxRecDepth 100000
set_option maxHeartbeats 4000000
open Go.RowKit
set_option linter.unusedVariables false
structure Src (w : World) (B : Nat) (v : Value) (cs : List Int) (at_ : Nat) (size : Int) : Prop where
  blk : Blk w B 100 [v, .int .i64 at_, .int .i64 size]
  code : Rd .u8 w v cs
  bytes : IsB cs
  few : cs.length ≤ 1048576
  little : 0 ≤ size ∧ size ≤ 12
theorem Src.kept {R : Nat → Prop} {w w' : World} {B : Nat} {v : Value} {cs : List Int} {at_ : Nat} {size : Int} (h : Src w B v cs at_ size) (hk : Kept R w w') (hB : ¬ R B) (hv : Rd .u8 w' v cs) : Src w' B v cs at_ size :=
  ⟨h.blk.kept hk hB, hv, h.bytes, h.few, h.little⟩
theorem Src.same {w w' : World} {B : Nat} {v : Value} {cs : List Int} {at_ : Nat} {size : Int} (h : Src w B v cs at_ size) (hk : Same w w') : Src w' B v cs at_ size :=
  ⟨h.blk.same hk, h.code.same hk, h.bytes, h.few, h.little⟩
theorem source_any (v : Value) (cs : List Int) (w : World) (hb : IsB cs) (hn : cs.length ≤ 1048576) (hv : Rd .u8 w v cs) :
    Calls Try.prog 46 #[v] w fun e w' => ∃ B size, e = .returned (.pointer (some ⟨B, 0, none⟩)) ∧ w.heap.size ≤ B ∧ Src w' B v cs 0 size ∧ Same w w' := by
  obtain ⟨a, c, rfl⟩ := hv.form
  by_cases h : 12 < (cs.length : Int) / 16
  · go_enter Try.func46, Try.ntmps46
    go_wp2
    go_ret
    exact ⟨_, 12, rfl, Nat.le_refl _, ⟨Blk.new _ _ _, hv.same ((Kept.refl _ _).alloc _), hb, hn, by omega, by omega⟩, (Kept.refl _ _).alloc _⟩
  · go_enter Try.func46, Try.ntmps46
    go_wp2
    go_ret
    exact ⟨_, rfl, Nat.le_refl _, ⟨_, Blk.new _ _ _, hv.same ((Kept.refl _ _).alloc _), hb, hn, by omega, by omega⟩, (Kept.refl _ _).alloc _⟩
def Drawn (n r : Int) : Prop := (n < 1 → r = 0) ∧ (1 ≤ n → 0 ≤ r ∧ r < n)
theorem next_any (B : Nat) (v : Value) (cs : List Int) (k : Nat) (size n : Int) (w : World) (hs : Src w B v cs k size) (hR : ∀ w', Kept (fun b => b = B) w w' → Rd .u8 w' v cs) (hk : k ≤ 1073741824) (hn : IsI n) :
    Calls Try.prog 48 #[.pointer (some ⟨B, 0, none⟩), .int .i64 n] w fun e w' => ∃ r, e = .returned (.int .i64 r) ∧ Drawn n r ∧ Src w' B v cs (k + 1) size ∧ Kept (fun b => b = B) w w' := by
  obtain ⟨a, c, rfl⟩ := hs.code.form
  have c0 : w.cell? ⟨B, 0, none⟩ = some (.slice a cs.length c) := by rw [hs.blk.cell]; rfl
  have c1 : w.cell? ⟨B, 1, none⟩ = some (.int .i64 k) := by rw [hs.blk.cell]; rfl
  have f1 := hs.blk.frozen 1
  have hkk : Kept (fun b => b = B) w (w.setCell ⟨B, 1, none⟩ (.int .i64 ((k : Int) + 1))) := Kept.setCell (R := fun b => b = B) (Kept.refl _ _) (.inr rfl) _
  have hsrc : Src (w.setCell ⟨B, 1, none⟩ (.int .i64 ((k : Int) + 1))) B (.slice a cs.length c) cs (k + 1) size :=
    ⟨by have := hs.blk.stored 1 (.int .i64 ((k : Int) + 1)); exact this, hR _ hkk, hs.bytes, hs.few, hs.little⟩
  have HS := (show Hid (Src (w.setCell ⟨B, 1, none⟩ (.int .i64 ((k : Int) + 1))) B (.slice a cs.length c) cs (k + 1) size) from hsrc)
  have HK := (show Hid (Kept (fun b => b = B) w (w.setCell ⟨B, 1, none⟩ (.int .i64 ((k : Int) + 1)))) from hkk)
  have hfew := hs.few
  obtain ⟨hn1, hn2⟩ := hn
  clear hs hR hsrc hkk
  by_cases h1 : n < 1
  · go_enter Try.func48, Try.ntmps48
    go_wp2
    go_ret
    exact ⟨0, rfl, ⟨fun _ => rfl, fun h => by omega⟩, HS.out, HK.out⟩
  · by_cases h2 : cs.length = 0
    · have e0 : ((cs.length : Nat) : Int) = 0 := by omega
      rw [h2] at c0
      go_enter Try.func48, Try.ntmps48
      go_wp2
      go_ret
      refine ⟨_, rfl, ⟨fun h => by omega, fun h => ⟨Int.emod_nonneg _ (by omega), Int.emod_lt_of_pos _ (by omega)⟩⟩, ?_, HK.out⟩
      have := HS.out
      rw [h2] at this
      exact this
    · obtain ⟨b, off, rfl, hc⟩ : ∃ b off, a = some ⟨b, off, none⟩ ∧ ∀ i, i < cs.length → (w.setCell ⟨B, 1, none⟩ (.int .i64 ((k : Int) + 1))).cell? ⟨b, off + i, none⟩ = some (.int .u8 (cs.getD i 0)) := by
        rcases HS.out.code.2 with ⟨hnil, _⟩ | ⟨b, off, c', h, _, hc⟩
        · rw [hnil] at h2
          simp at h2
        · cases h
          exact ⟨b, off, rfl, hc⟩
      have q1 := hc (k % cs.length) (Nat.mod_lt _ (by omega))
      have q2 := hc ((k + 1) % cs.length) (Nat.mod_lt _ (by omega))
      have x1 := HS.out.bytes.at (k % cs.length) (Nat.mod_lt _ (by omega))
      have x2 := HS.out.bytes.at ((k + 1) % cs.length) (Nat.mod_lt _ (by omega))
      clear hc
      have m1 : (k : Int) % (cs.length : Int) = ((k % cs.length : Nat) : Int) := by simp
      have m2 : ((k : Int) + 1) % (cs.length : Int) = (((k + 1) % cs.length : Nat) : Int) := by simp
      have l1 := Nat.mod_lt k (y := cs.length) (by omega)
      have l2 := Nat.mod_lt (k + 1) (y := cs.length) (by omega)
      have d1 : (k : Int) / (cs.length : Int) = ((k / cs.length : Nat) : Int) := by simp
      have d2 : k / cs.length ≤ k := Nat.div_le_self _ _
      generalize cs.getD (k % cs.length) 0 = x at *
      generalize cs.getD ((k + 1) % cs.length) 0 = y at *
      generalize k % cs.length = i1 at *
      generalize (k + 1) % cs.length = i2 at *
      generalize k / cs.length = j1 at *
      generalize hl : cs.length = len at *
      have hl0 : (0 : Int) < (len : Int) := by omega
      have hl1 : ¬ (len : Int) = 0 := by omega
      have l1' : (i1 : Int) < (len : Int) := by omega
      have l2' : (i2 : Int) < (len : Int) := by omega
      by_cases h3 : 200 < n
      · go_enter Try.func48, Try.ntmps48
        go_wp2
        go_quiet (fail)
        go_wp2
        go_quiet (fail)
        go_wp2
        go_ret
        refine ⟨_, rfl, ⟨fun h => by omega, fun h => ⟨Int.emod_nonneg _ (by omega), Int.emod_lt_of_pos _ (by omega)⟩⟩, ?_, ?_⟩
        · exact HS.out.same ((Kept.refl _ _).drewN _)
        · exact HK.out.drewN _
      · go_enter Try.func48, Try.ntmps48
        go_wp2
        go_quiet (fail)
        go_wp2
        go_ret
        refine ⟨_, rfl, ⟨fun h => by omega, fun h => ⟨Int.emod_nonneg _ (by omega), Int.emod_lt_of_pos _ (by omega)⟩⟩, ?_, ?_⟩
        · exact HS.out.same ((Kept.refl _ _).drewN _)
        · exact HK.out.drewN _
theorem Own.emptyAt (w : World) (e : TypeId) : Own w.heap.size e .u8 (w.alloc (Obj.cells #[] e)) (.slice (some ⟨w.heap.size, 0, none⟩) 0 0) [] :=
  ⟨by simp [vals], .inr ⟨w.heap.size, 0, #[], rfl, Nat.le_refl _, by unfold World.alloc; exact Array.getElem?_push_size, Nat.le_refl _, Nat.zero_le _, by simp [vals]⟩⟩
theorem Src.lt {w : World} {B : Nat} {v : Value} {cs : List Int} {at_ : Nat} {size : Int} (h : Src w B v cs at_ size) : B < w.heap.size := h.blk.lt
structure SrcR (w0 w : World) (B : Nat) (v : Value) (cs : List Int) (k : Nat) (size : Int) : Prop where
  src : Src w B v cs k size
  kept : Kept (fun b => b = B) w0 w
  rd : ∀ w', Kept (fun b => b = B) w0 w' → Rd .u8 w' v cs
theorem source_r (v : Value) (cs : List Int) (w : World) (hb : IsB cs) (hn : cs.length ≤ 1048576) (hv : Rd .u8 w v cs) :
    Calls Try.prog 46 #[v] w fun e w' => ∃ B size, e = .returned (.pointer (some ⟨B, 0, none⟩)) ∧ w.heap.size ≤ B ∧ SrcR w' w' B v cs 0 size ∧ Same w w' := by
  refine (source_any v cs w hb hn hv).mono ?_
  rintro e w' ⟨B, size, rfl, hB, hs, hk⟩
  exact ⟨B, size, rfl, hB, ⟨hs, Kept.refl _ _, fun w2 h => hv.same (hk.next h (fun i hi e => by omega))⟩, hk⟩
end Go.Proofs.Ytfhdkbibcndmjaa

namespace Go.Proofs.Ytfhdkbibcndmjaa
open Go Go.RowKit
set_option linter.unusedVariables false
set_option linter.unusedSimpArgs false
theorem SrcR.lt {w0 w : World} {B : Nat} {v : Value} {cs : List Int} {k : Nat} {size : Int} (h : SrcR w0 w B v cs k size) : B < w.heap.size := h.src.lt
theorem SrcR.on {R : Nat → Prop} {w0 w w' : World} {B : Nat} {v : Value} {cs : List Int} {k : Nat} {size : Int} (h : SrcR w0 w B v cs k size) (hk : Kept R w w') (hB : ¬ R B) (hR : ∀ i, i < w0.heap.size → ¬ R i) : SrcR w0 w' B v cs k size := by
  have hk' : Kept (fun b => b = B) w0 w' := h.kept.next hk (fun i hi e => absurd e (hR i hi))
  exact ⟨h.src.kept hk hB (h.rd w' hk'), hk', h.rd⟩
theorem SrcR.same {w0 w w' : World} {B : Nat} {v : Value} {cs : List Int} {k : Nat} {size : Int} (h : SrcR w0 w B v cs k size) (hk : Same w w') : SrcR w0 w' B v cs k size := h.on hk id (fun _ _ => id)
theorem next_k {w0 w : World} {B : Nat} {v : Value} {cs : List Int} {k : Nat} {size : Int} (n : Int) (h : SrcR w0 w B v cs k size) (hk : k ≤ 1073741824) (hn : IsI n) :
    Calls Try.prog 48 #[.pointer (some ⟨B, 0, none⟩), .int .i64 n] w fun e w' => ∃ r, e = .returned (.int .i64 r) ∧ Drawn n r ∧ SrcR w0 w' B v cs (k + 1) size ∧ Kept (fun b => b = B) w w' := by
  refine (next_any B v cs k size n w h.src (fun w' hw => h.rd w' (h.kept.trans hw)) hk hn).mono ?_
  rintro e w' ⟨r, rfl, hd, hs, hk'⟩
  exact ⟨r, rfl, hd, ⟨hs, h.kept.trans hk', h.rd⟩, hk'⟩
end Go.Proofs.Ytfhdkbibcndmjaa

namespace Go.Proofs.Ytfhdkbibcndmjaa
set_option maxRecDepth 100000
set_option maxHeartbeats 4000000
open Go.RowKit
set_option linter.unusedVariables false
set_option linter.unusedSimpArgs false
theorem wrapU8_bounds (x : Int) : 0 ≤ IntKind.u8.wrap x ∧ IntKind.u8.wrap x ≤ 255 := by
  simp [IntKind.wrap, IntKind.bits, IntKind.signed]
  omega
theorem fill_k {w0 w : World} {B : Nat} {v : Value} {cs : List Int} {k : Nat} {size : Int} (N : Nat) (h : SrcR w0 w B v cs k size) (hk : k ≤ 1073741821) (hN : N ≤ 4096) :
    Calls Try.prog 83 #[.pointer (some ⟨B, 0, none⟩), .int .i64 (N : Int)] w fun e w' => ∃ (g : Nat) (bs : List Int), e = .returned (.slice (some ⟨g, 0, none⟩) N N) ∧ bs.length = N ∧ IsB bs ∧ Own w0.heap.size 5 .u8 w' (.slice (some ⟨g, 0, none⟩) N N) bs ∧ g ≠ B ∧ SrcR w0 w' B v cs (k + 2) size ∧ w.heap.size ≤ g ∧ Kept (fun b => b = B) w w' := by
  obtain ⟨i0, hi, hz0, hz1, hz2⟩ := info_parts Try.infoByte'
  have k0 := next_k 256 h (by omega) (by constructor <;> decide)
  clear h
  go_enter Try.func83, Try.ntmps83
  go_wp2_with fail
  refine k0.mono ?_
  rintro e w1 ⟨a, rfl, hd, hs, hk1⟩
  have HK1 := hid hk1
  have HS1 := hid hs
  clear k0 hs hk1 hd
  go_wp2_with fail
  refine (next_k 5 HS1.out (by omega) (by constructor <;> decide)).mono ?_
  rintro e w2 ⟨b, rfl, hd, hs2, hk2⟩
  have HK2 := hid (HK1.out.trans hk2)
  have HS2 := hid hs2
  have hsz := hs2.kept.size
  have hBl := hs2.lt
  have hw2s := HK2.out.size
  clear hs2 hk2 hd
  obtain ⟨a', ha'⟩ : ∃ x, IntKind.u8.wrap a = x := ⟨_, rfl⟩
  obtain ⟨b', hb'⟩ : ∃ x, IntKind.u8.wrap b = x := ⟨_, rfl⟩
  go_wp2_with (at_make; refine wpList_make_full _ rfl (.tmp 15) (.tmp 15) 22 rfl w0.heap.size 5 i0 (.int .u8 0) 1 Try.underlying22 hi hz0 hz1 .i64 .i64 _ _ N rfl rfl (by simp) (by simp) (by rw [hz2]; omega) (by unfold maxLen; omega) hsz ?_; intro w3 hown1 hgrow1; have HO : Hid (∃ bs : List Int, bs.length = N ∧ IsB bs ∧ Own w0.heap.size 5 .u8 w3 (.slice (some ⟨w2.heap.size, 0, none⟩) N N) bs) := ⟨List.replicate N 0, List.length_replicate, fun y hy => by rw [List.eq_of_mem_replicate hy]; omega, own_made (by simpa using hown1)⟩; have HS3 := hid (HS2.out.same (Kept.of_grown hgrow1 (fun k e => by cases e))); have HK3 := hid (HK2.out.trans ((Kept.of_grown hgrow1 (fun k e => by cases e) : Same w2 w3).mono (fun _ _ e => e.elim))); clear hown1 hgrow1)
  go_loopw [8] (fun i wr => ∃ (j : Nat), j ≤ N ∧ i = .int .i64 (j : Int) ∧ Hid (∃ bs : List Int, bs.length = N ∧ IsB bs ∧ Own w0.heap.size 5 .u8 wr (.slice (some ⟨w2.heap.size, 0, none⟩) N N) bs) ∧ Hid (SrcR w0 wr B v cs (k + 2) size) ∧ Hid (Kept (fun b => b = B) w wr)) (fun i _ => N - (intOf i).toNat)
  case atStart => exact ⟨0, Nat.zero_le _, rfl, HO, HS3, HK3⟩
  case round =>
    obtain ⟨j, hj, rfl, HOj, HSj, HKj⟩ := hrel
    by_cases hlt : j < N
    · obtain ⟨bs, hbl, hbb, ho⟩ := HOj.out
      have hc := ho.cell hbl.symm j (by omega)
      have hf := ho.frozen hbl.symm j
      have HO2 := hid ho
      clear ho
      go_wp2_with fail
      go_roundw
      case rel =>
        refine ⟨j + 1, by omega, by go_num, ⟨_, by rw [List.length_set, hbl], ?_, HO2.out.stored hbl.symm j _⟩, HSj.out.on (Kept.setCell (R := fun b => b = w2.heap.size) (Kept.refl _ _) (p := ⟨w2.heap.size, j, none⟩) (.inr rfl) _) (by omega) (fun i hi => by omega), HKj.out.setCell (p := ⟨w2.heap.size, j, none⟩) (.inl (by omega)) _⟩
        intro y hy
        rcases List.mem_or_eq_of_mem_set hy with hy | rfl
        · exact hbb y hy
        · exact wrapU8_bounds _
      case measure => simp [intOf]; omega
    · go_wp2
      go_ret
      obtain ⟨bs, hbl, hbb, ho⟩ := HOj.out
      exact ⟨w2.heap.size, bs, rfl, hbl, hbb, ho, by omega, HSj.out, by omega, HKj.out⟩
end Go.Proofs.Ytfhdkbibcndmjaa

namespace Go.Proofs.Ytfhdkbibcndmjaa
set_option maxRecDepth 100000
set_option maxHeartbeats 1000000
open Go.RowKit
theorem Try.infoByte : (Try.prog.info? 5).map (fun i => (i.zero, i.size, i.bytes)) = some (some (.int .u8 0), 1, 1) := by kernel_rfl
theorem specNewDisk_yes (s : Int) (w : World) (h1 : 1 ≤ s) (h2 : s ≤ 1024) :
    Calls Try.prog 82 #[.int .i64 s] w fun e w' => ∃ g, e = .returned (.agg #[.slice (some ⟨g, 0, none⟩) (s.toNat * 512) (s.toNat * 512), .slice none 0 0]) ∧ w.heap.size ≤ g ∧
      Own 0 5 .u8 w' (.slice (some ⟨g, 0, none⟩) (s.toNat * 512) (s.toNat * 512)) (List.replicate (s.toNat * 512) 0) ∧ Same w w' := by
  obtain ⟨n, rfl⟩ : ∃ n : Nat, s = n := ⟨s.toNat, by omega⟩
  obtain ⟨i0, hi, hz0, hz1, hz2⟩ := info_parts Try.infoByte
  have h1' : ¬ (n : Int) < 1 := by omega
  go_enter Try.func82, Try.ntmps82
  go_wp2_with (at_make; refine wpList_make_full _ rfl (.tmp 11) (.tmp 11) 22 rfl 0 5 i0 (.int .u8 0) 1 Try.underlying22 hi hz0 hz1 .i64 .i64 _ _ (n * 512) rfl rfl (by simp) (by simp) (by rw [hz2]; omega) (by unfold maxLen; omega) (Nat.zero_le _) ?_; intro w1 hown1 hgrow1; have HO : Hid (Own 0 5 .u8 w1 (.slice (some ⟨w.heap.size + 1, 0, none⟩) (n * 512) (n * 512)) (List.replicate (n * 512) 0)) := own_made (by simpa using hown1); have HK : Hid (Same w w1) := ((Kept.refl _ _).alloc _).grown hgrow1 (fun k e => by cases e); obtain ⟨q1, q2, q3, q4, q5⟩ := kept_two (Kept.of_grown (R := fun _ => False) hgrow1 (fun k e => by cases e)) id; clear hown1 hgrow1)
  refine bodyPost_ret (v := .agg #[.slice (some ⟨w.heap.size + 1, 0, none⟩) (n * 512) (n * 512), .slice none 0 0]) (by simp [results, Try.results82, go_sem, q1, q2]) rfl ⟨w.heap.size + 1, by simp, by omega, ?_, ?_⟩
  · exact HO.out.kept (R := fun b => b = w.heap.size) ((Kept.refl (fun b => b = w.heap.size) _).setTwo (.inr rfl) _ _) (fun b hb e => by simp [Value.ownBlock] at hb; omega)
  · exact HK.out.setTwo (.inl (Nat.le_refl _)) _ _
end Go.Proofs.Ytfhdkbibcndmjaa
