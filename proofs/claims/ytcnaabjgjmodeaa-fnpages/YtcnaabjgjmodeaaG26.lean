import Derived.Test.YtcnaabjgjmodeaaG00
import Derived.Test.YtcnaabjgjmodeaaG03
import Derived.Test.YtcnaabjgjmodeaaG04
import Derived.Test.YtcnaabjgjmodeaaG02
import Derived.Test.YtcnaabjgjmodeaaG08
import Derived.Test.YtcnaabjgjmodeaaSetS
import Derived.Test.YtcnaabjgjmodeaaG09
import Derived.Deep.AppendLies
namespace Go.Proofs.Ytcnaabjgjmodeaa
set_option maxRecDepth 100000
set_option maxHeartbeats 4000000
open Go.RowKit
set_option linter.unusedVariables false
structure Src (w : World) (B : Nat) (v : Value) (cs : List Int) (at_ : Nat) (size : Int) : Prop where
  blk : Blk w B 111 [v, .int .i64 at_, .int .i64 size]
  code : Rd .u8 w v cs
  bytes : IsB cs
  few : cs.length ≤ 1048576
  little : 0 ≤ size ∧ size ≤ 12
theorem Src.kept {R : Nat → Prop} {w w' : World} {B : Nat} {v : Value} {cs : List Int} {at_ : Nat} {size : Int} (h : Src w B v cs at_ size) (hk : Kept R w w') (hB : ¬ R B) (hv : Rd .u8 w' v cs) : Src w' B v cs at_ size :=
  ⟨h.blk.kept hk hB, hv, h.bytes, h.few, h.little⟩
theorem Src.same {w w' : World} {B : Nat} {v : Value} {cs : List Int} {at_ : Nat} {size : Int} (h : Src w B v cs at_ size) (hk : Same w w') : Src w' B v cs at_ size :=
  ⟨h.blk.same hk, h.code.same hk, h.bytes, h.few, h.little⟩
theorem source_any (v : Value) (cs : List Int) (w : World) (hb : IsB cs) (hn : cs.length ≤ 1048576) (hv : Rd .u8 w v cs) :
    Calls Try.prog 38 #[v] w fun e w' => ∃ B size, e = .returned (.pointer (some ⟨B, 0, none⟩)) ∧ w.heap.size ≤ B ∧ Src w' B v cs 0 size ∧ Same w w' := by
  obtain ⟨a, c, rfl⟩ := hv.form
  by_cases h : 12 < (cs.length : Int) / 16
  · go_enter Try.func38, Try.ntmps38
    go_wp2
    go_ret
    exact ⟨_, 12, rfl, Nat.le_refl _, ⟨Blk.new _ _ _, hv.same ((Kept.refl _ _).alloc _), hb, hn, by omega, by omega⟩, (Kept.refl _ _).alloc _⟩
  · go_enter Try.func38, Try.ntmps38
    go_wp2
    go_ret
    exact ⟨_, rfl, Nat.le_refl _, ⟨_, Blk.new _ _ _, hv.same ((Kept.refl _ _).alloc _), hb, hn, by omega, by omega⟩, (Kept.refl _ _).alloc _⟩
def Drawn (n r : Int) : Prop := (n < 1 → r = 0) ∧ (1 ≤ n → 0 ≤ r ∧ r < n)
theorem next_any (B : Nat) (v : Value) (cs : List Int) (k : Nat) (size n : Int) (w : World) (hs : Src w B v cs k size) (hR : ∀ w', Kept (fun b => b = B) w w' → Rd .u8 w' v cs) (hk : k ≤ 1073741824) (hn : IsI n) :
    Calls Try.prog 40 #[.pointer (some ⟨B, 0, none⟩), .int .i64 n] w fun e w' => ∃ r, e = .returned (.int .i64 r) ∧ Drawn n r ∧ Src w' B v cs (k + 1) size ∧ Kept (fun b => b = B) w w' := by
  obtain ⟨a, c, rfl⟩ := hs.code.form
  have c0 : w.cell? ⟨B, 0, none⟩ = some (.slice a cs.length c) := by rw [hs.blk.cell]; rfl
  have c1 : w.cell? ⟨B, 1, none⟩ = some (.int .i64 k) := by rw [hs.blk.cell]; rfl
  have f1 := hs.blk.frozen 1
  have hkk : Kept (fun b => b = B) w (w.setCell ⟨B, 1, none⟩ (.int .i64 ((k : Int) + 1))) := Kept.setCell (R := fun b => b = B) (Kept.refl _ _) (.inr rfl) _
  have hsrc : Src (w.setCell ⟨B, 1, none⟩ (.int .i64 ((k : Int) + 1))) B (.slice a cs.length c) cs (k + 1) size :=
    ⟨by have := hs.blk.stored 1 (.int .i64 ((k : Int) + 1)); exact this, hR _ hkk, hs.bytes, hs.few, hs.little⟩
  have HS := (show Hid (Src (w.setCell ⟨B, 1, none⟩ (.int .i64 ((k : Int) + 1))) B (.slice a cs.length c) cs (k + 1) size) from hsrc)
  have HK := (show Hid (Kept (fun b => b = B) w (w.setCell ⟨B, 1, none⟩ (.int .i64 ((k : Int) + 1)))) from hkk)
  have hfew := hs.few
  obtain ⟨hn1, hn2⟩ := hn
  clear hs hR hsrc hkk
  by_cases h1 : n < 1
  · go_enter Try.func40, Try.ntmps40
    go_wp2
    go_ret
    exact ⟨0, rfl, ⟨fun _ => rfl, fun h => by omega⟩, HS.out, HK.out⟩
  · by_cases h2 : cs.length = 0
    · have e0 : ((cs.length : Nat) : Int) = 0 := by omega
      rw [h2] at c0
      go_enter Try.func40, Try.ntmps40
      go_wp2
      go_ret
      refine ⟨_, rfl, ⟨fun h => by omega, fun h => ⟨Int.emod_nonneg _ (by omega), Int.emod_lt_of_pos _ (by omega)⟩⟩, ?_, HK.out⟩
      have := HS.out
      rw [h2] at this
      exact this
    · obtain ⟨b, off, rfl, hc⟩ : ∃ b off, a = some ⟨b, off, none⟩ ∧ ∀ i, i < cs.length → (w.setCell ⟨B, 1, none⟩ (.int .i64 ((k : Int) + 1))).cell? ⟨b, off + i, none⟩ = some (.int .u8 (cs.getD i 0)) := by
        rcases HS.out.code.2 with ⟨hnil, _⟩ | ⟨b, off, c', h, _, hc⟩
        · rw [hnil] at h2
          simp at h2
        · cases h
          exact ⟨b, off, rfl, hc⟩
      have q1 := hc (k % cs.length) (Nat.mod_lt _ (by omega))
      have q2 := hc ((k + 1) % cs.length) (Nat.mod_lt _ (by omega))
      have x1 := HS.out.bytes.at (k % cs.length) (Nat.mod_lt _ (by omega))
      have x2 := HS.out.bytes.at ((k + 1) % cs.length) (Nat.mod_lt _ (by omega))
      clear hc
      have m1 : (k : Int) % (cs.length : Int) = ((k % cs.length : Nat) : Int) := by simp
      have m2 : ((k : Int) + 1) % (cs.length : Int) = (((k + 1) % cs.length : Nat) : Int) := by simp
      have l1 := Nat.mod_lt k (y := cs.length) (by omega)
      have l2 := Nat.mod_lt (k + 1) (y := cs.length) (by omega)
      have d1 : (k : Int) / (cs.length : Int) = ((k / cs.length : Nat) : Int) := by simp
      have d2 : k / cs.length ≤ k := Nat.div_le_self _ _
      generalize cs.getD (k % cs.length) 0 = x at *
      generalize cs.getD ((k + 1) % cs.length) 0 = y at *
      generalize k % cs.length = i1 at *
      generalize (k + 1) % cs.length = i2 at *
      generalize k / cs.length = j1 at *
      generalize hl : cs.length = len at *
      have hl0 : (0 : Int) < (len : Int) := by omega
      have hl1 : ¬ (len : Int) = 0 := by omega
      have l1' : (i1 : Int) < (len : Int) := by omega
      have l2' : (i2 : Int) < (len : Int) := by omega
      by_cases h3 : 200 < n
      · go_enter Try.func40, Try.ntmps40
        go_wp2
        go_quiet (fail)
        go_wp2
        go_quiet (fail)
        go_wp2
        go_ret
        refine ⟨_, rfl, ⟨fun h => by omega, fun h => ⟨Int.emod_nonneg _ (by omega), Int.emod_lt_of_pos _ (by omega)⟩⟩, ?_, ?_⟩
        · exact HS.out.same ((Kept.refl _ _).drewN _)
        · exact HK.out.drewN _
      · go_enter Try.func40, Try.ntmps40
        go_wp2
        go_quiet (fail)
        go_wp2
        go_ret
        refine ⟨_, rfl, ⟨fun h => by omega, fun h => ⟨Int.emod_nonneg _ (by omega), Int.emod_lt_of_pos _ (by omega)⟩⟩, ?_, ?_⟩
        · exact HS.out.same ((Kept.refl _ _).drewN _)
        · exact HK.out.drewN _
theorem Src.lt {w : World} {B : Nat} {v : Value} {cs : List Int} {at_ : Nat} {size : Int} (h : Src w B v cs at_ size) : B < w.heap.size := h.blk.lt
structure SrcR (w0 w : World) (B : Nat) (v : Value) (cs : List Int) (k : Nat) (size : Int) : Prop where
  src : Src w B v cs k size
  kept : Kept (fun b => b = B) w0 w
  rd : ∀ w', Kept (fun b => b = B) w0 w' → Rd .u8 w' v cs
theorem source_r (v : Value) (cs : List Int) (w : World) (hb : IsB cs) (hn : cs.length ≤ 1048576) (hv : Rd .u8 w v cs) :
    Calls Try.prog 38 #[v] w fun e w' => ∃ B size, e = .returned (.pointer (some ⟨B, 0, none⟩)) ∧ w.heap.size ≤ B ∧ SrcR w' w' B v cs 0 size ∧ Same w w' := by
  refine (source_any v cs w hb hn hv).mono ?_
  rintro e w' ⟨B, size, rfl, hB, hs, hk⟩
  exact ⟨B, size, rfl, hB, ⟨hs, Kept.refl _ _, fun w2 h => hv.same (hk.next h (fun i hi e => by omega))⟩, hk⟩
end Go.Proofs.Ytcnaabjgjmodeaa

namespace Go.Proofs.Ytcnaabjgjmodeaa
open Go Go.RowKit
set_option linter.unusedVariables false
set_option linter.unusedSimpArgs false
theorem SrcR.lt {w0 w : World} {B : Nat} {v : Value} {cs : List Int} {k : Nat} {size : Int} (h : SrcR w0 w B v cs k size) : B < w.heap.size := h.src.lt
theorem SrcR.on {R : Nat → Prop} {w0 w w' : World} {B : Nat} {v : Value} {cs : List Int} {k : Nat} {size : Int} (h : SrcR w0 w B v cs k size) (hk : Kept R w w') (hB : ¬ R B) (hR : ∀ i, i < w0.heap.size → ¬ R i) : SrcR w0 w' B v cs k size := by
  have hk' : Kept (fun b => b = B) w0 w' := h.kept.next hk (fun i hi e => absurd e (hR i hi))
  exact ⟨h.src.kept hk hB (h.rd w' hk'), hk', h.rd⟩
theorem SrcR.same {w0 w w' : World} {B : Nat} {v : Value} {cs : List Int} {k : Nat} {size : Int} (h : SrcR w0 w B v cs k size) (hk : Same w w') : SrcR w0 w' B v cs k size := h.on hk id (fun _ _ => id)
theorem next_k {w0 w : World} {B : Nat} {v : Value} {cs : List Int} {k : Nat} {size : Int} (n : Int) (h : SrcR w0 w B v cs k size) (hk : k ≤ 1073741824) (hn : IsI n) :
    Calls Try.prog 40 #[.pointer (some ⟨B, 0, none⟩), .int .i64 n] w fun e w' => ∃ r, e = .returned (.int .i64 r) ∧ Drawn n r ∧ SrcR w0 w' B v cs (k + 1) size ∧ Kept (fun b => b = B) w w' := by
  refine (next_any B v cs k size n w h.src (fun w' hw => h.rd w' (h.kept.trans hw)) hk hn).mono ?_
  rintro e w' ⟨r, rfl, hd, hs, hk'⟩
  exact ⟨r, rfl, hd, ⟨hs, h.kept.trans hk', h.rd⟩, hk'⟩
theorem chance_k {w0 w : World} {B : Nat} {v : Value} {cs : List Int} {k : Nat} {size : Int} (n : Int) (h : SrcR w0 w B v cs k size) (hk : k ≤ 1073741824) (hn : IsI n) :
    Calls Try.prog 77 #[.pointer (some ⟨B, 0, none⟩), .int .i64 n] w fun e w' => ∃ b, e = .returned (.bool b) ∧ SrcR w0 w' B v cs (k + 1) size ∧ Kept (fun b => b = B) w w' := by
  have k0 := next_k n h hk hn
  clear h
  go_enter Try.func77, Try.ntmps77
  go_wp2_with fail
  refine k0.mono ?_
  rintro e w1 ⟨r, rfl, hd, hs, hk1⟩
  have HS := hid hs
  have HK := hid hk1
  clear k0 hs hk1
  go_wp2
  go_ret
  exact ⟨_, rfl, HS.out, HK.out⟩
end Go.Proofs.Ytcnaabjgjmodeaa

namespace Go.Proofs.Ytcnaabjgjmodeaa
set_option maxRecDepth 100000
set_option maxHeartbeats 4000000
open Go.RowKit
set_option linter.unusedVariables false
set_option linter.unusedSimpArgs false
theorem wrapU8_bounds (x : Int) : 0 ≤ IntKind.u8.wrap x ∧ IntKind.u8.wrap x ≤ 255 := by
  simp [IntKind.wrap, IntKind.bits, IntKind.signed]
  omega
theorem fill_k {w0 w : World} {B : Nat} {v : Value} {cs : List Int} {k : Nat} {size : Int} (N : Nat) (h : SrcR w0 w B v cs k size) (hk : k ≤ 1073741821) (hN : N ≤ 4096) :
    Calls Try.prog 42 #[.pointer (some ⟨B, 0, none⟩), .int .i64 (N : Int)] w fun e w' => ∃ (g : Nat) (bs : List Int), e = .returned (.slice (some ⟨g, 0, none⟩) N N) ∧ bs.length = N ∧ IsB bs ∧ Own w0.heap.size 5 .u8 w' (.slice (some ⟨g, 0, none⟩) N N) bs ∧ g ≠ B ∧ SrcR w0 w' B v cs (k + 2) size ∧ w.heap.size ≤ g ∧ Kept (fun b => b = B) w w' := by
  obtain ⟨i0, hi, hz0, hz1, hz2⟩ := info_parts Try.infoByte'
  have k0 := next_k 256 h (by omega) (by constructor <;> decide)
  clear h
  go_enter Try.func42, Try.ntmps42
  go_wp2_with fail
  refine k0.mono ?_
  rintro e w1 ⟨a, rfl, hd, hs, hk1⟩
  have HK1 := hid hk1
  have HS1 := hid hs
  clear k0 hs hk1 hd
  go_wp2_with fail
  refine (next_k 5 HS1.out (by omega) (by constructor <;> decide)).mono ?_
  rintro e w2 ⟨b, rfl, hd, hs2, hk2⟩
  have HK2 := hid (HK1.out.trans hk2)
  have HS2 := hid hs2
  have hsz := hs2.kept.size
  have hBl := hs2.lt
  have hw2s := HK2.out.size
  clear hs2 hk2 hd
  obtain ⟨a', ha'⟩ : ∃ x, IntKind.u8.wrap a = x := ⟨_, rfl⟩
  obtain ⟨b', hb'⟩ : ∃ x, IntKind.u8.wrap b = x := ⟨_, rfl⟩
  go_wp2_with (at_make; refine wpList_make_full _ rfl (.tmp 15) (.tmp 15) 22 rfl w0.heap.size 5 i0 (.int .u8 0) 1 Try.underlying22 hi hz0 hz1 .i64 .i64 _ _ N rfl rfl (by simp) (by simp) (by rw [hz2]; omega) (by unfold maxLen; omega) hsz ?_; intro w3 hown1 hgrow1; have HO : Hid (∃ bs : List Int, bs.length = N ∧ IsB bs ∧ Own w0.heap.size 5 .u8 w3 (.slice (some ⟨w2.heap.size, 0, none⟩) N N) bs) := ⟨List.replicate N 0, List.length_replicate, fun y hy => by rw [List.eq_of_mem_replicate hy]; omega, own_made (by simpa using hown1)⟩; have HS3 := hid (HS2.out.same (Kept.of_grown hgrow1 (fun k e => by cases e))); have HK3 := hid (HK2.out.trans ((Kept.of_grown hgrow1 (fun k e => by cases e) : Same w2 w3).mono (fun _ _ e => e.elim))); clear hown1 hgrow1)
  go_loopw [8] (fun i wr => ∃ (j : Nat), j ≤ N ∧ i = .int .i64 (j : Int) ∧ Hid (∃ bs : List Int, bs.length = N ∧ IsB bs ∧ Own w0.heap.size 5 .u8 wr (.slice (some ⟨w2.heap.size, 0, none⟩) N N) bs) ∧ Hid (SrcR w0 wr B v cs (k + 2) size) ∧ Hid (Kept (fun b => b = B) w wr)) (fun i _ => N - (intOf i).toNat)
  case atStart => exact ⟨0, Nat.zero_le _, rfl, HO, HS3, HK3⟩
  case round =>
    obtain ⟨j, hj, rfl, HOj, HSj, HKj⟩ := hrel
    by_cases hlt : j < N
    · obtain ⟨bs, hbl, hbb, ho⟩ := HOj.out
      have hc := ho.cell hbl.symm j (by omega)
      have hf := ho.frozen hbl.symm j
      have HO2 := hid ho
      clear ho
      go_wp2_with fail
      go_roundw
      case rel =>
        refine ⟨j + 1, by omega, by go_num, ⟨_, by rw [List.length_set, hbl], ?_, HO2.out.stored hbl.symm j _⟩, HSj.out.on (Kept.setCell (R := fun b => b = w2.heap.size) (Kept.refl _ _) (p := ⟨w2.heap.size, j, none⟩) (.inr rfl) _) (by omega) (fun i hi => by omega), HKj.out.setCell (p := ⟨w2.heap.size, j, none⟩) (.inl (by omega)) _⟩
        intro y hy
        rcases List.mem_or_eq_of_mem_set hy with hy | rfl
        · exact hbb y hy
        · exact wrapU8_bounds _
      case measure => simp [intOf]; omega
    · go_wp2
      go_ret
      obtain ⟨bs, hbl, hbb, ho⟩ := HOj.out
      exact ⟨w2.heap.size, bs, rfl, hbl, hbb, ho, by omega, HSj.out, by omega, HKj.out⟩
end Go.Proofs.Ytcnaabjgjmodeaa

namespace Go.Proofs.Ytcnaabjgjmodeaa
set_option maxRecDepth 100000
set_option maxHeartbeats 8000000
open Go.RowKit
set_option linter.unusedVariables false
set_option linter.unusedSimpArgs false
def newB (n : Int) : List Int := List.replicate 12 0 ++ lows n 4 ++ lows 4096 2 ++ List.replicate 4078 0
theorem newB_length (n : Int) : (newB n).length = 4096 := by
  unfold newB
  rw [List.length_append, List.length_append, List.length_append, lows_length, lows_length, List.length_replicate, List.length_replicate]
theorem newB_isB (n : Int) : IsB (newB n) := by
  intro y hy
  simp only [newB, List.mem_append] at hy
  rcases hy with ((h | h) | h) | h
  · have := List.eq_of_mem_replicate h; omega
  · exact lows_isB n 4 y h
  · exact lows_isB 4096 2 y h
  · have := List.eq_of_mem_replicate h; omega
theorem newB_enc (n : Int) : encB (List.replicate 4 0) 0 n 4096 (List.replicate 64 0) (List.replicate 4096 0) = newB n := by
  have e1 : slotB (List.replicate 64 0) = List.replicate 128 0 := by decide +kernel
  have e2 : lows 0 8 = List.replicate 8 0 := by decide
  have e3 : lows 0 2 = List.replicate 2 0 := by decide
  unfold encB headB newB cont
  rw [e1, e2, e3]
  have e4 : ((List.replicate 4 (0 : Int) ++ List.replicate 8 0 ++ lows n 4 ++ lows 4096 2 ++ List.replicate 2 0 ++ List.replicate 128 0).length) = 148 := by simp [lows_length]
  rw [e4, List.drop_replicate]
  simp only [List.append_assoc, List.replicate_append_replicate]
def pageNew (n : Int) : List Int := if n < 0 ∨ 16 ≤ n then [] else sealB (newB n)
theorem cont_zeros (k n : Nat) (h : k ≤ n) : cont (List.replicate k 0) (List.replicate n 0) = List.replicate n 0 := by
  unfold cont
  rw [List.length_replicate, List.drop_replicate, List.replicate_append_replicate]
  congr 1
  omega
theorem newB_cont (n : Int) : cont (List.replicate 12 0 ++ lows n 4 ++ lows 4096 2) (List.replicate 4096 0) = newB n := by
  unfold cont newB
  have e : (List.replicate 12 (0 : Int) ++ lows n 4 ++ lows 4096 2).length = 18 := by simp [lows_length]
  rw [e, List.drop_replicate]
theorem numB_small (x n : Int) (hn : 1 ≤ n) (hn8 : n ≤ 8) (h0 : 0 ≤ x) (h1 : x / 256 ^ n.toNat = 0) : numB x n = lows x n.toNat := by
  unfold numB
  rw [if_neg (by omega)]
theorem own_cells {base g n c : Nat} {e : TypeId} {w : World} {bs : List Int} (h : Own base e .u8 w (.slice (some ⟨g, 0, none⟩) n c) bs) (hn : n = bs.length) (j : Nat) (u : Value) (hu : (vals .u8 bs)[j]? = some u) : w.cell? ((⟨g, 0, none⟩ : Addr).add j) = some u := by
  have hj : j < bs.length := by have := (List.getElem?_eq_some_iff.1 hu).1; rwa [vals_length] at this
  rw [addr_add, Nat.zero_add, h.cell hn j (by omega), ← hu, vals_at _ _ _ hj]
theorem own_some {base n c : Nat} {a : Option Addr} {e : TypeId} {w : World} {bs : List Int} (h : Own base e .u8 w (.slice a n c) bs) (hn : 0 < bs.length) : ∃ g, a = some ⟨g, 0, none⟩ := by
  rcases h.form with ⟨_, h0⟩ | ⟨g, cap, e, _⟩
  · rw [h0] at hn
    simp at hn
  · cases e
    exact ⟨g, rfl⟩
theorem specNew_yes (n : Int) (w : World) (h0 : 0 ≤ n) (h1 : n < 16) :
    Calls Try.prog 93 #[.int .i64 n] w fun e w' => ∃ a c, e = .returned (.slice a (pageNew n).length c) ∧ (∀ b, (Value.slice a (pageNew n).length c).ownBlock = some b → w.heap.size ≤ b) ∧
      Own 0 5 .u8 w' (.slice a (pageNew n).length c) (pageNew n) ∧ Same w w' := by
  have hR : pageNew n = pageSeal (newB n) := by unfold pageNew pageSeal; rw [if_neg (by omega), if_pos (newB_length n)]
  rw [hR]
  clear hR
  obtain ⟨i0, hi, hz0, hz1, hz2⟩ := info_parts Try.infoByte'
  have HN1 := (show Hid (numB n 4 = lows n 4) from numB_small n 4 (by decide) (by decide) h0 (by rw [show (256 : Int) ^ (4 : Int).toNat = 4294967296 from rfl]; omega))
  have HN2 := (show Hid (numB 4096 2 = lows 4096 2) from (by decide : numB 4096 2 = lows 4096 2))
  go_enter Try.func93, Try.ntmps93
  go_wp2_with (at_make; refine wpList_make_full _ rfl _ _ 22 rfl 0 5 i0 (.int .u8 0) 1 Try.underlying22 hi hz0 hz1 .i64 .i64 _ _ 4096 rfl rfl (by first | rfl | simp) (by first | rfl | simp) (by rw [hz2]; decide) (by decide) (Nat.zero_le _) ?_; intro w1 hown1 hgrow1; have HB1 := (show Hid (Blk w1 w.heap.size 5 (vals .u8 (cont (List.replicate 12 0) (List.replicate 4096 0)))) from (by rw [cont_zeros 12 4096 (by decide)]; exact Own.blk (own_made (by simpa using hown1)))); have HK1 := (show Hid (Same w w1) from Kept.of_grown hgrow1 (fun k e => by cases e)); clear hown1 hgrow1)
  have hw1 := HB1.out.lt
  have hS : (fun _ : World => True) w1.drew := by trivial
  refine wp_region_V (fun _ : World => True) 99 5 rfl (by kernel_rfl) ?_
  refine tk 0 12 hS ?_
  refine tk 1 13 hS ?_
  refine tk 2 14 hS ?_
  refine wpAnyV_one (i := 3) (by kernel_rfl) rfl (fun K hK => ?_)
  go_simp
  have hc := specPut_any n 4 w1.drew ⟨by omega, by omega⟩ ⟨by decide, by decide⟩
  with_reducible refine hc.mono ?_
  clear hc
  rintro e w2 ⟨a2, c2, rfl, hf2, ho2, hk2⟩
  rw [HN1.out, lows_length] at hf2 ho2 ⊢
  obtain ⟨g2, rfl⟩ := own_some ho2 (by rw [lows_length]; decide)
  have hg2 := hf2 g2 rfl
  have HO2 := (show Hid (Own 0 5 .u8 w2 (.slice (some ⟨g2, 0, none⟩) 4 c2) (lows n 4)) from ho2)
  have hk2' : Same w1 w2 := (Kept.refl _ _).drew.trans hk2
  have HB2 := hid (HB1.out.same hk2')
  have HK2 := (show Hid (Same w w2) from HK1.out.trans hk2')
  clear hf2 ho2 hk2 hk2'
  refine hK.out _ _ (fun _ => trivial) ?_
  clear hK K
  try simp only [Act.put, sA, s0, sS]
  refine wpAnyV_one (i := 4) (by kernel_rfl) rfl (fun K hK => ?_)
  refine step_copy_blk (by rfl) _ _ 22 (by rfl) Try.underlying22 byte_size (vals .u8 (lows n 4)) HB2.out (by rfl) (by rfl) (by rw [vals_length, lows_length]; decide) (own_cells HO2.out (by rw [lows_length])) (by rw [vals_length, vals_length, lows_length, cont_length _ _ (by rw [List.length_replicate, List.length_replicate]; decide), List.length_replicate]; decide) vals_one ?_
  have hb3 := Blk.more 12 (lows n 4) (HB2.out.setCells (vals .u8 (lows n 4)) 12 (by rw [vals_length, vals_length, lows_length, cont_length _ _ (by rw [List.length_replicate, List.length_replicate]; decide), List.length_replicate]; decide)) (by rw [List.length_replicate]) (by rw [List.length_replicate, List.length_replicate, lows_length]; decide)
  have hk3 := Kept.setCells (R := fun _ => False) (a := w) (B := w.heap.size) (.inl (Nat.le_refl _)) (vals .u8 (lows n 4)) 12 HK2.out
  obtain ⟨w3, hw3⟩ : ∃ w3, w2.setCells w.heap.size 12 (vals .u8 (lows n 4)) = w3 := ⟨_, rfl⟩
  rw [hw3] at hb3 hk3 ⊢
  have HB3 := (show Hid (Blk w3 w.heap.size 5 (vals .u8 (cont (List.replicate 12 0 ++ lows n 4) (List.replicate 4096 0)))) from hb3)
  have HK3 := (show Hid (Same w w3) from hk3)
  clear hw3 hb3 hk3 HB2 HK2 HB1 HK1 HO2
  show K (Act.put _ (some 16) (goInt (vals .u8 (lows n 4)).length)) _
  refine hK.out _ _ (fun _ => trivial) ?_
  clear hK K hS
  refine wpAnyV_done (by kernel_rfl) ?_
  try simp only [Act.put, sA, s0, sS]
  go_wp2_with fail
  have hS : (fun _ : World => True) w3.drew := by trivial
  refine wp_region_V (fun _ : World => True) 99 4 rfl (by kernel_rfl) ?_
  refine tk 0 17 hS ?_
  refine tk 1 18 hS ?_
  refine wpAnyV_one (i := 2) (by kernel_rfl) rfl (fun K hK => ?_)
  go_simp
  have hc := specPut_any 4096 2 w3.drew ⟨by decide, by decide⟩ ⟨by decide, by decide⟩
  with_reducible refine hc.mono ?_
  clear hc
  rintro e w4 ⟨a4, c4, rfl, hf4, ho4, hk4⟩
  rw [HN2.out, lows_length] at hf4 ho4 ⊢
  obtain ⟨g4, rfl⟩ := own_some ho4 (by rw [lows_length]; decide)
  have HO4 := (show Hid (Own 0 5 .u8 w4 (.slice (some ⟨g4, 0, none⟩) 2 c4) (lows 4096 2)) from ho4)
  have hk4' : Same w3 w4 := (Kept.refl _ _).drew.trans hk4
  have HB4 := hid (HB3.out.same hk4')
  have HK4 := (show Hid (Same w w4) from HK3.out.trans hk4')
  clear hf4 ho4 hk4 hk4'
  refine hK.out _ _ (fun _ => trivial) ?_
  clear hK K
  try simp only [Act.put, sA, s0, sS]
  refine wpAnyV_one (i := 3) (by kernel_rfl) rfl (fun K hK => ?_)
  have hl16 : (List.replicate 12 (0 : Int) ++ lows n 4).length = 16 := by rw [List.length_append, List.length_replicate, lows_length]
  have hcl : (cont (List.replicate 12 0 ++ lows n 4) (List.replicate 4096 0)).length = 4096 := by rw [cont_length _ _ (by rw [hl16, List.length_replicate]; decide), List.length_replicate]
  refine step_copy_blk (by rfl) _ _ 22 (by rfl) Try.underlying22 byte_size (vals .u8 (lows 4096 2)) HB4.out (by rfl) (by rfl) (by rw [vals_length, lows_length]; decide) (own_cells HO4.out (by rw [lows_length])) (by rw [vals_length, vals_length, lows_length, hcl]; decide) vals_one ?_
  have hb5 := Blk.more 16 (lows 4096 2) (HB4.out.setCells (vals .u8 (lows 4096 2)) 16 (by rw [vals_length, vals_length, lows_length, hcl]; decide)) hl16.symm (by rw [hl16, List.length_replicate, lows_length]; decide)
  rw [newB_cont] at hb5
  have hk5 := Kept.setCells (R := fun _ => False) (a := w) (B := w.heap.size) (.inl (Nat.le_refl _)) (vals .u8 (lows 4096 2)) 16 HK4.out
  obtain ⟨w5, hw5⟩ : ∃ w5, w4.setCells w.heap.size 16 (vals .u8 (lows 4096 2)) = w5 := ⟨_, rfl⟩
  rw [hw5] at hb5 hk5 ⊢
  have hO5 := Blk.own hb5 (by rw [newB_length]; decide)
  rw [newB_length] at hO5
  have HK5 := (show Hid (Same w w5) from hk5)
  have hSe := specSeal_any (.slice (some ⟨w.heap.size, 0, none⟩) 4096 4096) (newB n) w5 (newB_isB n) (by rw [newB_length]; decide) hO5.rd
  clear hw5 hb5 hk5 HB4 HK4 HO4 HB3 HK3 hO5
  show K (Act.put _ (some 20) (goInt (vals .u8 (lows 4096 2)).length)) _
  refine hK.out _ _ (fun _ => trivial) ?_
  clear hK K hS
  refine wpAnyV_done (by kernel_rfl) ?_
  try simp only [Act.put, sA, s0, sS]
  go_wp2_with fail
  with_reducible refine hSe.mono ?_
  rintro e w6 ⟨a6, c6, rfl, hf6, ho6, hk6⟩
  have hz5 := HK5.out.size
  go_wp2
  go_ret
  exact ⟨a6, c6, rfl, fun b hb => Nat.le_trans hz5 (hf6 b hb), ho6, HK5.out.trans hk6⟩
theorem specNew_any (n : Int) (w : World) :
    Calls Try.prog 93 #[.int .i64 n] w fun e w' => ∃ a c, e = .returned (.slice a (pageNew n).length c) ∧ (∀ b, (Value.slice a (pageNew n).length c).ownBlock = some b → w.heap.size ≤ b) ∧
      Own 0 5 .u8 w' (.slice a (pageNew n).length c) (pageNew n) ∧ Same w w' := by
  by_cases h : n < 0 ∨ 16 ≤ n
  · have hR : pageNew n = [] := by unfold pageNew; rw [if_pos h]
    rw [hR]
    rcases h with h | h <;>
    ( go_enter Try.func93, Try.ntmps93
      go_wp2
      go_ret
      exact ⟨some ⟨w.heap.size, 0, none⟩, 0, rfl, fun b hb => by simp [Value.ownBlock] at hb; omega, Own.empty _ _, (Kept.refl _ _).alloc _⟩)
  · exact specNew_yes n w (by omega) (by omega)
end Go.Proofs.Ytcnaabjgjmodeaa

namespace Go.Proofs.Ytcnaabjgjmodeaa
set_option maxRecDepth 100000
set_option maxHeartbeats 4000000
open Go.RowKit
set_option linter.unusedVariables false
set_option linter.unusedSimpArgs false
theorem implWhole_any (v : Value) (bs : List Int) (w : World) (hB : IsB bs) (hn : bs.length ≤ 1099511627776) (hv : Rd .u8 w v bs) :
    Calls Try.prog 16 #[v] w fun e w' => e = .returned (.bool (pageWhole bs)) ∧ Same w w' := by
  obtain ⟨a, c, rfl⟩ := hv.form
  by_cases hl : bs.length = 4096
  · have hR : pageWhole bs = (sealB bs == bs) := by unfold pageWhole; rw [hl]; rfl
    have hsl : (sealB bs).length = 4096 := by rw [sealB_length _ (by omega), hl]
    obtain ⟨b, off, rfl, hc⟩ := rd_some hv (by omega)
    have hrg := rd_range hv (by omega)
    have hcl := vals_length .u8 bs
    have hI : (Try.prog.info? 65).map (·.size) = some (vals .u8 bs).length := by rw [hcl, hl]; exact page_info
    have hSd := sealed_any bs w.drew hB hl
    have heq := fun w => run_eql_pages w (sealB bs) bs hsl hl
    obtain ⟨cs, hcs⟩ : ∃ cs : List Value, vals .u8 bs = cs := ⟨_, rfl⟩
    obtain ⟨ds, hds⟩ : ∃ ds : Array Value, (vals .u8 (sealB bs)).toArray = ds := ⟨_, rfl⟩
    rw [hcs] at hSd hrg hI heq
    rw [hds] at hSd heq
    rw [hR, hl]
    obtain ⟨r, hr⟩ : ∃ r, (sealB bs == bs) = r := ⟨_, rfl⟩
    rw [hr] at heq ⊢
    have harr := run_arrayP
    clear hcs hds hcl hv hB hn hR hsl hr hl
    go_enter Try.func16, Try.ntmps16
    go_wp2_with fail
    have hS : (fun wx : World => wx.rangeAt b off cs) w.drew := by exact Kept.ranges (Kept.refl _ _).drew hrg
    refine wp_region_V (fun wx : World => wx.rangeAt b off cs) 99 14 rfl (by kernel_rfl) ?_
    refine tk 0 3 hS ?_
    refine tk 1 4 hS ?_
    refine tk 2 5 hS ?_
    refine tk 3 6 hS ?_
    refine tk 4 7 hS ?_
    refine tk 5 8 hS ?_
    refine wpAnyV_take (i := 6) (v := .agg cs.toArray) (some 9) rfl rfl (by kernel_rfl) (by kernel_rfl) (by kernel_rfl) (by kernel_rfl) (fun _ _ _ h => h) (yieldsIf_load_mid (by rfl) 65 _ rfl b off rfl cs _ (fun _ h => h) Try.underlying65 rfl hI) hS ?_
    try simp only [Act.put, sA, s0, sS]
    refine tk 8 11 hS ?_
    refine tk 9 12 hS ?_
    refine wpAnyV_take (i := 10) (v := .agg cs.toArray) (some 13) rfl rfl (by kernel_rfl) (by kernel_rfl) (by kernel_rfl) (by kernel_rfl) (fun _ _ _ h => h) (yieldsIf_load_mid (by rfl) 65 _ rfl b off rfl cs _ (fun _ h => h) Try.underlying65 rfl hI) hS ?_
    try simp only [Act.put, sA, s0, sS]
    refine wpAnyV_one (i := 7) (by kernel_rfl) rfl (fun K hK => ?_)
    go_simp
    with_reducible refine hSd.mono ?_
    rintro e w2 ⟨rfl, hkk⟩
    have hk2 : Same w w2 := (Kept.refl _ _).drew.trans hkk
    have hS2 : (fun wx : World => wx.rangeAt b off cs) w2 := Kept.ranges hk2 hrg
    refine hK.out _ _ (fun _ => hS2) ?_
    clear hK K
    try simp only [Act.put, sA, s0, sS]
    refine tk 11 14 hS2 ?_
    refine tk 12 15 hS2 ?_
    refine tk 13 2 hS2 ?_
    refine wpAnyV_done (by kernel_rfl) ?_
    go_wp2
    go_ret
    exact ⟨rfl, hk2⟩
  · have hR : pageWhole bs = false := by unfold pageWhole; simp [hl]
    rw [hR]
    have hl' : ¬ (bs.length : Int) = 4096 := by omega
    clear hv hB
    go_enter Try.func16, Try.ntmps16
    go_wp2
    go_quiet (fail)
    go_wp2
    go_ret
    exact ⟨rfl, (Kept.refl _ _).drewN _⟩
end Go.Proofs.Ytcnaabjgjmodeaa

namespace Go.Proofs.Ytcnaabjgjmodeaa
open Go.RowKit
set_option linter.unusedVariables false
set_option linter.unusedSimpArgs false
theorem layI_get (xs ys : List Int) (o : Nat) (h : o + ys.length ≤ xs.length) (i : Nat) : (layI xs o ys)[i]? = if i < o then xs[i]? else if i < o + ys.length then ys[i - o]? else xs[i]? := by
  unfold layI
  rw [List.getElem?_append, List.length_take, Nat.min_eq_left (by omega)]
  by_cases h1 : i < o
  · rw [if_pos h1, if_pos h1, List.getElem?_take, if_pos h1]
  · rw [if_neg h1, if_neg h1, List.getElem?_append]
    by_cases h2 : i < o + ys.length
    · rw [if_pos (by omega), if_pos h2]
    · rw [if_neg (by omega), if_neg h2, List.getElem?_drop]
      congr 1
      omega
theorem stretch_get (raw : List Int) (x y : Int) (i : Nat) : (stretch raw x y)[i]? = if i < y.toNat then raw[x.toNat + i]? else none := by
  unfold stretch
  rw [List.getElem?_take]
  split
  · rw [List.getElem?_drop]
  · rfl
theorem stretch_off (body d : List Int) (o : Nat) (x y : Int) (h : o + d.length ≤ body.length) (hd : x.toNat + y.toNat ≤ o ∨ o + d.length ≤ x.toNat) : stretch (layI body o d) x y = stretch body x y := by
  apply List.ext_getElem?
  intro i
  rw [stretch_get, stretch_get]
  by_cases hi : i < y.toNat
  · rw [if_pos hi, if_pos hi, layI_get _ _ _ h]
    rcases hd with hd | hd
    · rw [if_pos (by omega)]
    · rw [if_neg (by omega), if_neg (by omega)]
  · rw [if_neg hi, if_neg hi]
theorem stretch_on (body d : List Int) (o : Nat) (x y : Int) (h : o + d.length ≤ body.length) (hx : x.toNat = o) (hy : y.toNat = d.length) : stretch (layI body o d) x y = d := by
  apply List.ext_getElem?
  intro i
  rw [stretch_get, hy, hx]
  by_cases hi : i < d.length
  · rw [if_pos hi, layI_get _ _ _ h, if_neg (by omega), if_pos (by omega)]
    congr 1
    omega
  · rw [if_neg hi, List.getElem?_eq_none (by omega)]
theorem stretch_behind {r r' : List Int} (e : r.drop 148 = r'.drop 148) {x : Int} (hx : 148 ≤ x) (y : Int) : stretch r x y = stretch r' x y := by
  unfold stretch
  obtain ⟨m, hm⟩ : ∃ m, x.toNat = 148 + m := ⟨x.toNat - 148, by omega⟩
  rw [hm, ← List.drop_drop, ← List.drop_drop, e]
theorem cBody_get {sl : List Int} (h : SlOK sl) (raw : List Int) (hl : raw.length = 4096) : ∀ m, m ≤ 32 → ∀ k, k < m → ¬ sl.getD (2 * k) 0 = 0 → stretch (cBody raw sl m) (cBot sl (k + 1)) (sl.getD (2 * k + 1) 0) = stretch raw (sl.getD (2 * k) 0) (sl.getD (2 * k + 1) 0)
  | 0, _, k, hk, _ => absurd hk (by omega)
  | m + 1, hm, k, hk, h0 => by
    have hb := h.body raw hl m (by omega)
    have hm1 := h.bot (m + 1) hm
    have hm0 := h.bot m (by omega)
    have hs := cBot_succ sl m
    rw [cBody]
    by_cases hz : sl.getD (2 * m) 0 = 0
    · rw [if_pos hz]
      by_cases e : k = m
      · subst e; exact absurd hz h0
      · exact cBody_get h raw hl m (by omega) k (by omega) h0
    · rw [if_neg hz]
      have h1 := h.one m (by omega)
      have hsl := stretch_length raw (sl.getD (2 * m) 0) (sl.getD (2 * m + 1) 0) hl (by omega) (by omega) (by omega)
      by_cases e : k = m
      · subst e
        exact stretch_on _ _ _ _ _ (by rw [hsl, hb]; omega) rfl hsl.symm
      · have hmono := h.botMono (m - (k + 1)) (k + 1) (by omega)
        rw [show k + 1 + (m - (k + 1)) = m from by omega] at hmono
        rw [stretch_off _ _ _ _ _ (by rw [hsl, hb]; omega) (.inr (by rw [hsl]; omega))]
        exact cBody_get h raw hl m (by omega) k (by omega) h0
theorem usedN_congr {a b : List Int} (h : ∀ k, k < 32 → a.getD (2 * k + 1) 0 = b.getD (2 * k + 1) 0) : ∀ n, n ≤ 32 → usedN a n = usedN b n
  | 0, _ => rfl
  | n + 1, hn => by rw [usedN, usedN, usedN_congr h n (by omega), h n (by omega)]
theorem usedN_set2 {sl : List Int} (hl : sl.length = 64) (s : Nat) (hs : s < 32) (a b : Int) : ∀ n, n ≤ 32 → usedN ((sl.set (2 * s) a).set (2 * s + 1) b) n = usedN sl n + (if s < n then b - sl.getD (2 * s + 1) 0 else 0)
  | 0, _ => by simp [usedN]
  | n + 1, hn => by
    rw [usedN, usedN, usedN_set2 hl s hs a b n (by omega), (set2_at hl s n hs a b).2]
    by_cases e : n = s
    · subst e
      rw [if_pos rfl, if_neg (by omega), if_pos (by omega)]
      omega
    · rw [if_neg e]
      by_cases h : s < n
      · rw [if_pos h, if_pos (by omega)]; omega
      · rw [if_neg h, if_neg (by omega)]; omega
section
variable {sum : List Int} {lsn num bot : Int} {sl raw : List Int}
theorem EncOK.get (h : EncOK sum lsn num bot sl raw) (hok : ownOK (encB sum lsn num bot sl raw) = true) (hs : SlOK sl) (k : Nat) (hk : k < 32) :
    pageGet (encB sum lsn num bot sl raw) (k : Int) = if sl.getD (2 * k) 0 = 0 then (false, []) else (true, stretch raw (sl.getD (2 * k) 0) (sl.getD (2 * k + 1) 0)) := by
  by_cases h0 : sl.getD (2 * k) 0 = 0
  · rw [if_pos h0]
    exact pageGet_no (.inr (.inr (.inr (by rw [h.slots]; exact h0))))
  · rw [if_neg h0, pageGet_yes hok hk (by rw [h.slots]; exact h0), h.slots]
    have := hs.one k hk
    rw [stretch_behind h.behind (by omega)]
theorem pageFault_of {E : List Int} (hok : ownOK E = true) {n : Int} (hn : numAt E 12 4 = n) : pageFault E n = 0 := by
  subst hn
  unfold ownOK at hok
  simp at hok
  exact hok.2
end
structure Made (raw C : List Int) (lsn used : Int) (gt : Nat → Bool × List Int) : Prop where
  isB : IsB C
  len : C.length = 4096
  own : ownOK C = true
  fault : pageFault C (numAt raw 12 4) = 0
  lsn : pageLSN C = lsn
  used : pageUsed C = used
  get : ∀ k : Nat, k < 32 → pageGet C (k : Int) = gt k
theorem own_get {raw : List Int} (hok : ownOK raw = true) (k : Nat) (hk : k < 32) : pageGet raw (k : Int) = if (slotsOf raw).getD (2 * k) 0 = 0 then (false, []) else (true, stretch raw ((slotsOf raw).getD (2 * k) 0) ((slotsOf raw).getD (2 * k + 1) 0)) := by
  by_cases h0 : (slotsOf raw).getD (2 * k) 0 = 0
  · rw [if_pos h0]; exact pageGet_no (.inr (.inr (.inr h0)))
  · rw [if_neg h0]; exact pageGet_yes hok hk h0
theorem comp_made {raw : List Int} (hB : IsB raw) (hok : ownOK raw = true) : Made raw (compB raw) (pageLSN raw) (pageUsed raw) (fun k => pageGet raw (k : Int)) ∧ numAt (compB raw) 16 2 = 4096 - pageUsed raw := by
  have hl := ownOK_len hok
  have n12 := numAt_in raw hB 12 4 (by decide) (by decide) (by omega)
  have hsl := slOK_of hB hok
  have hz : (slotsOf raw).length = 64 := slotsOf_length raw
  have h4 : (raw.take 4).length = 4 := by rw [List.length_take, hl]; rfl
  have hE4 : IsB (raw.take 4) := isB_take hB 4
  have hL := (own_enc hok).2
  have hbb := hsl.bot 32 (Nat.le_refl _)
  obtain ⟨c1, c2⟩ := hsl.comp hz
  have hcz : (cSl (slotsOf raw) 32).length = 64 := by rw [cSl_length, hz]
  have hbl := hsl.body raw hl 32 (Nat.le_refl _)
  have hE : EncOK (raw.take 4) (numAt raw 4 8) (numAt raw 12 4) (cBot (slotsOf raw) 32) (cSl (slotsOf raw) 32) (cBody raw (slotsOf raw) 32) := ⟨h4, hcz, hbl, isLSN_spec hL, by omega, by omega, c1.all hcz⟩
  have hown : ownOK (compB raw) = true := hE.own' hL hbb c1 c2
  obtain ⟨d1, d2, d3⟩ := hE.dec
  have at0 := fun k => cSl_two (slotsOf raw) hz 32 (Nat.le_refl _) k
  refine ⟨⟨isB_enc h4 hcz hE4 (isB_cBody hB _ _), hE.len, hown, pageFault_of hown d2, ?_, ?_, fun k hk => ?_⟩, ?_⟩
  · unfold pageLSN
    rw [if_pos hown, if_pos hok]
    exact d1
  · unfold pageUsed
    rw [if_pos hown, if_pos hok, show slotsOf (compB raw) = cSl (slotsOf raw) 32 from hE.slots]
    exact usedN_congr (fun k _ => (at0 k).2) 32 (Nat.le_refl _)
  · rw [show pageGet (compB raw) (k : Int) = _ from hE.get hown c1 k hk, own_get hok k hk]
    have q1 := (at0 k).1
    have q2 := (at0 k).2
    by_cases h0 : (slotsOf raw).getD (2 * k) 0 = 0
    · rw [if_neg (fun x => x.2 h0)] at q1
      rw [q1, if_pos h0, if_pos h0]
    · have hb1 := hsl.bot (k + 1) (by omega)
      rw [if_pos ⟨hk, h0⟩] at q1
      rw [q1, q2, if_neg (by omega), if_neg h0, cBody_get hsl raw hl 32 (Nat.le_refl _) k hk h0]
  · rw [show numAt (compB raw) 16 2 = _ from d3]
    unfold pageUsed cBot
    rw [if_pos hok]
theorem set_made {raw : List Int} (hB : IsB raw) (hok : ownOK raw = true) (s : Nat) (hs : s < 32) (u : Bool) (d : List Int) (hdB : IsB d) (lsn : Int) (hL : isLSN lsn = true) (hd : d.length ≤ 1000) (hu : u = false → d = []) (hroom : ¬ setFull raw s d) :
    Made raw (setB raw s u d lsn) lsn (usedN (slotsOf raw) 32 - (slotsOf raw).getD (2 * s + 1) 0 + d.length) (fun k => if k = s then (u, d) else pageGet raw (k : Int)) := by
  have hl := ownOK_len hok
  obtain ⟨p1, p2, _, _⟩ := ownOK_parts hok
  have n12 := numAt_in raw hB 12 4 (by decide) (by decide) (by omega)
  have hsl := (slOK_of hB hok).zero s
  have hz : (sl0 (slotsOf raw) s).length = 64 := by rw [sl0_length, slotsOf_length]
  have h4 : (raw.take 4).length = 4 := by rw [List.length_take, hl]; rfl
  have hE4 : IsB (raw.take 4) := isB_take hB 4
  have hfr := (from_own hB hok).zero s
  have hus := usedN_zero (slotsOf raw) s 32
  rw [if_pos hs] at hus
  have hz0 := fun k => sl0_two (slotsOf raw) s k
  unfold setFull at hroom
  have hroom2 : 148 ≤ cBot (sl0 (slotsOf raw) s) 32 - d.length := by unfold cBot; omega
  have fin : ∀ b sl r, (148 ≤ b ∧ b ≤ 4096) → SlOK sl → From b sl → sl.length = 64 → r.length = 4096 → IsB r → usedN sl 32 = usedN (slotsOf raw) 32 - (slotsOf raw).getD (2 * s + 1) 0 + d.length →
      (∀ k, k < 32 → (if sl.getD (2 * k) 0 = 0 then ((false, []) : Bool × List Int) else (true, stretch r (sl.getD (2 * k) 0) (sl.getD (2 * k + 1) 0))) = if k = s then (u, d) else pageGet raw (k : Int)) →
      Made raw (encB (raw.take 4) lsn (numAt raw 12 4) b sl r) lsn (usedN (slotsOf raw) 32 - (slotsOf raw).getD (2 * s + 1) 0 + d.length) (fun k => if k = s then (u, d) else pageGet raw (k : Int)) := by
    intro b sl r hb h1 h2 h3 h5 h6 h7 h8
    have hE : EncOK (raw.take 4) lsn (numAt raw 12 4) b sl r := ⟨h4, h3, h5, isLSN_spec hL, by omega, by omega, h1.all h3⟩
    have hown := hE.own' hL hb h1 h2
    obtain ⟨d1, d2, d3⟩ := hE.dec
    refine ⟨isB_enc h4 h3 hE4 h6, hE.len, hown, pageFault_of hown d2, ?_, ?_, fun k hk => ?_⟩
    · unfold pageLSN
      rw [if_pos hown]
      exact d1
    · unfold pageUsed
      rw [if_pos hown, hE.slots]
      exact h7
    · rw [hE.get hown h1 k hk]
      exact h8 k hk
  cases u with
  | false =>
    have hd0 := hu rfl
    subst hd0
    refine fin (numAt raw 16 2) (sl0 (slotsOf raw) s) raw ⟨p1, p2⟩ hsl hfr hz hl hB (by rw [hus]; simp) (fun k hk => ?_)
    by_cases e : k = s
    · have q1 := (hz0 k).1
      rw [if_pos e] at q1
      rw [q1, if_pos rfl, if_pos e]
    · have q1 := (hz0 k).1
      have q2 := (hz0 k).2
      rw [if_neg e] at q1 q2
      rw [q1, q2, if_neg e, own_get hok k hk]
  | true =>
    have hgen : ∀ (bt : Int) (sl r : List Int), sl.length = 64 → r.length = 4096 → IsB r → SlOK sl → From bt sl → (148 ≤ bt - d.length ∧ bt ≤ 4096) → usedN sl 32 = usedN (slotsOf raw) 32 - (slotsOf raw).getD (2 * s + 1) 0 → sl.getD (2 * s + 1) 0 = 0 →
        (∀ k, k < 32 → ¬ k = s → (if sl.getD (2 * k) 0 = 0 then ((false, []) : Bool × List Int) else (true, stretch r (sl.getD (2 * k) 0) (sl.getD (2 * k + 1) 0))) = pageGet raw (k : Int)) →
        Made raw (setPut (raw.take 4) lsn (numAt raw 12 4) bt sl r s d) lsn (usedN (slotsOf raw) 32 - (slotsOf raw).getD (2 * s + 1) 0 + d.length) (fun k => if k = s then (true, d) else pageGet raw (k : Int)) := by
      intro bt sl r h1 h2 h2B h3 h5 h6 h7 h8 h9
      obtain ⟨q1, q2⟩ := h3.put h1 h5 s hs d.length h6.1 h6.2 hd
      refine fin _ _ _ ⟨h6.1, by omega⟩ q1 q2 (by rw [List.length_set, List.length_set, h1]) (by rw [layI_length _ _ _ (by omega), h2]) (isB_lay h2B hdB _) ?_ (fun k hk => ?_)
      · rw [usedN_set2 h1 s hs _ _ 32 (Nat.le_refl _), if_pos hs, h7, h8]
        omega
      · rw [(set2_at h1 s k hs _ _).1, (set2_at h1 s k hs _ _).2]
        by_cases e : k = s
        · rw [if_pos e, if_pos e, if_pos e, if_neg (by omega), stretch_on _ _ _ _ _ (by omega) rfl (by omega)]
        · rw [if_neg e, if_neg e, if_neg e, ← h9 k hk e]
          by_cases h0 : sl.getD (2 * k) 0 = 0
          · rw [if_pos h0, if_pos h0]
          · have hf := h5 k hk h0
            have ho := h3.one k hk
            rw [if_neg h0, if_neg h0, stretch_off _ _ _ _ _ (by omega) (.inr (by omega))]
    by_cases hc : numAt raw 16 2 - 148 < d.length
    · have hbb := hsl.bot 32 (Nat.le_refl _)
      obtain ⟨c1, c2⟩ := hsl.comp hz
      have hcz : (cSl (sl0 (slotsOf raw) s) 32).length = 64 := by rw [cSl_length, hz]
      have at0 := fun k => cSl_two (sl0 (slotsOf raw) s) hz 32 (Nat.le_refl _) k
      have hbl := hsl.body raw hl 32 (Nat.le_refl _)
      have e0 : setB raw s true d lsn = setPut (raw.take 4) lsn (numAt raw 12 4) (cBot (sl0 (slotsOf raw) s) 32) (cSl (sl0 (slotsOf raw) s) 32) (cBody raw (sl0 (slotsOf raw) s) 32) s d := by
        unfold setB
        rw [if_neg (by simp), if_pos hc]
      rw [e0]
      refine hgen _ _ _ hcz hbl (isB_cBody hB _ _) c1 c2 ⟨hroom2, hbb.2⟩ ?_ ?_ (fun k hk e => ?_)
      · rw [usedN_congr (b := sl0 (slotsOf raw) s) (fun k _ => (at0 k).2) 32 (Nat.le_refl _), hus]
      · rw [(at0 s).2, (hz0 s).2, if_pos rfl]
      · rw [own_get hok k hk]
        have q1 := (at0 k).1
        have q2 := (at0 k).2
        have z1 := (hz0 k).1
        have z2 := (hz0 k).2
        rw [if_neg e] at z1 z2
        by_cases h0 : (slotsOf raw).getD (2 * k) 0 = 0
        · have h0' : (sl0 (slotsOf raw) s).getD (2 * k) 0 = 0 := by rw [z1]; exact h0
          rw [if_neg (fun x => x.2 h0')] at q1
          rw [q1, if_pos h0', if_pos h0]
        · have h0' : ¬ (sl0 (slotsOf raw) s).getD (2 * k) 0 = 0 := by rw [z1]; exact h0
          have hb1 := hsl.bot (k + 1) (by omega)
          rw [if_pos ⟨hk, h0'⟩] at q1
          rw [q1, q2, if_neg (by omega), if_neg h0, cBody_get hsl raw hl 32 (Nat.le_refl _) k hk h0', z1, z2]
    · have e0 : setB raw s true d lsn = setPut (raw.take 4) lsn (numAt raw 12 4) (numAt raw 16 2) (sl0 (slotsOf raw) s) raw s d := by
        unfold setB
        rw [if_neg (by simp), if_neg hc]
      rw [e0]
      refine hgen _ _ _ hz hl hB hsl hfr ⟨by omega, p2⟩ hus (by rw [(hz0 s).2, if_pos rfl]) (fun k hk e => ?_)
      rw [own_get hok k hk, (hz0 k).1, (hz0 k).2, if_neg e, if_neg e]
theorem get_length {raw : List Int} (hB : IsB raw) (hok : ownOK raw = true) (k : Nat) (hk : k < 32) : (((pageGet raw (k : Int)).2.length : Nat) : Int) = (slotsOf raw).getD (2 * k + 1) 0 := by
  have hl := ownOK_len hok
  have h1 := (slOK_of hB hok).one k hk
  rw [own_get hok k hk]
  by_cases h0 : (slotsOf raw).getD (2 * k) 0 = 0
  · rw [if_pos h0]
    have : (slotsOf raw).getD (2 * k + 1) 0 = 0 := by omega
    rw [this]; rfl
  · rw [if_neg h0]
    show (((stretch raw _ _).length : Nat) : Int) = _
    rw [stretch_length raw _ _ hl (by omega) (by omega) (by omega)]
    omega
theorem seal_two {bs : List Int} (hl : bs.length = 4096) (hB : IsB bs) : pageSeal bs = sealB bs ∧ IsB (sealB bs) ∧ (sealB bs).length = 4096 ∧ pageWhole (sealB bs) = true := by
  have h1 : (sealB bs).length = 4096 := by rw [sealB_length _ (by omega), hl]
  have h2 : (sealB bs).drop 4 = bs.drop 4 := by
    unfold sealB
    rw [List.drop_append, List.drop_of_length_le (by rw [lows_length]; decide), List.nil_append, lows_length]
    rfl
  refine ⟨by unfold pageSeal; rw [if_pos hl], ?_, h1, ?_⟩
  · intro x hx
    unfold sealB at hx
    rcases List.mem_append.1 hx with h | h
    · exact lows_isB _ _ x h
    · exact hB x (List.mem_of_mem_drop h)
  · have h3 : sealB (sealB bs) = sealB bs := by
      show lows (crcOn 0 ((sealB bs).drop 4)) 4 ++ (sealB bs).drop 4 = _
      rw [h2]
      rfl
    unfold pageWhole
    rw [h1, h3]
    simp
theorem new_own (n : Int) (h0 : 0 ≤ n) (h1 : n < 16) : ownOK (pageNew n) = true ∧ IsB (pageNew n) := by
  have e : pageNew n = sealB (newB n) := by unfold pageNew; rw [if_neg (by omega)]
  rw [e]
  obtain ⟨_, s2, s3, _⟩ := seal_two (newB_length n) (newB_isB n)
  refine ⟨?_, s2⟩
  have hz : ∀ j, (List.replicate 64 (0 : Int)).getD j 0 = 0 := fun j => by
    rw [List.getD_eq_getElem?_getD, List.getElem?_replicate]
    split <;> rfl
  have hsl : SlOK (List.replicate 64 (0 : Int)) := ⟨fun k _ => .inl ⟨hz _, hz _⟩, fun i j _ _ => by rw [hz, hz, hz, hz]; omega⟩
  have mk : ∀ S : List Int, S.length = 4 → EncOK S 0 n 4096 (List.replicate 64 0) (List.replicate 4096 0) := fun S hS => ⟨hS, List.length_replicate, List.length_replicate, by omega, by omega, by omega, fun x hx => by rw [List.eq_of_mem_replicate hx]; omega⟩
  have e1 := (mk (List.replicate 4 0) List.length_replicate).flat
  have hS : (lows (crcOn 0 ((newB n).drop 4)) 4).length = 4 := lows_length _ _
  have e2 := (mk _ hS).flat
  have e3 : sealB (newB n) = encB (lows (crcOn 0 ((newB n).drop 4)) 4) 0 n 4096 (List.replicate 64 0) (List.replicate 4096 0) := by
    have e4 := congrArg (List.drop 4) e1
    rw [newB_enc, List.drop_left' List.length_replicate] at e4
    rw [e2]
    show lows (crcOn 0 ((newB n).drop 4)) 4 ++ (newB n).drop 4 = _
    rw [e4]
  rw [e3]
  exact (mk _ hS).own' (by decide) (by omega) hsl (fun k _ h => absurd (hz _) h)
end Go.Proofs.Ytcnaabjgjmodeaa

namespace Go.Proofs.Ytcnaabjgjmodeaa
set_option maxRecDepth 100000
set_option maxHeartbeats 8000000
open Go.RowKit
set_option linter.unusedVariables false
set_option linter.unusedSimpArgs false
def RdA (base lo B : Nat) (w : World) (v : Value) (bs : List Int) : Prop := ∀ w', Kept (fun b => b = B ∨ lo ≤ b ∨ b < base) w w' → Rd .u8 w' v bs
theorem RdA.rd {base lo B : Nat} {w : World} {v : Value} {bs : List Int} (h : RdA base lo B w v bs) : Rd .u8 w v bs := h w (Kept.refl _ _)
theorem RdA.on {base lo B : Nat} {w w' : World} {v : Value} {bs : List Int} (h : RdA base lo B w v bs) (hk : Kept (fun b => b = B ∨ lo ≤ b ∨ b < base) w w') : RdA base lo B w' v bs := fun w2 h2 => h w2 (hk.trans h2)
theorem RdA.same {base lo B : Nat} {w w' : World} {v : Value} {bs : List Int} (h : RdA base lo B w v bs) (hk : Same w w') : RdA base lo B w' v bs := h.on (hk.mono (fun _ _ e => e.elim))
theorem RdA.draw {base lo B : Nat} {w w' : World} {v : Value} {bs : List Int} (h : RdA base lo B w v bs) (hk : Kept (fun b => b = B) w w') : RdA base lo B w' v bs := h.on (hk.mono (fun _ _ e => .inl e))
theorem Own.rdA {b0 : Nat} {e : TypeId} {base lo B : Nat} {w : World} {v : Value} {bs : List Int} (h : Own b0 e .u8 w v bs) (hB : ∀ b, v.ownBlock = some b → ¬ b = B ∧ b < lo ∧ base ≤ b) : RdA base lo B w v bs := fun w' hk =>
  (h.kept hk (fun b hb e => by have := hB b hb; omega)).rd
def RecR (w0 w w' : World) (e : Ending) (B : Nat) (v : Value) (cs : List Int) (k : Nat) (size : Int) : Prop :=
  ∃ (u : Bool) (a : Option Addr) (c : Nat) (d : List Int) (k' : Nat), e = .returned (.agg #[.bool u, .slice a d.length c]) ∧ d.length ≤ 1000 ∧ IsB d ∧ RdA w0.heap.size w'.heap.size B w' (.slice a d.length c) d ∧ k' ≤ k + 8 ∧ SrcR w0 w' B v cs k' size ∧ Kept (fun b => b = B) w w'
theorem rec_k {w0 w : World} {B : Nat} {v : Value} {cs : List Int} {k : Nat} {size : Int} (h : SrcR w0 w B v cs k size) (hk : k ≤ 1073741800) :
    Calls Try.prog 41 #[.pointer (some ⟨B, 0, none⟩)] w fun e w' => RecR w0 w w' e B v cs k size := by
  have b0 := Blk.new w #[.bool false, .slice none 0 0] 24
  have hBw := h.lt
  have hw0 := h.kept.size
  have hk0 : Same w (w.alloc (.cells #[.bool false, .slice none 0 0] 24)) := (Kept.refl _ _).alloc _
  have HS0 := hid (h.same hk0)
  clear h
  go_enter Try.func41, Try.ntmps41
  go_upto_region 1 with fail
  obtain ⟨X, hX⟩ : ∃ X, w.heap.size = X := ⟨_, rfl⟩
  have HX := hid hX
  rw [hX] at b0 hBw hw0
  generalize hw1 : w.alloc (.cells #[.bool false, .slice none 0 0] 24) = w1 at *
  have HK0 := hid hk0
  have HB0 := hid b0
  rw [hX]
  clear hk0 b0 hX hw1
  go_wp2_with fail
  refine (next_k 10 HS0.out (by omega) (by constructor <;> decide)).mono ?_
  rintro e w2 ⟨z, rfl, hd, hs2, hk2⟩
  obtain ⟨hz1, hz2⟩ := hd.2 (by decide)
  have HS2 := hid hs2
  have HK2 := (show Hid (Kept (fun b => b = B) w w2) from (HK0.out.mono (fun _ _ e => e.elim)).trans hk2)
  have HB2 := hid (HB0.out.kept hk2 (fun e => by omega))
  clear hd hs2 hk2 HS0 HB0
  by_cases z0 : z = 0
  · subst z0
    obtain ⟨r0, r1⟩ := HB2.out.all2
    have fr := HB2.out.frozen
    have lr := HB2.out.lt
    have hkr : Kept (fun b => b = X) w2 ((w2.setCell ⟨X, 0, none⟩ (.bool false)).setCell ⟨X, 1, none⟩ (.slice none 0 0)) := ((Kept.refl (fun b => b = X) w2).setCell (p := ⟨X, 0, none⟩) (.inr rfl) _).setCell (p := ⟨X, 1, none⟩) (.inr rfl) _
    have HEN := (show Hid (RecR w0 w ((w2.setCell ⟨X, 0, none⟩ (.bool false)).setCell ⟨X, 1, none⟩ (.slice none 0 0)) (.returned (.agg #[.bool false, .slice none 0 0])) B v cs k size) from ⟨false, none, 0, [], k + 1, rfl, by simp, fun x hx => by simp at hx, fun w3 _ => ⟨Nat.zero_le _, .inl ⟨rfl, none, 0, rfl, fun _ => rfl⟩⟩, by omega, HS2.out.on hkr (fun e => by omega) (fun i hi e => by omega), HK2.out.next hkr (fun i hi e => by have := HX.out; omega)⟩)
    have HBE := hid ((HB2.out.stored 0 (.bool false)).stored 1 (.slice none 0 0))
    clear hkr
    go_wp2
    generalize (w2.setCell ⟨X, 0, none⟩ (.bool false)).setCell ⟨X, 1, none⟩ (.slice none 0 0) = wz at *
    obtain ⟨x0, x1⟩ := HBE.out.all2
    exact bodyPost_ret (v := .agg #[.bool false, .slice none 0 0]) (by simp [results, Try.results41, go_sem, x0, x1]) rfl HEN.out
  have e0 : (z == 0) = false := by simp [z0]
  have HS := HS2
  have HB := HB2
  have HK := HK2
  clear HS2 HB2 HK2
  go_wp2_with fail
  refine (next_k 60 HS.out (by omega) (by constructor <;> decide)).mono ?_
  rintro e w3 ⟨n1, rfl, hd, hs', hk'⟩
  obtain ⟨hn11, hn12⟩ := hd.2 (by decide)
  have HB' := hid (HB.out.kept hk' (fun e => by omega))
  have HK' := hid (HK.out.trans hk')
  clear HS HB HK
  have HS := hid hs'
  have HB := HB'
  have HK := HK'
  clear hd hs' hk' HB' HK'
  obtain ⟨n1, rfl⟩ : ∃ m : Nat, n1 = (m : Int) := ⟨n1.toNat, by omega⟩
  by_cases z4 : z < 4
  · have e4 : (z == 4) = false := by simp; omega
    go_wp2_with fail
    refine (next_k 3 HS.out (by omega) (by constructor <;> decide)).mono ?_
    rintro e w4 ⟨q, rfl, hd, hs', hk'⟩
    obtain ⟨hq1, hq2⟩ := hd.2 (by decide)
    have HB' := hid (HB.out.kept hk' (fun e => by omega))
    have HK' := hid (HK.out.trans hk')
    clear HS HB HK
    have HS := hid hs'
    have HB := HB'
    have HK := HK'
    clear hd hs' hk' HB' HK'
    go_wp2_with fail
    refine (next_k 200 HS.out (by omega) (by constructor <;> decide)).mono ?_
    rintro e w5 ⟨r, rfl, hd, hs', hk'⟩
    obtain ⟨hr1, hr2⟩ := hd.2 (by decide)
    have HB' := hid (HB.out.kept hk' (fun e => by omega))
    have HK' := hid (HK.out.trans hk')
    clear HS HB HK
    have HS := hid hs'
    have HB := HB'
    have HK := HK'
    clear hd hs' hk' HB' HK'
    obtain ⟨m, hm⟩ : ∃ m, q * r = m := ⟨_, rfl⟩
    have hm1 : 0 ≤ m := by rw [← hm]; exact Int.mul_nonneg (by omega) (by omega)
    have hm2 : m ≤ 398 := by
      have h := Int.mul_le_mul (show q ≤ 2 from by omega) (show r ≤ 199 from by omega) (by omega) (by omega)
      omega
    have q1 : IntKind.i64.wrap (q * r) = m := by rw [IntKind.wrap_i64, hm]; omega
    obtain ⟨N, hN⟩ : ∃ N : Nat, 1000 - m = (N : Int) := ⟨(1000 - m).toNat, by omega⟩
    have q2 : IntKind.i64.wrap (1000 - m) = (N : Int) := by rw [IntKind.wrap_i64, hN]; omega
    have hN2 : N ≤ 1000 := by omega
    clear hm hN
    go_wp2_with fail
    refine (fill_k N HS.out (by omega) (by omega)).mono ?_
    rintro e w9 ⟨g, bs, rfl, hbl, hbb, ho, hgB, hs, hgw, hk9⟩
    have HO := hid ho
    have HS9 := hid hs
    have HB9 := hid (HB.out.kept hk9 (fun e => by omega))
    have HK9 := hid (HK.out.trans hk9)
    have hgl := (ho.lt g rfl).2
    have hwX : X < w9.heap.size := HB9.out.lt
    have hgX : ¬ g = X := fun e => by have := HB.out.lt; omega
    clear ho hs hk9 HS HB HK hgw
    obtain ⟨r0, r1⟩ := HB9.out.all2
    have fr := HB9.out.frozen
    have hkr : Kept (fun b => b = X) w9 ((w9.setCell ⟨X, 0, none⟩ (.bool true)).setCell ⟨X, 1, none⟩ (.slice (some ⟨g, 0, none⟩) N N)) := ((Kept.refl (fun b => b = X) w9).setCell (p := ⟨X, 0, none⟩) (.inr rfl) _).setCell (p := ⟨X, 1, none⟩) (.inr rfl) _
    have HEN := (show Hid (RecR w0 w ((w9.setCell ⟨X, 0, none⟩ (.bool true)).setCell ⟨X, 1, none⟩ (.slice (some ⟨g, 0, none⟩) N N)) (.returned (.agg #[.bool true, .slice (some ⟨g, 0, none⟩) N N])) B v cs k size) from ⟨true, some ⟨g, 0, none⟩, N, bs, _, by rw [hbl], by omega, hbb, by
      rw [hbl]
      exact Own.rdA (HO.out.kept hkr (fun b hb e => by have e1 : g = b := (by simpa [Value.ownBlock] using hb); omega)) (fun b hb => by have e1 : g = b := (by simpa [Value.ownBlock] using hb); have h1 := hkr.size; have h2 := (HO.out.lt g rfl).1; omega), by omega, HS9.out.on hkr (fun e => by omega) (fun i hi e => by omega), HK9.out.next hkr (fun i hi e => by have := HX.out; omega)⟩)
    have HBE := hid ((HB9.out.stored 0 (.bool true)).stored 1 (.slice (some ⟨g, 0, none⟩) N N))
    clear hkr
    go_wp2
    generalize (w9.setCell ⟨X, 0, none⟩ (.bool true)).setCell ⟨X, 1, none⟩ (.slice (some ⟨g, 0, none⟩) N N) = wz at *
    obtain ⟨x0, x1⟩ := HBE.out.all2
    exact bodyPost_ret (v := .agg #[.bool true, .slice (some ⟨g, 0, none⟩) N N]) (by simp [results, Try.results41, go_sem, x0, x1]) rfl HEN.out
  by_cases z5 : z = 4
  · subst z5
    go_wp2_with fail
    refine (fill_k 0 HS.out (by omega) (by omega)).mono ?_
    rintro e w9 ⟨g, bs, rfl, hbl, hbb, ho, hgB, hs, hgw, hk9⟩
    have HO := hid ho
    have HS9 := hid hs
    have HB9 := hid (HB.out.kept hk9 (fun e => by omega))
    have HK9 := hid (HK.out.trans hk9)
    have hgl := (ho.lt g rfl).2
    have hwX : X < w9.heap.size := HB9.out.lt
    have hgX : ¬ g = X := fun e => by have := HB.out.lt; omega
    clear ho hs hk9 HS HB HK hgw
    obtain ⟨r0, r1⟩ := HB9.out.all2
    have fr := HB9.out.frozen
    have hkr : Kept (fun b => b = X) w9 ((w9.setCell ⟨X, 0, none⟩ (.bool true)).setCell ⟨X, 1, none⟩ (.slice (some ⟨g, 0, none⟩) 0 0)) := ((Kept.refl (fun b => b = X) w9).setCell (p := ⟨X, 0, none⟩) (.inr rfl) _).setCell (p := ⟨X, 1, none⟩) (.inr rfl) _
    have HEN := (show Hid (RecR w0 w ((w9.setCell ⟨X, 0, none⟩ (.bool true)).setCell ⟨X, 1, none⟩ (.slice (some ⟨g, 0, none⟩) 0 0)) (.returned (.agg #[.bool true, .slice (some ⟨g, 0, none⟩) 0 0])) B v cs k size) from ⟨true, some ⟨g, 0, none⟩, 0, bs, _, by rw [hbl], by omega, hbb, by
      rw [hbl]
      exact Own.rdA (HO.out.kept hkr (fun b hb e => by have e1 : g = b := (by simpa [Value.ownBlock] using hb); omega)) (fun b hb => by have e1 : g = b := (by simpa [Value.ownBlock] using hb); have h1 := hkr.size; have h2 := (HO.out.lt g rfl).1; omega), by omega, HS9.out.on hkr (fun e => by omega) (fun i hi e => by omega), HK9.out.next hkr (fun i hi e => by have := HX.out; omega)⟩)
    have HBE := hid ((HB9.out.stored 0 (.bool true)).stored 1 (.slice (some ⟨g, 0, none⟩) 0 0))
    clear hkr
    go_wp2
    generalize (w9.setCell ⟨X, 0, none⟩ (.bool true)).setCell ⟨X, 1, none⟩ (.slice (some ⟨g, 0, none⟩) 0 0) = wz at *
    obtain ⟨x0, x1⟩ := HBE.out.all2
    exact bodyPost_ret (v := .agg #[.bool true, .slice (some ⟨g, 0, none⟩) 0 0]) (by simp [results, Try.results41, go_sem, x0, x1]) rfl HEN.out
  have e4 : (z == 4) = false := by simp [z5]
  have e4' : ¬ z < 4 := z4
  go_wp2_with fail
  refine (fill_k n1 HS.out (by omega) (by omega)).mono ?_
  rintro e w9 ⟨g, bs, rfl, hbl, hbb, ho, hgB, hs, hgw, hk9⟩
  have HO := hid ho
  have HS9 := hid hs
  have HB9 := hid (HB.out.kept hk9 (fun e => by omega))
  have HK9 := hid (HK.out.trans hk9)
  have hgl := (ho.lt g rfl).2
  have hwX : X < w9.heap.size := HB9.out.lt
  have hgX : ¬ g = X := fun e => by have := HB.out.lt; omega
  clear ho hs hk9 HS HB HK hgw
  obtain ⟨r0, r1⟩ := HB9.out.all2
  have fr := HB9.out.frozen
  have hkr : Kept (fun b => b = X) w9 ((w9.setCell ⟨X, 0, none⟩ (.bool true)).setCell ⟨X, 1, none⟩ (.slice (some ⟨g, 0, none⟩) n1 n1)) := ((Kept.refl (fun b => b = X) w9).setCell (p := ⟨X, 0, none⟩) (.inr rfl) _).setCell (p := ⟨X, 1, none⟩) (.inr rfl) _
  have HEN := (show Hid (RecR w0 w ((w9.setCell ⟨X, 0, none⟩ (.bool true)).setCell ⟨X, 1, none⟩ (.slice (some ⟨g, 0, none⟩) n1 n1)) (.returned (.agg #[.bool true, .slice (some ⟨g, 0, none⟩) n1 n1])) B v cs k size) from ⟨true, some ⟨g, 0, none⟩, n1, bs, _, by rw [hbl], by omega, hbb, by
    rw [hbl]
    exact Own.rdA (HO.out.kept hkr (fun b hb e => by have e1 : g = b := (by simpa [Value.ownBlock] using hb); omega)) (fun b hb => by have e1 : g = b := (by simpa [Value.ownBlock] using hb); have h1 := hkr.size; have h2 := (HO.out.lt g rfl).1; omega), by omega, HS9.out.on hkr (fun e => by omega) (fun i hi e => by omega), HK9.out.next hkr (fun i hi e => by have := HX.out; omega)⟩)
  have HBE := hid ((HB9.out.stored 0 (.bool true)).stored 1 (.slice (some ⟨g, 0, none⟩) n1 n1))
  clear hkr
  go_wp2
  generalize (w9.setCell ⟨X, 0, none⟩ (.bool true)).setCell ⟨X, 1, none⟩ (.slice (some ⟨g, 0, none⟩) n1 n1) = wz at *
  obtain ⟨x0, x1⟩ := HBE.out.all2
  exact bodyPost_ret (v := .agg #[.bool true, .slice (some ⟨g, 0, none⟩) n1 n1]) (by simp [results, Try.results41, go_sem, x0, x1]) rfl HEN.out
end Go.Proofs.Ytcnaabjgjmodeaa
