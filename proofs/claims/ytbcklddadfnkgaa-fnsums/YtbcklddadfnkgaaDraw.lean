/-
  THE DRAWS: what a source of drawn numbers is, and what it gives: no more is said of a number than its bounds.
-/
import Derived.Test.YtbcklddadfnkgaaCopyB
import Derived.Test.YtbcklddadfnkgaaBlk
import Derived.Deep.AppendLies
namespace Go.Proofs.Ytbcklddadfnkgaa
open Go.RowKit
set_option linter.unusedVariables false

/-- A source: some bytes, how many numbers were drawn, a size. -/
structure Src (w : World) (B : Nat) (v : Value) (cs : List Int) (at_ : Nat) (size : Int) : Prop where
  blk : Blk w B 99 [v, .int .i64 at_, .int .i64 size]
  code : Rd .u8 w v cs
  bytes : IsB cs
  few : cs.length ≤ 1048576
  little : 0 ≤ size ∧ size ≤ 12
theorem Src.kept {R : Nat → Prop} {w w' : World} {B : Nat} {v : Value} {cs : List Int} {at_ : Nat} {size : Int} (h : Src w B v cs at_ size) (hk : Kept R w w') (hB : ¬ R B) (hv : Rd .u8 w' v cs) : Src w' B v cs at_ size :=
  ⟨h.blk.kept hk hB, hv, h.bytes, h.few, h.little⟩
theorem Src.same {w w' : World} {B : Nat} {v : Value} {cs : List Int} {at_ : Nat} {size : Int} (h : Src w B v cs at_ size) (hk : Same w w') : Src w' B v cs at_ size :=
  ⟨h.blk.same hk, h.code.same hk, h.bytes, h.few, h.little⟩

set_option maxRecDepth 100000 in
set_option maxHeartbeats 1000000 in
theorem source_any (v : Value) (cs : List Int) (w : World) (hb : IsB cs) (hn : cs.length ≤ 1048576) (hv : Rd .u8 w v cs) :
    Calls Try.prog 37 #[v] w fun e w' => ∃ B size, e = .returned (.pointer (some ⟨B, 0, none⟩)) ∧ w.heap.size ≤ B ∧ Src w' B v cs 0 size ∧ Same w w' := by
  obtain ⟨a, c, rfl⟩ := hv.form
  by_cases h : 12 < (cs.length : Int) / 16
  · go_enter Try.func37, Try.ntmps37
    go_wp2
    go_ret
    exact ⟨_, 12, rfl, Nat.le_refl _, ⟨Blk.new _ _ _, hv.same ((Kept.refl _ _).alloc _), hb, hn, by omega, by omega⟩, (Kept.refl _ _).alloc _⟩
  · go_enter Try.func37, Try.ntmps37
    go_wp2
    go_ret
    exact ⟨_, rfl, Nat.le_refl _, ⟨_, Blk.new _ _ _, hv.same ((Kept.refl _ _).alloc _), hb, hn, by omega, by omega⟩, (Kept.refl _ _).alloc _⟩

/-- What a draw gives. -/
def Drawn (n r : Int) : Prop := (n < 1 → r = 0) ∧ (1 ≤ n → 0 ≤ r ∧ r < n)

set_option maxRecDepth 100000 in
set_option maxHeartbeats 2000000 in
theorem next_any (B : Nat) (v : Value) (cs : List Int) (k : Nat) (size n : Int) (w : World) (hs : Src w B v cs k size) (hR : ∀ w', Kept (fun b => b = B) w w' → Rd .u8 w' v cs) (hk : k ≤ 1073741824) (hn : IsI n) :
    Calls Try.prog 38 #[.pointer (some ⟨B, 0, none⟩), .int .i64 n] w fun e w' => ∃ r, e = .returned (.int .i64 r) ∧ Drawn n r ∧ Src w' B v cs (k + 1) size ∧ Kept (fun b => b = B) w w' := by
  obtain ⟨a, c, rfl⟩ := hs.code.form
  have c0 : w.cell? ⟨B, 0, none⟩ = some (.slice a cs.length c) := by rw [hs.blk.cell]; rfl
  have c1 : w.cell? ⟨B, 1, none⟩ = some (.int .i64 k) := by rw [hs.blk.cell]; rfl
  have f1 := hs.blk.frozen 1
  have hkk : Kept (fun b => b = B) w (w.setCell ⟨B, 1, none⟩ (.int .i64 ((k : Int) + 1))) := Kept.setCell (R := fun b => b = B) (Kept.refl _ _) (.inr rfl) _
  have hsrc : Src (w.setCell ⟨B, 1, none⟩ (.int .i64 ((k : Int) + 1))) B (.slice a cs.length c) cs (k + 1) size :=
    ⟨by have := hs.blk.stored 1 (.int .i64 ((k : Int) + 1)); exact this, hR _ hkk, hs.bytes, hs.few, hs.little⟩
  have HS := (show Hid (Src (w.setCell ⟨B, 1, none⟩ (.int .i64 ((k : Int) + 1))) B (.slice a cs.length c) cs (k + 1) size) from hsrc)
  have HK := (show Hid (Kept (fun b => b = B) w (w.setCell ⟨B, 1, none⟩ (.int .i64 ((k : Int) + 1)))) from hkk)
  have hfew := hs.few
  obtain ⟨hn1, hn2⟩ := hn
  clear hs hR hsrc hkk
  by_cases h1 : n < 1
  · go_enter Try.func38, Try.ntmps38
    go_wp2
    go_ret
    exact ⟨0, rfl, ⟨fun _ => rfl, fun h => by omega⟩, HS.out, HK.out⟩
  · by_cases h2 : cs.length = 0
    · have e0 : ((cs.length : Nat) : Int) = 0 := by omega
      rw [h2] at c0
      go_enter Try.func38, Try.ntmps38
      go_wp2
      go_ret
      refine ⟨_, rfl, ⟨fun h => by omega, fun h => ⟨Int.emod_nonneg _ (by omega), Int.emod_lt_of_pos _ (by omega)⟩⟩, ?_, HK.out⟩
      have := HS.out
      rw [h2] at this
      exact this
    · obtain ⟨b, off, rfl, hc⟩ : ∃ b off, a = some ⟨b, off, none⟩ ∧ ∀ i, i < cs.length → (w.setCell ⟨B, 1, none⟩ (.int .i64 ((k : Int) + 1))).cell? ⟨b, off + i, none⟩ = some (.int .u8 (cs.getD i 0)) := by
        rcases HS.out.code.2 with ⟨hnil, _⟩ | ⟨b, off, c', h, _, hc⟩
        · rw [hnil] at h2
          simp at h2
        · cases h
          exact ⟨b, off, rfl, hc⟩
      have q1 := hc (k % cs.length) (Nat.mod_lt _ (by omega))
      have q2 := hc ((k + 1) % cs.length) (Nat.mod_lt _ (by omega))
      have x1 := HS.out.bytes.at (k % cs.length) (Nat.mod_lt _ (by omega))
      have x2 := HS.out.bytes.at ((k + 1) % cs.length) (Nat.mod_lt _ (by omega))
      clear hc
      have m1 : (k : Int) % (cs.length : Int) = ((k % cs.length : Nat) : Int) := by simp
      have m2 : ((k : Int) + 1) % (cs.length : Int) = (((k + 1) % cs.length : Nat) : Int) := by simp
      have l1 := Nat.mod_lt k (y := cs.length) (by omega)
      have l2 := Nat.mod_lt (k + 1) (y := cs.length) (by omega)
      have d1 : (k : Int) / (cs.length : Int) = ((k / cs.length : Nat) : Int) := by simp
      have d2 : k / cs.length ≤ k := Nat.div_le_self _ _
      generalize cs.getD (k % cs.length) 0 = x at *
      generalize cs.getD ((k + 1) % cs.length) 0 = y at *
      generalize k % cs.length = i1 at *
      generalize (k + 1) % cs.length = i2 at *
      generalize k / cs.length = j1 at *
      generalize hl : cs.length = len at *
      have hl0 : (0 : Int) < (len : Int) := by omega
      have hl1 : ¬ (len : Int) = 0 := by omega
      have l1' : (i1 : Int) < (len : Int) := by omega
      have l2' : (i2 : Int) < (len : Int) := by omega
      by_cases h3 : 200 < n
      · go_enter Try.func38, Try.ntmps38
        go_wp2
        go_quiet (fail)
        go_wp2
        go_quiet (fail)
        go_wp2
        go_ret
        refine ⟨_, rfl, ⟨fun h => by omega, fun h => ⟨Int.emod_nonneg _ (by omega), Int.emod_lt_of_pos _ (by omega)⟩⟩, ?_, ?_⟩
        · exact HS.out.same ((Kept.refl _ _).drewN _)
        · exact HK.out.drewN _
      · go_enter Try.func38, Try.ntmps38
        go_wp2
        go_quiet (fail)
        go_wp2
        go_ret
        refine ⟨_, rfl, ⟨fun h => by omega, fun h => ⟨Int.emod_nonneg _ (by omega), Int.emod_lt_of_pos _ (by omega)⟩⟩, ?_, ?_⟩
        · exact HS.out.same ((Kept.refl _ _).drewN _)
        · exact HK.out.drewN _

theorem Own.emptyAt (w : World) (e : TypeId) : Own w.heap.size e .u8 (w.alloc (Obj.cells #[] e)) (.slice (some ⟨w.heap.size, 0, none⟩) 0 0) [] :=
  ⟨by simp [vals], .inr ⟨w.heap.size, 0, #[], rfl, Nat.le_refl _, by unfold World.alloc; exact Array.getElem?_push_size, Nat.le_refl _, Nat.zero_le _, by simp [vals]⟩⟩
theorem Src.lt {w : World} {B : Nat} {v : Value} {cs : List Int} {at_ : Nat} {size : Int} (h : Src w B v cs at_ size) : B < w.heap.size := h.blk.lt

set_option maxRecDepth 100000 in
set_option maxHeartbeats 2000000 in
/-- n bytes are drawn. The source and its bytes are apart from what is made here. -/
theorem drawBytes_any (B : Nat) (v : Value) (cs : List Int) (k : Nat) (size n : Int) (w : World) (hs : Src w B v cs k size) (hR : ∀ w', Kept (fun b => b = B) w w' → Rd .u8 w' v cs) (hk : k ≤ 1048576) (hn0 : 0 ≤ n) (hn1 : n ≤ 1048576) :
    Calls Try.prog 40 #[.pointer (some ⟨B, 0, none⟩), .int .i64 n] w fun e w' => ∃ g c bs, e = .returned (.slice (some ⟨g, 0, none⟩) bs.length c) ∧ bs.length = n.toNat ∧ IsB bs ∧ Own w.heap.size 5 .u8 w' (.slice (some ⟨g, 0, none⟩) bs.length c) bs ∧
      Src w' B v cs (k + n.toNat) size ∧ Kept (fun b => b = B) w w' := by
  obtain ⟨i0, hi, hz0, hz1, hz2⟩ := info_parts Try.infoByte'
  have hBw := hs.lt
  have HR := (show Hid (∀ w', Kept (fun b => b = B) w w' → Rd .u8 w' v cs) from hR)
  have HS := (show Hid (Src w B v cs k size) from hs)
  clear hs hR
  go_enter Try.func40, Try.ntmps40
  go_wp2
  go_loopw [5, 6] (fun o i wr => ∃ (j : Nat) (g : Nat) (c : Nat) (bs : List Int), (j : Int) ≤ n ∧ o = .slice (some ⟨g, 0, none⟩) bs.length c ∧ i = .int .i64 j ∧ Hid (bs.length = j) ∧ Hid (IsB bs) ∧ Hid (Own w.heap.size 5 .u8 wr (.slice (some ⟨g, 0, none⟩) bs.length c) bs) ∧
      Hid (Src wr B v cs (k + j) size) ∧ Hid (Kept (fun b => b = B) w wr)) (fun _ i _ => (n - intOf i).toNat)
  case atStart =>
    refine ⟨0, _, _, [], hn0, rfl, rfl, rfl, fun y hy => by simp at hy, ?_, ?_, ?_⟩
    · exact Own.emptyAt w 5
    · exact HS.out.same ((Kept.refl _ _).alloc _)
    · exact (Kept.refl _ _).alloc _
  case round =>
    obtain ⟨j, g, c, bs, hj, rfl, rfl, HL, HBs, HO, HSr, HK⟩ := hrel
    by_cases hlt : (j : Int) < n
    · have hsz := HK.out.size
      have hx : ∀ w', Kept (fun b => b = B) wr w' → Rd .u8 w' v cs := fun w' hw => HR.out w' (HK.out.trans hw)
      have hjj : k + j ≤ 1073741824 := by omega
      have hNX := next_any B v cs (k + j) size 256 wr HSr.out hx hjj (by constructor <;> decide)
      have hOB : ∀ w1, Kept (fun b => b = B) wr w1 → ∀ o, (w1.alloc o).ownsRow w.heap.size 5 1 (.slice (some ⟨g, 0, none⟩) bs.length c) bs.length (vals .u8 bs) := fun w1 h1 o =>
        (HO.out.kept h1 (fun b hb e => by have := (HO.out.lt b hb).1; omega)).same ((Kept.refl _ _).alloc o)
      have HOB := (show Hid (_) from hOB)
      clear hOB
      go_wp2_with (first
        | (go_at_call 38; refine hNX.mono ?_; rintro e w1 ⟨r, rfl, hdr, hs1, hk1⟩; have HS1 := (show Hid (Src w1 B v cs (k + j + 1) size) from hs1); have HK1 := (show Hid (Kept (fun b => b = B) wr w1) from hk1); have hw1 := hk1.size; obtain ⟨_, hr0⟩ := hdr; obtain ⟨hr1, hr2⟩ := hr0 (by decide); clear hs1 hk1 hr0)
        | (at_builtin; go_loud (refine wpList_append_own _ rfl (.tmp 13) (.tmp 17) 22 rfl w.heap.size 5 i0 (.int .u8 0) 1 1 Try.underlying22 hi hz0 hz1 hz2 rfl (by decide) (.slice (some ⟨g, 0, none⟩) bs.length c) bs.length (vals .u8 bs) rfl (HOB.out w1 HK1.out _) ⟨w1.heap.size, 0, none⟩ 1 1 [.int .u8 r] rfl rfl (World.news_of_block (cs := #[.int .u8 r]) (t := 5) (fr := (0, 0)) (by unfold World.alloc; exact Array.getElem?_push_size)) (by intro u hu; simp at hu; subst hu; rfl) (by unfold maxLen; have := HL.out; omega) (by have := HL.out; omega) (by simp; omega) ?_); intro v' w2 hown2 hgrow2 _; have HO2 := (show Hid (Own w.heap.size 5 .u8 w2 v' (bs ++ [r])) from (by simpa [Own, Hid, vals] using hown2)); have HG2 := (show Hid ((w1.alloc (.cells #[.int .u8 r] 5)).grownBy w2 (Value.slice (some ⟨g, 0, none⟩) bs.length c).ownBlock) from hgrow2); obtain ⟨aa, na, ca, rfl⟩ := slice_of_own HO2.out; clear hown2 hgrow2))
      obtain ⟨g2, e1, e2⟩ : ∃ g2, aa = some ⟨g2, 0, none⟩ ∧ na = (bs ++ [r]).length := by
        rcases HO2.out.form with ⟨h, h'⟩ | ⟨g2, cap, h, _⟩
        · simp at h'
        · cases h
          exact ⟨g2, rfl, rfl⟩
      subst e1
      subst e2
      go_roundw
      case rel =>
        have hk2 : Kept (fun b => (Value.slice (some ⟨g, 0, none⟩) bs.length c).ownBlock = some b) w1 w2 := ((Kept.refl _ _).alloc _).trans (Kept.of_grown HG2.out (fun k e => e))
        have hk3 : Kept (fun b => b = B) w w2 := (HK.out.trans HK1.out).next hk2 (fun i hi e => absurd (HO.out.lt i e).1 (by omega))
        refine ⟨j + 1, g2, ca, bs ++ [r], by omega, rfl, by go_num, by simp [HL.out, Hid], ?_, HO2, ?_, ?_⟩
        · intro y hy
          rcases List.mem_append.1 hy with hy | hy
          · exact HBs.out y hy
          · simp at hy
            omega
        · exact HS1.out.kept hk2 (fun e => absurd (HO.out.lt B e).1 (by omega)) (HR.out w2 hk3)
        · exact hk3
      case measure => simp [intOf]; omega
    · go_wp2
      go_ret
      have hjn : j = n.toNat := by omega
      exact ⟨_, _, bs, rfl, by rw [HL.out, hjn], HBs.out, HO.out, by rw [← hjn]; exact HSr.out, HK.out⟩

set_option maxRecDepth 100000 in
set_option maxHeartbeats 2000000 in
theorem drawCrc_any (v : Value) (cs : List Int) (w : World) (hb : IsB cs) (hn : cs.length ≤ 1048576) (hv : Rd .u8 w v cs) :
    Calls Try.prog 13 #[v] w fun e w' => ∃ g c bs, e = .returned (.slice (some ⟨g, 0, none⟩) bs.length c) ∧ bs.length ≤ 40 ∧ IsB bs ∧ Own w.heap.size 5 .u8 w' (.slice (some ⟨g, 0, none⟩) bs.length c) bs ∧ Same w w' := by
  have HV := (show Hid (Rd .u8 w v cs) from hv)
  have h1 := source_any v cs w hb hn hv
  clear hv
  go_enter Try.func13, Try.ntmps13
  go_wp2_with (go_at_call 37; refine h1.mono ?_; rintro e w1 ⟨B, size, rfl, hB, hs, hk⟩)
  have hR : ∀ w', Kept (fun b => b = B) w1 w' → Rd .u8 w' v cs := fun w' h => HV.out.same (hk.next h (fun i hi e => by omega))
  have h2 := next_any B v cs 0 size 40 w1 hs hR (by decide) (by constructor <;> decide)
  have HK := (show Hid (Same w w1) from hk)
  have HR := (show Hid (_) from hR)
  clear hk hR hs h1
  go_wp2_with (go_at_call 38; refine h2.mono ?_; rintro e w2 ⟨r, rfl, hdr, hs2, hk2⟩)
  obtain ⟨hr1, hr2⟩ := hdr.2 (by decide)
  have h3 := drawBytes_any B v cs 1 size r w2 hs2 (fun w' h => HR.out w' (hk2.trans h)) (by decide) hr1 (by omega)
  have HK2 := (show Hid (Kept (fun b => b = B) w1 w2) from hk2)
  clear hk2 hs2 hdr h2
  go_wp2_with (go_at_call 40; refine h3.mono ?_; rintro e w3 ⟨a, c, bs, rfl, hl, hbs, ho, hs3, hk3⟩)
  go_ret
  have hz1 := HK.out.size
  have hz2 := HK2.out.size
  exact ⟨a, c, bs, by rw [hl]; rfl, by omega, hbs, ho.mono (fun b hb => by have := (ho.lt b hb).1; omega), HK.out.next (HK2.out.trans hk3) (fun i hi e => by omega)⟩


/-- A source as it goes through a function: w0 is the world in which it was made. -/
structure SrcR (w0 w : World) (B : Nat) (v : Value) (cs : List Int) (k : Nat) (size : Int) : Prop where
  src : Src w B v cs k size
  kept : Kept (fun b => b = B) w0 w
  rd : ∀ w', Kept (fun b => b = B) w0 w' → Rd .u8 w' v cs
theorem source_r (v : Value) (cs : List Int) (w : World) (hb : IsB cs) (hn : cs.length ≤ 1048576) (hv : Rd .u8 w v cs) :
    Calls Try.prog 37 #[v] w fun e w' => ∃ B size, e = .returned (.pointer (some ⟨B, 0, none⟩)) ∧ w.heap.size ≤ B ∧ SrcR w' w' B v cs 0 size ∧ Same w w' := by
  refine (source_any v cs w hb hn hv).mono ?_
  rintro e w' ⟨B, size, rfl, hB, hs, hk⟩
  exact ⟨B, size, rfl, hB, ⟨hs, Kept.refl _ _, fun w2 h => hv.same (hk.next h (fun i hi e => by omega))⟩, hk⟩
theorem next_r {w0 w : World} {B : Nat} {v : Value} {cs : List Int} {k : Nat} {size : Int} (n : Int) (h : SrcR w0 w B v cs k size) (hk : k ≤ 1073741824) (hn : IsI n) :
    Calls Try.prog 38 #[.pointer (some ⟨B, 0, none⟩), .int .i64 n] w fun e w' => ∃ r, e = .returned (.int .i64 r) ∧ Drawn n r ∧ SrcR w0 w' B v cs (k + 1) size := by
  refine (next_any B v cs k size n w h.src (fun w' hw => h.rd w' (h.kept.trans hw)) hk hn).mono ?_
  rintro e w' ⟨r, rfl, hd, hs, hk'⟩
  exact ⟨r, rfl, hd, hs, h.kept.trans hk', h.rd⟩
theorem drawBytes_r {w0 w : World} {B : Nat} {v : Value} {cs : List Int} {k : Nat} {size : Int} (n : Int) (h : SrcR w0 w B v cs k size) (hk : k ≤ 1048576) (hn0 : 0 ≤ n) (hn1 : n ≤ 1048576) :
    Calls Try.prog 40 #[.pointer (some ⟨B, 0, none⟩), .int .i64 n] w fun e w' => ∃ g c bs, e = .returned (.slice (some ⟨g, 0, none⟩) bs.length c) ∧ bs.length = n.toNat ∧ IsB bs ∧ Own w.heap.size 5 .u8 w' (.slice (some ⟨g, 0, none⟩) bs.length c) bs ∧
      SrcR w0 w' B v cs (k + n.toNat) size := by
  refine (drawBytes_any B v cs k size n w h.src (fun w' hw => h.rd w' (h.kept.trans hw)) hk hn0 hn1).mono ?_
  rintro e w' ⟨a, c, bs, rfl, hl, hb, ho, hs, hk'⟩
  exact ⟨a, c, bs, rfl, hl, hb, ho, hs, h.kept.trans hk', h.rd⟩

theorem shl_small (r : Nat) (h : r < 63) : 1 ≤ (2 : Int) ^ r ∧ (2 : Int) ^ r ≤ 4611686018427387904 := by
  have h1 : 1 ≤ 2 ^ r := Nat.one_le_two_pow
  have h2 : 2 ^ r ≤ 2 ^ 62 := Nat.pow_le_pow_right (by decide) (by omega)
  have e : ((2 ^ r : Nat) : Int) = (2 : Int) ^ r := by simp
  rw [← e]
  omega


set_option maxRecDepth 100000 in
set_option maxHeartbeats 4000000 in
theorem drawPut_any (v : Value) (cs : List Int) (w : World) (hb : IsB cs) (hn : cs.length ≤ 1048576) (hv : Rd .u8 w v cs) :
    Calls Try.prog 9 #[v] w fun e w' => ∃ x y, e = .returned (.tuple #[.int .i64 x, .int .i64 y]) ∧ IsI x ∧ IsI y ∧ Same w w' := by
  have h1 := source_r v cs w hb hn hv
  clear hv hb hn
  go_enter Try.func9, Try.ntmps9
  go_wp2_with (first
    | (go_at_call 37; refine h1.mono ?_; rintro e w1 ⟨B, size, rfl, hB, hs, hk⟩; have hz1 := hk.size; have HK := (show Hid (Same w w1) from hk); clear hk)
    | (go_at_call 38; refine (next_r _ (by assumption) (by omega) (by constructor <;> decide)).mono ?_; rintro e ww ⟨r, rfl, hd, hs⟩; obtain ⟨hr1, hr2⟩ := hd.2 (by decide); obtain ⟨r, rfl⟩ : ∃ r0 : Nat, r = (r0 : Int) := ⟨r.toNat, by omega⟩; try have hp := shl_small r (by omega); clear hd))
  all_goals
    go_ret2
    refine ⟨_, _, rfl, ⟨by omega, by omega⟩, ⟨by omega, by omega⟩, ?_⟩
    exact HK.out.next hs.kept (fun i hi e => by omega)
end Go.Proofs.Ytbcklddadfnkgaa
