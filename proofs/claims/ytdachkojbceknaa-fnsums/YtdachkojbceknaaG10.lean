import Derived.Test.YtdachkojbceknaaG00
import Derived.Test.YtdachkojbceknaaG02
import Derived.Deep.AppendLies
import Derived.Deep.DeepCutAuto
namespace Go.Proofs.Ytdachkojbceknaa
set_option maxRecDepth 100000
set_option maxHeartbeats 4000000
open Go.RowKit
set_option linter.unusedVariables false
structure Src (w : World) (B : Nat) (v : Value) (cs : List Int) (at_ : Nat) (size : Int) : Prop where
  blk : Blk w B 98 [v, .int .i64 at_, .int .i64 size]
  code : Rd .u8 w v cs
  bytes : IsB cs
  few : cs.length ≤ 1048577
  little : 0 ≤ size ∧ size ≤ 12
theorem Src.kept {R : Nat → Prop} {w w' : World} {B : Nat} {v : Value} {cs : List Int} {at_ : Nat} {size : Int} (h : Src w B v cs at_ size) (hk : Kept R w w') (hB : ¬ R B) (hv : Rd .u8 w' v cs) : Src w' B v cs at_ size :=
  ⟨h.blk.kept hk hB, hv, h.bytes, h.few, h.little⟩
theorem Src.same {w w' : World} {B : Nat} {v : Value} {cs : List Int} {at_ : Nat} {size : Int} (h : Src w B v cs at_ size) (hk : Same w w') : Src w' B v cs at_ size :=
  ⟨h.blk.same hk, h.code.same hk, h.bytes, h.few, h.little⟩
theorem source_any (v : Value) (cs : List Int) (w : World) (hb : IsB cs) (hn : cs.length ≤ 1048577) (hv : Rd .u8 w v cs) :
    Calls Try.prog 37 #[v] w fun e w' => ∃ B size, e = .returned (.pointer (some ⟨B, 0, none⟩)) ∧ w.heap.size ≤ B ∧ Src w' B v cs 0 size ∧ Same w w' := by
  obtain ⟨a, c, rfl⟩ := hv.form
  by_cases h : 12 < (cs.length : Int) / 16
  · go_enter Try.func37, Try.ntmps37
    go_wp2
    go_ret
    exact ⟨_, 12, rfl, Nat.le_refl _, ⟨Blk.new _ _ _, hv.same ((Kept.refl _ _).alloc _), hb, hn, by omega, by omega⟩, (Kept.refl _ _).alloc _⟩
  · go_enter Try.func37, Try.ntmps37
    go_wp2
    go_ret
    exact ⟨_, rfl, Nat.le_refl _, ⟨_, Blk.new _ _ _, hv.same ((Kept.refl _ _).alloc _), hb, hn, by omega, by omega⟩, (Kept.refl _ _).alloc _⟩
def Drawn (n r : Int) : Prop := (n < 1 → r = 0) ∧ (1 ≤ n → 0 ≤ r ∧ r < n)
theorem next_any (B : Nat) (v : Value) (cs : List Int) (k : Nat) (size n : Int) (w : World) (hs : Src w B v cs k size) (hR : ∀ w', Kept (fun b => b = B) w w' → Rd .u8 w' v cs) (hk : k ≤ 1073741824) (hn : IsI n) :
    Calls Try.prog 39 #[.pointer (some ⟨B, 0, none⟩), .int .i64 n] w fun e w' => ∃ r, e = .returned (.int .i64 r) ∧ Drawn n r ∧ Src w' B v cs (k + 1) size ∧ Kept (fun b => b = B) w w' := by
  obtain ⟨a, c, rfl⟩ := hs.code.form
  have c0 : w.cell? ⟨B, 0, none⟩ = some (.slice a cs.length c) := by rw [hs.blk.cell]; rfl
  have c1 : w.cell? ⟨B, 1, none⟩ = some (.int .i64 k) := by rw [hs.blk.cell]; rfl
  have f1 := hs.blk.frozen 1
  have hkk : Kept (fun b => b = B) w (w.setCell ⟨B, 1, none⟩ (.int .i64 ((k : Int) + 1))) := Kept.setCell (R := fun b => b = B) (Kept.refl _ _) (.inr rfl) _
  have hsrc : Src (w.setCell ⟨B, 1, none⟩ (.int .i64 ((k : Int) + 1))) B (.slice a cs.length c) cs (k + 1) size :=
    ⟨by have := hs.blk.stored 1 (.int .i64 ((k : Int) + 1)); exact this, hR _ hkk, hs.bytes, hs.few, hs.little⟩
  have HS := (show Hid (Src (w.setCell ⟨B, 1, none⟩ (.int .i64 ((k : Int) + 1))) B (.slice a cs.length c) cs (k + 1) size) from hsrc)
  have HK := (show Hid (Kept (fun b => b = B) w (w.setCell ⟨B, 1, none⟩ (.int .i64 ((k : Int) + 1)))) from hkk)
  have hfew := hs.few
  obtain ⟨hn1, hn2⟩ := hn
  clear hs hR hsrc hkk
  by_cases h1 : n < 1
  · go_enter Try.func39, Try.ntmps39
    go_wp2
    go_ret
    exact ⟨0, rfl, ⟨fun _ => rfl, fun h => by omega⟩, HS.out, HK.out⟩
  · by_cases h2 : cs.length = 0
    · have e0 : ((cs.length : Nat) : Int) = 0 := by omega
      rw [h2] at c0
      go_enter Try.func39, Try.ntmps39
      go_wp2
      go_ret
      refine ⟨_, rfl, ⟨fun h => by omega, fun h => ⟨Int.emod_nonneg _ (by omega), Int.emod_lt_of_pos _ (by omega)⟩⟩, ?_, HK.out⟩
      have := HS.out
      rw [h2] at this
      exact this
    · obtain ⟨b, off, rfl, hc⟩ : ∃ b off, a = some ⟨b, off, none⟩ ∧ ∀ i, i < cs.length → (w.setCell ⟨B, 1, none⟩ (.int .i64 ((k : Int) + 1))).cell? ⟨b, off + i, none⟩ = some (.int .u8 (cs.getD i 0)) := by
        rcases HS.out.code.2 with ⟨hnil, _⟩ | ⟨b, off, c', h, _, hc⟩
        · rw [hnil] at h2
          simp at h2
        · cases h
          exact ⟨b, off, rfl, hc⟩
      have q1 := hc (k % cs.length) (Nat.mod_lt _ (by omega))
      have q2 := hc ((k + 1) % cs.length) (Nat.mod_lt _ (by omega))
      have x1 := HS.out.bytes.at (k % cs.length) (Nat.mod_lt _ (by omega))
      have x2 := HS.out.bytes.at ((k + 1) % cs.length) (Nat.mod_lt _ (by omega))
      clear hc
      have m1 : (k : Int) % (cs.length : Int) = ((k % cs.length : Nat) : Int) := by simp
      have m2 : ((k : Int) + 1) % (cs.length : Int) = (((k + 1) % cs.length : Nat) : Int) := by simp
      have l1 := Nat.mod_lt k (y := cs.length) (by omega)
      have l2 := Nat.mod_lt (k + 1) (y := cs.length) (by omega)
      have d1 : (k : Int) / (cs.length : Int) = ((k / cs.length : Nat) : Int) := by simp
      have d2 : k / cs.length ≤ k := Nat.div_le_self _ _
      generalize cs.getD (k % cs.length) 0 = x at *
      generalize cs.getD ((k + 1) % cs.length) 0 = y at *
      generalize k % cs.length = i1 at *
      generalize (k + 1) % cs.length = i2 at *
      generalize k / cs.length = j1 at *
      generalize hl : cs.length = len at *
      have hl0 : (0 : Int) < (len : Int) := by omega
      have hl1 : ¬ (len : Int) = 0 := by omega
      have l1' : (i1 : Int) < (len : Int) := by omega
      have l2' : (i2 : Int) < (len : Int) := by omega
      by_cases h3 : 200 < n
      · go_enter Try.func39, Try.ntmps39
        go_wp2
        go_quiet (fail)
        go_wp2
        go_quiet (fail)
        go_wp2
        go_ret
        refine ⟨_, rfl, ⟨fun h => by omega, fun h => ⟨Int.emod_nonneg _ (by omega), Int.emod_lt_of_pos _ (by omega)⟩⟩, ?_, ?_⟩
        · exact HS.out.same ((Kept.refl _ _).drewN _)
        · exact HK.out.drewN _
      · go_enter Try.func39, Try.ntmps39
        go_wp2
        go_quiet (fail)
        go_wp2
        go_ret
        refine ⟨_, rfl, ⟨fun h => by omega, fun h => ⟨Int.emod_nonneg _ (by omega), Int.emod_lt_of_pos _ (by omega)⟩⟩, ?_, ?_⟩
        · exact HS.out.same ((Kept.refl _ _).drewN _)
        · exact HK.out.drewN _
theorem Own.emptyAt (w : World) (e : TypeId) : Own w.heap.size e .u8 (w.alloc (Obj.cells #[] e)) (.slice (some ⟨w.heap.size, 0, none⟩) 0 0) [] :=
  ⟨by simp [vals], .inr ⟨w.heap.size, 0, #[], rfl, Nat.le_refl _, by unfold World.alloc; exact Array.getElem?_push_size, Nat.le_refl _, Nat.zero_le _, by simp [vals]⟩⟩
theorem Src.lt {w : World} {B : Nat} {v : Value} {cs : List Int} {at_ : Nat} {size : Int} (h : Src w B v cs at_ size) : B < w.heap.size := h.blk.lt
theorem drawBytes_any (B : Nat) (v : Value) (cs : List Int) (k : Nat) (size n : Int) (w : World) (hs : Src w B v cs k size) (hR : ∀ w', Kept (fun b => b = B) w w' → Rd .u8 w' v cs) (hk : k ≤ 1048576) (hn0 : 0 ≤ n) (hn1 : n ≤ 1048576) :
    Calls Try.prog 60 #[.pointer (some ⟨B, 0, none⟩), .int .i64 n] w fun e w' => ∃ g c bs, e = .returned (.slice (some ⟨g, 0, none⟩) bs.length c) ∧ bs.length = n.toNat ∧ IsB bs ∧ Own w.heap.size 5 .u8 w' (.slice (some ⟨g, 0, none⟩) bs.length c) bs ∧
      Src w' B v cs (k + n.toNat) size ∧ Kept (fun b => b = B) w w' := by
  obtain ⟨i0, hi, hz0, hz1, hz2⟩ := info_parts Try.infoByte'
  have hBw := hs.lt
  have HR := (show Hid (∀ w', Kept (fun b => b = B) w w' → Rd .u8 w' v cs) from hR)
  have HS := (show Hid (Src w B v cs k size) from hs)
  clear hs hR
  go_enter Try.func60, Try.ntmps60
  go_wp2
  go_loopw [5, 6] (fun o i wr => ∃ (j : Nat) (g : Nat) (c : Nat) (bs : List Int), (j : Int) ≤ n ∧ o = .slice (some ⟨g, 0, none⟩) bs.length c ∧ i = .int .i64 j ∧ Hid (bs.length = j) ∧ Hid (IsB bs) ∧ Hid (Own w.heap.size 5 .u8 wr (.slice (some ⟨g, 0, none⟩) bs.length c) bs) ∧
      Hid (Src wr B v cs (k + j) size) ∧ Hid (Kept (fun b => b = B) w wr)) (fun _ i _ => (n - intOf i).toNat)
  case atStart =>
    refine ⟨0, _, _, [], hn0, rfl, rfl, rfl, fun y hy => by simp at hy, ?_, ?_, ?_⟩
    · exact Own.emptyAt w 5
    · exact HS.out.same ((Kept.refl _ _).alloc _)
    · exact (Kept.refl _ _).alloc _
  case round =>
    obtain ⟨j, g, c, bs, hj, rfl, rfl, HL, HBs, HO, HSr, HK⟩ := hrel
    by_cases hlt : (j : Int) < n
    · have hsz := HK.out.size
      have hx : ∀ w', Kept (fun b => b = B) wr w' → Rd .u8 w' v cs := fun w' hw => HR.out w' (HK.out.trans hw)
      have hjj : k + j ≤ 1073741824 := by omega
      have hNX := next_any B v cs (k + j) size 256 wr HSr.out hx hjj (by constructor <;> decide)
      have hOB : ∀ w1, Kept (fun b => b = B) wr w1 → ∀ o, (w1.alloc o).ownsRow w.heap.size 5 1 (.slice (some ⟨g, 0, none⟩) bs.length c) bs.length (vals .u8 bs) := fun w1 h1 o =>
        (HO.out.kept h1 (fun b hb e => by have := (HO.out.lt b hb).1; omega)).same ((Kept.refl _ _).alloc o)
      have HOB := (show Hid (_) from hOB)
      clear hOB
      go_wp2_with (first
        | (go_at_call 39; refine hNX.mono ?_; rintro e w1 ⟨r, rfl, hdr, hs1, hk1⟩; have HS1 := (show Hid (Src w1 B v cs (k + j + 1) size) from hs1); have HK1 := (show Hid (Kept (fun b => b = B) wr w1) from hk1); have hw1 := hk1.size; obtain ⟨_, hr0⟩ := hdr; obtain ⟨hr1, hr2⟩ := hr0 (by decide); clear hs1 hk1 hr0)
        | (at_builtin; go_loud (refine wpList_append_own _ rfl (.tmp 13) (.tmp 17) 22 rfl w.heap.size 5 i0 (.int .u8 0) 1 1 Try.underlying22 hi hz0 hz1 hz2 rfl (by decide) (.slice (some ⟨g, 0, none⟩) bs.length c) bs.length (vals .u8 bs) rfl (HOB.out w1 HK1.out _) ⟨w1.heap.size, 0, none⟩ 1 1 [.int .u8 r] rfl rfl (World.news_of_block (cs := #[.int .u8 r]) (t := 5) (fr := (0, 0)) (by unfold World.alloc; exact Array.getElem?_push_size)) (by intro u hu; simp at hu; subst hu; rfl) (by unfold maxLen; have := HL.out; omega) (by have := HL.out; omega) (by simp; omega) ?_); intro v' w2 hown2 hgrow2 _; have HO2 := (show Hid (Own w.heap.size 5 .u8 w2 v' (bs ++ [r])) from (by simpa [Own, Hid, vals] using hown2)); have HG2 := (show Hid ((w1.alloc (.cells #[.int .u8 r] 5)).grownBy w2 (Value.slice (some ⟨g, 0, none⟩) bs.length c).ownBlock) from hgrow2); obtain ⟨aa, na, ca, rfl⟩ := slice_of_own HO2.out; clear hown2 hgrow2))
      obtain ⟨g2, e1, e2⟩ : ∃ g2, aa = some ⟨g2, 0, none⟩ ∧ na = (bs ++ [r]).length := by
        rcases HO2.out.form with ⟨h, h'⟩ | ⟨g2, cap, h, _⟩
        · simp at h'
        · cases h
          exact ⟨g2, rfl, rfl⟩
      subst e1
      subst e2
      go_roundw
      case rel =>
        have hk2 : Kept (fun b => (Value.slice (some ⟨g, 0, none⟩) bs.length c).ownBlock = some b) w1 w2 := ((Kept.refl _ _).alloc _).trans (Kept.of_grown HG2.out (fun k e => e))
        have hk3 : Kept (fun b => b = B) w w2 := (HK.out.trans HK1.out).next hk2 (fun i hi e => absurd (HO.out.lt i e).1 (by omega))
        refine ⟨j + 1, g2, ca, bs ++ [r], by omega, rfl, by go_num, by simp [HL.out, Hid], ?_, HO2, ?_, ?_⟩
        · intro y hy
          rcases List.mem_append.1 hy with hy | hy
          · exact HBs.out y hy
          · simp at hy
            omega
        · exact HS1.out.kept hk2 (fun e => absurd (HO.out.lt B e).1 (by omega)) (HR.out w2 hk3)
        · exact hk3
      case measure => simp [intOf]; omega
    · go_wp2
      go_ret
      have hjn : j = n.toNat := by omega
      exact ⟨_, _, bs, rfl, by rw [HL.out, hjn], HBs.out, HO.out, by rw [← hjn]; exact HSr.out, HK.out⟩
theorem drawCrc_any (v : Value) (cs : List Int) (w : World) (hb : IsB cs) (hn : cs.length ≤ 1048576) (hv : Rd .u8 w v cs) :
    Calls Try.prog 25 #[v] w fun e w' => ∃ g c bs, e = .returned (.slice (some ⟨g, 0, none⟩) bs.length c) ∧ bs.length ≤ 40 ∧ IsB bs ∧ Own w.heap.size 5 .u8 w' (.slice (some ⟨g, 0, none⟩) bs.length c) bs ∧ Same w w' := by
  have HV := (show Hid (Rd .u8 w v cs) from hv)
  have h1 := source_any v cs w hb (by omega) hv
  clear hv
  go_enter Try.func25, Try.ntmps25
  go_wp2_with (go_at_call 37; refine h1.mono ?_; rintro e w1 ⟨B, size, rfl, hB, hs, hk⟩)
  have hR : ∀ w', Kept (fun b => b = B) w1 w' → Rd .u8 w' v cs := fun w' h => HV.out.same (hk.next h (fun i hi e => by omega))
  have h2 := next_any B v cs 0 size 40 w1 hs hR (by decide) (by constructor <;> decide)
  have HK := (show Hid (Same w w1) from hk)
  have HR := (show Hid (_) from hR)
  clear hk hR hs h1
  go_wp2_with (go_at_call 39; refine h2.mono ?_; rintro e w2 ⟨r, rfl, hdr, hs2, hk2⟩)
  obtain ⟨hr1, hr2⟩ := hdr.2 (by decide)
  have h3 := drawBytes_any B v cs 1 size r w2 hs2 (fun w' h => HR.out w' (hk2.trans h)) (by decide) hr1 (by omega)
  have HK2 := (show Hid (Kept (fun b => b = B) w1 w2) from hk2)
  clear hk2 hs2 hdr h2
  go_wp2_with (go_at_call 60; refine h3.mono ?_; rintro e w3 ⟨a, c, bs, rfl, hl, hbs, ho, hs3, hk3⟩)
  go_ret
  have hz1 := HK.out.size
  have hz2 := HK2.out.size
  exact ⟨a, c, bs, by rw [hl]; rfl, by omega, hbs, ho.mono (fun b hb => by have := (ho.lt b hb).1; omega), HK.out.next (HK2.out.trans hk3) (fun i hi e => by omega)⟩
structure SrcR (w0 w : World) (B : Nat) (v : Value) (cs : List Int) (k : Nat) (size : Int) : Prop where
  src : Src w B v cs k size
  kept : Kept (fun b => b = B) w0 w
  rd : ∀ w', Kept (fun b => b = B) w0 w' → Rd .u8 w' v cs
theorem source_r1 (v : Value) (cs : List Int) (w : World) (hb : IsB cs) (hn : cs.length ≤ 1048577) (hv : Rd .u8 w v cs) :
    Calls Try.prog 37 #[v] w fun e w' => ∃ B size, e = .returned (.pointer (some ⟨B, 0, none⟩)) ∧ w.heap.size ≤ B ∧ SrcR w' w' B v cs 0 size ∧ Same w w' := by
  refine (source_any v cs w hb hn hv).mono ?_
  rintro e w' ⟨B, size, rfl, hB, hs, hk⟩
  exact ⟨B, size, rfl, hB, ⟨hs, Kept.refl _ _, fun w2 h => hv.same (hk.next h (fun i hi e => by omega))⟩, hk⟩
theorem source_r (v : Value) (cs : List Int) (w : World) (hb : IsB cs) (hn : cs.length ≤ 1048576) (hv : Rd .u8 w v cs) :
    Calls Try.prog 37 #[v] w fun e w' => ∃ B size, e = .returned (.pointer (some ⟨B, 0, none⟩)) ∧ w.heap.size ≤ B ∧ SrcR w' w' B v cs 0 size ∧ Same w w' := source_r1 v cs w hb (by omega) hv
theorem next_r {w0 w : World} {B : Nat} {v : Value} {cs : List Int} {k : Nat} {size : Int} (n : Int) (h : SrcR w0 w B v cs k size) (hk : k ≤ 1073741824) (hn : IsI n) :
    Calls Try.prog 39 #[.pointer (some ⟨B, 0, none⟩), .int .i64 n] w fun e w' => ∃ r, e = .returned (.int .i64 r) ∧ Drawn n r ∧ SrcR w0 w' B v cs (k + 1) size := by
  refine (next_any B v cs k size n w h.src (fun w' hw => h.rd w' (h.kept.trans hw)) hk hn).mono ?_
  rintro e w' ⟨r, rfl, hd, hs, hk'⟩
  exact ⟨r, rfl, hd, hs, h.kept.trans hk', h.rd⟩
theorem shl_small (r : Nat) (h : r < 63) : 1 ≤ (2 : Int) ^ r ∧ (2 : Int) ^ r ≤ 4611686018427387904 := by
  have h1 : 1 ≤ 2 ^ r := Nat.one_le_two_pow
  have h2 : 2 ^ r ≤ 2 ^ 62 := Nat.pow_le_pow_right (by decide) (by omega)
  have e : ((2 ^ r : Nat) : Int) = (2 : Int) ^ r := by simp
  rw [← e]
  omega
theorem drawPut_any (v : Value) (cs : List Int) (w : World) (hb : IsB cs) (hn : cs.length ≤ 1048576) (hv : Rd .u8 w v cs) :
    Calls Try.prog 21 #[v] w fun e w' => ∃ x y, e = .returned (.tuple #[.int .i64 x, .int .i64 y]) ∧ IsI x ∧ IsI y ∧ Same w w' := by
  have h1 := source_r v cs w hb hn hv
  clear hv hb hn
  go_enter Try.func21, Try.ntmps21
  go_wp2_with (first
    | (go_at_call 37; refine h1.mono ?_; rintro e w1 ⟨B, size, rfl, hB, hs, hk⟩; have hz1 := hk.size; have HK := (show Hid (Same w w1) from hk); clear hk)
    | (go_at_call 39; refine (next_r _ (by assumption) (by omega) (by constructor <;> decide)).mono ?_; rintro e ww ⟨r, rfl, hd, hs⟩; obtain ⟨hr1, hr2⟩ := hd.2 (by decide); obtain ⟨r, rfl⟩ : ∃ r0 : Nat, r = (r0 : Int) := ⟨r.toNat, by omega⟩; try have hp := shl_small r (by omega); clear hd))
  all_goals
    go_ret2
    refine ⟨_, _, rfl, ⟨by omega, by omega⟩, ⟨by omega, by omega⟩, ?_⟩
    exact HK.out.next hs.kept (fun i hi e => by omega)
end Go.Proofs.Ytdachkojbceknaa

namespace Go.Proofs.Ytdachkojbceknaa
set_option maxRecDepth 100000
set_option maxHeartbeats 2000000
open Go.RowKit
set_option linter.unusedVariables false
def AtR (n r : Int) : Prop := (n ≤ 1 → r = 0) ∧ (1 < n → 0 ≤ r ∧ r < n)
theorem lwAt_any (v : Value) (cs : List Int) (k : Nat) (n : Int) (w : World) (hb : IsB cs) (hfew : cs.length ≤ 1048576) (hk : k ≤ 1048576) (hn : IsI n) (hv : Rd .u8 w v cs) :
    Calls Try.prog 26 #[v, .int .i64 k, .int .i64 n] w fun e w' => ∃ r, e = .returned (.int .i64 r) ∧ AtR n r ∧ Same w w' := by
  obtain ⟨a, c, rfl⟩ := hv.form
  obtain ⟨hn1, hn2⟩ := hn
  by_cases h1 : n ≤ 1
  · go_enter Try.func26, Try.ntmps26
    go_wp2
    go_ret
    exact ⟨0, rfl, ⟨fun _ => rfl, fun h => by omega⟩, Kept.refl _ _⟩
  · by_cases h2 : cs.length = 0
    · have e0 : ((cs.length : Nat) : Int) = 0 := by omega
      rw [h2]
      go_enter Try.func26, Try.ntmps26
      go_wp2
      go_ret
      exact ⟨_, rfl, ⟨fun h => by omega, fun h => ⟨Int.emod_nonneg _ (by omega), Int.emod_lt_of_pos _ (by omega)⟩⟩, Kept.refl _ _⟩
    · obtain ⟨b, off, rfl, hc⟩ : ∃ b off, a = some ⟨b, off, none⟩ ∧ ∀ i, i < cs.length → w.cell? ⟨b, off + i, none⟩ = some (.int .u8 (cs.getD i 0)) := by
        rcases hv.2 with ⟨hnil, _⟩ | ⟨b, off, c', h, _, hc⟩
        · rw [hnil] at h2
          simp at h2
        · cases h
          exact ⟨b, off, rfl, hc⟩
      have q1 := hc (k % cs.length) (Nat.mod_lt _ (by omega))
      have q2 := hc ((k + 1) % cs.length) (Nat.mod_lt _ (by omega))
      have x1 := hb.at (k % cs.length) (Nat.mod_lt _ (by omega))
      have x2 := hb.at ((k + 1) % cs.length) (Nat.mod_lt _ (by omega))
      have m1 : (k : Int) % (cs.length : Int) = ((k % cs.length : Nat) : Int) := by simp
      have m2 : ((k : Int) + 1) % (cs.length : Int) = (((k + 1) % cs.length : Nat) : Int) := by simp
      have l1 := Nat.mod_lt k (y := cs.length) (by omega)
      have l2 := Nat.mod_lt (k + 1) (y := cs.length) (by omega)
      have d1 : (k : Int) / (cs.length : Int) = ((k / cs.length : Nat) : Int) := by simp
      have d2 : k / cs.length ≤ k := Nat.div_le_self _ _
      clear hc hv hb
      generalize cs.getD (k % cs.length) 0 = x at *
      generalize cs.getD ((k + 1) % cs.length) 0 = y at *
      generalize k % cs.length = i1 at *
      generalize (k + 1) % cs.length = i2 at *
      generalize k / cs.length = j1 at *
      generalize hl : cs.length = len at *
      have hl0 : (0 : Int) < (len : Int) := by omega
      have hl1 : ¬ (len : Int) = 0 := by omega
      have l1' : (i1 : Int) < (len : Int) := by omega
      have l2' : (i2 : Int) < (len : Int) := by omega
      by_cases h3 : 200 < n
      · go_enter Try.func26, Try.ntmps26
        go_wp2
        go_quiet (fail)
        go_wp2
        go_ret
        exact ⟨_, rfl, ⟨fun h => by omega, fun h => ⟨Int.emod_nonneg _ (by omega), Int.emod_lt_of_pos _ (by omega)⟩⟩, (Kept.refl _ _).drewN _⟩
      · go_enter Try.func26, Try.ntmps26
        go_wp2
        go_quiet (fail)
        go_wp2
        go_ret
        exact ⟨_, rfl, ⟨fun h => by omega, fun h => ⟨Int.emod_nonneg _ (by omega), Int.emod_lt_of_pos _ (by omega)⟩⟩, (Kept.refl _ _).drewN _⟩
end Go.Proofs.Ytdachkojbceknaa

namespace Go.Proofs.Ytdachkojbceknaa
set_option maxRecDepth 100000
set_option maxHeartbeats 1000000
open Go.RowKit
set_option linter.unusedVariables false
theorem implPut_yes (v n : Int) (w : World) (hi0 : IsI v) (h1 : 1 ≤ n) (h2 : n ≤ 8) (h3 : 0 ≤ v) :
    Calls Try.prog 22 #[.int .i64 v, .int .i64 n] w fun e w' => ∃ a c, e = .returned (.slice a (numB v n).length c) ∧ (∀ b, (Value.slice a (numB v n).length c).ownBlock = some b → w.heap.size ≤ b) ∧
      Own 0 5 .u8 w' (.slice a (numB v n).length c) (numB v n) ∧ Same w w' := by
  obtain ⟨n, rfl⟩ : ∃ m : Nat, n = m := ⟨n.toNat, by omega⟩
  obtain ⟨i0, hi, hz0, hz1, hz2⟩ := info_parts Try.infoByte'
  obtain ⟨hv1, hv2⟩ := hi0
  have h1' : ¬ (n : Int) < 1 := by omega
  have h2' : ¬ (8 : Int) < n := by omega
  have h3' : ¬ v < 0 := by omega
  by_cases hz : v / 256 ^ n = 0
  · have hz2' : v / 2 ^ (8 * n) = 0 := by rw [pow8]; exact hz
    have hnum : numB v n = lows v n := by unfold numB; rw [if_neg (by simp only [Int.toNat_natCast]; omega)]; simp
    have HN : Hid (numB v n = lows v n) := hnum
    clear hz hnum
    go_enter Try.func22, Try.ntmps22
    go_wp2_with (first
      | (at_make; go_loud (refine wpList_make_full _ rfl _ _ 22 rfl 0 5 i0 (.int .u8 0) 1 Try.underlying22 hi hz0 hz1 .i64 .i64 _ _ n rfl rfl (by first | rfl | simp | omega) (by first | rfl | simp | omega) (by rw [hz2]; omega) (by unfold maxLen; omega) (Nat.zero_le _) ?_); intro w1 hown1 hgrow1; have HO : Hid (Own 0 5 .u8 w1 (.slice (some ⟨w.heap.size, 0, none⟩) n n) (List.replicate n 0)) := own_made (by simpa using hown1); have HK : Hid (Same w w1) := Kept.of_grown hgrow1 (fun k e => by cases e); clear hown1 hgrow1)
      | (go_at_call 59; refine (writeNumber_any w.heap.size 0 n n 5 (vals .u8 (List.replicate n 0)) v _ (Own.blk HO.out) (by simp [vals]) h3 (by omega) (by omega)).mono ?_; rintro e w2 ⟨rfl, hb2, hk2⟩))
    go_ret
    rw [HN.out, lows_length]
    rw [lay_all _ _ (by simp [vals, lows_length])] at hb2
    refine ⟨_, _, rfl, fun b hb => ?_, ?_, HK.out.next hk2 (fun i hi e => by omega)⟩
    · simp [Value.ownBlock] at hb; omega
    · have h := Blk.own hb2 (by unfold maxLen; rw [lows_length]; omega)
      rw [lows_length] at h
      exact h
  · have hz2' : v / 2 ^ (8 * n) ≠ 0 := by rw [pow8]; exact hz
    have hnum : numB v n = [] := by unfold numB; rw [if_pos (by simp only [Int.toNat_natCast]; omega)]
    have HN : Hid (numB v n = []) := hnum
    clear hz hnum
    go_enter Try.func22, Try.ntmps22
    go_wp2
    go_ret
    rw [HN.out]
    exact ⟨none, 0, rfl, fun b hb => by simp [Value.ownBlock] at hb, Own.nil _ _ _ _, Kept.refl _ _⟩
theorem implPut_no (v n : Int) (w : World) (h : n < 1 ∨ 8 < n ∨ v < 0) :
    Calls Try.prog 22 #[.int .i64 v, .int .i64 n] w fun e w' => e = .returned (.slice none 0 0) ∧ w' = w := by
  rcases h with h | h
  · go_enter Try.func22, Try.ntmps22
    go_wp2
    go_ret
    exact ⟨rfl, rfl⟩
  · by_cases h1 : n < 1
    · go_enter Try.func22, Try.ntmps22
      go_wp2
      go_ret
      exact ⟨rfl, rfl⟩
    · rcases h with h | h
      · go_enter Try.func22, Try.ntmps22
        go_wp2
        go_ret
        exact ⟨rfl, rfl⟩
      · by_cases h2 : 8 < n
        · go_enter Try.func22, Try.ntmps22
          go_wp2
          go_ret
          exact ⟨rfl, rfl⟩
        · go_enter Try.func22, Try.ntmps22
          go_wp2
          go_ret
          exact ⟨rfl, rfl⟩
theorem implPut_any (v n : Int) (w : World) (hi0 : IsI v) (hi1 : IsI n) :
    Calls Try.prog 22 #[.int .i64 v, .int .i64 n] w fun e w' => ∃ a c, e = .returned (.slice a (numB v n).length c) ∧ (∀ b, (Value.slice a (numB v n).length c).ownBlock = some b → w.heap.size ≤ b) ∧
      Own 0 5 .u8 w' (.slice a (numB v n).length c) (numB v n) ∧ Same w w' := by
  by_cases h : n < 1 ∨ 8 < n ∨ v < 0
  · refine (implPut_no v n w h).mono ?_
    rintro e w' ⟨rfl, rfl⟩
    have e : numB v n = [] := by unfold numB; rw [if_pos (by omega)]
    rw [e]
    exact ⟨none, 0, rfl, fun b hb => by simp [Value.ownBlock] at hb, Own.nil _ _ _ _, Kept.refl _ _⟩
  · exact implPut_yes v n w hi0 (by omega) (by omega) (by omega)
end Go.Proofs.Ytdachkojbceknaa

namespace Go.Proofs.Ytdachkojbceknaa
set_option maxRecDepth 100000
set_option maxHeartbeats 8000000
open Go.RowKit
set_option linter.unusedVariables false
set_option linter.unusedSimpArgs false
theorem own_cap {base : Nat} {e : TypeId} {k : IntKind} {w : World} {g n cap : Nat} {bs : List Int} (h : Own base e k w (.slice (some ⟨g, 0, none⟩) n cap) bs) : n ≤ cap := by
  rcases h.form with ⟨h, _⟩ | ⟨g', c', h, _, _, hc, _⟩
  · cases h
  · cases h
    exact hc
theorem isB_set {bs : List Int} (h : IsB bs) (j : Nat) (z : Int) (h0 : 0 ≤ z) (h1 : z < 256) : IsB (bs.set j z) := fun y hy => by
  rcases List.mem_or_eq_of_mem_set hy with hy | rfl
  · exact h y hy
  · exact ⟨h0, by omega⟩
theorem rd_none {w : World} {a : Addr} {n c : Nat} {bs : List Int} (h : bs = []) (hn : n = 0) : Rd .u8 w (.slice (some a) n c) bs := by
  subst h
  subst hn
  exact ⟨Nat.zero_le _, .inl ⟨rfl, _, _, rfl, fun e => by cases e⟩⟩
theorem sums_law (v0 : Value) (bs0 : List Int) (v1 : Value) (bs1 : List Int) (w : World) (hv0 : Rd .u8 w v0 bs0) (hB0 : IsB bs0) (hv1 : Rd .u8 w v1 bs1) (hB1 : IsB bs1) :
    Calls Try.prog 4 #[v0, v1] w fun e w' => e = .returned (.bool true) ∧ Same w w' := by
  obtain ⟨a0a, c0a, rfl⟩ := hv0.form
  obtain ⟨a1a, c1a, rfl⟩ := hv1.form
  have hm0 := hv0.1
  have hm1 := hv1.1
  unfold maxLen at hm0 hm1
  have HB0 := (show Hid (IsB bs0) from hB0)
  have HB1 := (show Hid (IsB bs1) from hB1)
  have HV0 := (show Hid (Rd .u8 w (.slice a0a bs0.length c0a) bs0) from hv0)
  have HV1 := (show Hid (Rd .u8 w (.slice a1a bs1.length c1a) bs1) from hv1)
  clear hv0 hv1 hB0 hB1
  by_cases hb0 : (1048576 : Int) < (bs0.length : Int)
  · go_enter Try.func4, Try.ntmps4
    go_wp2
    go_ret
    exact ⟨rfl, Kept.refl _ _⟩
  by_cases hb1 : (1048576 : Int) < (bs1.length : Int)
  · go_enter Try.func4, Try.ntmps4
    go_wp2
    go_ret
    exact ⟨rfl, Kept.refl _ _⟩
  go_enter Try.func4, Try.ntmps4
  go_wp2_with fail
  refine (drawPut_any _ bs0 _ HB0.out (by omega) HV0.out).mono ?_
  rintro e w1 ⟨x, y, rfl, hx, hy, hk1⟩
  have HK1 := (show Hid (Same w w1) from hk1)
  have HX := (show Hid (IsI x) from hx)
  have HY := (show Hid (IsI y) from hy)
  clear hk1
  go_wp2_with fail
  refine (implPut_any x y _ HX.out HY.out).mono ?_
  rintro e w2 ⟨a2, c2, rfl, hf2, ho2, hk2⟩
  have HK2 := (show Hid (Same w w2) from HK1.out.trans hk2)
  have HO2 := (show Hid (Own 0 5 .u8 w2 (.slice a2 (numB x y).length c2) (numB x y)) from ho2)
  have hlen := numB_length x y
  clear hk2 ho2 hf2
  go_upto_region 5 with fail
  go_cut [55] (fun c wc => c = .bool false ∧ Hid (Same w wc))
  case first =>
    by_cases hE : numB x y = []
    · have hd1 : (((numB x y).length : Int) != 0) = false := by rw [hE]; rfl
      have hd2 : (((numB x y).length : Int) == 0) = true := by rw [hE]; rfl
      have hd3 : decide (((numB x y).length : Int) = 0) = true := by rw [hE]; rfl
      clear hE
      go_wp2_with fail
      refine (specPut_any x y _ HX.out HY.out).mono ?_
      rintro e w3 ⟨a3, c3, rfl, hf3, ho3, hk3⟩
      go_wp2
      go_meet
      exact ⟨rfl, HK2.out.trans hk3⟩
    · obtain ⟨g1, g2⟩ := getN_numB x y HX.out hE
      have hl1 : ¬ (numB x y).length = 0 := fun h => hE (List.eq_nil_of_length_eq_zero h)
      have HBn := (show Hid (IsB (numB x y)) from numB_isB x y)
      go_wp2_with fail
      refine (implGet_any _ (numB x y) _ HBn.out (by omega) HO2.out.rd).mono ?_
      rintro e w3 ⟨rfl, hk3⟩
      rw [g1]
      have HK3 := (show Hid (Same w w3) from HK2.out.trans hk3)
      clear hk3
      go_wp2_with fail
      refine (specPut_any x y _ HX.out HY.out).mono ?_
      rintro e w4 ⟨a3, c3, rfl, hf3, ho3, hk4⟩
      go_wp2
      go_meet
      exact ⟨rfl, HK3.out.trans hk4⟩
  case rest =>
    obtain ⟨rfl, HKc⟩ := hcut
    clear HO2 hlen HK2
    go_wp2_with fail
    refine (drawCrc_any _ bs0 _ HB0.out (by omega) (HV0.out.same HKc.out)).mono ?_
    rintro e w5 ⟨tg, tc, ts, rfl, htl, htb, hto, hk5⟩
    have HK5 := (show Hid (Same w w5) from HKc.out.trans hk5)
    have HT5 := (show Hid (Own 0 5 .u8 w5 (.slice (some ⟨tg, 0, none⟩) ts.length tc) ts) from hto.mono (fun b _ => Nat.zero_le b))
    have HTB := (show Hid (IsB ts) from htb)
    clear hk5 hto htb
    go_wp2_with fail
    have hI : IsI ((ts.length : Int) + 1) := ⟨by omega, by omega⟩
    refine (lwAt_any _ bs1 0 _ _ HB1.out (by omega) (by omega) hI (HV1.out.same HK5.out)).mono ?_
    rintro e w6 ⟨k, rfl, hk, hk6⟩
    obtain ⟨k, rfl, hkl⟩ : ∃ k0 : Nat, k = k0 ∧ k0 ≤ ts.length := by
      by_cases h : (ts.length : Int) + 1 ≤ 1
      · exact ⟨0, by rw [hk.1 h]; rfl, by omega⟩
      · have := hk.2 (by omega)
        exact ⟨k.toNat, by omega, by omega⟩
    have HK6 := (show Hid (Same w w6) from HK5.out.trans hk6)
    have HT6 := hid (HT5.out.same hk6)
    clear hk hk6 HT5 HK5 hI
    go_wp2_with fail
    refine (implCrc_any _ ts _ HTB.out (by omega) HT6.out.rd).mono ?_
    rintro e w7 ⟨rfl, hk7⟩
    have HK7 := (show Hid (Same w w7) from HK6.out.trans hk7)
    have HT7 := hid (HT6.out.same hk7)
    clear hk7 HT6 HK6
    obtain ⟨S, hS⟩ : ∃ S, crcOn 0 ts = S := ⟨_, rfl⟩
    have HS := (show Hid (crcOn 0 ts = S) from hS)
    rw [hS]
    clear hS
    go_upto_region 10 with fail
    go_cut [80] (fun c wc => c = .bool false ∧ Hid (Same w7 wc))
    case first =>
      have HRa := (show Hid (∀ wx, Same w7 wx → Rd .u8 wx (.slice (some ⟨tg, 0, none⟩) k tc) (ts.take k)) from fun wx hx => (HT7.out.same hx).rd.front k hkl)
      have htc : ts.length ≤ tc := own_cap HT7.out
      have hk0 : (0 : Int) ≤ (k : Int) := by omega
      have hk1 : (k : Int) ≤ (tc : Int) := by omega
      have hk2 : (k : Int) ≤ (ts.length : Int) := by omega
      by_cases hkc : tc = k
      · replace hkc := hkc.symm
        subst hkc
        have HRb := (show Hid (∀ wx, Same w7 wx → Rd .u8 wx (.slice (some ⟨tg, 0, none⟩) 0 0) (ts.drop k)) from fun wx hx => rd_none (List.drop_eq_nil_of_le (by omega)) rfl)
        have hS : (fun _ : World => True) w7.drew := by trivial
        refine wp_region_V (fun _ : World => True) 99 16 rfl (by kernel_rfl) ?_
        refine tk 0 65 hS ?_
        refine tk 1 66 hS ?_
        refine tk 2 67 hS ?_
        refine tk 4 69 hS ?_
        refine tk 5 70 hS ?_
        refine tk 6 71 hS ?_
        refine tk 8 73 hS ?_
        refine wpAnyV_one (i := 3) (by kernel_rfl) rfl (fun K hK => ?_)
        go_simp
        have hc := implCrc_any (.slice (some ⟨tg, 0, none⟩) k k) (ts.take k) w7.drew (isB_take HTB.out k) (by simp; omega) (HRa.out _ (Kept.refl _ _).drew)
        with_reducible refine hc.mono ?_
        clear hc
        rintro e w8 ⟨rfl, hkk⟩
        have HKxw8 := (show Hid (Same w7 w8) from (Kept.refl _ _).drew.trans hkk)
        clear hkk
        refine hK.out _ _ (fun _ => trivial) ?_
        clear hK K
        try simp only [Act.put, sA, s0, sS]
        refine wpAnyV_one (i := 7) (by kernel_rfl) rfl (fun K hK => ?_)
        go_simp
        have hc := implCrcOn_any (crcOn 0 (ts.take k)) (.slice (some ⟨tg, 0, none⟩) 0 0) (ts.drop k) w8 (isB_drop HTB.out k) (by simp; omega) (HRb.out _ HKxw8.out)
        with_reducible refine hc.mono ?_
        clear hc
        rintro e w9 ⟨rfl, hkk⟩
        have HKxw9 := (show Hid (Same w7 w9) from HKxw8.out.trans hkk)
        clear hkk
        rw [crcOn_on _ _ (isB_take HTB.out k), List.take_append_drop, HS.out]
        refine hK.out _ _ (fun _ => trivial) ?_
        clear hK K
        try simp only [Act.put, sA, s0, sS]
        refine tk 9 74 hS ?_
        refine tk 10 75 hS ?_
        refine tk 11 76 hS ?_
        refine tk 12 77 hS ?_
        refine wpAnyV_one (i := 13) (by kernel_rfl) rfl (fun K hK => ?_)
        go_simp
        have hc := specCrc_any (.slice (some ⟨tg, 0, none⟩) ts.length k) ts w9 HTB.out (by omega) (HT7.out.same HKxw9.out).rd
        with_reducible refine hc.mono ?_
        clear hc
        rintro e w10 ⟨rfl, hkk⟩
        have HKxw10 := (show Hid (Same w7 w10) from HKxw9.out.trans hkk)
        clear hkk
        rw [HS.out]
        refine hK.out _ _ (fun _ => trivial) ?_
        clear hK K
        try simp only [Act.put, sA, s0, sS]
        refine tk 14 79 hS ?_
        refine tk 15 80 hS ?_
        refine wpAnyV_done (by kernel_rfl) ?_
        go_wp2
        go_meet
        exact ⟨rfl, HKxw10.out⟩
      · have hkc' : k < tc := by omega
        have hkc2 : (k : Int) < (tc : Int) := by omega
        have HRb := (show Hid (∀ wx, Same w7 wx → Rd .u8 wx (.slice (some ⟨tg, k, none⟩) (ts.length - k) (tc - k)) (ts.drop k)) from fun wx hx => by simpa using (HT7.out.same hx).rd.back k hkl)
        have hS : (fun _ : World => True) w7.drew := by trivial
        refine wp_region_V (fun _ : World => True) 99 16 rfl (by kernel_rfl) ?_
        refine tk 0 65 hS ?_
        refine tk 1 66 hS ?_
        refine tk 2 67 hS ?_
        refine tk 4 69 hS ?_
        refine tk 5 70 hS ?_
        refine tk 6 71 hS ?_
        refine tk 8 73 hS ?_
        refine wpAnyV_one (i := 3) (by kernel_rfl) rfl (fun K hK => ?_)
        go_simp
        have hc := implCrc_any (.slice (some ⟨tg, 0, none⟩) k tc) (ts.take k) w7.drew (isB_take HTB.out k) (by simp; omega) (HRa.out _ (Kept.refl _ _).drew)
        with_reducible refine hc.mono ?_
        clear hc
        rintro e w8 ⟨rfl, hkk⟩
        have HKxw8 := (show Hid (Same w7 w8) from (Kept.refl _ _).drew.trans hkk)
        clear hkk
        refine hK.out _ _ (fun _ => trivial) ?_
        clear hK K
        try simp only [Act.put, sA, s0, sS]
        refine wpAnyV_one (i := 7) (by kernel_rfl) rfl (fun K hK => ?_)
        go_simp
        have hc := implCrcOn_any (crcOn 0 (ts.take k)) (.slice (some ⟨tg, k, none⟩) (ts.length - k) (tc - k)) (ts.drop k) w8 (isB_drop HTB.out k) (by simp; omega) (HRb.out _ HKxw8.out)
        with_reducible refine hc.mono ?_
        clear hc
        rintro e w9 ⟨rfl, hkk⟩
        have HKxw9 := (show Hid (Same w7 w9) from HKxw8.out.trans hkk)
        clear hkk
        rw [crcOn_on _ _ (isB_take HTB.out k), List.take_append_drop, HS.out]
        refine hK.out _ _ (fun _ => trivial) ?_
        clear hK K
        try simp only [Act.put, sA, s0, sS]
        refine tk 9 74 hS ?_
        refine tk 10 75 hS ?_
        refine tk 11 76 hS ?_
        refine tk 12 77 hS ?_
        refine wpAnyV_one (i := 13) (by kernel_rfl) rfl (fun K hK => ?_)
        go_simp
        have hc := specCrc_any (.slice (some ⟨tg, 0, none⟩) ts.length tc) ts w9 HTB.out (by omega) (HT7.out.same HKxw9.out).rd
        with_reducible refine hc.mono ?_
        clear hc
        rintro e w10 ⟨rfl, hkk⟩
        have HKxw10 := (show Hid (Same w7 w10) from HKxw9.out.trans hkk)
        clear hkk
        rw [HS.out]
        refine hK.out _ _ (fun _ => trivial) ?_
        clear hK K
        try simp only [Act.put, sA, s0, sS]
        refine tk 14 79 hS ?_
        refine tk 15 80 hS ?_
        refine wpAnyV_done (by kernel_rfl) ?_
        go_wp2
        go_meet
        exact ⟨rfl, HKxw10.out⟩
    case rest =>
      obtain ⟨rfl, HKc2⟩ := hcut
      have HKr := (show Hid (Same w wc) from HK7.out.trans HKc2.out)
      have HTr := hid (HT7.out.same HKc2.out)
      clear HKc2 HK7 HT7
      by_cases hz : ts.length = 0
      · have hS0 : S = 0 := by
          have h := HS.out
          rw [List.eq_nil_of_length_eq_zero hz] at h
          rw [← h]
          rfl
        subst hS0
        go_wp2
        go_ret
        exact ⟨rfl, HKr.out⟩
      · obtain ⟨i0, hi, hz0, hz1, hz2⟩ := info_parts Try.infoByte'
        have HC : Hid (∀ i, i < ts.length → (wc.alloc (.cells #[] 5)).cell? ⟨tg, 0 + i, none⟩ = some (.int .u8 (ts.getD i 0))) := fun i hi => by
          have h := ((Kept.refl (fun _ => False) wc).alloc (.cells #[] 5)).cellOf (HTr.out.cell rfl i hi) id
          rw [Nat.zero_add]
          exact h
        go_wp2_with (at_builtin; go_loud (refine wpList_append_own _ rfl _ _ 22 rfl wc.heap.size 5 i0 (.int .u8 0) 1 1 Try.underlying22 hi hz0 hz1 hz2 rfl (by decide) (.slice (some ⟨wc.heap.size, 0, none⟩) 0 0) 0 [] rfl (World.ownsRow_made wc #[] 0 (Nat.le_refl _) (by simp) (by simp)) ⟨tg, 0, none⟩ ts.length tc (vals .u8 ts) rfl (by simp [vals_length]) (news_of HC.out) vals_one (by unfold maxLen; omega) (by omega) (by simp) ?_); intro v' w11 hown1 hgrow1 _; have HF := (show Hid (Own wc.heap.size 5 .u8 w11 v' ts) from (by simpa [Own, Hid] using hown1)); have HK11 : Hid (Same wc w11) := ((Kept.refl _ _).alloc _).grown hgrow1 (fun k e => .inl (by simp [Value.ownBlock] at e; omega)); obtain ⟨aa, na, ca, rfl⟩ := slice_of_own HF.out; clear hown1 hgrow1)
        obtain ⟨gb, e1, e2⟩ : ∃ gb, aa = some ⟨gb, 0, none⟩ ∧ na = ts.length := by
          rcases HF.out.form with ⟨h, h'⟩ | ⟨g2, cap, h, _⟩
          · rw [h'] at hz
            exact absurd rfl hz
          · cases h
            exact ⟨g2, rfl, rfl⟩
        subst e1
        subst e2
        have hI : IsI (8 * (ts.length : Int)) := ⟨by omega, by omega⟩
        refine (lwAt_any _ bs1 1 _ _ HB1.out (by omega) (by omega) hI (HV1.out.same (HKr.out.trans HK11.out))).mono ?_
        rintro e w12 ⟨fr, rfl, hfr, hk12⟩
        obtain ⟨fr, rfl⟩ : ∃ f0 : Nat, fr = f0 := ⟨fr.toNat, by have := hfr.2 (by omega); omega⟩
        have hfr2 := (hfr.2 (by omega)).2
        have HK12 := (show Hid (Same wc w12) from HK11.out.trans hk12)
        have HF12 := hid (HF.out.same hk12)
        clear hk12 hfr hI HF HK11 HC HTr
        go_wp2
        go_loopw [13] (fun i wr => ∃ (j b : Nat) (bs : List Int), j ≤ 32 ∧ fr + j ≤ 8 * ts.length ∧ i = .int .i64 j ∧ Hid (bs.length = ts.length) ∧ Hid (IsB bs) ∧ Hid (le bs = le ts ^^^ 2 ^ fr * b) ∧ Hid (b < 2 ^ j) ∧ Hid (1 ≤ j → b ≠ 0) ∧
            Hid (Own wc.heap.size 5 .u8 wr (.slice (some ⟨gb, 0, none⟩) ts.length ca) bs) ∧ Hid (Same wc wr)) (fun i _ => 32 - (intOf i).toNat)
        case atStart => exact ⟨0, 0, ts, by omega, by omega, rfl, rfl, HTB.out, by simp [Hid], by simp [Hid], fun h => by omega, HF12, HK12⟩
        case round =>
          obtain ⟨j, b, bs, hj, hjf, rfl, HL, HBb, HLe, HBl, HBn, HO, HKw⟩ := hrel
          by_cases hgo : j < 32 ∧ fr + j < 8 * ts.length
          · obtain ⟨hg1, hg2⟩ := hgo
            have hg3 : (fr : Int) + (j : Int) < 8 * (ts.length : Int) := by omega
            by_cases hj0 : j = 0
            · have hjb : ((j : Int) == 0) = true := by subst hj0; rfl
              have hj00 : j ≤ 0 := by omega
              clear hj0
              have hq : (fr + j) / 8 < bs.length := by have := HL.out; omega
              have HLB := (show Hid (_ = _) from le_bit bs ts fr j b hq HLe.out)
              have hbm := bit_more b j HBl.out
              have HBM := (show Hid (b ^^^ 2 ^ j < 2 ^ (j + 1) ∧ b ^^^ 2 ^ j ≠ 0) from hbm)
              clear hbm
              have hsx := shl_small ((fr + j) % 8) (by omega)
              have hs7 : (2 : Int) ^ ((fr + j) % 8) ≤ 128 := by
                have h2 : 2 ^ ((fr + j) % 8) ≤ 2 ^ 7 := Nat.pow_le_pow_right (by decide) (by omega)
                have e : ((2 ^ ((fr + j) % 8) : Nat) : Int) = (2 : Int) ^ ((fr + j) % 8) := by simp
                rw [← e]
                omega
              have hX := HBb.out.at ((fr + j) / 8) hq
              have hx := u8_xor (bs.getD ((fr + j) / 8) 0) (2 ^ ((fr + j) % 8)) hX.1 (by have := hX.2; omega) (by omega) (by omega)
              have ht2 : ((2 : Int) ^ ((fr + j) % 8)).toNat = 2 ^ ((fr + j) % 8) := by
                have e : ((2 ^ ((fr + j) % 8) : Nat) : Int) = (2 : Int) ^ ((fr + j) % 8) := by simp
                rw [← e, Int.toNat_natCast]
              rw [ht2] at hx
              have hnew : (((bs.getD ((fr + j) / 8) 0).toNat ^^^ 2 ^ ((fr + j) % 8) : Nat)) < 256 := by
                refine Nat.xor_lt_two_pow (n := 8) (by omega) ?_
                have h2 : 2 ^ ((fr + j) % 8) ≤ 2 ^ 7 := Nat.pow_le_pow_right (by decide) (by omega)
                exact Nat.lt_of_le_of_lt h2 (by decide)
              have c1 := HO.out.cell (by rw [HL.out]) ((fr + j) / 8) (by have := HL.out; omega)
              have f1 := HO.out.frozen (by rw [HL.out]) ((fr + j) / 8)
              have HIB := (show Hid (IsB (bs.set ((fr + j) / 8) (((bs.getD ((fr + j) / 8) 0).toNat ^^^ 2 ^ ((fr + j) % 8) : Nat) : Int))) from isB_set HBb.out _ _ (by omega) (by omega))
              have HOS := (show Hid (∀ z, Own wc.heap.size 5 .u8 (wr.setCell ⟨gb, (fr + j) / 8, none⟩ (.int .u8 z)) (.slice (some ⟨gb, 0, none⟩) ts.length ca) (bs.set ((fr + j) / 8) z)) from fun z => HO.out.stored (by rw [HL.out]) _ z)
              have HLS := (show Hid (∀ z : Int, (bs.set ((fr + j) / 8) z).length = ts.length) from fun z => by rw [List.length_set]; exact HL.out)
              have m1 : ((fr : Int) + (j : Int)) % 8 = (((fr + j) % 8 : Nat) : Int) := by omega
              have m2 : ((fr : Int) + (j : Int)) / 8 = (((fr + j) / 8 : Nat) : Int) := by omega
              have l1 : (((fr + j) / 8 : Nat) : Int) < (ts.length : Int) := by omega
              have l2 : (fr + j) % 8 < 8 := by omega
              have hkw : wr.heap.size ≥ wc.heap.size := HKw.out.size
              generalize bs.getD ((fr + j) / 8) 0 = X at *
              generalize hgs : (fr + j) % 8 = sft at *
              generalize hgq : (fr + j) / 8 = q at *
              clear hgs hgq ht2 hq
              obtain ⟨Z, hZ⟩ : ∃ Z : Nat, X.toNat ^^^ 2 ^ sft = Z := ⟨_, rfl⟩
              rw [hZ] at hx hnew HLB HIB
              clear hZ
              have hmod : (2 : Int) ^ sft % 256 = (2 : Int) ^ sft := Int.emod_eq_of_lt (by omega) (by omega)
              go_wp2
              go_roundw
              case rel =>
                refine ⟨j + 1, b ^^^ 2 ^ j, bs.set q (Z : Int), by omega, by omega, by go_num, HLS.out _, HIB, HLB, HBM.out.1, fun _ => HBM.out.2, HOS.out _, ?_⟩
                exact HKw.out.setCell (.inl (HO.out.lt gb rfl).1) _
              case measure => simp [intOf]; omega
            · have hj1 : ¬ (j : Int) = 0 := by omega
              go_wp2_with fail
              have hI2 : IsI (2 : Int) := ⟨by decide, by decide⟩
              refine (lwAt_any _ bs1 (2 + j) 2 _ HB1.out (by omega) (by omega) hI2 (HV1.out.same (HKr.out.trans HKw.out))).mono ?_
              rintro e w13 ⟨r, rfl, hr, hk13⟩
              have hr2 := hr.2 (by decide)
              have HK13 := (show Hid (Same wc w13) from HKw.out.trans hk13)
              have HO13 := hid (HO.out.same hk13)
              clear hk13 hr hI2
              by_cases hr0 : r = 0
              · subst hr0
                have hq : (fr + j) / 8 < bs.length := by have := HL.out; omega
                have HLB := (show Hid (_ = _) from le_bit bs ts fr j b hq HLe.out)
                have hbm := bit_more b j HBl.out
                have HBM := (show Hid (b ^^^ 2 ^ j < 2 ^ (j + 1) ∧ b ^^^ 2 ^ j ≠ 0) from hbm)
                clear hbm
                have hsx := shl_small ((fr + j) % 8) (by omega)
                have hs7 : (2 : Int) ^ ((fr + j) % 8) ≤ 128 := by
                  have h2 : 2 ^ ((fr + j) % 8) ≤ 2 ^ 7 := Nat.pow_le_pow_right (by decide) (by omega)
                  have e : ((2 ^ ((fr + j) % 8) : Nat) : Int) = (2 : Int) ^ ((fr + j) % 8) := by simp
                  rw [← e]
                  omega
                have hX := HBb.out.at ((fr + j) / 8) hq
                have hx := u8_xor (bs.getD ((fr + j) / 8) 0) (2 ^ ((fr + j) % 8)) hX.1 (by have := hX.2; omega) (by omega) (by omega)
                have ht2 : ((2 : Int) ^ ((fr + j) % 8)).toNat = 2 ^ ((fr + j) % 8) := by
                  have e : ((2 ^ ((fr + j) % 8) : Nat) : Int) = (2 : Int) ^ ((fr + j) % 8) := by simp
                  rw [← e, Int.toNat_natCast]
                rw [ht2] at hx
                have hnew : (((bs.getD ((fr + j) / 8) 0).toNat ^^^ 2 ^ ((fr + j) % 8) : Nat)) < 256 := by
                  refine Nat.xor_lt_two_pow (n := 8) (by omega) ?_
                  have h2 : 2 ^ ((fr + j) % 8) ≤ 2 ^ 7 := Nat.pow_le_pow_right (by decide) (by omega)
                  exact Nat.lt_of_le_of_lt h2 (by decide)
                have c1 := HO13.out.cell (by rw [HL.out]) ((fr + j) / 8) (by have := HL.out; omega)
                have f1 := HO13.out.frozen (by rw [HL.out]) ((fr + j) / 8)
                have HIB := (show Hid (IsB (bs.set ((fr + j) / 8) (((bs.getD ((fr + j) / 8) 0).toNat ^^^ 2 ^ ((fr + j) % 8) : Nat) : Int))) from isB_set HBb.out _ _ (by omega) (by omega))
                have HOS := (show Hid (∀ z, Own wc.heap.size 5 .u8 (w13.setCell ⟨gb, (fr + j) / 8, none⟩ (.int .u8 z)) (.slice (some ⟨gb, 0, none⟩) ts.length ca) (bs.set ((fr + j) / 8) z)) from fun z => HO13.out.stored (by rw [HL.out]) _ z)
                have HLS := (show Hid (∀ z : Int, (bs.set ((fr + j) / 8) z).length = ts.length) from fun z => by rw [List.length_set]; exact HL.out)
                have m1 : ((fr : Int) + (j : Int)) % 8 = (((fr + j) % 8 : Nat) : Int) := by omega
                have m2 : ((fr : Int) + (j : Int)) / 8 = (((fr + j) / 8 : Nat) : Int) := by omega
                have l1 : (((fr + j) / 8 : Nat) : Int) < (ts.length : Int) := by omega
                have l2 : (fr + j) % 8 < 8 := by omega
                have hkw : w13.heap.size ≥ wc.heap.size := HK13.out.size
                generalize bs.getD ((fr + j) / 8) 0 = X at *
                generalize hgs : (fr + j) % 8 = sft at *
                generalize hgq : (fr + j) / 8 = q at *
                clear hgs hgq ht2 hq
                obtain ⟨Z, hZ⟩ : ∃ Z : Nat, X.toNat ^^^ 2 ^ sft = Z := ⟨_, rfl⟩
                rw [hZ] at hx hnew HLB HIB
                clear hZ
                have hmod : (2 : Int) ^ sft % 256 = (2 : Int) ^ sft := Int.emod_eq_of_lt (by omega) (by omega)
                go_wp2
                go_roundw
                case rel =>
                  refine ⟨j + 1, b ^^^ 2 ^ j, bs.set q (Z : Int), by omega, by omega, by go_num, HLS.out _, HIB, HLB, HBM.out.1, fun _ => HBM.out.2, HOS.out _, ?_⟩
                  exact HK13.out.setCell (.inl (HO.out.lt gb rfl).1) _
                case measure => simp [intOf]; omega
              · have hrb : (r == 0) = false := by simpa using hr0
                go_wp2
                go_roundw
                case rel =>
                  have hp : b < 2 ^ (j + 1) := Nat.lt_of_lt_of_le HBl.out (Nat.pow_le_pow_right (by decide) (by omega))
                  exact ⟨j + 1, b, bs, by omega, by omega, by go_num, HL, HBb, HLe, hp, fun _ => HBn.out (by omega), HO13, HK13⟩
                case measure => simp [intOf]; omega
          · have hj1 : 1 ≤ j := by omega
            have hpw : 2 ^ j ≤ 2 ^ 32 := Nat.pow_le_pow_right (by decide) hj
            have hb32 : b < 4294967296 := Nat.lt_of_lt_of_le HBl.out hpw
            clear hpw
            have HNE := (show Hid (crcOn 0 bs ≠ S) from by rw [← HS.out]; exact crc_burst bs ts fr b HL.out (by omega) HLe.out hb32 (HBn.out hj1))
            have hRd := HO.out.rd
            have HRd := (show Hid (Rd .u8 wr (.slice (some ⟨gb, 0, none⟩) ts.length ca) bs) from hRd)
            clear hRd
            go_wp2_with (go_at_call 27; refine (implCrc_any _ bs _ HBb.out (by have := HL.out; omega) HRd.out).mono ?_; rintro e w14 ⟨rfl, hk14⟩)
            all_goals
              have hb : (crcOn 0 bs != S) = true := by simpa using HNE.out
              go_ret
              exact ⟨congrArg (fun b => Ending.returned (.bool b)) hb, HKr.out.trans (HKw.out.trans hk14)⟩
end Go.Proofs.Ytdachkojbceknaa

namespace Go.Proofs.Ytdachkojbceknaa.fnSums
open Go.ChangeShapes Go.WideShapes Go.ChangeAt Go.RowKit
set_option linter.unusedVariables false
theorem own : ownKnob Try.prog.godebug = none := by kernel_rfl
theorem laidOut : laidOutB Try.prog = true := by kernel_rfl
set_option maxRecDepth 100000 in
theorem lifted (os : Os) (started : os.Started) (H : Type) (enc : TypeId × Value → H) :
    ReturnsInHanded {} Try.checked os 4 .any (Rows.fnSumsSpec.pre6 enc Try.prog Try.f4 Rows.fnSumsRow.domain false) (Rows.fnSumsSpec.post enc Try.prog Try.f4 false true false false) := by
  refine returnsInHanded_of_change (C := Try.checked) own started (by kernel_rfl) Try.func4
    (ChangeSpec.witness6 (enc := enc) (C := Try.checked) false ⟨#[], #[.slice none 0 0, .slice none 0 0], []⟩ 8 (by kernel_rfl) (by kernel_rfl) (by kernel_rfl) (by kernel_rfl)) ?_
  intro W base args ds gs before hval0 hW hcnd _
  have hval : ∀ (j : Nat) t v, Try.f4.params[j]? = some t → args[j]? = some v → Value.okWide Try.prog W .any base t v := hval0
  have hW' := hW
  obtain ⟨p, q, hA0, hV, rfl, hfz, hnd⟩ := hW
  have hA : DataW.TrodAll enc Try.prog W 0 (fun _ => true) true Try.f4.params.toList args.toList ds p := hA0
  rw [Try.params4] at hA hval
  obtain ⟨v0, vs0, d0, ds0, p0, q0, hargs, rfl, rfl, h0, r0⟩ := trodAll_cons hA
  obtain ⟨v1, vs1, d1, ds1, p1, q1, rfl, rfl, rfl, h1, r1⟩ := trodAll_cons r0
  obtain ⟨rfl, rfl, rfl⟩ := trodAll_nil r1
  obtain rfl : args = #[v0, v1] := by cases args; simp_all
  obtain ⟨rfl, rfl⟩ := trodVars_none hV
  have k0 := h0
  have lt0 : ∀ x ∈ p0, x.block < W.heap.size := by obtain ⟨m, hm⟩ := k0; exact DataW.trod_lt m _ _ _ hm
  obtain ⟨x0, rd0, bd0⟩ := open_bytesB (hval 0 22 v0 rfl rfl) h0
  have k1 := h1
  have lt1 : ∀ x ∈ p1, x.block < W.heap.size := by obtain ⟨m, hm⟩ := k1; exact DataW.trod_lt m _ _ _ hm
  obtain ⟨x1, rd1, bd1⟩ := open_bytesB (hval 1 22 v1 rfl rfl) h1
  clear hA0 hval0
  refine (sums_law v0 x0 v1 x1 W rd0 bd0 rd1 bd1).mono fun e W' ⟨he, hk⟩ => ?_
  have bel : Below W.heap.size W W' := hk.below (Nat.le_refl _) (fun _ _ => id)
  subst he
  exact ⟨_, rfl, _, _, _, [], _, [], hW', trodAll_mk1 (shut_bool Try.underlying4 _), (trodAll_cons_mk (Below.trod laidOut (by kernel_rfl) (of_decide_eq_true (by kernel_rfl)) k0 bel lt0) (trodAll_cons_mk (Below.trod laidOut (by kernel_rfl) (of_decide_eq_true (by kernel_rfl)) k1 bel lt1) trodAll_mk0)), rfl, bel.frame _, fun h => by cases h⟩
theorem over : Rows.fnSumsRow.holds Try.pinned (OpenSpec.ofChange Rows.fnSumsSpec) :=
  OpenClaim.holds_of_wide 4 Try.f4 rfl rfl rfl rfl rfl rfl rfl ⟨rfl, rfl, rfl, rfl, rfl⟩ rfl rfl rfl rfl rfl (by kernel_rfl) Try.func4 (by kernel_rfl)
    (of_decide_eq_true (by kernel_rfl)) (by unfold Func.isWrapper; first | (rw [if_pos (by decide +kernel)]; kernel_rfl) | (rw [if_neg (by decide +kernel)]; exact ⟨rfl, rfl⟩))
    (fun os started H enc _ => lifted os started H enc)
end Go.Proofs.Ytdachkojbceknaa.fnSums
namespace Go.Proofs.Ytdachkojbceknaa
theorem fnSums_proved : Rows.FnSumsSaid := fnSums.over
#print axioms fnSums_proved
end Go.Proofs.Ytdachkojbceknaa
