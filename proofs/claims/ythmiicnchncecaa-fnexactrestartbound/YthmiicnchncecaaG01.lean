import Derived.Test.YthmiicnchncecaaG00
namespace Go.Proofs.Ythmiicnchncecaa
set_option maxRecDepth 100000
set_option maxHeartbeats 4000000
set_option linter.unusedVariables false
set_option linter.unusedSimpArgs false
open Go.RowKit
def minLog (p : Int) : Int := if inB p 1 16 = true then 9 * p + 24 else -1
def geoF (p f l : Int) : Int := if inB p 1 16 = false then 1 else if inB f 3 16 = false then 2 else if inB l (minLog p) 800 = false then 3 else 0
theorem inB_yes {v a b : Int} (h : inB v a b = true) : a ≤ v ∧ v ≤ b := by simpa [inB] using h
theorem specMinLog_any (p : Int) (w : World) : Calls Try.prog 29 #[.int .i64 p] w fun e w' => e = .returned (.int .i64 (minLog p)) ∧ Same w w' := by
 have k1 := fun wx => l4In_any p 1 16 wx
 unfold minLog
 cases h : inB p 1 16 with
 | false =>
  rw [h] at k1
  go_enter Try.func29, Try.ntmps29
  go_wp2_with fail
  refine (k1 _).mono ?_
  rintro e w1 ⟨rfl, hk1⟩
  go_wp2
  go_ret
  exact ⟨rfl, hk1⟩
 | true =>
  rw [h] at k1
  obtain ⟨h1, h2⟩ := inB_yes h
  have hw1 : IntKind.i64.wrap (9 * p) = 9 * p := by rw [IntKind.wrap_i64]; omega
  have hw2 : IntKind.i64.wrap (9 * p + 24) = 9 * p + 24 := by rw [IntKind.wrap_i64]; omega
  go_enter Try.func29, Try.ntmps29
  go_wp2_with fail
  refine (k1 _).mono ?_
  rintro e w1 ⟨rfl, hk1⟩
  go_wp2
  go_ret
  exact ⟨by first | rfl | trivial, hk1⟩
theorem specGeo_any (p f l : Int) (w : World) : Calls Try.prog 22 #[.agg #[.int .i64 p, .int .i64 f, .int .i64 l]] w fun e w' => e = .returned (.int .i64 (geoF p f l)) ∧ Same w w' := by
 have HK0 := hid (sameA w [.int .i64 p, .int .i64 f, .int .i64 l] 25)
 have b0 := Blk.newL w [.int .i64 p, .int .i64 f, .int .i64 l] 25
 have k1 := fun wx => l4In_any p 1 16 wx
 have k2 := fun wx => l4In_any f 3 16 wx
 have k3 := fun wx => specMinLog_any p wx
 have k4 := fun wx => l4In_any l (minLog p) 800 wx
 unfold geoF
 generalize minLog p = ml at k3 k4 ⊢
 cases h1 : inB p 1 16 with
 | false =>
  rw [h1] at k1
  go_enter Try.func22, Try.ntmps22
  go_wp2_with fail
  refine (k1 _).mono ?_
  rintro e w1 ⟨rfl, hk1⟩
  go_wp2
  go_ret
  exact ⟨rfl, HK0.out.trans hk1⟩
 | true =>
  rw [h1] at k1
  go_enter Try.func22, Try.ntmps22
  go_wp2_with fail
  refine (k1 _).mono ?_
  rintro e w1 ⟨rfl, hk1⟩
  have b1 := b0.same hk1
  have HK1 := hid (HK0.out.trans hk1)
  obtain ⟨c0, c1, c2⟩ := b1.all3
  clear hk1
  cases h2 : inB f 3 16 with
  | false =>
   rw [h2] at k2
   go_wp2_with fail
   refine (k2 _).mono ?_
   rintro e w2 ⟨rfl, hk2⟩
   have HK2 := hid (HK1.out.trans hk2)
   go_wp2
   go_ret
   exact ⟨rfl, HK2.out⟩
  | true =>
   rw [h2] at k2
   go_wp2_with fail
   refine (k2 _).mono ?_
   rintro e w2 ⟨rfl, hk2⟩
   have b2 := b1.same hk2
   have HK2 := hid (HK1.out.trans hk2)
   obtain ⟨d0, d1, d2⟩ := b2.all3
   clear hk2
   let Y1 : World → Prop := fun wx : World => wx.cell? ⟨w.heap.size, 0, none⟩ = some (.int .i64 p) ∧ wx.cell? ⟨w.heap.size, 2, none⟩ = some (.int .i64 l)
   have hS : Y1 w2.drew := ⟨d0, d2⟩
   go_wp2_with fail
   refine wp_region_V Y1 99 7 rfl (by kernel_rfl) ?_
   refine tk 0 11 hS ?_
   refine tk 1 12 hS ?_
   refine tk 2 13 hS ?_
   refine tk 3 14 hS ?_
   refine wpAnyV_one (i := 4) (by kernel_rfl) rfl (fun K hK => ?_)
   go_simp
   refine (k3 _).mono ?_
   rintro e w3 ⟨rfl, hk3⟩
   have HK23 : Hid (Same w2 w3) := (Kept.refl _ _).drew.trans hk3
   have HK3 := hid (HK2.out.trans HK23.out)
   have hS : Y1 w3 := ⟨HK23.out.cellOf d0 id, HK23.out.cellOf d2 id⟩
   go_wp2_with fail
   refine hK.out _ _ (fun _ => hS) ?_
   clear hK K hk3
   try simp only [Act.put, sA, s0, sS]
   refine wpAnyV_one (i := 5) (by kernel_rfl) rfl (fun K hK => ?_)
   go_simp
   refine (k4 _).mono ?_
   rintro e w4 ⟨rfl, hk4⟩
   have HK4 := hid (HK3.out.trans hk4)
   have hS : Y1 w4 := ⟨hk4.cellOf hS.1 id, hk4.cellOf hS.2 id⟩
   go_wp2_with fail
   refine hK.out _ _ (fun _ => hS) ?_
   clear hK K hk4
   try simp only [Act.put, sA, s0, sS]
   refine tk 6 17 hS ?_
   refine wpAnyV_done (by kernel_rfl) ?_
   cases h3 : inB l ml 800 with
   | false =>
    go_wp2
    go_ret
    exact ⟨rfl, HK4.out⟩
   | true =>
    go_wp2
    go_ret
    exact ⟨rfl, HK4.out⟩
structure Row where
 e : TypeId
 m : Nat
 v : Value
 n : Nat
 xs : List Value
def FootL (rs : List Row) (b : Nat) : Prop := ∃ r ∈ rs, r.v.ownBlock = some b
structure OwnL (w : World) (rs : List Row) : Prop where
 own : ∀ r ∈ rs, w.ownsRow 0 r.e r.m r.v r.n r.xs
 apart : rs.Pairwise (fun r s => Apart r.v s.v)
theorem OwnL.kept {R : Nat → Prop} {w w' : World} {rs : List Row} (h : OwnL w rs) (hk : Kept R w w') (hr : ∀ b, FootL rs b → ¬ R b) : OwnL w' rs :=
 ⟨fun r hm => hk.owns (h.own r hm) (fun b hb => hr b ⟨r, hm, hb⟩), h.apart⟩
theorem OwnL.same {w w' : World} {rs : List Row} (h : OwnL w rs) (hk : Same w w') : OwnL w' rs := h.kept hk (fun _ _ => id)
theorem OwnL.lt {w : World} {rs : List Row} (h : OwnL w rs) (b : Nat) (hb : FootL rs b) : b < w.heap.size := by
 obtain ⟨r, hm, hr⟩ := hb
 exact (World.ownsRow.lt (h.own r hm) b hr).2
theorem OwnL.nil (w : World) : OwnL w [] := ⟨fun r hr => absurd hr (by simp), List.Pairwise.nil⟩
theorem OwnL.append {w : World} {rs ss : List Row} (h : OwnL w rs) (h' : OwnL w ss) (hd : ∀ b, FootL rs b → ¬ FootL ss b) : OwnL w (rs ++ ss) := by
 refine ⟨fun r hr => ?_, List.pairwise_append.2 ⟨h.apart, h'.apart, fun r hr s hs b hb hs' => hd b ⟨r, hr, hb⟩ ⟨s, hs, hs'⟩⟩⟩
 rcases List.mem_append.1 hr with hr | hr
 ·exact h.own r hr
 ·exact h'.own r hr
def ints (e : TypeId) (k : IntKind) (v : Value) (bs : List Int) : Row := ⟨e, 1, v, bs.length, vals k bs⟩
theorem OwnL.one {w : World} {e : TypeId} {k : IntKind} {v : Value} {bs : List Int} (h : Own 0 e k w v bs) : OwnL w [ints e k v bs] :=
 ⟨fun r hr => by rw [List.mem_singleton.1 hr]; exact h, List.pairwise_singleton _ _⟩
structure BS where
 e : TypeId
 a : Option Addr
 c : Nat
 bs : List Int
def BS.v (x : BS) : Value := .slice x.a x.bs.length x.c
def BS.rows (x : BS) : List Row := [ints x.e .u8 x.v x.bs]
def BS.marked (x : BS) (k : Int) : BS := ⟨x.e, x.a, x.c, marks k x.bs.length⟩
structure FR where
 e : TypeId
 a : Option Addr
 n : Nat
 c : Nat
 bs : List Int
def FR.v (x : FR) : Value := .slice x.a x.n x.c
def FR.rows (m : Nat) (x : FR) : List Row := [⟨x.e, m, x.v, x.n, vals .i64 x.bs⟩]
def marksI (k : Int) (n : Nat) : List Int := (List.range n).map fun (i : Nat) => k + (i : Int)
def FR.marked (x : FR) (k : Int) : FR := ⟨x.e, x.a, x.n, x.c, marksI k x.bs.length⟩
theorem Try.infoByte' : (Try.prog.info? 5).map (fun i => (i.zero, i.size, i.bytes)) = some (some (.int .u8 0), 1, 1) := by kernel_rfl
def fillUp (bs : List Int) (k : Nat) : List Int := bs.take k ++ List.replicate (bs.length - k) 0
theorem fillUp_length (bs : List Int) (k : Nat) (h : k ≤ bs.length) : (fillUp bs k).length = bs.length := by simp [fillUp]; omega
theorem fillUp_zero (bs : List Int) : fillUp bs 0 = List.replicate bs.length 0 := by simp [fillUp]
theorem fillUp_all (bs : List Int) : fillUp bs bs.length = bs := by simp [fillUp]
theorem fillUp_step (bs : List Int) (k : Nat) (h : k < bs.length) : (fillUp bs k).set k (bs.getD k 0) = fillUp bs (k + 1) := by
 unfold fillUp
 have e : bs.length - k = (bs.length - (k + 1)) + 1 := by omega
 have e2 : bs.getD k 0 = bs[k] := by simp [h, List.getD]
 rw [e2, List.set_append_right (h := by simp; omega), List.length_take, Nat.min_eq_left (Nat.le_of_lt h), Nat.sub_self, e, List.replicate_succ, List.set_cons_zero, List.take_succ_eq_append_getElem h, List.append_assoc]
 rfl
theorem toByteS_any (v : Value) (bs : List Int) (w : World) (hn : bs.length ≤ 1099511627776) (hv : Rd .u8 w v bs) :
  Calls Try.prog 13 #[v] w fun e w' => ∃ g, e = .returned (.slice (some ⟨g, 0, none⟩) bs.length bs.length) ∧ w.heap.size ≤ g ∧ Own 0 5 .u8 w' (.slice (some ⟨g, 0, none⟩) bs.length bs.length) bs ∧ Same w w' := by
 obtain ⟨i0, hi, hz0, hz1, hz2⟩ := info_parts Try.infoByte'
 rcases hv.2 with ⟨rfl, a, c, rfl, _⟩ | ⟨b, off, c, rfl, _, hc⟩
 ·clear hv hn
  go_enter Try.func13, Try.ntmps13
  go_wp2_with (at_make; refine wpList_make_full _ rfl (.tmp 6) (.tmp 6) 30 rfl 0 5 i0 (.int .u8 0) 1 Try.underlying30 hi hz0 hz1 .i64 .i64 _ _ 0 rfl rfl (by simp) (by simp) (by simp) (by simp) (Nat.zero_le _) ?_; intro w1 hown1 hgrow1; have HO : Hid (Own 0 5 .u8 w1 (.slice (some ⟨w.heap.size, 0, none⟩) 0 0) []) := own_made (n := 0) (by simpa using hown1); have HK : Hid (Same w w1) := Kept.of_grown hgrow1 (fun k e => by cases e); clear hown1 hgrow1)
  refine wp_loop_rounds 1 ?_
  rw [rounds_succ]
  go_wp2
  go_ret
  exact ⟨w.heap.size, rfl, Nat.le_refl _, HO.out, HK.out⟩
 ·have HC : Hid (∀ i, i < bs.length → w.cell? ⟨b, off + i, none⟩ = some (.int .u8 (bs.getD i 0))) := hc
  clear hc hv
  generalize hl : bs.length = len at hn ⊢
  have HL : Hid (bs.length = len) := hl
  clear hl
  go_enter Try.func13, Try.ntmps13
  go_wp2_with (at_make; refine wpList_make_full _ rfl (.tmp 6) (.tmp 6) 30 rfl 0 5 i0 (.int .u8 0) 1 Try.underlying30 hi hz0 hz1 .i64 .i64 _ _ len rfl rfl (by simp) (by simp) (by rw [hz2]; omega) (by unfold maxLen; omega) (Nat.zero_le _) ?_; intro w1 hown1 hgrow1; have HO : Hid (Own 0 5 .u8 w1 (.slice (some ⟨w.heap.size, 0, none⟩) len len) (List.replicate len 0)) := own_made (by simpa using hown1); have HK : Hid (Same w w1) := Kept.of_grown hgrow1 (fun k e => by cases e); clear hown1 hgrow1)
  go_loopw [4] (fun i wr => ∃ (k : Nat), k ≤ len ∧ i = .int .i64 k ∧ Hid (Own 0 5 .u8 wr (.slice (some ⟨w.heap.size, 0, none⟩) len len) (fillUp bs k)) ∧ Hid (Same w wr)) (fun i _ => len - (intOf i).toNat)
  case atStart => exact ⟨0, Nat.zero_le _, rfl, by rw [fillUp_zero, HL.out]; exact HO, HK⟩
  case round =>
   obtain ⟨k, hk, rfl, HOr, HKr⟩ := hrel
   by_cases hlt : k < len
   ·have hlp : k < bs.length := by rw [HL.out]; exact hlt
    have q1 := HKr.out.cellOf (HC.out k hlp) id
    have q2 := HOr.out.frozen (by rw [fillUp_length _ _ (by have := HL.out; omega)]; exact HL.out.symm) k
    have q3 := HOr.out.cell (by rw [fillUp_length _ _ (by have := HL.out; omega)]; exact HL.out.symm) k hlt
    go_wp2
    go_roundw
    case rel =>
     have h := HOr.out.stored (by rw [fillUp_length _ _ (by have := HL.out; omega)]; exact HL.out.symm) k (bs.getD k 0)
     rw [fillUp_step _ _ hlp] at h
     refine ⟨k + 1, by omega, by go_num, ?_, ?_⟩
     ·simpa [hlp, List.getD, Hid] using h
     ·exact HKr.out.setCell (.inl (Nat.le_refl _)) _
    case measure => simp [intOf]; omega
   ·go_wp2
    go_ret
    obtain rfl : k = len := by omega
    have h := HOr.out
    have h2 := HL.out
    rw [← h2, fillUp_all, h2] at h
    exact ⟨w.heap.size, rfl, Nat.le_refl _, h, HKr.out⟩
def RdF (m : Nat) (w : World) (x : FR) : Prop :=
 x.n ≤ maxLen ∧ x.bs.length = x.n * m ∧ (x.n = 0 ∨ ∃ b off, x.a = some ⟨b, off, none⟩ ∧ x.n ≤ x.c ∧ ∀ i, i < x.n * m → w.cell? ⟨b, off + i, none⟩ = some (.int .i64 (x.bs.getD i 0)))
theorem RdF.kept {R : Nat → Prop} {m : Nat} {w w' : World} {x : FR} (h : RdF m w x) (hk : Kept R w w') (hr : ∀ b, x.v.ownBlock = some b → ¬ R b) : RdF m w' x := by
 refine ⟨h.1, h.2.1, ?_⟩
 rcases h.2.2 with h | ⟨b, off, he, hle, hc⟩
 ·exact .inl h
 ·exact .inr ⟨b, off, he, hle, fun i hi => hk.cellOf (hc i hi) (hr b (by simp [FR.v, he, Value.ownBlock]))⟩
theorem RdF.same {m : Nat} {w w' : World} {x : FR} (h : RdF m w x) (hk : Same w w') : RdF m w' x := h.kept hk (fun _ _ => id)
def OwnF (m : Nat) (e : TypeId) (w : World) (g n c : Nat) (bs : List Int) : Prop := w.ownsRow 0 e m (.slice (some ⟨g, 0, none⟩) n c) n (vals .i64 bs)
theorem OwnF.cell {m : Nat} {e : TypeId} {w : World} {g n c : Nat} {bs : List Int} (h : OwnF m e w g n c bs) (j : Nat) (hj : j < n * m) : w.cell? ⟨g, j, none⟩ = some (.int .i64 (bs.getD j 0)) := by
 have h1 := h.1
 rw [vals_length] at h1
 rw [World.ownsRow.cellAt h j hj, vals_at .i64 bs j (by omega)]
theorem OwnF.frozen {m : Nat} {e : TypeId} {w : World} {g n c : Nat} {bs : List Int} (h : OwnF m e w g n c bs) (j : Nat) : w.frozen? ⟨g, j, none⟩ = false := World.ownsRow.frozenAt h j
theorem OwnF.stored {m : Nat} {e : TypeId} {w : World} {g n c : Nat} {bs : List Int} (h : OwnF m e w g n c bs) (j : Nat) (x : Int) : OwnF m e (w.setCell ⟨g, j, none⟩ (.int .i64 x)) g n c (bs.set j x) := by
 have := (World.ownsRow.stored h j (.int .i64 x)).1
 unfold OwnF
 have e : vals .i64 (bs.set j x) = (vals .i64 bs).set j (.int .i64 x) := by simp [vals]
 rw [e]
 exact this
theorem OwnF.same {m : Nat} {e : TypeId} {w w' : World} {g n c : Nat} {bs : List Int} (h : OwnF m e w g n c bs) (hk : Same w w') : OwnF m e w' g n c bs := hk.owns h (fun _ _ => id)
theorem OwnF.out {m : Nat} {e : TypeId} {w : World} {g n c : Nat} {bs : List Int} (h : OwnF m e w g n c bs) : OwnL w (FR.rows m ⟨e, some ⟨g, 0, none⟩, n, c, bs⟩) :=
 ⟨fun r hr => by rw [List.mem_singleton.1 hr]; exact h, List.pairwise_singleton _ _⟩
theorem RdF.some {m : Nat} {w : World} {x : FR} (h : RdF m w x) (h0 : 0 < x.n) : ∃ b off, x.a = some ⟨b, off, none⟩ ∧ x.n ≤ x.c := by
 rcases h.2.2 with h1 | ⟨b, off, he, hle, _⟩
 ·omega
 ·exact ⟨b, off, he, hle⟩
theorem Rd.at {w : World} {a : Option Addr} {n c : Nat} {zs : List Int} (h : Rd .i64 w (.slice a n c) zs) {k : Nat} (hk : k < zs.length) : ∃ b off, a = some ⟨b, off, none⟩ ∧ w.cell? ⟨b, off + k, none⟩ = some (.int .i64 (zs.getD k 0)) := by
 rcases h.2 with ⟨hnil, _⟩ | ⟨b, off, c', h, _, hc⟩
 ·rw [hnil] at hk; simp at hk
 ·cases h; exact ⟨b, off, rfl, hc k hk⟩
theorem pageCount_any (x : Int) (w : World) : Calls Try.prog 30 #[.int .i64 x] w fun e w' => e = .returned (.bool (inB x 1 16)) ∧ w' = w := by
 unfold inB
 by_cases h : 1 ≤ x
 ·by_cases h2 : x ≤ 16
  ·go_enter Try.func30, Try.ntmps30
   go_wp2
   go_ret
   exact ⟨by simp [h, h2], rfl⟩
  ·go_enter Try.func30, Try.ntmps30
   go_wp2
   go_ret
   exact ⟨by simp [h]; try omega, rfl⟩
 ·go_enter Try.func30, Try.ntmps30
  go_wp2
  go_ret
  exact ⟨by rw [show decide (1 ≤ x) = false from by simp; omega]; rfl, rfl⟩
theorem implMinLog_any (p : Int) (w : World) : Calls Try.prog 31 #[.int .i64 p] w fun e w' => e = .returned (.int .i64 (minLog p)) ∧ Same w w' := by
 have k1 := fun wx => pageCount_any p wx
 unfold minLog
 cases h : inB p 1 16 with
 | false =>
  rw [h] at k1
  go_enter Try.func31, Try.ntmps31
  go_wp2_with fail
  refine (k1 _).mono ?_
  rintro e w1 ⟨rfl, rfl⟩
  go_wp2
  go_ret
  exact ⟨rfl, Kept.refl _ _⟩
 | true =>
  rw [h] at k1
  obtain ⟨h1, h2⟩ := inB_yes h
  have hw1 : IntKind.i64.wrap (9 * p) = 9 * p := by rw [IntKind.wrap_i64]; omega
  have hw2 : IntKind.i64.wrap (9 * p + 24) = 9 * p + 24 := by rw [IntKind.wrap_i64]; omega
  go_enter Try.func31, Try.ntmps31
  go_wp2_with fail
  refine (k1 _).mono ?_
  rintro e w1 ⟨rfl, rfl⟩
  go_wp2
  go_ret
  exact ⟨by first | rfl | trivial, Kept.refl _ _⟩
theorem implGeo_any (p f l : Int) (w : World) : Calls Try.prog 23 #[.agg #[.int .i64 p, .int .i64 f, .int .i64 l]] w fun e w' => e = .returned (.int .i64 (geoF p f l)) ∧ Same w w' := by
 have HK0 := hid (sameA w [.int .i64 p, .int .i64 f, .int .i64 l] 25)
 have b0 := Blk.newL w [.int .i64 p, .int .i64 f, .int .i64 l] 25
 have k1 := fun wx => pageCount_any p wx
 have k3 := fun wx => implMinLog_any p wx
 obtain ⟨R, hR⟩ : ∃ R, geoF p f l = R := ⟨_, rfl⟩
 rw [hR]
 unfold geoF at hR
 generalize minLog p = ml at k3 hR
 cases h1 : inB p 1 16 with
 | false =>
  rw [h1] at k1 hR
  rw [if_pos rfl] at hR
  subst hR
  go_enter Try.func23, Try.ntmps23
  go_wp2_with fail
  refine (k1 _).mono ?_
  rintro e w1 ⟨rfl, rfl⟩
  go_wp2
  go_ret
  exact ⟨rfl, HK0.out⟩
 | true =>
  rw [h1] at k1 hR
  rw [if_neg (by simp)] at hR
  obtain ⟨c0, c1, c2⟩ := b0.all3
  by_cases h2 : f < 3
  ·rw [if_pos (by simp [inB]; omega)] at hR
   subst hR
   go_enter Try.func23, Try.ntmps23
   go_wp2_with fail
   refine (k1 _).mono ?_
   rintro e w1 ⟨rfl, rfl⟩
   go_wp2
   go_ret
   exact ⟨rfl, HK0.out⟩
  by_cases h3 : 16 < f
  ·rw [if_pos (by simp [inB]; omega)] at hR
   subst hR
   go_enter Try.func23, Try.ntmps23
   go_wp2_with fail
   refine (k1 _).mono ?_
   rintro e w1 ⟨rfl, rfl⟩
   go_wp2
   go_ret
   exact ⟨rfl, HK0.out⟩
  rw [if_neg (by simp [inB]; omega)] at hR
  go_enter Try.func23, Try.ntmps23
  go_wp2_with fail
  refine (k1 _).mono ?_
  rintro e w1 ⟨rfl, rfl⟩
  generalize w.alloc (.cells #[.int .i64 p, .int .i64 f, .int .i64 l] 25) = wa at c0 c1 c2 HK0 ⊢
  clear b0
  go_wp2_with fail
  let Y1 : World → Prop := fun wx : World => wx.cell? ⟨w.heap.size, 0, none⟩ = some (.int .i64 p) ∧ wx.cell? ⟨w.heap.size, 2, none⟩ = some (.int .i64 l)
  have hS : Y1 wa.drew := ⟨c0, c2⟩
  refine wp_region_V Y1 99 12 rfl (by kernel_rfl) ?_
  refine tk 0 18 hS ?_
  refine tk 1 19 hS ?_
  refine tk 2 20 hS ?_
  refine tk 3 21 hS ?_
  refine wpAnyV_one (i := 4) (by kernel_rfl) rfl (fun K hK => ?_)
  go_simp
  refine (k3 _).mono ?_
  rintro e w3 ⟨rfl, hk3⟩
  have HK23 : Hid (Same wa w3) := (Kept.refl _ _).drew.trans hk3
  have HK3 := hid (HK0.out.trans HK23.out)
  have hS : Y1 w3 := ⟨HK23.out.cellOf c0 id, HK23.out.cellOf c2 id⟩
  refine hK.out _ _ (fun _ => hS) ?_
  clear hK K hk3
  try simp only [Act.put, sA, s0, sS]
  by_cases h4 : l < ml
  ·rw [if_pos (by simp [inB]; omega)] at hR
   subst hR
   refine tkV 5 23 (.bool true) hS ?_
   refine tk 6 24 hS ?_
   refine tkS 7 25 hS ?_
   refine tkS 8 26 hS ?_
   refine tkS 9 27 hS ?_
   refine tk 10 28 hS ?_
   refine tk 11 17 hS ?_
   refine wpAnyV_done (by kernel_rfl) ?_
   go_wp2
   go_ret
   exact ⟨rfl, HK3.out⟩
  ·by_cases h5 : 800 < l
   ·rw [if_pos (by simp [inB]; omega)] at hR
    subst hR
    refine tkV 5 23 (.bool false) hS ?_
    refine tk 6 24 hS ?_
    refine tk 7 25 hS ?_
    refine tk 8 26 hS ?_
    refine tkV 9 27 (.bool true) hS ?_
    refine tk 10 28 hS ?_
    refine tk 11 17 hS ?_
    refine wpAnyV_done (by kernel_rfl) ?_
    go_wp2
    go_ret
    exact ⟨rfl, HK3.out⟩
   ·rw [if_neg (by simp [inB]; omega)] at hR
    subst hR
    refine tkV 5 23 (.bool false) hS ?_
    refine tk 6 24 hS ?_
    refine tk 7 25 hS ?_
    refine tk 8 26 hS ?_
    refine tkV 9 27 (.bool false) hS ?_
    refine tk 10 28 hS ?_
    refine tk 11 17 hS ?_
    refine wpAnyV_done (by kernel_rfl) ?_
    go_wp2
    go_ret
    exact ⟨rfl, HK3.out⟩
theorem toGeo_any (p f l : Int) (w : World) : Calls Try.prog 8 #[.agg #[.int .i64 p, .int .i64 f, .int .i64 l]] w fun e w' => e = .returned (.agg #[.int .i64 p, .int .i64 f, .int .i64 l]) ∧ Same w w' := by
 go_enter Try.func8, Try.ntmps8
 go_wp2
 refine bodyPost_ret (v := .agg #[.int .i64 p, .int .i64 f, .int .i64 l]) (by simp [results, Try.results8, go_sem]) rfl ⟨rfl, ?_⟩
 repeat (first | exact Kept.refl _ _ | refine Kept.alloc ?_ _ | refine Kept.setCell ?_ (.inl (by simp)) _)
def dskN (p f l : Int) : Int := if geoF p f l = 0 then 2 + l + p * 8 else -1
def pgSec (p f l g : Int) : Int := if geoF p f l = 0 then (if inB g 0 (p - 1) = true then 2 + l + g * 8 else -1) else -1
theorem geo_good {p f l : Int} (hq : geoF p f l = 0) : 1 ≤ p ∧ p ≤ 16 ∧ 9 * p + 24 ≤ l ∧ l ≤ 800 := by
 unfold geoF at hq
 cases h1 : inB p 1 16 with
 | false => rw [h1, if_pos rfl] at hq; cases hq
 | true =>
  rw [h1, if_neg (by simp)] at hq
  cases h2 : inB f 3 16 with
  | false => rw [h2, if_pos rfl] at hq; cases hq
  | true =>
   rw [h2, if_neg (by simp)] at hq
   cases h3 : inB l (minLog p) 800 with
   | false => rw [h3, if_pos rfl] at hq; cases hq
   | true =>
    obtain ⟨a, b⟩ := inB_yes h1
    obtain ⟨c, d⟩ := inB_yes h3
    have hml : minLog p = 9 * p + 24 := if_pos h1
    rw [hml] at c
    exact ⟨a, b, c, d⟩
theorem pgSec_yes {p f l g : Int} (hq : geoF p f l = 0) (h1 : 0 ≤ g) (h2 : g < p) : pgSec p f l g = 2 + l + g * 8 := by
 unfold pgSec
 rw [if_pos hq, if_pos (by simp [inB]; omega)]
theorem pgSec_cases (p f l g : Int) : (pgSec p f l g = -1) ∨ (geoF p f l = 0 ∧ 0 ≤ g ∧ g < p ∧ pgSec p f l g = 2 + l + g * 8) := by
 by_cases hq : geoF p f l = 0
 ·by_cases h : 0 ≤ g ∧ g < p
  ·exact .inr ⟨hq, h.1, h.2, pgSec_yes hq h.1 h.2⟩
  ·refine .inl ?_
   unfold pgSec
   rw [if_pos hq, if_neg (by simp [inB]; omega)]
 ·exact .inl (if_neg hq)
theorem firstSec_any (p f l : Int) (hl : 0 ≤ l ∧ l ≤ 800) (w : World) : Calls Try.prog 24 #[.agg #[.int .i64 p, .int .i64 f, .int .i64 l]] w fun e w' => e = .returned (.int .i64 (2 + l)) ∧ Same w w' := by
 have HK0 := hid (sameA w [.int .i64 p, .int .i64 f, .int .i64 l] 25)
 have b0 := Blk.newL w [.int .i64 p, .int .i64 f, .int .i64 l] 25
 obtain ⟨c0, c1, c2⟩ := b0.all3
 obtain ⟨h1, h2⟩ := hl
 have q1 : IntKind.i64.wrap (2 + l) = 2 + l := by rw [IntKind.wrap_i64]; omega
 go_enter Try.func24, Try.ntmps24
 go_wp2
 go_ret
 exact ⟨rfl, HK0.out⟩
theorem specDskN_any (p f l : Int) (w : World) : Calls Try.prog 7 #[.agg #[.int .i64 p, .int .i64 f, .int .i64 l]] w fun e w' => e = .returned (.int .i64 (dskN p f l)) ∧ Same w w' := by
 have HK0 := hid (sameA w [.int .i64 p, .int .i64 f, .int .i64 l] 25)
 have b0 := Blk.newL w [.int .i64 p, .int .i64 f, .int .i64 l] 25
 have k0 := fun wx => specGeo_any p f l wx
 obtain ⟨R, hR⟩ : ∃ R, dskN p f l = R := ⟨_, rfl⟩
 rw [hR]
 unfold dskN at hR
 obtain ⟨q, hq⟩ : ∃ q, geoF p f l = q := ⟨_, rfl⟩
 rw [hq] at k0 hR
 by_cases h0 : q = 0
 case neg =>
  rw [if_neg h0] at hR
  subst hR
  clear hq
  go_enter Try.func7, Try.ntmps7
  go_wp2_with fail
  refine (k0 _).mono ?_
  rintro e w1 ⟨rfl, hk1⟩
  go_wp2
  go_ret
  exact ⟨rfl, HK0.out.trans hk1⟩
 subst h0
 rw [if_pos rfl] at hR
 obtain ⟨h1, h2, h3, h4⟩ := geo_good hq
 clear hq
 have q1 : IntKind.i64.wrap (2 + l) = 2 + l := by rw [IntKind.wrap_i64]; omega
 have q2 : IntKind.i64.wrap (p * 8) = p * 8 := by rw [IntKind.wrap_i64]; omega
 have q3 : IntKind.i64.wrap (2 + l + p * 8) = 2 + l + p * 8 := by rw [IntKind.wrap_i64]; omega
 subst hR
 go_enter Try.func7, Try.ntmps7
 go_wp2_with fail
 refine (k0 _).mono ?_
 rintro e w1 ⟨rfl, hk1⟩
 have HK1 := hid (HK0.out.trans hk1)
 obtain ⟨d0, d1, d2⟩ := (b0.same hk1).all3
 clear hk1
 go_wp2
 go_ret
 exact ⟨rfl, HK1.out⟩
theorem implDskN_any (p f l : Int) (w : World) : Calls Try.prog 9 #[.agg #[.int .i64 p, .int .i64 f, .int .i64 l]] w fun e w' => e = .returned (.int .i64 (dskN p f l)) ∧ Same w w' := by
 have HK0 := hid (sameA w [.int .i64 p, .int .i64 f, .int .i64 l] 25)
 have b0 := Blk.newL w [.int .i64 p, .int .i64 f, .int .i64 l] 25
 have k0 := fun wx => implGeo_any p f l wx
 obtain ⟨R, hR⟩ : ∃ R, dskN p f l = R := ⟨_, rfl⟩
 rw [hR]
 unfold dskN at hR
 obtain ⟨q, hq⟩ : ∃ q, geoF p f l = q := ⟨_, rfl⟩
 rw [hq] at k0 hR
 by_cases h0 : q = 0
 case neg =>
  rw [if_neg h0] at hR
  subst hR
  clear hq
  go_enter Try.func9, Try.ntmps9
  go_wp2_with fail
  refine (k0 _).mono ?_
  rintro e w1 ⟨rfl, hk1⟩
  go_wp2
  go_ret
  exact ⟨rfl, HK0.out.trans hk1⟩
 subst h0
 rw [if_pos rfl] at hR
 obtain ⟨h1, h2, h3, h4⟩ := geo_good hq
 clear hq
 have q2 : IntKind.i64.wrap (p * 8) = p * 8 := by rw [IntKind.wrap_i64]; omega
 have q3 : IntKind.i64.wrap (2 + l + p * 8) = 2 + l + p * 8 := by rw [IntKind.wrap_i64]; omega
 have k1 := fun wx => firstSec_any p f l ⟨by omega, h4⟩ wx
 subst hR
 go_enter Try.func9, Try.ntmps9
 go_wp2_with fail
 refine (k0 _).mono ?_
 rintro e w1 ⟨rfl, hk1⟩
 have HK1 := hid (HK0.out.trans hk1)
 obtain ⟨d0, d1, d2⟩ := (b0.same hk1).all3
 clear hk1
 go_wp2_with fail
 let Y1 : World → Prop := fun wx : World => wx.cell? ⟨w.heap.size, 0, none⟩ = some (.int .i64 p) ∧ wx.cell? ⟨w.heap.size, 1, none⟩ = some (.int .i64 f) ∧ wx.cell? ⟨w.heap.size, 2, none⟩ = some (.int .i64 l)
 have hS : Y1 w1.drew := ⟨d0, d1, d2⟩
 refine wp_region_V Y1 99 7 rfl (by kernel_rfl) ?_
 refine tk 0 6 hS ?_
 refine tk 2 8 hS ?_
 refine tk 3 9 hS ?_
 refine tk 4 10 hS ?_
 refine wpAnyV_one (i := 1) (by kernel_rfl) rfl (fun K hK => ?_)
 go_simp
 refine (k1 _).mono ?_
 rintro e w2 ⟨rfl, hk2⟩
 have HK2 := hid (HK1.out.trans ((Kept.refl _ _).drew.trans hk2))
 have hS : Y1 w2 := ⟨hk2.cellOf d0 id, hk2.cellOf d1 id, hk2.cellOf d2 id⟩
 refine hK.out _ _ (fun _ => hS) ?_
 clear hK K hk2
 try simp only [Act.put, sA, s0, sS]
 refine tk 5 11 hS ?_
 refine tk 6 2 hS ?_
 refine wpAnyV_done (by kernel_rfl) ?_
 go_wp2
 go_ret
 exact ⟨rfl, HK2.out⟩
theorem specPgSec_any (p f l g : Int) (w : World) : Calls Try.prog 10 #[.agg #[.int .i64 p, .int .i64 f, .int .i64 l], .int .i64 g] w fun e w' => e = .returned (.int .i64 (pgSec p f l g)) ∧ Same w w' := by
 have HK0 := hid (sameA w [.int .i64 p, .int .i64 f, .int .i64 l] 25)
 have b0 := Blk.newL w [.int .i64 p, .int .i64 f, .int .i64 l] 25
 have k0 := fun wx => specGeo_any p f l wx
 obtain ⟨R, hR⟩ : ∃ R, pgSec p f l g = R := ⟨_, rfl⟩
 rw [hR]
 unfold pgSec at hR
 obtain ⟨q, hq⟩ : ∃ q, geoF p f l = q := ⟨_, rfl⟩
 rw [hq] at k0 hR
 by_cases h0 : q = 0
 case neg =>
  rw [if_neg h0] at hR
  subst hR
  clear hq
  go_enter Try.func10, Try.ntmps10
  go_wp2_with fail
  refine (k0 _).mono ?_
  rintro e w1 ⟨rfl, hk1⟩
  go_wp2
  go_ret
  exact ⟨rfl, HK0.out.trans hk1⟩
 subst h0
 rw [if_pos rfl] at hR
 obtain ⟨h1, h2, h3, h4⟩ := geo_good hq
 clear hq
 have q0 : IntKind.i64.wrap (p - 1) = p - 1 := by rw [IntKind.wrap_i64]; omega
 have k1 := fun wx => l4In_any g 0 (p - 1) wx
 cases hb : inB g 0 (p - 1) with
 | false =>
  rw [hb] at k1 hR
  rw [if_neg (by simp)] at hR
  subst hR
  go_enter Try.func10, Try.ntmps10
  go_wp2_with fail
  refine (k0 _).mono ?_
  rintro e w1 ⟨rfl, hk1⟩
  have HK1 := hid (HK0.out.trans hk1)
  obtain ⟨d0, d1, d2⟩ := (b0.same hk1).all3
  clear hk1
  go_wp2_with fail
  refine (k1 _).mono ?_
  rintro e w2 ⟨rfl, hk2⟩
  have HK2 := hid (HK1.out.trans hk2)
  clear hk2
  go_wp2
  go_ret
  exact ⟨rfl, HK2.out⟩
 | true =>
  rw [hb] at k1 hR
  rw [if_pos rfl] at hR
  obtain ⟨g1, g2⟩ := inB_yes hb
  clear hb
  have q1 : IntKind.i64.wrap (2 + l) = 2 + l := by rw [IntKind.wrap_i64]; omega
  have q2 : IntKind.i64.wrap (g * 8) = g * 8 := by rw [IntKind.wrap_i64]; omega
  have q3 : IntKind.i64.wrap (2 + l + g * 8) = 2 + l + g * 8 := by rw [IntKind.wrap_i64]; omega
  subst hR
  go_enter Try.func10, Try.ntmps10
  go_wp2_with fail
  refine (k0 _).mono ?_
  rintro e w1 ⟨rfl, hk1⟩
  have HK1 := hid (HK0.out.trans hk1)
  have b1 := b0.same hk1
  obtain ⟨d0, d1, d2⟩ := b1.all3
  clear hk1
  go_wp2_with fail
  refine (k1 _).mono ?_
  rintro e w2 ⟨rfl, hk2⟩
  have HK2 := hid (HK1.out.trans hk2)
  obtain ⟨e0, e1, e2⟩ := (b1.same hk2).all3
  clear hk2
  go_wp2
  go_ret
  exact ⟨rfl, HK2.out⟩
theorem implPgSec_any (p f l g : Int) (w : World) : Calls Try.prog 11 #[.agg #[.int .i64 p, .int .i64 f, .int .i64 l], .int .i64 g] w fun e w' => e = .returned (.int .i64 (pgSec p f l g)) ∧ Same w w' := by
 have HK0 := hid (sameA w [.int .i64 p, .int .i64 f, .int .i64 l] 25)
 have b0 := Blk.newL w [.int .i64 p, .int .i64 f, .int .i64 l] 25
 have k0 := fun wx => implGeo_any p f l wx
 obtain ⟨R, hR⟩ : ∃ R, pgSec p f l g = R := ⟨_, rfl⟩
 rw [hR]
 unfold pgSec at hR
 obtain ⟨q, hq⟩ : ∃ q, geoF p f l = q := ⟨_, rfl⟩
 rw [hq] at k0 hR
 by_cases h0 : q = 0
 case neg =>
  rw [if_neg h0] at hR
  subst hR
  clear hq
  go_enter Try.func11, Try.ntmps11
  go_wp2_with fail
  refine (k0 _).mono ?_
  rintro e w1 ⟨rfl, hk1⟩
  go_wp2
  go_ret
  exact ⟨rfl, HK0.out.trans hk1⟩
 subst h0
 rw [if_pos rfl] at hR
 obtain ⟨h1, h2, h3, h4⟩ := geo_good hq
 clear hq
 by_cases g1 : g < 0
 ·rw [if_neg (by simp [inB]; omega)] at hR
  subst hR
  go_enter Try.func11, Try.ntmps11
  go_wp2_with fail
  refine (k0 _).mono ?_
  rintro e w1 ⟨rfl, hk1⟩
  have HK1 := hid (HK0.out.trans hk1)
  obtain ⟨d0, d1, d2⟩ := (b0.same hk1).all3
  clear hk1
  go_wp2
  go_ret
  exact ⟨rfl, HK1.out⟩
 by_cases g2 : p ≤ g
 ·rw [if_neg (by simp [inB]; omega)] at hR
  subst hR
  go_enter Try.func11, Try.ntmps11
  go_wp2_with fail
  refine (k0 _).mono ?_
  rintro e w1 ⟨rfl, hk1⟩
  have HK1 := hid (HK0.out.trans hk1)
  obtain ⟨d0, d1, d2⟩ := (b0.same hk1).all3
  clear hk1
  go_wp2
  go_ret
  exact ⟨rfl, HK1.out⟩
 rw [if_pos (by simp [inB]; omega)] at hR
 have q2 : IntKind.i64.wrap (g * 8) = g * 8 := by rw [IntKind.wrap_i64]; omega
 have q3 : IntKind.i64.wrap (2 + l + g * 8) = 2 + l + g * 8 := by rw [IntKind.wrap_i64]; omega
 have k1 := fun wx => firstSec_any p f l ⟨by omega, h4⟩ wx
 subst hR
 go_enter Try.func11, Try.ntmps11
 go_wp2_with fail
 refine (k0 _).mono ?_
 rintro e w1 ⟨rfl, hk1⟩
 have HK1 := hid (HK0.out.trans hk1)
 obtain ⟨d0, d1, d2⟩ := (b0.same hk1).all3
 clear hk1
 go_wp2_with fail
 refine (k1 _).mono ?_
 rintro e w2 ⟨rfl, hk2⟩
 have HK2 := hid (HK1.out.trans hk2)
 clear hk2
 go_wp2
 go_ret
 exact ⟨rfl, HK2.out⟩
end Go.Proofs.Ythmiicnchncecaa
