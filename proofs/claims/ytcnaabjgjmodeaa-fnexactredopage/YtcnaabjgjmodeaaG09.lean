import Derived.Test.YtcnaabjgjmodeaaG08
import Derived.Test.YtcnaabjgjmodeaaG06
import Derived.Test.YtcnaabjgjmodeaaG07
import Derived.Test.YtcnaabjgjmodeaaG02
import Derived.Test.YtcnaabjgjmodeaaG01
namespace Go.Proofs.Ytcnaabjgjmodeaa
set_option maxRecDepth 100000
set_option maxHeartbeats 8000000
open Go.RowKit
set_option linter.unusedVariables false
set_option linter.unusedSimpArgs false
def ChR (w w' : World) (P : Nat) (x : Int) (ys : List Int) (e : Ending) : Prop := e = .returned (.int .i64 x) ∧ Kept (fun b => b = P) w w' ∧ ((x = 0 ∧ PgAt w' P ys ∧ ownOK ys = true ∧ IsB ys) ∨ (¬ x = 0 ∧ ys = []))
theorem ChR.no {w w' : World} (P : Nat) (x : Int) (hx : ¬ x = 0) (h : Same w w') : ChR w w' P x [] (.returned (.int .i64 x)) := ⟨rfl, h.mono (fun _ _ e => e.elim), .inr ⟨hx, rfl⟩⟩
theorem change_any (P : Nat) (E : List Int) (s : Int) (u : Bool) (ta : Option Addr) (tc : Nat) (d : List Int) (lsn : Int) (w w0 : World) (hB : IsB E) (hok : ownOK E = true) (hp : PgAt w P E) (hdn : d.length ≤ 1099511627776) (hd0 : Rd .u8 w0 (.slice ta d.length tc) d) (hP0 : w0.heap.size ≤ P) (hd : Rd .u8 w (.slice ta d.length tc) d) (hdB : IsB d) :
    Calls Try.prog 45 #[.pointer (some ⟨P, 0, none⟩), .int .i64 s, .agg #[.bool u, .slice ta d.length tc], .int .i64 lsn] w fun e w' => ChR w w' P (pageSet E s u d lsn).1 (pageSet E s u d lsn).2 e := by
  obtain ⟨n, hn0⟩ : ∃ n, d.length = n := ⟨_, rfl⟩
  have HN := hid hn0
  rw [hn0] at hd hd0 hdn ⊢
  obtain ⟨r, hr, hsp0⟩ := hp
  have hPl := hsp0.blk.lt
  have k0 := (Kept.refl (fun _ => False) w).alloc (.cells #[.bool u, .slice ta n tc] 24)
  have br := Blk.new w #[.bool u, .slice ta n tc] 24
  have HB1 := (show Hid (∀ wx, Same (w.alloc (.cells #[.bool u, .slice ta n tc] 24)) wx → Same w wx ∧ (wx.cell? ⟨w.heap.size, 0, none⟩ = some (.bool u) ∧ wx.cell? ⟨w.heap.size, 1, none⟩ = some (.slice ta n tc))) from fun wx h => ⟨k0.trans h, ⟨(br.same h).cell 0, (br.same h).cell 1⟩⟩)
  have HC0 := HB1.out _ (Kept.refl _ _)
  have HSP0 := (show Hid (SP w P (E.take 4) (numAt E 4 8) (numAt E 12 4) (numAt E 16 2) (slotsOf E) r) from hsp0)
  have HD0 := hid hd
  have HDO := hid hd0
  have hl := ownOK_len hok
  have HR := hid hr
  have HRL := hid hsp0.l3
  obtain ⟨_, r0, r1⟩ := HC0
  clear k0 br hn0 hsp0 hr hd hd0
  have kS := fun wx => isSlot_any s wx
  have kL := fun wx => isLSN_any lsn wx
  have kF := fun wx => fits_slot_any u ta n tc wx hdn
  cases hs0 : (decide (0 ≤ s) && decide (s < 32)) with
  | false =>
    rw [hs0] at kS
    rw [show pageSet E s u d lsn = (1, []) from by unfold pageSet setBad; rw [if_pos (by simp at hs0; simp; omega)]]
    clear hB hl hok
    go_enter Try.func45, Try.ntmps45
    go_wp2_with (first
          | (go_at_call 52; refine (kS _).mono ?_; rintro e w2 ⟨rfl, hk2⟩; obtain ⟨hs2, ⟨r0, r1⟩⟩ := HB1.out w2 hk2))
    go_ret
    exact ChR.no P 1 (by omega) hs2
  | true =>
  rw [hs0] at kS
  cases hl0 : isLSN lsn with
  | false =>
    rw [hl0] at kL
    rw [show pageSet E s u d lsn = (1, []) from by unfold pageSet setBad; rw [if_pos (by simp [isLSN] at hl0; simp; omega)]]
    clear hB hl hok
    go_enter Try.func45, Try.ntmps45
    go_wp2_with (first
          | (go_at_call 52; refine (kS _).mono ?_; rintro e w2 ⟨rfl, hk2⟩; obtain ⟨hs2, ⟨r0, r1⟩⟩ := HB1.out w2 hk2)
          | (go_at_call 79; refine (kL _).mono ?_; rintro e w3 ⟨rfl, hk3x⟩; have hk3 := hk2.trans hk3x; obtain ⟨hs3, ⟨r0, r1⟩⟩ := HB1.out w3 hk3))
    go_ret
    exact ChR.no P 1 (by omega) hs3
  | true =>
  rw [hl0] at kL
  cases hf0 : (decide (n ≤ 1000) && (u || decide (n = 0))) with
  | false =>
    rw [hf0] at kF
    rw [show pageSet E s u d lsn = (1, []) from by unfold pageSet setBad; rw [HN.out, if_pos (by cases u <;> simp at hf0 <;> simp <;> omega)]]
    clear hB hl hok
    go_enter Try.func45, Try.ntmps45
    go_wp2_with (first
          | (go_at_call 52; refine (kS _).mono ?_; rintro e w2 ⟨rfl, hk2⟩; obtain ⟨hs2, ⟨r0, r1⟩⟩ := HB1.out w2 hk2)
          | (go_at_call 79; refine (kL _).mono ?_; rintro e w3 ⟨rfl, hk3x⟩; have hk3 := hk2.trans hk3x; obtain ⟨hs3, ⟨r0, r1⟩⟩ := HB1.out w3 hk3)
          | (go_at_call 80; refine (kF _).mono ?_; rintro e w4 ⟨rfl, hk4x⟩; have hk4 := hk3.trans hk4x; obtain ⟨hs4, ⟨r0, r1⟩⟩ := HB1.out w4 hk4))
    go_ret
    exact ChR.no P 1 (by omega) hs4
  | true =>
  rw [hf0] at kF
  obtain ⟨k, rfl⟩ : ∃ k : Nat, s = k := ⟨s.toNat, by simp at hs0; omega⟩
  have hk32 : k < 32 := by simp at hs0; omega
  have hn1 : n ≤ 1000 := by simp at hf0; omega
  have hsl := slOK_of hB hok
  have hsm := slotsOf_small E hB hl
  have hbad : setBad E k u d lsn = false := by unfold setBad; rw [hok, HN.out]; simp [isLSN] at hl0; cases u <;> simp at hf0 ⊢ <;> omega
  have HPS := (show Hid (pageSet E k u d lsn = if 3948 < usedN (slotsOf E) 32 - (slotsOf E).getD (2 * k + 1) 0 + (n : Int) then (2, []) else (0, setB E k u d lsn)) from by
    show pageSet E k u d lsn = _
    unfold pageSet
    rw [hbad, if_neg (by simp), Int.toNat_natCast]
    by_cases hf : setFull E k d
    · rw [if_pos hf, if_pos (by unfold setFull at hf; rw [HN.out] at hf; exact hf)]
    · rw [if_neg hf, if_neg (by unfold setFull at hf; rw [HN.out] at hf; exact hf)])
  have HS := (show Hid (∀ wx, SP wx P (E.take 4) (numAt E 4 8) (numAt E 12 4) (numAt E 16 2) (slotsOf E) r → wx.cell? ⟨P, 7 + k * 2 + 1, none⟩ = some (.int .i64 ((slotsOf E).getD (2 * k + 1) 0))) from fun wx h => by rw [Nat.mul_comm, Nat.add_assoc]; exact h.slAt (2 * k + 1) (by omega))
  have kT := fun wx (h : SP wx P (E.take 4) (numAt E 4 8) (numAt E 12 4) (numAt E 16 2) (slotsOf E) r) => total_any P _ _ _ _ _ _ wx h hsm
  have hu := hsl.room 32 (Nat.le_refl _)
  have hx := hsm.at (2 * k + 1)
  have HU0 := (show Hid (usedN (sl0 (slotsOf E) k) 32 = usedN (slotsOf E) 32 - (slotsOf E).getD (2 * k + 1) 0) from by show usedN (sl0 (slotsOf E) k) 32 = _; rw [usedN_zero, if_pos hk32])
  have hu0 := (hsl.zero k).room 32 (Nat.le_refl _)
  rw [HU0.out] at hu0
  obtain ⟨U, hU⟩ : ∃ U, usedN (slotsOf E) 32 = U := ⟨_, rfl⟩
  obtain ⟨X, hX⟩ : ∃ X, (slotsOf E).getD (2 * k + 1) 0 = X := ⟨_, rfl⟩
  rw [hU, hX] at HU0 hu0 HPS
  rw [hU] at hu kT
  rw [hX] at hx HS
  have q1 : IntKind.i64.wrap (U - X) = U - X := by rw [IntKind.wrap_i64]; omega
  have q2 : IntKind.i64.wrap (U - X + n) = U - X + n := by rw [IntKind.wrap_i64]; omega
  have hk32i : (k : Int) < 32 := by omega
  go_enter Try.func45, Try.ntmps45
  go_wp2_with (first
    | (go_at_call 52; refine (kS _).mono ?_; rintro e w2 ⟨rfl, hk2⟩; obtain ⟨hs2, ⟨r0, r1⟩⟩ := HB1.out w2 hk2)
    | (go_at_call 79; refine (kL _).mono ?_; rintro e w3 ⟨rfl, hk3x⟩; have hk3 := hk2.trans hk3x; obtain ⟨hs3, ⟨r0, r1⟩⟩ := HB1.out w3 hk3)
    | (go_at_call 80; refine (kF _).mono ?_; rintro e w4 ⟨rfl, hk4x⟩; have hk4 := hk3.trans hk4x; obtain ⟨hs4, ⟨r0, r1⟩⟩ := HB1.out w4 hk4))
  have HSP4 := hid (HSP0.out.same hs4)
  have HK4 := hid hk4
  have X4 := HS.out w4 HSP4.out
  have hS : (fun wx : World => wx.cell? ⟨P, 7 + k * 2 + 1, none⟩ = some (.int .i64 X) ∧ wx.cell? ⟨w.heap.size, 1, none⟩ = some (.slice ta n tc)) w4.drew := ⟨X4, r1⟩
  refine wp_region_V (fun wx : World => wx.cell? ⟨P, 7 + k * 2 + 1, none⟩ = some (.int .i64 X) ∧ wx.cell? ⟨w.heap.size, 1, none⟩ = some (.slice ta n tc)) 99 15 rfl (by kernel_rfl) ?_
  refine tk 0 22 hS ?_
  refine tk 2 24 hS ?_
  refine tk 3 25 hS ?_
  refine tk 4 26 hS ?_
  refine tk 5 27 hS ?_
  refine tkV 6 28 (.pointer (some ⟨P, 7 + k * 2, none⟩)) hS ?_
  refine tk 7 29 hS ?_
  refine tk 8 30 hS ?_
  refine tk 10 32 hS ?_
  refine tk 11 33 hS ?_
  refine tk 12 34 hS ?_
  refine wpAnyV_one (i := 1) (by kernel_rfl) rfl (fun K hK => ?_)
  go_simp
  refine (kT _ (HSP4.out.same (Kept.refl _ _).drew)).mono ?_
  rintro e w5 ⟨rfl, hk5x⟩
  have hk5 := HK4.out.trans ((Kept.refl _ _).drew.trans hk5x)
  have HSP5 := hid (HSP4.out.same ((Kept.refl _ _).drew.trans hk5x))
  have X5 := HS.out w5 HSP5.out
  clear r0 r1
  obtain ⟨hs5, ⟨r0, r1⟩⟩ := HB1.out w5 hk5
  have hS : (fun wx : World => wx.cell? ⟨P, 7 + k * 2 + 1, none⟩ = some (.int .i64 X) ∧ wx.cell? ⟨w.heap.size, 1, none⟩ = some (.slice ta n tc)) w5 := ⟨X5, r1⟩
  refine hK.out _ _ (fun _ => hS) ?_
  clear hK K
  try simp only [Act.put, sA, s0, sS]
  refine tkV 9 31 (.int .i64 (U - X)) hS ?_
  refine tkV 13 35 (.int .i64 (U - X + n)) hS ?_
  by_cases hfull : 3948 < U - X + (n : Int)
  · refine tkV 14 36 (.bool true) hS ?_
    refine wpAnyV_done (by kernel_rfl) ?_
    go_wp2
    go_ret
    rw [HPS.out, if_pos hfull]
    exact ChR.no P 2 (by omega) hs5
  · have HF := (show Hid (¬ 3948 < U - X + (n : Int)) from hfull)
    refine tkV 14 36 (.bool false) hS ?_
    refine wpAnyV_done (by kernel_rfl) ?_
    have hroom : 148 ≤ cBot (sl0 (slotsOf E) k) 32 - (d.length : Int) := by unfold cBot; rw [HU0.out, HN.out]; omega
    have hpt := ownOK_parts hok
    have HD5 := hid (HD0.out.same hs5)
    have kSet := setSP_any P (E.take 4) (numAt E 4 8) (numAt E 12 4) (numAt E 16 2) (slotsOf E) r k u ta tc d w5 HSP5.out hsl hk32 ⟨hpt.1, hpt.2.1⟩ (by rw [HN.out]; exact hn1) hroom (by rw [HN.out]; exact HD5.out) (fun w' hk => by rw [HN.out]; exact Rd.keptOld HDO.out HD5.out hP0 hk)
    rw [HN.out] at kSet
    have HOK := hid (setB_ok hB hok k hk32 u d hdB lsn hl0 (by rw [HN.out]; exact hn1) hroom)
    have HS5 := hid hs5
    clear hroom hpt kS kL kF kT hB hsl hsm hu hx hu0 hok hk5 hk5x hk4 hk4x hk3 hk3x hk2 hs2 hs3 hs4
    go_wp2_with fail
    refine kSet.mono ?_
    rintro e w6 ⟨rfl, hset, hk6⟩
    obtain ⟨b', sl', r', e1, e2, e3, e4, e5⟩ := HOK.out
    obtain ⟨r2, er2, hsp6⟩ := e5 _ _ _ _ HR.out HRL.out hset
    have HSP6 := hid hsp6
    have HK6 := (show Hid (Kept (fun b => b = P) w w6) from (HS5.out.mono (fun _ _ e => e.elim)).trans hk6)
    have l0 := HSP6.out.num3.1
    have lf := HSP6.out.blk.frozen 4
    have HE := hid (PgAt.of e2 er2 (HSP6.out.setLsn lsn))
    have HE1 := hid e1
    have HE2 := hid (And.intro e3 e4)
    clear hset hk6 kSet r0 r1 hsp6 e1 e2 e3 e4 e5 er2
    have HK7 := (show Hid (Kept (fun b => b = P) w (w6.setCell ⟨P, 4, none⟩ (.int .i64 lsn))) from HK6.out.setCell (p := ⟨P, 4, none⟩) (.inr rfl) _)
    go_wp2
    go_ret
    rw [HPS.out, if_neg (by have := HF.out; omega)]
    exact ⟨rfl, HK7.out, .inl ⟨rfl, by rw [HE1.out]; exact HE.out, HE2.out⟩⟩
theorem implSet_any (v : Value) (raw : List Int) (s : Int) (u : Bool) (ta : Option Addr) (tc : Nat) (d : List Int) (lsn : Int) (w : World) (hB : IsB raw) (hn : raw.length ≤ 1099511627776) (hv : Rd .u8 w v raw) (hdn : d.length ≤ 1099511627776) (hd : Rd .u8 w (.slice ta d.length tc) d) (hdB : IsB d) :
    Calls Try.prog 8 #[v, .int .i64 s, .agg #[.bool u, .slice ta d.length tc], .int .i64 lsn] w fun e w' => SetAns 65 w w' e (pageSet raw s u d lsn).1 (pageSet raw s u d lsn).2 := by
  obtain ⟨n, hn0⟩ : ∃ n, d.length = n := ⟨_, rfl⟩
  have HN := hid hn0
  have kC := fun P wx (h : PgAt wx P raw) (h0 : ownOK raw = true) (hP : w.heap.size ≤ P) (hs : Same w wx) => change_any P raw s u ta tc d lsn wx w hB h0 h hdn hd hP (hd.same hs) hdB
  rw [hn0] at hd hdn kC ⊢
  have k0 := (((Kept.refl (fun _ => False) w).alloc (.cells #[.bool u, .slice ta n tc] 24)).alloc (.cells #[.int .i64 0, .slice none 0 0] 28))
  have hr0 := hv.same k0
  have br := (Blk.new w #[.bool u, .slice ta n tc] 24).same ((Kept.refl (fun _ => False) _).alloc (.cells #[.int .i64 0, .slice none 0 0] 28))
  have ba := Blk.new (w.alloc (.cells #[.bool u, .slice ta n tc] 24)) #[.int .i64 0, .slice none 0 0] 28
  rw [show (w.alloc (.cells #[.bool u, .slice ta n tc] 24)).heap.size = w.heap.size + 1 from by simp] at ba
  have HB1 := (show Hid (∀ wx, Same ((w.alloc (.cells #[.bool u, .slice ta n tc] 24)).alloc (.cells #[.int .i64 0, .slice none 0 0] 28)) wx → Same w wx ∧ (wx.cell? ⟨w.heap.size, 0, none⟩ = some (.bool u) ∧ wx.cell? ⟨w.heap.size, 1, none⟩ = some (.slice ta n tc)) ∧ wx.cell? ⟨w.heap.size + 1, 0, none⟩ = some (.int .i64 0) ∧ wx.cell? ⟨w.heap.size + 1, 1, none⟩ = some (.slice none 0 0) ∧ wx.frozen? ⟨w.heap.size + 1, 0, none⟩ = false ∧ wx.frozen? ⟨w.heap.size + 1, 1, none⟩ = false) from fun wx h => ⟨k0.trans h, ⟨(br.same h).cell 0, (br.same h).cell 1⟩, (ba.same h).cell 0, (ba.same h).cell 1, (ba.same h).frozen 0, (ba.same h).frozen 1⟩)
  have HST := (show Hid (∀ wx x y, Same w wx → Same w ((wx.setCell ⟨w.heap.size + 1, 0, none⟩ x).setCell ⟨w.heap.size + 1, 1, none⟩ y)) from fun wx x y h => (h.setCell (p := ⟨w.heap.size + 1, 0, none⟩) (.inl (Nat.le_succ _)) x).setCell (p := ⟨w.heap.size + 1, 1, none⟩) (.inl (Nat.le_succ _)) y)
  clear k0 br ba hn0
  cases hok : ownOK raw with
  | false =>
    have h := wellFormed_no v raw _ hB hn hr0 hok
    rw [show pageSet raw s u d lsn = (1, []) from by unfold pageSet setBad; rw [hok]; rfl]
    clear hv hB hr0 hd kC
    go_enter Try.func8, Try.ntmps8
    go_wp2_with (first
          | (go_at_call 44; refine h.mono ?_; rintro e w1 ⟨rfl, hk1⟩; obtain ⟨hs1, ⟨r0, r1⟩, c0, c1, f0, f1⟩ := HB1.out w1 hk1))
    refine bodyPost_ret (v := .agg #[.int .i64 1, .slice none 0 0]) (by simp [results, Try.results8, go_sem, c0, c1]) rfl (SetAns.none 1 (HST.out _ _ _ hs1))
  | true =>
    have h := wellFormed_yes v raw _ hB hn hr0 hok
    have kC := fun P wx h hP hs => kC P wx h hok hP hs
    obtain ⟨X, hX⟩ : ∃ X, pageSet raw s u d lsn = X := ⟨_, rfl⟩
    rw [hX] at kC ⊢
    obtain ⟨x, ys⟩ := X
    dsimp only at kC ⊢
    clear hv hB hr0 hd hX
    go_enter Try.func8, Try.ntmps8
    go_wp2_with (go_at_call 44; refine h.mono ?_; rintro e w1 ⟨P, rfl, hP, hsp, hk1⟩; obtain ⟨hs1, ⟨r0, r1⟩, c0, c1, f0, f1⟩ := HB1.out w1 hk1)
    have hPz : w.heap.size + 2 ≤ P := by simpa using hP
    refine (kC P w1 ⟨raw, rfl, hsp⟩ (by omega) hs1).mono ?_
    rintro e w2 ⟨rfl, hk2, hx⟩
    have hk3 := hk1.next hk2 (fun i hi e => by simp at hi; omega)
    clear r0 r1 c0 c1 f0 f1
    obtain ⟨hs2, ⟨r0, r1⟩, c0, c1, f0, f1⟩ := HB1.out w2 hk3
    have HK3 := hid hk3
    have HS2 := hid hs2
    clear hk3 hk2 hs2 hk1 hs1 h kC hsp
    rcases hx with ⟨rfl, hpg, hok2, hB2⟩ | ⟨hx0, rfl⟩
    · obtain ⟨r2, hsp2, he2⟩ := hpg.enc hok2
      obtain ⟨n1, n2, n3⟩ := num3_own hB2 hok2
      have hpt := ownOK_parts hok2
      have hl2 := ownOK_len hok2
      have kE := encode_any P _ _ _ _ _ _ w2 hsp2 ⟨n1, n2, by omega, n3⟩
      rw [he2] at kE
      have kLs := fun wx => list_any ys wx hl2
      obtain ⟨cs, hcs⟩ : ∃ cs : Array Value, (vals .u8 ys).toArray = cs := ⟨_, rfl⟩
      rw [hcs] at kE kLs
      have HL := hid hl2
      clear hcs hpg hok2 hB2 n1 n2 n3 hpt hl2 hsp2 he2
      go_wp2_with fail
      refine kE.mono ?_
      rintro e w8 ⟨rfl, hk8⟩
      have HK8 := hid (HK3.out.trans hk8)
      clear hk8 kE
      go_wp2_with fail
      refine (kLs _).mono ?_
      rintro e w9 ⟨rfl, hb9, hk9⟩
      have hk9s := HK8.out.trans hk9
      have HO9 := (show Hid (Own 0 65 .u8 w9 (.slice (some ⟨w8.heap.size, 0, none⟩) 4096 4096) ys) from by have h := Blk.own hb9 (by rw [HL.out]; unfold maxLen; omega); rw [HL.out] at h; exact h)
      clear r0 r1 c0 c1 f0 f1
      obtain ⟨hs9, ⟨r0, r1⟩, c0, c1, f0, f1⟩ := HB1.out w9 hk9s
      have HS9 := hid hs9
      clear hk9 hb9 kLs hk9s r0 r1 hs9
      go_wp2
      have hz8 : w.heap.size + 2 ≤ w8.heap.size := by have := HK8.out.size; simpa using this
      have hko : Kept (fun b => b = w.heap.size + 1) w9 ((w9.setCell ⟨w.heap.size + 1, 0, none⟩ (.int .i64 0)).setCell ⟨w.heap.size + 1, 1, none⟩ (.slice (some ⟨w8.heap.size, 0, none⟩) 4096 4096)) := ((Kept.refl (fun b => b = w.heap.size + 1) w9).setCell (p := ⟨w.heap.size + 1, 0, none⟩) (.inr rfl) _).setCell (p := ⟨w.heap.size + 1, 1, none⟩) (.inr rfl) _
      refine bodyPost_ret (v := .agg #[.int .i64 0, .slice (some ⟨w8.heap.size, 0, none⟩) 4096 4096]) (by simp [results, Try.results8, go_sem, c0, c1]) rfl ?_
      refine ⟨some ⟨w8.heap.size, 0, none⟩, 4096, by simp only [HL.out], fun b hb => ?_, ?_, HST.out _ _ _ HS9.out⟩
      · have h : w8.heap.size = b := (by simpa [Value.ownBlock] using hb)
        omega
      · simp only [HL.out]
        exact HO9.out.kept hko (fun b hb e => by have h : w8.heap.size = b := (by simpa [Value.ownBlock] using hb); omega)
    · have hx1 : (x == 0) = false := by simpa using hx0
      go_wp2
      refine bodyPost_ret (v := .agg #[.int .i64 x, .slice none 0 0]) (by simp [results, Try.results8, go_sem, c0, c1]) rfl (SetAns.none x (HST.out _ _ _ HS2.out))
end Go.Proofs.Ytcnaabjgjmodeaa

namespace Go.Proofs.Ytcnaabjgjmodeaa
set_option maxRecDepth 100000
set_option maxHeartbeats 4000000
open Go.RowKit
set_option linter.unusedVariables false
set_option linter.unusedSimpArgs false
theorem numB_two {x : Int} (h0 : 0 ≤ x) (h1 : x ≤ 65535) : numB x 2 = lows x 2 := by
  unfold numB
  rw [if_neg]
  · rfl
  · rintro (h | h | h | h)
    · omega
    · omega
    · omega
    · apply h
      have e : (256 : Int) ^ (2 : Int).toNat = 65536 := by decide
      rw [e]
      omega
theorem put2_any (x : Int) (w : World) (h0 : 0 ≤ x) (h1 : x ≤ 65535) : Calls Try.prog 64 #[.int .i64 x, .int .i64 2] w fun e w' => ∃ a c, e = .returned (.slice a 2 c) ∧ Rd .u8 w' (.slice a 2 c) (lows x 2) ∧ Same w w' := by
  refine (specPut_any x 2 w ⟨by omega, by omega⟩ ⟨by omega, by omega⟩).mono ?_
  rintro e w' ⟨a, c, rfl, hf, ho, hk⟩
  rw [numB_two h0 h1, lows_length] at ho ⊢
  exact ⟨a, c, rfl, ho.rd, hk⟩
theorem l3Set_any (g cap : Nat) (xs : List Int) (s : Nat) (x y : Int) (w : World) (hl : xs.length = 4096) (hs : s < 32) (hx : 0 ≤ x ∧ x ≤ 65535) (hy : 0 ≤ y ∧ y ≤ 65535) (ho : Own 0 5 .u8 w (.slice (some ⟨g, 0, none⟩) 4096 cap) xs) :
    Calls Try.prog 65 #[.slice (some ⟨g, 0, none⟩) 4096 cap, .int .i64 (s : Int), .int .i64 x, .int .i64 y] w fun e w' => e = .returned (.tuple #[]) ∧ Own 0 5 .u8 w' (.slice (some ⟨g, 0, none⟩) 4096 cap) (layI (layI xs (20 + 4 * s) (lows x 2)) (20 + 4 * s + 2) (lows y 2)) ∧ Kept (fun b => b = g) w w' := by
  have HO := hid ho
  have HL := hid hl
  have k1 := fun wx => put2_any x wx hx.1 hx.2
  have k2 := fun wx => put2_any y wx hy.1 hy.2
  have hcap : 4096 ≤ cap := ho.caps.2
  obtain ⟨o1, ho1⟩ : ∃ o, 20 + 4 * s = o := ⟨_, rfl⟩
  obtain ⟨o2, ho2⟩ : ∃ o, 20 + 4 * s + 2 = o := ⟨_, rfl⟩
  rw [ho2, ho1]
  have q1 : IntKind.i64.wrap (4 * (s : Int)) = 4 * (s : Int) := by rw [IntKind.wrap_i64]; omega
  have q2 : IntKind.i64.wrap (20 + 4 * (s : Int)) = (o1 : Int) := by rw [IntKind.wrap_i64]; omega
  have q3 : IntKind.i64.wrap ((o1 : Int) + 2) = (o2 : Int) := by rw [IntKind.wrap_i64]; omega
  have b1 : o1 + 2 ≤ 4096 := by omega
  have b2 : o2 + 2 ≤ 4096 := by omega
  have g1 : (o1 : Int) ≤ 4096 := by omega
  have g2 : (o2 : Int) ≤ 4096 := by omega
  have g5 : (o1 : Int) ≤ (cap : Int) := by omega
  have g6 : (o2 : Int) ≤ (cap : Int) := by omega
  have n1 : ¬ cap = o1 := by omega
  have n2 : ¬ cap = o2 := by omega
  clear ho hl ho1 ho2
  go_enter Try.func65, Try.ntmps65
  go_wp2_with fail
  have hS : (fun _ : World => True) w.drew := by trivial
  refine wp_region_V (fun _ : World => True) 99 8 rfl (by kernel_rfl) ?_
  refine tk 0 8 hS ?_
  refine tk 1 9 hS ?_
  refine tk 2 10 hS ?_
  refine tk 3 11 hS ?_
  refine tkV 4 12 (.slice (some ⟨g, o1, none⟩) (4096 - o1) (cap - o1)) hS ?_
  refine tk 5 13 hS ?_
  refine wpAnyV_one (i := 6) (by kernel_rfl) rfl (fun K hK => ?_)
  go_simp
  refine (k1 _).mono ?_
  rintro e w1 ⟨a1, c1, rfl, hr1, hk1⟩
  have HK1 : Hid (Same w w1) := (Kept.refl _ _).drew.trans hk1
  have HO1 := hid (HO.out.same HK1.out)
  have hcp1 := run_copyOwn (P := Try.prog) 3 Try.underlying22 byte_one HO1.out HL.out.symm o1 (by rw [lows_length]; omega) hr1
  rw [show behind g cap o1 = some ⟨g, o1, none⟩ from if_neg n1, lows_length] at hcp1
  have HL1 := hid (HO1.out.laid HL.out.symm o1 (lows x 2) (by rw [lows_length]; omega))
  refine hK.out _ _ (fun _ => trivial) ?_
  clear hK K hk1 hr1
  try simp only [Act.put, sA, s0, sS]
  refine wpAnyV_one (i := 7) (by kernel_rfl) rfl (fun K hK => ?_)
  go_simp
  refine hK.out _ _ (fun _ => trivial) ?_
  clear hK K
  try simp only [Act.put, sA, s0, sS]
  refine wpAnyV_done (by kernel_rfl) ?_
  have HK2 := (show Hid (Kept (fun b => b = g) w (w1.setCells g o1 (vals .u8 (lows x 2)))) from Kept.setCells (R := fun b => b = g) (.inr rfl) _ _ (HK1.out.mono (fun _ _ e => e.elim)))
  have hl2 : (layI xs o1 (lows x 2)).length = 4096 := by rw [layI_length _ _ _ (by rw [lows_length, HL.out]; omega), HL.out]
  have HL2 := hid hl2
  clear hcp1 hl2
  generalize w1.setCells g o1 (vals .u8 (lows x 2)) = w2 at *
  go_wp2_with fail
  have hS : (fun _ : World => True) w2.drew := by trivial
  refine wp_region_V (fun _ : World => True) 99 9 rfl (by kernel_rfl) ?_
  refine tk 0 16 hS ?_
  refine tk 1 17 hS ?_
  refine tk 2 18 hS ?_
  refine tk 3 19 hS ?_
  refine tk 4 20 hS ?_
  refine tkV 5 21 (.slice (some ⟨g, o2, none⟩) (4096 - o2) (cap - o2)) hS ?_
  refine tk 6 22 hS ?_
  refine wpAnyV_one (i := 7) (by kernel_rfl) rfl (fun K hK => ?_)
  go_simp
  refine (k2 _).mono ?_
  rintro e w3 ⟨a3, c3, rfl, hr3, hk3⟩
  have HK3 : Hid (Same w2 w3) := (Kept.refl _ _).drew.trans hk3
  have HO3 := hid (HL1.out.same HK3.out)
  have hcp3 := run_copyOwn (P := Try.prog) 3 Try.underlying22 byte_one HO3.out HL2.out.symm o2 (by rw [lows_length]; omega) hr3
  rw [show behind g cap o2 = some ⟨g, o2, none⟩ from if_neg n2, lows_length] at hcp3
  have HL3 := hid (HO3.out.laid HL2.out.symm o2 (lows y 2) (by rw [lows_length]; omega))
  refine hK.out _ _ (fun _ => trivial) ?_
  clear hK K hk3 hr3
  try simp only [Act.put, sA, s0, sS]
  refine wpAnyV_one (i := 8) (by kernel_rfl) rfl (fun K hK => ?_)
  go_simp
  refine hK.out _ _ (fun _ => trivial) ?_
  clear hK K
  try simp only [Act.put, sA, s0, sS]
  refine wpAnyV_done (by kernel_rfl) ?_
  have HK4 := (show Hid (Kept (fun b => b = g) w (w3.setCells g o2 (vals .u8 (lows y 2)))) from Kept.setCells (R := fun b => b = g) (.inr rfl) _ _ (HK2.out.trans (HK3.out.mono (fun _ _ e => e.elim))))
  refine bodyPost_end (results_none Try.results65 _ _ _) rfl ?_
  exact ⟨rfl, HL3.out, HK4.out⟩
end Go.Proofs.Ytcnaabjgjmodeaa

namespace Go.Proofs.Ytcnaabjgjmodeaa
set_option maxRecDepth 100000
set_option maxHeartbeats 8000000
open Go.RowKit
set_option linter.unusedVariables false
set_option linter.unusedSimpArgs false
def zeroTo (raw : List Int) (i : Nat) : List Int := raw.take 148 ++ (List.replicate (i - 148) 0 ++ raw.drop i)
theorem zeroTo_length (raw : List Int) (i : Nat) (hl : raw.length = 4096) (h1 : 148 ≤ i) (h2 : i ≤ 4096) : (zeroTo raw i).length = 4096 := by simp [zeroTo, hl]; omega
theorem zeroTo_first (raw : List Int) : zeroTo raw 148 = raw := by simp [zeroTo]
theorem zeroTo_step (raw : List Int) (i : Nat) (hl : raw.length = 4096) (h1 : 148 ≤ i) (h2 : i < 4096) : (zeroTo raw i).set i 0 = zeroTo raw (i + 1) := by
  unfold zeroTo
  have hA : (raw.take 148 ++ List.replicate (i - 148) (0 : Int)).length = i := by simp [hl]; omega
  rw [← List.append_assoc, List.set_append_right (h := by rw [hA]; exact Nat.le_refl _), hA, Nat.sub_self, List.drop_eq_getElem_cons (by omega), List.set_cons_zero, show i + 1 - 148 = (i - 148) + 1 from by omega, List.replicate_succ', List.append_assoc, List.append_assoc]
  simp
theorem zeroTo_last {raw : List Int} (h : ownOK raw = true) : zeroTo raw 4096 = encB (raw.take 4) (numAt raw 4 8) (numAt raw 12 4) (numAt raw 16 2) (slotsOf raw) (List.replicate 4096 0) := by
  have hl := ownOK_len h
  have he := (own_enc h).1
  have h4 : (raw.take 4).length = 4 := by rw [List.length_take, hl]; rfl
  have h64 := slotsOf_length raw
  rw [encB_eq _ _ _ _ _ _ h4 h64] at he
  rw [encB_eq _ _ _ _ _ _ h4 h64]
  have ht : raw.take 148 = headB (raw.take 4) (numAt raw 4 8) (numAt raw 12 4) (numAt raw 16 2) ++ slotB (slotsOf raw) := by
    have hx : (headB (raw.take 4) (numAt raw 4 8) (numAt raw 12 4) (numAt raw 16 2) ++ slotB (slotsOf raw)).length = 148 := by rw [List.length_append, headB_length _ _ _ _ h4, slotB_length, h64]
    rw [← List.append_assoc] at he
    conv => lhs; rw [← he]
    rw [List.take_append_of_le_length (by omega), List.take_of_length_le (by omega)]
  unfold zeroTo
  rw [ht, List.drop_of_length_le (by omega), List.append_nil, List.drop_replicate, List.append_assoc]
theorem comp_step {raw sl : List Int} {sum : List Int} {lsn num bot : Int} (h : SlOK sl) (h1 : sum.length = 4) (h2 : sl.length = 64) (hl : raw.length = 4096) (k : Nat) (hk : k < 32) (h0 : ¬ sl.getD (2 * k) 0 = 0) :
    layI (layI (layI (encB sum lsn num bot (cSl sl k) (cBody raw sl k)) (cBot sl (k + 1)).toNat (stretch raw (sl.getD (2 * k) 0) (sl.getD (2 * k + 1) 0))) (20 + 4 * k) (lows (cBot sl (k + 1)) 2)) (20 + 4 * k + 2) (lows (sl.getD (2 * k + 1) 0) 2) = encB sum lsn num bot (cSl sl (k + 1)) (cBody raw sl (k + 1)) := by
  have hb := h.bot (k + 1) (by omega)
  have hb0 := h.bot k (by omega)
  have h3 := h.one k hk
  have hs := cBot_succ sl k
  have hst : (stretch raw (sl.getD (2 * k) 0) (sl.getD (2 * k + 1) 0)).length = (sl.getD (2 * k + 1) 0).toNat := stretch_length raw _ _ hl (by omega) (by omega) (by omega)
  have hc : (cSl sl k).length = 64 := by rw [cSl_length, h2]
  rw [encB_body h1 hc (h.body raw hl k (by omega)) _ _ (by omega) (by rw [hst]; omega)]
  rw [show 20 + 4 * k = 20 + 2 * (2 * k) from by omega, encB_slot h1 hc (2 * k) _ (by omega)]
  rw [show 20 + 2 * (2 * k) + 2 = 20 + 2 * (2 * k + 1) from by omega, encB_slot h1 (by rw [List.length_set]; exact hc) (2 * k + 1) _ (by omega)]
  have e1 : cBody raw sl (k + 1) = layI (cBody raw sl k) (cBot sl (k + 1)).toNat (stretch raw (sl.getD (2 * k) 0) (sl.getD (2 * k + 1) 0)) := by rw [cBody, if_neg h0]
  have e2 : cSl sl (k + 1) = (cSl sl k).set (2 * k) (cBot sl (k + 1)) := by rw [cSl, if_neg h0]
  rw [e1, e2]
  congr 1
  have hg := cSl_at sl k (2 * k + 1) (by omega)
  apply List.ext_getElem?
  intro j
  by_cases hj : j = 2 * k + 1
  · subst hj
    rw [List.getElem?_set_self (by rw [List.length_set, hc]; omega), List.getElem?_set_ne (by omega)]
    rw [← hg, List.getD_eq_getElem?_getD, List.getElem?_eq_getElem (by rw [hc]; omega)]
    rfl
  · rw [List.getElem?_set_ne (by omega)]
theorem specComp_any (v : Value) (raw : List Int) (w : World) (hB : IsB raw) (hn : raw.length ≤ 1099511627776) (hv : Rd .u8 w v raw) :
    Calls Try.prog 66 #[v] w fun e w' => ∃ a c, e = .returned (.slice a (pageCompact raw).length c) ∧ (∀ b, (Value.slice a (pageCompact raw).length c).ownBlock = some b → w.heap.size ≤ b) ∧ Own 0 5 .u8 w' (.slice a (pageCompact raw).length c) (pageCompact raw) ∧ Same w w' := by
  have HV := hid hv
  have HB := hid hB
  have HN := hid hn
  have kO := fun wx hv => l3Own_any v raw wx hB hn hv
  obtain ⟨av, cv, rfl⟩ := hv.form
  clear hv
  by_cases hok : ownOK raw = true
  case neg =>
    have hok' : ownOK raw = false := by simpa using hok
    rw [show pageCompact raw = [] from if_neg hok]
    rw [hok'] at kO
    clear hok hok'
    go_enter Try.func66, Try.ntmps66
    go_wp2_with fail
    refine (kO _ HV.out).mono ?_
    rintro e w1 ⟨rfl, hk1⟩
    have HK1 := hid hk1
    clear hk1
    go_wp2
    go_ret
    exact ⟨_, _, rfl, fun b hb => by have h : w1.heap.size = b := (by simpa [Value.ownBlock] using hb); have := HK1.out.size; omega, World.ownsRow_made w1 #[] 0 (Nat.zero_le _) (by simp) (by simp), HK1.out.alloc _⟩
  have hl := ownOK_len hok
  have HSl := hid (slOK_of hB hok)
  have HOK := hid hok
  have HL := hid hl
  have HZL := hid (zeroTo_last hok)
  have h4 : (raw.take 4).length = 4 := by rw [List.length_take, hl]; rfl
  have H4 := hid h4
  have H64 := hid (slotsOf_length raw)
  have hcb := (slOK_of hB hok).bot 32 (Nat.le_refl _)
  have HPC := hid (show pageCompact raw = layI (encB (raw.take 4) (numAt raw 4 8) (numAt raw 12 4) (numAt raw 16 2) (cSl (slotsOf raw) 32) (cBody raw (slotsOf raw) 32)) 16 (lows (cBot (slotsOf raw) 32) 2) from by rw [encB_bot h4 (by rw [cSl_length, slotsOf_length])]; exact if_pos hok)
  have hpl : (pageCompact raw).length = 4096 := by rw [show pageCompact raw = compB raw from if_pos hok]; exact compB_length hB hok
  rw [hpl]
  have HSM := hid (slotsOf_small raw hB hl)
  rw [hok] at kO
  have kG := fun s wx hv => specPageGet_any (.slice av raw.length cv) raw s wx hB hn hv
  have HGY : Hid (∀ k : Nat, k < 32 → ¬ (slotsOf raw).getD (2 * k) 0 = 0 → pageGet raw (k : Int) = (true, stretch raw ((slotsOf raw).getD (2 * k) 0) ((slotsOf raw).getD (2 * k + 1) 0))) := fun k hk h0 => pageGet_yes hok hk h0
  have HGN : Hid (∀ k : Nat, k < 32 → (slotsOf raw).getD (2 * k) 0 = 0 → pageGet raw (k : Int) = (false, [])) := fun k hk h0 => pageGet_no (.inr (.inr (.inr (by rw [Int.toNat_natCast]; exact h0))))
  obtain ⟨sl, hsl⟩ : ∃ sl, slotsOf raw = sl := ⟨_, rfl⟩
  rw [hsl] at HSl HZL H64 HPC HSM HGY HGN hcb
  obtain ⟨sum, hsum⟩ : ∃ sum, raw.take 4 = sum := ⟨_, rfl⟩
  rw [hsum] at HZL H4 HPC
  obtain ⟨lsn, hlsn⟩ : ∃ x, numAt raw 4 8 = x := ⟨_, rfl⟩
  obtain ⟨num, hnum⟩ : ∃ x, numAt raw 12 4 = x := ⟨_, rfl⟩
  obtain ⟨bot, hbot⟩ : ∃ x, numAt raw 16 2 = x := ⟨_, rfl⟩
  rw [hlsn, hnum, hbot] at HZL HPC
  rw [hl] at kO kG HV ⊢
  clear hok hl h4 hpl hsl hsum hlsn hnum hbot hB hn
  go_enter Try.func66, Try.ntmps66
  go_wp2_with fail
  refine (kO _ HV.out).mono ?_
  rintro e w1 ⟨rfl, hk1⟩
  have HK1 := hid hk1
  clear hk1 kO
  go_wp2_with fail
  refine (l1Copy_any _ raw _ HN.out (HV.out.same HK1.out)).mono ?_
  rintro e w2 ⟨a2, n2, c2, rfl, ho2, hf2, hk2⟩
  obtain ⟨g, e1, e2⟩ : ∃ g, a2 = some ⟨g, 0, none⟩ ∧ n2 = 4096 := by
    rcases ho2.form with ⟨_, h⟩ | ⟨g, cap, h, _⟩
    · have := HL.out; rw [h] at this; simp at this
    · cases h; exact ⟨g, rfl, HL.out⟩
  subst e1
  subst e2
  have HO2 := hid ho2
  have hg1 : w1.heap.size ≤ g := hf2 g rfl
  have HK2 := hid (HK1.out.trans hk2)
  have hz1 := HK1.out.size
  clear ho2 hf2 hk2
  go_wp2_with fail
  go_loopw [4] (fun i wr => ∃ (k : Nat), 148 ≤ k ∧ k ≤ 4096 ∧ i = .int .i64 (k : Int) ∧ Hid (Own 0 5 .u8 wr (.slice (some ⟨g, 0, none⟩) 4096 c2) (zeroTo raw k)) ∧ Hid (Same w wr)) (fun i _ => 4096 - (intOf i).toNat)
  case atStart => exact ⟨148, Nat.le_refl _, by omega, rfl, by rw [zeroTo_first]; exact HO2, HK2⟩
  case round =>
    obtain ⟨k, hk1, hk2, rfl, HO, HK⟩ := hrel
    by_cases hlt : k < 4096
    · have hzl := zeroTo_length raw k HL.out hk1 hk2
      have u0 := HO.out.cell hzl.symm k hlt
      have uf := HO.out.frozen hzl.symm k
      have HST := hid (HO.out.stored hzl.symm k 0)
      rw [zeroTo_step raw k HL.out hk1 hlt] at HST
      generalize (zeroTo raw k).getD k 0 = uold at u0
      clear hzl
      go_wp2
      go_roundw
      case rel => exact ⟨k + 1, by omega, by omega, by go_num, HST, HK.out.setCell (.inl (by dsimp only; omega)) _⟩
      case measure => simp [intOf]; omega
    have hkk : k = 4096 := by omega
    rw [hkk, HZL.out] at HO
    have hnlt : ¬ (k : Int) < 4096 := by omega
    clear hkk hk1 hk2 hlt
    clear HO2 HK2
    go_wp2_with fail
    clear hnlt
    go_loopw [5, 6] (fun b i wx => ∃ (k : Nat), k ≤ 32 ∧ b = .int .i64 (cBot sl k) ∧ i = .int .i64 (k : Int) ∧ Hid (Own 0 5 .u8 wx (.slice (some ⟨g, 0, none⟩) 4096 c2) (encB sum lsn num bot (cSl sl k) (cBody raw sl k))) ∧ Hid (Same w wx)) (fun _ i _ => 32 - (intOf i).toNat)
    case atStart => exact ⟨0, Nat.zero_le _, rfl, rfl, HO, HK⟩
    case round =>
      clear HO HK
      obtain ⟨k, hk, rfl, rfl, HO, HK⟩ := hrel
      by_cases hlt : k < 32
      case pos =>
        have kG := fun wx hv => kG (k : Int) wx hv
        have h1 := HSl.out.one k hlt
        have hb0 := HSl.out.bot k hk
        have hb1 := HSl.out.bot (k + 1) (by omega)
        have hbs := cBot_succ sl k
        by_cases h0 : sl.getD (2 * k) 0 = 0
        · rw [HGN.out k hlt h0] at kG
          have hlen0 : sl.getD (2 * k + 1) 0 = 0 := by omega
          have HSL := hid (show cSl sl (k + 1) = cSl sl k from by rw [cSl, if_pos h0])
          have HBD := hid (show cBody raw sl (k + 1) = cBody raw sl k from by rw [cBody, if_pos h0])
          have HBT := hid (show cBot sl (k + 1) = cBot sl k from by omega)
          clear h1 hbs hlen0 h0
          go_wp2_with fail
          refine (kG _ (HV.out.same HK.out)).mono ?_
          rintro e w4 ⟨⟨u, ⟨te, ta, tc, tb⟩⟩, rfl, hd, hf, ho, hk4⟩
          obtain ⟨rfl, rfl⟩ : u = false ∧ tb = [] := by simpa [StPageRecord.dat] using hd
          dsimp only [StPageRecord.val, BS.v]
          have HK4 := hid hk4
          clear hd hf ho hk4
          go_wp2
          go_roundw
          case rel => exact ⟨k + 1, by omega, by rw [HBT.out], by go_num, by rw [HSL.out, HBD.out]; exact HO.out.same (HK4.out.alloc _), (HK.out.trans HK4.out).alloc _⟩
          case measure => simp [intOf]; omega
        · rw [HGY.out k hlt h0] at kG
          have HSTEP := hid (comp_step (raw := raw) (sum := sum) (lsn := lsn) (num := num) (bot := bot) HSl.out H4.out H64.out HL.out k hlt h0)
          have hstl : (stretch raw (sl.getD (2 * k) 0) (sl.getD (2 * k + 1) 0)).length = (sl.getD (2 * k + 1) 0).toNat := stretch_length raw _ _ HL.out (by omega) (by omega) (by omega)
          obtain ⟨yn, hyn⟩ : ∃ n : Nat, sl.getD (2 * k + 1) 0 = (n : Int) := ⟨(sl.getD (2 * k + 1) 0).toNat, by omega⟩
          obtain ⟨bn, hbn⟩ : ∃ n : Nat, cBot sl (k + 1) = (n : Int) := ⟨(cBot sl (k + 1)).toNat, by omega⟩
          have HBN := hid hbn
          rw [hyn] at HSTEP hstl kG hbs h1
          rw [hbn] at HSTEP hbs hb1
          rw [Int.toNat_natCast] at HSTEP hstl
          generalize stretch raw (sl.getD (2 * k) 0) (yn : Int) = st at *
          have hel : (encB sum lsn num bot (cSl sl k) (cBody raw sl k)).length = 4096 := encB_length H4.out (by rw [cSl_length, H64.out]) (HSl.out.body raw HL.out k hk)
          obtain ⟨E, hE⟩ : ∃ E, encB sum lsn num bot (cSl sl k) (cBody raw sl k) = E := ⟨_, rfl⟩
          rw [hE] at HO HSTEP hel
          obtain ⟨cb, hcb0⟩ : ∃ x, cBot sl k = x := ⟨_, rfl⟩
          rw [hcb0] at hbs hb0 ⊢
          have HEL := hid hel
          have HST := hid hstl
          have q1 : IntKind.i64.wrap (cb - (yn : Int)) = (bn : Int) := by rw [IntKind.wrap_i64]; omega
          have hbn2 : 148 ≤ bn ∧ bn + yn ≤ 4096 := by omega
          have hc2 : 4096 ≤ c2 := HO.out.caps.2
          have g1 : (bn : Int) ≤ (c2 : Int) := by omega
          have g2 : (bn : Int) ≤ 4096 := by omega
          obtain ⟨ab, hab⟩ : ∃ ab : Option Addr, (if c2 = bn then some (⟨g, 0, none⟩ : Addr) else some ⟨g, bn, none⟩) = ab := ⟨_, rfl⟩
          have HAB := (show Hid (behind g c2 bn = ab) from hab)
          clear h1 hbs hyn hbn hel hstl h0 hb0 hE hcb0
          go_wp2_with fail
          refine (kG _ (HV.out.same HK.out)).mono ?_
          rintro e w4 ⟨⟨u, ⟨te, ta, tc, tb⟩⟩, rfl, hd, hf, ho, hk4⟩
          obtain ⟨rfl, htb⟩ : u = true ∧ tb = st := by simpa [StPageRecord.dat] using hd
          have HR4 := (show Hid (Rd .u8 w4 (.slice ta tb.length tc) tb) from (OwnL.of_one ho).rd)
          dsimp only [StPageRecord.val, BS.v]
          rw [htb] at HR4 ⊢
          have HK4 := hid hk4
          have HF4 : Hid (g < wr.heap.size) := (HO.out.lt g rfl).2
          rw [HST.out] at HR4 ⊢
          clear hd hf ho hk4 kG htb
          have HB4 := hid (Blk.newL w4 [.bool true, .slice ta yn tc] 24)
          have hz4 := HK4.out.size
          go_wp2_with fail
          have HK5 := (show Hid (Same wr (w4.alloc (.cells #[.bool true, .slice ta yn tc] 24))) from HK4.out.alloc _)
          have HR5 := hid (HR4.out.same ((Kept.refl _ _).alloc (.cells #[.bool true, .slice ta yn tc] 24)))
          generalize w4.alloc (.cells #[.bool true, .slice ta yn tc] 24) = w5 at HB4 HK5 HR5 ⊢
          obtain ⟨m0, m1⟩ := HB4.out.all2
          have hS : (fun wx : World => wx.cell? ⟨w4.heap.size, 1, none⟩ = some (.slice ta yn tc)) w5.drew := m1
          refine wp_region_V (fun wx : World => wx.cell? ⟨w4.heap.size, 1, none⟩ = some (.slice ta yn tc)) 99 6 rfl (by kernel_rfl) ?_
          refine tk 0 36 hS ?_
          refine tk 1 37 hS ?_
          refine tkV 2 38 (.slice ab (4096 - bn) (c2 - bn)) hS ?_
          refine tk 3 39 hS ?_
          refine tk 4 40 hS ?_
          have HO5 := hid ((HO.out.same HK5.out).same (Kept.refl _ _).drew)
          have hcp := run_copyOwn (P := Try.prog) 3 Try.underlying22 byte_one HO5.out HEL.out.symm bn (by rw [HST.out]; omega) (HR5.out.same (Kept.refl _ _).drew)
          rw [HAB.out, HST.out] at hcp
          have HL5 := hid (HO5.out.laid HEL.out.symm bn st (by rw [HST.out]; omega))
          refine wpAnyV_one (i := 5) (by kernel_rfl) rfl (fun K hK => ?_)
          go_simp
          have HK6 := (show Hid (Kept (fun b => b = g) wr (w5.drew.setCells g bn (vals .u8 st))) from Kept.setCells (R := fun b => b = g) (.inr rfl) _ _ ((HK5.out.drew).mono (fun _ _ e => e.elim)))
          have hgw : ¬ w4.heap.size = g := by have := HF4.out; omega
          have hk56 : Kept (fun b => b = g) w5 (w5.drew.setCells g bn (vals .u8 st)) := Kept.setCells (R := fun b => b = g) (.inr rfl) _ _ (Kept.refl _ _).drew
          have HB6 := hid (HB4.out.kept hk56 hgw)
          refine hK.out _ _ (fun _ => HB6.out.cell 1) ?_
          clear hK K hcp hk56
          try simp only [Act.put, sA, s0, sS]
          refine wpAnyV_done (by kernel_rfl) ?_
          generalize w5.drew.setCells g bn (vals .u8 st) = w6 at HL5 HK6 HB6 ⊢
          clear m0 m1 hS
          obtain ⟨m0, m1⟩ := HB6.out.all2
          have hll : (layI E bn st).length = 4096 := by rw [layI_length _ _ _ (by rw [HST.out, HEL.out]; omega), HEL.out]
          go_wp2_with fail
          refine (l3Set_any g c2 (layI E bn st) k (bn : Int) (yn : Int) w6 hll hlt (by omega) (by omega) HL5.out).mono ?_
          rintro e w7 ⟨rfl, ho7, hk7⟩
          rw [HSTEP.out] at ho7
          have HO7 := hid ho7
          have HK7 := hid (HK6.out.trans hk7)
          clear ho7 hk7 hll
          go_wp2
          go_roundw
          case rel => exact ⟨k + 1, by omega, by rw [HBN.out], by go_num, HO7, HK.out.next HK7.out (fun i hi e => by omega)⟩
          case measure => simp [intOf]; omega
      obtain rfl : k = 32 := by omega
      obtain ⟨bn, hbn⟩ : ∃ n : Nat, cBot sl 32 = (n : Int) := ⟨(cBot sl 32).toNat, by omega⟩
      have hel : (encB sum lsn num bot (cSl sl 32) (cBody raw sl 32)).length = 4096 := encB_length H4.out (by rw [cSl_length, H64.out]) (HSl.out.body raw HL.out 32 hk)
      have HEL := hid hel
      have kP := fun wx => put2_any (cBot sl 32) wx (by omega) (by omega)
      have hc2 : 4096 ≤ c2 := HO.out.caps.2
      have n1 : ¬ c2 = 16 := by omega
      have g1 : (16 : Int) ≤ (c2 : Int) := by omega
      obtain ⟨cb, hcb0⟩ : ∃ x, cBot sl 32 = x := ⟨_, rfl⟩
      rw [hcb0] at kP ⊢ HPC
      obtain ⟨E, hE⟩ : ∃ E, encB sum lsn num bot (cSl sl 32) (cBody raw sl 32) = E := ⟨_, rfl⟩
      rw [hE] at HO HEL HPC
      clear hel hbn hcb hcb0 hE
      go_wp2_with fail
      have hS : (fun _ : World => True) wr.drew := by trivial
      refine wp_region_V (fun _ : World => True) 99 5 rfl (by kernel_rfl) ?_
      refine tk 0 49 hS ?_
      refine tkV 1 50 (.slice (some ⟨g, 16, none⟩) (4096 - 16) (c2 - 16)) hS ?_
      refine tk 2 51 hS ?_
      refine wpAnyV_one (i := 3) (by kernel_rfl) rfl (fun K hK => ?_)
      go_simp
      refine (kP _).mono ?_
      rintro e w3 ⟨a3, c3, rfl, hr3, hk3⟩
      have HK3 : Hid (Same wr w3) := (Kept.refl _ _).drew.trans hk3
      have HO3 := hid (HO.out.same HK3.out)
      have hcp3 := run_copyOwn (P := Try.prog) 3 Try.underlying22 byte_one HO3.out HEL.out.symm 16 (by rw [lows_length]; omega) hr3
      rw [show behind g c2 16 = some ⟨g, 16, none⟩ from if_neg n1, lows_length] at hcp3
      have HL3 := hid (HO3.out.laid HEL.out.symm 16 (lows cb 2) (by rw [lows_length]; omega))
      refine hK.out _ _ (fun _ => trivial) ?_
      clear hK K hk3 hr3
      try simp only [Act.put, sA, s0, sS]
      refine wpAnyV_one (i := 4) (by kernel_rfl) rfl (fun K hK => ?_)
      go_simp
      refine hK.out _ _ (fun _ => trivial) ?_
      clear hK K
      try simp only [Act.put, sA, s0, sS]
      refine wpAnyV_done (by kernel_rfl) ?_
      rw [← HPC.out] at HL3
      have HK4 := (show Hid (Same w (w3.setCells g 16 (vals .u8 (lows cb 2)))) from Kept.setCells (.inl (by omega)) _ _ (HK.out.trans HK3.out))
      clear hcp3
      go_wp2
      go_ret
      exact ⟨_, _, rfl, fun b hb => by have h : g = b := (by simpa [Value.ownBlock] using hb); omega, HL3.out, HK4.out⟩
end Go.Proofs.Ytcnaabjgjmodeaa
