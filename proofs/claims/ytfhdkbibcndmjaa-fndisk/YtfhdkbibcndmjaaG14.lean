import Derived.Test.YtfhdkbibcndmjaaG13
import Derived.Test.YtfhdkbibcndmjaaG06
import Derived.Test.YtfhdkbibcndmjaaG02
import Derived.Test.YtfhdkbibcndmjaaG09
import Derived.Laws.ResultCell
namespace Go.Proofs.Ytfhdkbibcndmjaa
set_option maxRecDepth 100000
set_option maxHeartbeats 8000000
open Go.RowKit
set_option linter.unusedVariables false
set_option linter.unusedSimpArgs false
structure DkI (w0 w wr : World) (B : Nat) (v : Value) (cs : List Int) (k : Nat) (size : Int) (D : Nat) (dv pv : Value) (dur : List Int) (ps : List PW) : Prop where
  src : SrcR w0 wr B v cs k size
  box : Blk wr D 25 [dv, pv]
  own : OwnD 0 40 5 wr dv pv dur ps
  new : ∀ b, footD dv pv ps b → w.heap.size < b ∧ ¬ b = D
  kept : Kept (fun b => b = B) w wr
  len : ∀ p ∈ ps, p.bs.length ≤ 512
  res : Blk wr w.heap.size 25 [.slice none 0 0, .slice none 0 0]
section
variable {w0 w wr wx : World} {B : Nat} {v : Value} {cs : List Int} {k k' : Nat} {size : Int} {D : Nat} {dv pv : Value} {dur : List Int} {ps : List PW}
theorem DkI.same (h : DkI w0 w wr B v cs k size D dv pv dur ps) (hk : Same wr wx) : DkI w0 w wx B v cs k size D dv pv dur ps :=
  ⟨h.src.same hk, h.box.same hk, h.own.same hk, h.new, h.kept.trans (hk.mono (fun _ _ e => e.elim)), h.len, h.res.same hk⟩
theorem DkI.draw (h : DkI w0 w wr B v cs k size D dv pv dur ps) (hB : B < w.heap.size) (hD : w.heap.size < D) (hs : SrcR w0 wx B v cs k' size) (hk : Kept (fun b => b = B) wr wx) : DkI w0 w wx B v cs k' size D dv pv dur ps :=
  ⟨hs, h.box.kept hk (fun e => by omega), h.own.kept hk (fun b hb e => by have h1 := h.new b hb; have e' : b = B := e; omega), h.new, h.kept.trans hk, h.len, h.res.kept hk (fun e => by omega)⟩
theorem DkI.pend {a4 : Option Addr} {n4 c4 : Nat} {w3 : World} {s : Int} {a5 : Option Addr} {n5 c5 : Nat} {bs : List Int} {g6 cap6 : Nat} (h : DkI w0 w wr B v cs k size D dv (.slice a4 n4 c4) dur ps) (hB : B < w.heap.size) (hD : w.heap.size < D) (hDl : D < wr.heap.size) (hw : w0.heap.size ≤ w.heap.size)
    (hu : Own 0 5 .u8 wr (.slice a5 n5 c5) bs) (hul : bs.length ≤ 512) (huf : ∀ b, (Value.slice a5 n5 c5).ownBlock = some b → w.heap.size < b ∧ ¬ b = D ∧ ¬ footD dv (.slice a4 n4 c4) ps b)
    (hg : (wr.alloc (.cells #[.int .i64 s, .slice a5 n5 c5] 40)).grownBy w3 (Value.slice a4 n4 c4).ownBlock)
    (hown : w3.ownsRow 0 40 2 (.slice (some ⟨g6, 0, none⟩) (ps.length + 1) cap6) (ps.length + 1) (pwCells ps ++ [.int .i64 s, .slice a5 n5 c5])) (hat : (Value.slice a4 n4 c4).ownBlock = some g6 ∨ g6 = wr.heap.size + 1) :
    DkI w0 w (w3.setCell ⟨D, 1, none⟩ (.slice (some ⟨g6, 0, none⟩) (ps.length + 1) cap6)) B v cs k size D dv (.slice (some ⟨g6, 0, none⟩) (ps.length + 1) cap6) dur (ps ++ [⟨s, .slice a5 n5 c5, bs⟩]) := by
  have hk3 : Kept (fun b => (Value.slice a4 n4 c4).ownBlock = some b) wr w3 := ((Kept.refl _ _).alloc _).trans (Kept.of_grown hg (fun k e => e))
  have hsz := hk3.size
  have hpn : ∀ b, (Value.slice a4 n4 c4).ownBlock = some b → w.heap.size < b ∧ ¬ b = D := fun b hb => h.new b (.inr (.inl hb))
  have hk4 : Kept (fun b => (Value.slice a4 n4 c4).ownBlock = some b ∨ b = D) wr (w3.setCell ⟨D, 1, none⟩ (.slice (some ⟨g6, 0, none⟩) (ps.length + 1) cap6)) := (hk3.mono (fun _ _ e => .inl e)).setCell (p := ⟨D, 1, none⟩) (.inr (.inr rfl)) _
  have hwz := h.kept.size
  have hsn := OwnP.snoc (sec := s) (bs := bs) (h.own.pend.same ((Kept.refl (fun _ => False) _).alloc (.cells #[.int .i64 s, .slice a5 n5 c5] 40))) (hu.same ((Kept.refl (fun _ => False) _).alloc (.cells #[.int .i64 s, .slice a5 n5 c5] 40))) (fun b hb hf => (huf b hb).2.2 (.inr hf)) hg hown rfl (by rw [World.size_alloc]; exact hat)
  have hfoot : ∀ b, footP (.slice (some ⟨g6, 0, none⟩) (ps.length + 1) cap6) (ps ++ [⟨s, .slice a5 n5 c5, bs⟩]) b → (w.heap.size < b ∧ ¬ b = D) ∧ ¬ dv.ownBlock = some b := fun b hb => by
    rcases footP_snoc (v := .slice a4 n4 c4) b hb with rfl | hb | hb
    · rcases hat with e | e
      · exact ⟨hpn _ e, fun hd => h.own.apart _ (.inl e) hd⟩
      · exact ⟨⟨by omega, by omega⟩, fun hd => by have := (h.own.dur.lt _ hd).2; omega⟩
    · exact ⟨h.new b (.inr hb), fun hd => h.own.apart b hb hd⟩
    · exact ⟨⟨(huf b hb).1, (huf b hb).2.1⟩, fun hd => (huf b hb).2.2 (.inl hd)⟩
  refine ⟨h.src.on hk4 ?_ ?_, ?_, ⟨?_, ?_, fun b hb hd => (hfoot b hb).2 hd⟩, ?_, ?_, ?_, ?_⟩
  · rintro (e | e)
    · have := hpn _ e; omega
    · omega
  · rintro i hi (e | e)
    · have := hpn _ e; omega
    · omega
  · exact (h.box.kept hk3 (fun e => (hpn _ e).2 rfl)).stored 1 _
  · refine h.own.dur.kept hk4 ?_
    rintro b hb (e | e)
    · exact h.own.apart b (.inl e) hb
    · exact (h.new b (.inl hb)).2 e
  · refine hsn.kept (R := fun b => b = D) ((Kept.refl (fun b => b = D) _).setCell (p := ⟨D, 1, none⟩) (.inr rfl) _) (fun b hb e => (hfoot b hb).1.2 e)
  · rintro b (hb | hb)
    · exact h.new b (.inl hb)
    · exact (hfoot b hb).1
  · refine h.kept.next hk4 ?_
    rintro i hi (e | e)
    · have := hpn _ e; omega
    · omega
  · intro p hp
    rcases List.mem_append.1 hp with hp | hp
    · exact h.len p hp
    · rw [List.mem_singleton.1 hp]; exact hul
  · refine h.res.kept hk4 ?_
    rintro (e | e)
    · have := hpn _ e; omega
    · omega
theorem DkI.durs {g n c : Nat} {dur' : List Int} (h : DkI w0 w wr B v cs k size D (.slice (some ⟨g, 0, none⟩) n c) pv dur ps) (hB : B < w.heap.size) (hD : w.heap.size < D) (hw : w0.heap.size ≤ w.heap.size) (ho : Own 0 5 .u8 wx (.slice (some ⟨g, 0, none⟩) n c) dur') (hg : wr.grownBy wx (some g)) :
    DkI w0 w wx B v cs k size D (.slice (some ⟨g, 0, none⟩) n c) pv dur' ps := by
  have hk : Kept (fun b => b = g) wr wx := Kept.of_grown hg (fun k e => by cases e; rfl)
  have hgn := h.new g (.inl rfl)
  exact ⟨h.src.on hk (fun e => by omega) (fun i hi e => by omega), h.box.kept hk (fun e => hgn.2 e.symm), ⟨ho, h.own.pend.kept hk (fun b hb e => h.own.apart b hb (by rw [e]; rfl)), h.own.apart⟩, h.new, h.kept.next hk (fun i hi e => by omega), h.len, h.res.kept hk (fun e => by omega)⟩
end
def DkR (w0 w w' : World) (B : Nat) (v : Value) (cs : List Int) (k : Nat) (size : Int) (e : Ending) : Prop :=
  ∃ dv pv dur ps k', e = .returned (.agg #[dv, pv]) ∧ dur.length ≤ 2560 ∧ ps.length ≤ 7 ∧ (∀ p ∈ ps, p.bs.length ≤ 512) ∧ RdD w' dv pv dur ps ∧ (∀ b, footD dv pv ps b → w.heap.size < b ∧ b < w'.heap.size) ∧ k' ≤ k + 40 ∧ SrcR w0 w' B v cs k' size ∧ Kept (fun b => b = B) w w'
theorem dk_end {w0 w wr : World} {B : Nat} {v : Value} {cs : List Int} {k : Nat} {size : Int} {dv pv : Value} {dur : List Int} {ps : List PW} (hB : B < w.heap.size) (hw : w0.heap.size ≤ w.heap.size) (hs : SrcR w0 wr B v cs k size) (hr : RdD wr dv pv dur ps) (hn : ∀ b, footD dv pv ps b → w.heap.size < b) (hl : ∀ b, footD dv pv ps b → b < wr.heap.size) (hk : Kept (fun b => b = B) w wr) :
    RdD ((wr.setCell ⟨w.heap.size, 0, none⟩ dv).setCell ⟨w.heap.size, 1, none⟩ pv) dv pv dur ps ∧ SrcR w0 ((wr.setCell ⟨w.heap.size, 0, none⟩ dv).setCell ⟨w.heap.size, 1, none⟩ pv) B v cs k size ∧ Kept (fun b => b = B) w ((wr.setCell ⟨w.heap.size, 0, none⟩ dv).setCell ⟨w.heap.size, 1, none⟩ pv) ∧ ∀ b, footD dv pv ps b → w.heap.size < b ∧ b < ((wr.setCell ⟨w.heap.size, 0, none⟩ dv).setCell ⟨w.heap.size, 1, none⟩ pv).heap.size := by
  have hkr : Kept (fun b => b = w.heap.size) wr ((wr.setCell ⟨w.heap.size, 0, none⟩ dv).setCell ⟨w.heap.size, 1, none⟩ pv) := ((Kept.refl (fun b => b = w.heap.size) wr).setCell (p := ⟨w.heap.size, 0, none⟩) (.inr rfl) _).setCell (p := ⟨w.heap.size, 1, none⟩) (.inr rfl) _
  exact ⟨hr.kept hkr (fun b hb e => by have := hn b hb; omega), hs.on hkr (fun e => by omega) (fun i hi e => by omega), hk.next hkr (fun i hi e => by omega), fun b hb => ⟨hn b hb, Nat.lt_of_lt_of_le (hl b hb) hkr.size⟩⟩
theorem drawDisk_k {w0 w : World} {B : Nat} {v : Value} {cs : List Int} {k : Nat} {size : Int} (h : SrcR w0 w B v cs k size) (hk : k ≤ 1000000) :
    Calls Try.prog 47 #[.pointer (some ⟨B, 0, none⟩)] w fun e w' => DkR w0 w w' B v cs k size e := by
  obtain ⟨i0, hi, hz0, hz1, hz2⟩ := info_parts Try.infoSW
  have hsz1 : (Try.prog.info? 5).map (·.size) = some 1 := by kernel_rfl
  have hBw := h.lt
  have hw0 := h.kept.size
  have HR0 := hid (Blk.newL w [.slice none 0 0, .slice none 0 0] 25)
  have HK0 := hid (sameA w [.slice none 0 0, .slice none 0 0] 25)
  have k0 := next_k 5 (h.same HK0.out) (by omega) (by constructor <;> decide)
  clear h
  go_enter Try.func47, Try.ntmps47
  go_wp2_with fail
  refine k0.mono ?_
  rintro e w1 ⟨r, rfl, hd, hs1, hk1⟩
  obtain ⟨hr1, hr2⟩ := hd.2 (by decide)
  have HS1 := hid hs1
  have HK1 := (show Hid (Kept (fun b => b = B) w w1) from (HK0.out.mono (fun _ _ e => e.elim)).trans hk1)
  have HR1 := hid (HR0.out.kept hk1 (fun e => by omega))
  have hz1w := HR1.out.lt
  clear k0 hs1 hk1 hd HR0 HK0
  obtain ⟨s, hs⟩ : ∃ s : Nat, 1 + r = (s : Int) := ⟨(1 + r).toNat, by omega⟩
  have kN := specNewDisk_yes (s : Int) w1 (by omega) (by omega)
  rw [show ((s : Int)).toNat = s from by omega] at kN
  have hwr : IntKind.i64.wrap (1 + r) = (s : Int) := by rw [IntKind.wrap_i64]; omega
  have HSR := hid hs
  have hs5 : 1 ≤ s ∧ s ≤ 5 := by omega
  clear hs hr1 hr2
  go_wp2_with fail
  refine kN.mono ?_
  rintro e w2 ⟨g, rfl, hg, ho2, hk2⟩
  have HI2 : Hid (DkI w0 w (w2.alloc (.cells #[.slice (some ⟨g, 0, none⟩) (s * 512) (s * 512), .slice none 0 0] 25)) B v cs (k + 1) size w2.heap.size (.slice (some ⟨g, 0, none⟩) (s * 512) (s * 512)) (.slice none 0 0) (List.replicate (s * 512) 0) []) := by
    have hk2' := (hk2 : Same w1 w2)
    have hgl := (ho2.lt g rfl).2
    exact ⟨(HS1.out.same hk2').same ((Kept.refl _ _).alloc _), Blk.new w2 #[.slice (some ⟨g, 0, none⟩) (s * 512) (s * 512), .slice none 0 0] _, (OwnD.ofDur ho2).same ((Kept.refl _ _).alloc _), fun b hb => by rcases hb with hb | hb; have e : g = b := (by simpa [Value.ownBlock] using hb); omega; exact absurd hb (by rintro (hb | ⟨p, hp, _⟩); simp [Value.ownBlock] at hb; simp at hp), (HK1.out.trans (hk2'.mono (fun _ _ e => e.elim))).alloc _, fun p hp => by simp at hp, (HR1.out.same hk2').same ((Kept.refl _ _).alloc _)⟩
  have hD : w.heap.size < w2.heap.size := by have := hk2.size; omega
  have HSM : Hid (s * 512 = s * 512) := rfl
  clear ho2 hk2 kN HS1 HK1 HR1
  obtain ⟨D, hDD⟩ : ∃ D, w2.heap.size = D := ⟨_, rfl⟩
  obtain ⟨n, hn⟩ : ∃ n, s * 512 = n := ⟨_, rfl⟩
  have HN := hid hn
  rw [hn] at HI2 ⊢
  have hn1 : n = 512 * s := by omega
  have HN1 := hid hn1
  clear hn hn1
  go_wp2_with fail
  generalize w2.alloc (.cells #[.slice (some ⟨g, 0, none⟩) n n, .slice none 0 0] 25) = w3 at HI2 ⊢
  rw [hDD] at HI2 hD
  clear hDD hz1w HSM hwr
  go_loopw [4] (fun i wr => ∃ (j k1 : Nat) (dur : List Int), j ≤ s ∧ i = .int .i64 (j : Int) ∧ k1 ≤ k + 1 + 2 * j ∧ Hid (dur.length = n) ∧ Hid (DkI w0 w wr B v cs k1 size D (.slice (some ⟨g, 0, none⟩) n n) (.slice none 0 0) dur [])) (fun i _ => s - (intOf i).toNat)
  case atStart => exact ⟨0, k + 1, _, Nat.zero_le _, rfl, by omega, by unfold Hid; rw [List.length_replicate], HI2⟩
  case round =>
    obtain ⟨j, k1, dur, hj, rfl, hk1, HL, HI⟩ := hrel
    have kS := l1Sectors_any (some ⟨g, 0, none⟩) n n none 0 0 wr (by unfold maxLen; have := HN1.out; omega)
    rw [show n / 512 = s from by have := HN1.out; omega] at kS
    obtain ⟨d0, d1⟩ := HI.out.box.all2
    by_cases hlt : j < s
    · go_wp2_with fail
      refine kS.mono ?_
      rintro e w4 ⟨rfl, hw4⟩
      have hk4 : Same wr w4 := by rw [hw4]; exact (Kept.refl _ _).alloc _
      clear hw4 kS d0 d1
      have HI4 := hid (HI.out.same hk4)
      clear hk4 HI
      go_wp2_with fail
      refine wp_region_V (fun wx : World => wx.cell? ⟨D, 0, none⟩ = some (.slice (some ⟨g, 0, none⟩) n n)) 99 8 rfl (by kernel_rfl) ?_
      generalize hwd : World.drew w4 = w5
      have hk5 : Same w4 w5 := by rw [← hwd]; exact (Kept.refl _ _).drew
      clear hwd
      have HI5 := hid (HI4.out.same hk5)
      clear hk5
      have hS : (fun wx : World => wx.cell? ⟨D, 0, none⟩ = some (.slice (some ⟨g, 0, none⟩) n n)) w5 := HI5.out.box.cell 0
      obtain ⟨lo, hlo⟩ : ∃ lo, j * 512 = lo := ⟨_, rfl⟩
      have hlon : lo + 512 ≤ n := by have := HN1.out; omega
      have hmul : IntKind.i64.wrap ((j : Int) * 512) = (lo : Int) := by rw [IntKind.wrap_i64]; omega
      have hl1 : (lo : Int) ≤ (n : Int) := by omega
      have hl2 : (0 : Int) ≤ (lo : Int) := by omega
      have hl3 : ¬ n = lo := by omega
      clear hlo
      refine tk 0 16 hS ?_
      refine tk 1 17 hS ?_
      refine tk 2 18 hS ?_
      refine tkV 3 19 (.int .i64 (lo : Int)) hS ?_
      refine tkV 4 20 (.slice (some ⟨g, lo, none⟩) (n - lo) (n - lo)) hS ?_
      refine tk 5 21 hS ?_
      refine wpAnyV_one (i := 6) (by kernel_rfl) rfl (fun K hK => ?_)
      go_simp
      refine (fill_k 3 HI5.out.src (by omega) (by omega)).mono ?_
      rintro e w6 ⟨g2, bs, rfl, hbl, _, ho6, hgB, hs6, hg2, hk6⟩
      have HI6 := hid (HI5.out.draw hBw hD hs6 hk6)
      have HO6 := hid ho6
      have hS : (fun wx : World => wx.cell? ⟨D, 0, none⟩ = some (.slice (some ⟨g, 0, none⟩) n n)) w6 := HI6.out.box.cell 0
      clear hs6 hk6 ho6
      go_wp2_with fail
      refine hK.out _ _ (fun _ => hS) ?_
      clear hK K
      try simp only [Act.put, sA, s0, sS]
      refine wpAnyV_one (i := 7) (by kernel_rfl) rfl (fun K hK => ?_)
      refine step_copy_own (base := 0) (by rfl) (.tmp 20) (.tmp 22) 22 (by rfl) Try.underlying22 hsz1 g lo n n (n - lo) g2 0 3 dur bs HI6.out.own.dur HL.out.symm (by rfl) (by rw [hbl]; rfl) (fun i hi => by rw [Nat.zero_add]; exact HO6.out.cell hbl.symm i (by omega)) (by rw [HL.out, hbl]; omega) ?_
      intro w7 ho7 hg7
      have HI7 := hid (HI6.out.durs hBw hD hw0 ho7 hg7)
      have HL7 := (show Hid ((putAt dur lo bs).length = n) from by unfold Hid; rw [putAt_length _ _ _ (by rw [HL.out, hbl]; omega)]; exact HL.out)
      refine hK.out _ _ (fun _ => HI7.out.box.cell 0) ?_
      clear hK K ho7 hg7
      refine wpAnyV_done (by kernel_rfl) ?_
      try simp only [Act.put, sA, s0, sS]
      go_wp2_with fail
      go_roundw
      case rel => exact ⟨j + 1, _, _, by omega, by go_num, by omega, HL7, HI7⟩
      case measure => simp [intOf]; omega
    · have hjs : s = j := by omega
      subst hjs
      go_wp2_with fail
      refine kS.mono ?_
      rintro e w4 ⟨rfl, hw4⟩
      have hk4 : Same wr w4 := by rw [hw4]; exact (Kept.refl _ _).alloc _
      clear hw4 kS d0 d1
      have HI4 := hid (HI.out.same hk4)
      clear hk4 HI
      have HLn := HL
      clear hj hlt
      go_wp2_with fail
      refine (next_k 7 HI4.out.src (by omega) (by constructor <;> decide)).mono ?_
      rintro e w5 ⟨q, rfl, hd, hs5', hk5⟩
      obtain ⟨hq1, hq2⟩ := hd.2 (by decide)
      have HI5 := hid (HI4.out.draw hBw hD hs5' hk5)
      obtain ⟨Q, rfl⟩ : ∃ Q : Nat, q = (Q : Int) := ⟨q.toNat, by omega⟩
      clear hd hs5' hk5 HI4
      go_wp2_with fail
      go_loopw [5] (fun i wr => ∃ (m k2 : Nat) (ps : List PW) (a4 : Option Addr) (c4 : Nat), m ≤ Q ∧ i = .int .i64 (m : Int) ∧ k2 ≤ k1 + 1 + 3 * (Q - m) ∧ ps.length = Q - m ∧ Hid (DkI w0 w wr B v cs k2 size D (.slice (some ⟨g, 0, none⟩) n n) (.slice a4 ps.length c4) dur ps)) (fun i _ => (intOf i).toNat)
      case atStart => exact ⟨Q, k1 + 1, [], none, 0, Nat.le_refl _, rfl, by omega, by simp, HI5⟩
      case round =>
        obtain ⟨m, k2, ps, a4, c4, hm, rfl, hk2, hpl, HI6⟩ := hrel
        have HPL := hid hpl
        have hQ7 : Q ≤ 6 := by omega
        cases m with
        | succ m =>
          have hpl6 : ps.length ≤ 6 := by omega
          have HPG := (show Hid (∀ wx : World, DkI w0 w wx B v cs k2 size D (.slice (some ⟨g, 0, none⟩) n n) (.slice a4 ps.length c4) dur ps → True) from fun _ _ => trivial)
          clear hpl HPG
          obtain ⟨pl, hpl'⟩ : ∃ pl, ps.length = pl := ⟨_, rfl⟩
          have HPQ := hid hpl'
          rw [hpl'] at HI6 hpl6
          clear hpl'
          go_wp2_with fail
          refine wp_region_V (fun wx : World => wx.cell? ⟨D, 0, none⟩ = some (.slice (some ⟨g, 0, none⟩) n n) ∧ wx.cell? ⟨D, 1, none⟩ = some (.slice a4 pl c4) ∧ wx.frozen? ⟨D, 1, none⟩ = false) 12 13 rfl (by kernel_rfl) ?_
          generalize hwd : World.drew wr = v0
          have hk0 : Same wr v0 := by rw [← hwd]; exact (Kept.refl _ _).drew
          clear hwd
          have HA0 := hid (HI6.out.same hk0)
          clear hk0
          have hS : (fun wx : World => wx.cell? ⟨D, 0, none⟩ = some (.slice (some ⟨g, 0, none⟩) n n) ∧ wx.cell? ⟨D, 1, none⟩ = some (.slice a4 pl c4) ∧ wx.frozen? ⟨D, 1, none⟩ = false) v0 := ⟨HA0.out.box.cell 0, HA0.out.box.cell 1, HA0.out.box.frozen 1⟩
          refine tk 0 30 hS ?_
          refine tk 1 31 hS ?_
          refine tk 2 32 hS ?_
          refine tk 3 33 hS ?_
          refine tk 6 36 hS ?_
          refine wpAnyV_one (i := 4) (by kernel_rfl) rfl (fun K hK => ?_)
          go_simp
          refine (l1Sectors_any (some ⟨g, 0, none⟩) n n a4 pl c4 _ (by unfold maxLen; have := HN1.out; omega)).mono ?_
          rintro e v1 ⟨rfl, hw1⟩
          have hk1' : Same v0 v1 := by rw [hw1]; exact (Kept.refl _ _).alloc _
          clear hw1
          have HA1 := hid (HA0.out.same hk1')
          clear hk1'
          rw [show n / 512 = s from by have := HN1.out; omega]
          have hS : (fun wx : World => wx.cell? ⟨D, 0, none⟩ = some (.slice (some ⟨g, 0, none⟩) n n) ∧ wx.cell? ⟨D, 1, none⟩ = some (.slice a4 pl c4) ∧ wx.frozen? ⟨D, 1, none⟩ = false) v1 := ⟨HA1.out.box.cell 0, HA1.out.box.cell 1, HA1.out.box.frozen 1⟩
          go_wp2_with fail
          refine hK.out _ _ (fun _ => hS) ?_
          clear hK K
          try simp only [Act.put, sA, s0, sS]
          refine wpAnyV_one (i := 5) (by kernel_rfl) rfl (fun K hK => ?_)
          go_simp
          refine (next_k (s : Int) HA1.out.src (by omega) (by constructor <;> omega)).mono ?_
          rintro e v2 ⟨rs, rfl, _, hs2, hk2'⟩
          have HA2 := hid (HA1.out.draw hBw hD hs2 hk2')
          clear hs2 hk2'
          have hS : (fun wx : World => wx.cell? ⟨D, 0, none⟩ = some (.slice (some ⟨g, 0, none⟩) n n) ∧ wx.cell? ⟨D, 1, none⟩ = some (.slice a4 pl c4) ∧ wx.frozen? ⟨D, 1, none⟩ = false) v2 := ⟨HA2.out.box.cell 0, HA2.out.box.cell 1, HA2.out.box.frozen 1⟩
          go_wp2_with fail
          refine hK.out _ _ (fun _ => hS) ?_
          clear hK K
          try simp only [Act.put, sA, s0, sS]
          refine wpAnyV_one (i := 7) (by kernel_rfl) rfl (fun K hK => ?_)
          go_simp
          refine (fill_k 512 HA2.out.src (by omega) (by omega)).mono ?_
          rintro e v3 ⟨g2, bs, rfl, hbl, _, ho3, hgB, hs3, hg2, hk3⟩
          have HA3 := hid (HA2.out.draw hBw hD hs3 hk3)
          have HO3 := (show Hid (Own 0 5 .u8 v3 (.slice (some ⟨g2, 0, none⟩) 512 512) bs) from ho3.mono (fun _ _ => Nat.zero_le _))
          have HF3 := (show Hid (w.heap.size < g2 ∧ ¬ g2 = D ∧ ¬ footD (.slice (some ⟨g, 0, none⟩) n n) (.slice a4 pl c4) ps g2) from ⟨by have h1 := HA2.out.kept.size; have h2 := HA2.out.res.lt; omega, fun e => by have h2 := HA2.out.box.lt; omega, fun hf => by have h2 := HA2.out.own.lt g2 hf; omega⟩)
          clear hs3 hk3 ho3
          have hS : (fun wx : World => wx.cell? ⟨D, 0, none⟩ = some (.slice (some ⟨g, 0, none⟩) n n) ∧ wx.cell? ⟨D, 1, none⟩ = some (.slice a4 pl c4) ∧ wx.frozen? ⟨D, 1, none⟩ = false) v3 := ⟨HA3.out.box.cell 0, HA3.out.box.cell 1, HA3.out.box.frozen 1⟩
          go_wp2_with fail
          refine hK.out _ _ (fun _ => hS) ?_
          clear hK K
          try simp only [Act.put, sA, s0, sS]
          refine tk 8 38 hS ?_
          refine wpAnyV_one (i := 9) (by kernel_rfl) rfl (fun K hK => ?_)
          go_simp
          have HA4 := hid (HA3.out.same ((Kept.refl _ _).alloc (.cells #[.int .i64 rs, .slice (some ⟨g2, 0, none⟩) 512 512] 40)))
          have hS : (fun wx : World => wx.cell? ⟨D, 0, none⟩ = some (.slice (some ⟨g, 0, none⟩) n n) ∧ wx.cell? ⟨D, 1, none⟩ = some (.slice a4 pl c4) ∧ wx.frozen? ⟨D, 1, none⟩ = false) (v3.alloc (.cells #[.int .i64 rs, .slice (some ⟨g2, 0, none⟩) 512 512] 40)) := ⟨HA4.out.box.cell 0, HA4.out.box.cell 1, HA4.out.box.frozen 1⟩
          refine hK.out _ _ (fun _ => hS) ?_
          clear hK K
          try simp only [Act.put, sA, s0, sS]
          have HKO := (show Hid ((v3.alloc (.cells #[.int .i64 rs, .slice (some ⟨g2, 0, none⟩) 512 512] 40)).ownsRow 0 40 2 (.slice a4 pl c4) pl (pwCells ps)) from by have h := HA4.out.own.pend.row; rw [HPQ.out] at h; exact h)
          refine wpAnyV_one (i := 10) (by kernel_rfl) rfl (fun K hK => ?_)
          refine step_append_lies _ (by rfl) (.tmp 31) (.tmp 39) 23 (by rfl) 0 40 i0 _ 2 32 Try.underlying23 hi hz0 hz1 hz2 rfl (by omega) (.slice a4 pl c4) pl (pwCells ps) (by rfl) (by exact HKO.out) ⟨v3.heap.size, 0, none⟩ 1 1 [.int .i64 rs, .slice (some ⟨g2, 0, none⟩) 512 512] (by rfl) (by rfl) (World.news_of_block (cs := #[.int .i64 rs, .slice (some ⟨g2, 0, none⟩) 512 512]) (t := 40) (fr := (0, 0)) (heap_alloc_new v3 _)) (by simp [Value.oneCell']) (by omega) (by unfold maxLen; omega) (by omega) (Nat.zero_le _) (v3.heap.size + 1) (by simp) ?_
          intro g6 cap6 v4 hown6 hgrow6 hat6 hlt6
          have HA5 := HA3
          have HIE := (show Hid (DkI w0 w (v4.setCell ⟨D, 1, none⟩ (.slice (some ⟨g6, 0, none⟩) (pl + 1) cap6)) B v cs _ size D (.slice (some ⟨g, 0, none⟩) n n) (.slice (some ⟨g6, 0, none⟩) (pl + 1) cap6) dur (ps ++ [⟨rs, .slice (some ⟨g2, 0, none⟩) 512 512, bs⟩])) from by
            have hA := HA3.out
            have hO := hown6
            rw [← HPQ.out] at hA hO ⊢
            exact hA.pend hBw hD hA.box.lt hw0 HO3.out (by omega) (fun b hb => by have e : g2 = b := (by simpa [Value.ownBlock] using hb); subst e; have h := HF3.out; rw [← HPQ.out] at h; exact h) (by rw [← HPQ.out] at hgrow6; exact hgrow6) hO (by rw [← HPQ.out] at hat6; exact hat6))
          have hk6 : Kept (fun b => (Value.slice a4 pl c4).ownBlock = some b) v3 v4 := ((Kept.refl _ _).alloc _).trans (Kept.of_grown hgrow6 (fun k e => e))
          have hbx := HA3.out.box.kept hk6 (fun e => (HA3.out.new D (.inr (.inl e))).2 rfl)
          have hS : (fun wx : World => wx.cell? ⟨D, 0, none⟩ = some (.slice (some ⟨g, 0, none⟩) n n) ∧ wx.cell? ⟨D, 1, none⟩ = some (.slice a4 pl c4) ∧ wx.frozen? ⟨D, 1, none⟩ = false) v4 := ⟨hbx.cell 0, hbx.cell 1, hbx.frozen 1⟩
          clear hown6 hgrow6 hat6 hlt6 hk6
          refine hK.out _ _ (fun _ => hS) ?_
          clear hK K
          try simp only [Act.put, sA, s0, sS]
          refine tk 11 41 hS ?_
          have zc := hbx.cell 1
          have zf := hbx.frozen 1
          refine wpAnyV_one (i := 12) (by kernel_rfl) rfl (fun K hK => ?_)
          go_simp
          refine hK.out _ _ (fun h => absurd rfl h) ?_
          clear hK K
          refine wpAnyV_done (by kernel_rfl) ?_
          try simp only [Act.put, sA, s0, sS]
          clear hbx zc zf hS
          generalize v4.setCell ⟨D, 1, none⟩ (.slice (some ⟨g6, 0, none⟩) (pl + 1) cap6) = v5 at HIE ⊢
          go_wp2_with fail
          go_roundw
          case rel => exact ⟨m, k2 + 3, ps ++ [⟨rs, .slice (some ⟨g2, 0, none⟩) 512 512, bs⟩], some ⟨g6, 0, none⟩, cap6, by omega, by go_num, by omega, by have h1 := HPL.out; rw [List.length_append, List.length_singleton]; omega, by have h := HIE; rw [show pl + 1 = (ps ++ [(⟨rs, .slice (some ⟨g2, 0, none⟩) 512 512, bs⟩ : PW)]).length from by rw [List.length_append, List.length_singleton, HPQ.out]] at h; exact h⟩
          case measure => simp [intOf]
        | zero =>
          have HPL0 := hid hpl
          clear hpl
          obtain ⟨pl, hpl'⟩ : ∃ pl, ps.length = pl := ⟨_, rfl⟩
          have HPQ := hid hpl'
          rw [hpl'] at HI6
          clear hpl'
          have hpl7 : pl ≤ 6 := by have h1 := HPL0.out; have h2 := HPQ.out; omega
          have hk24 : k2 ≤ k + 31 := by omega
          go_wp2_with fail
          refine (next_k 24 HI6.out.src (by omega) (by constructor <;> decide)).mono ?_
          rintro e w7 ⟨z, rfl, hd, hs7, hk7⟩
          have HI7 := hid (HI6.out.draw hBw hD hs7 hk7)
          clear hd hs7 hk7 HI6 HI5
          obtain ⟨d0, d1⟩ := HI7.out.box.all2
          have fb := HI7.out.box.frozen
          have lb := HI7.out.box.lt
          obtain ⟨r0, r1⟩ := HI7.out.res.all2
          have fr := HI7.out.res.frozen
          have lr := HI7.out.res.lt
          have hn1 := HN1.out
          by_cases z0 : z = 0
          · subst z0
            have hcap : ¬ n = 1 := by omega
            have h1n : (1 : Int) ≤ (n : Int) := by omega
            have hkD : Kept (fun b => b = D) w7 (w7.setCell ⟨D, 0, none⟩ (.slice (some ⟨g, 1, none⟩) (n - 1) (n - 1))) := (Kept.refl (fun b => b = D) w7).setCell (p := ⟨D, 0, none⟩) (.inr rfl) _
            have HE := hid (dk_end (dv := .slice (some ⟨g, 1, none⟩) (n - 1) (n - 1)) (pv := .slice a4 pl c4) (dur := (dur.drop 1).take (n - 1)) (ps := ps) hBw hw0 (HI7.out.src.on hkD (fun e => by omega) (fun i hi e => by omega)) ⟨by
                have h := Rd.part (k := .u8) (w := w7.setCell ⟨D, 0, none⟩ (.slice (some ⟨g, 1, none⟩) (n - 1) (n - 1))) (b := g) (off := 0) (n := n - 1) (c := n - 1) (bs := dur) (fun i hi => by rw [Nat.zero_add]; exact hkD.cellOf (HI7.out.own.dur.cell HLn.out.symm i (by rw [← HLn.out]; exact hi)) (fun e => (HI7.out.new g (.inl rfl)).2 e)) 1 (n - 1) (by rw [HLn.out]; omega) rfl (Nat.le_refl _) (by unfold maxLen; omega)
                rw [Nat.zero_add] at h
                exact h, HI7.out.own.pend.rd.kept hkD (fun b hb e => (HI7.out.new b (.inr hb)).2 e)⟩ (fun b hb => (HI7.out.new b hb).1) (fun b hb => Nat.lt_of_lt_of_le (HI7.out.own.lt b hb).2 hkD.size) (HI7.out.kept.next hkD (fun i hi e => by omega)))
            clear hn1
            go_wp2
            refine bodyPost_ret (v := .agg #[.slice (some ⟨g, 1, none⟩) (n - 1) (n - 1), .slice a4 pl c4]) (by simp [results, Try.results47, go_sem, r0, r1]) rfl ⟨_, _, _, ps, _, rfl, ?_, by have := HPQ.out; omega, HI7.out.len, HE.out.1, HE.out.2.2.2, by omega, HE.out.2.1, HE.out.2.2.1⟩
            rw [List.length_take]
            have := HN1.out
            omega
          by_cases z1 : z = 1
          · subst z1
            clear d0 d1 fb lb r0 r1 fr lr hn1
            go_wp2_with fail
            refine wp_region_V (fun wx : World => wx.cell? ⟨D, 0, none⟩ = some (.slice (some ⟨g, 0, none⟩) n n) ∧ wx.cell? ⟨D, 1, none⟩ = some (.slice a4 pl c4) ∧ wx.frozen? ⟨D, 1, none⟩ = false) 10 11 rfl (by kernel_rfl) ?_
            generalize hwd : World.drew w7 = v0
            have hk0 : Same w7 v0 := by rw [← hwd]; exact (Kept.refl _ _).drew
            clear hwd
            have HA0 := hid (HI7.out.same hk0)
            clear hk0
            have hS : (fun wx : World => wx.cell? ⟨D, 0, none⟩ = some (.slice (some ⟨g, 0, none⟩) n n) ∧ wx.cell? ⟨D, 1, none⟩ = some (.slice a4 pl c4) ∧ wx.frozen? ⟨D, 1, none⟩ = false) v0 := ⟨HA0.out.box.cell 0, HA0.out.box.cell 1, HA0.out.box.frozen 1⟩
            refine tk 0 52 hS ?_
            refine tk 1 53 hS ?_
            refine tk 2 54 hS ?_
            refine tk 4 56 hS ?_
            refine wpAnyV_one (i := 3) (by kernel_rfl) rfl (fun K hK => ?_)
            go_simp
            refine (l1Sectors_any (some ⟨g, 0, none⟩) n n a4 pl c4 _ (by unfold maxLen; have := HN1.out; omega)).mono ?_
            rintro e v1 ⟨rfl, hw1⟩
            have hk1' : Same v0 v1 := by rw [hw1]; exact (Kept.refl _ _).alloc _
            clear hw1
            have HA1 := hid (HA0.out.same hk1')
            clear hk1'
            rw [show n / 512 = s from by have := HN1.out; omega]
            have hS : (fun wx : World => wx.cell? ⟨D, 0, none⟩ = some (.slice (some ⟨g, 0, none⟩) n n) ∧ wx.cell? ⟨D, 1, none⟩ = some (.slice a4 pl c4) ∧ wx.frozen? ⟨D, 1, none⟩ = false) v1 := ⟨HA1.out.box.cell 0, HA1.out.box.cell 1, HA1.out.box.frozen 1⟩
            go_wp2_with fail
            refine hK.out _ _ (fun _ => hS) ?_
            clear hK K
            try simp only [Act.put, sA, s0, sS]
            refine wpAnyV_one (i := 5) (by kernel_rfl) rfl (fun K hK => ?_)
            go_simp
            refine (fill_k 512 HA1.out.src (by omega) (by omega)).mono ?_
            rintro e v3 ⟨g2, bs, rfl, hbl, _, ho3, hgB, hs3, hg2, hk3⟩
            have HA3 := hid (HA1.out.draw hBw hD hs3 hk3)
            have HO3 := (show Hid (Own 0 5 .u8 v3 (.slice (some ⟨g2, 0, none⟩) 512 512) bs) from ho3.mono (fun _ _ => Nat.zero_le _))
            have HF3 := (show Hid (w.heap.size < g2 ∧ ¬ g2 = D ∧ ¬ footD (.slice (some ⟨g, 0, none⟩) n n) (.slice a4 pl c4) ps g2) from ⟨by have h1 := HA1.out.kept.size; have h2 := HA1.out.res.lt; omega, fun e => by have h2 := HA1.out.box.lt; omega, fun hf => by have h2 := HA1.out.own.lt g2 hf; omega⟩)
            clear hs3 hk3 ho3
            have hS : (fun wx : World => wx.cell? ⟨D, 0, none⟩ = some (.slice (some ⟨g, 0, none⟩) n n) ∧ wx.cell? ⟨D, 1, none⟩ = some (.slice a4 pl c4) ∧ wx.frozen? ⟨D, 1, none⟩ = false) v3 := ⟨HA3.out.box.cell 0, HA3.out.box.cell 1, HA3.out.box.frozen 1⟩
            go_wp2_with fail
            refine hK.out _ _ (fun _ => hS) ?_
            clear hK K
            try simp only [Act.put, sA, s0, sS]
            refine tk 6 58 hS ?_
            refine wpAnyV_one (i := 7) (by kernel_rfl) rfl (fun K hK => ?_)
            go_simp
            have HA4 := hid (HA3.out.same ((Kept.refl _ _).alloc (.cells #[.int .i64 (s : Int), .slice (some ⟨g2, 0, none⟩) 512 512] 40)))
            have hS : (fun wx : World => wx.cell? ⟨D, 0, none⟩ = some (.slice (some ⟨g, 0, none⟩) n n) ∧ wx.cell? ⟨D, 1, none⟩ = some (.slice a4 pl c4) ∧ wx.frozen? ⟨D, 1, none⟩ = false) (v3.alloc (.cells #[.int .i64 (s : Int), .slice (some ⟨g2, 0, none⟩) 512 512] 40)) := ⟨HA4.out.box.cell 0, HA4.out.box.cell 1, HA4.out.box.frozen 1⟩
            refine hK.out _ _ (fun _ => hS) ?_
            clear hK K
            try simp only [Act.put, sA, s0, sS]
            have HKO := (show Hid ((v3.alloc (.cells #[.int .i64 (s : Int), .slice (some ⟨g2, 0, none⟩) 512 512] 40)).ownsRow 0 40 2 (.slice a4 pl c4) pl (pwCells ps)) from by have h := HA4.out.own.pend.row; rw [HPQ.out] at h; exact h)
            refine wpAnyV_one (i := 8) (by kernel_rfl) rfl (fun K hK => ?_)
            refine step_append_lies _ (by rfl) (.tmp 53) (.tmp 59) 23 (by rfl) 0 40 i0 _ 2 32 Try.underlying23 hi hz0 hz1 hz2 rfl (by omega) (.slice a4 pl c4) pl (pwCells ps) (by rfl) (by exact HKO.out) ⟨v3.heap.size, 0, none⟩ 1 1 [.int .i64 (s : Int), .slice (some ⟨g2, 0, none⟩) 512 512] (by rfl) (by rfl) (World.news_of_block (cs := #[.int .i64 (s : Int), .slice (some ⟨g2, 0, none⟩) 512 512]) (t := 40) (fr := (0, 0)) (heap_alloc_new v3 _)) (by simp [Value.oneCell']) (by omega) (by unfold maxLen; omega) (by omega) (Nat.zero_le _) (v3.heap.size + 1) (by simp) ?_
            intro g6 cap6 v4 hown6 hgrow6 hat6 hlt6
            have HA5 := HA3
            have HIE := (show Hid (DkI w0 w (v4.setCell ⟨D, 1, none⟩ (.slice (some ⟨g6, 0, none⟩) (pl + 1) cap6)) B v cs _ size D (.slice (some ⟨g, 0, none⟩) n n) (.slice (some ⟨g6, 0, none⟩) (pl + 1) cap6) dur (ps ++ [⟨(s : Int), .slice (some ⟨g2, 0, none⟩) 512 512, bs⟩])) from by
              have hA := HA3.out
              have hO := hown6
              rw [← HPQ.out] at hA hO ⊢
              exact hA.pend hBw hD hA.box.lt hw0 HO3.out (by omega) (fun b hb => by have e : g2 = b := (by simpa [Value.ownBlock] using hb); subst e; have h := HF3.out; rw [← HPQ.out] at h; exact h) (by rw [← HPQ.out] at hgrow6; exact hgrow6) hO (by rw [← HPQ.out] at hat6; exact hat6))
            have hk6 : Kept (fun b => (Value.slice a4 pl c4).ownBlock = some b) v3 v4 := ((Kept.refl _ _).alloc _).trans (Kept.of_grown hgrow6 (fun k e => e))
            have hbx := HA3.out.box.kept hk6 (fun e => (HA3.out.new D (.inr (.inl e))).2 rfl)
            have hS : (fun wx : World => wx.cell? ⟨D, 0, none⟩ = some (.slice (some ⟨g, 0, none⟩) n n) ∧ wx.cell? ⟨D, 1, none⟩ = some (.slice a4 pl c4) ∧ wx.frozen? ⟨D, 1, none⟩ = false) v4 := ⟨hbx.cell 0, hbx.cell 1, hbx.frozen 1⟩
            clear hown6 hgrow6 hat6 hlt6 hk6
            refine hK.out _ _ (fun _ => hS) ?_
            clear hK K
            try simp only [Act.put, sA, s0, sS]
            refine tk 9 61 hS ?_
            have zc := hbx.cell 1
            have zf := hbx.frozen 1
            refine wpAnyV_one (i := 10) (by kernel_rfl) rfl (fun K hK => ?_)
            go_simp
            refine hK.out _ _ (fun h => absurd rfl h) ?_
            clear hK K
            refine wpAnyV_done (by kernel_rfl) ?_
            try simp only [Act.put, sA, s0, sS]
            clear hbx zc zf hS
            generalize v4.setCell ⟨D, 1, none⟩ (.slice (some ⟨g6, 0, none⟩) (pl + 1) cap6) = v5 at HIE ⊢
            obtain ⟨d0, d1⟩ := HIE.out.box.all2
            obtain ⟨r0, r1⟩ := HIE.out.res.all2
            have fr := HIE.out.res.frozen
            have lr := HIE.out.res.lt
            have HE := hid (dk_end hBw hw0 HIE.out.src HIE.out.own.rd (fun b hb => (HIE.out.new b hb).1) (fun b hb => (HIE.out.own.lt b hb).2) HIE.out.kept)
            go_wp2
            refine bodyPost_ret (v := .agg #[.slice (some ⟨g, 0, none⟩) n n, .slice (some ⟨g6, 0, none⟩) (pl + 1) cap6]) (by simp [results, Try.results47, go_sem, r0, r1]) rfl ⟨_, _, dur, ps ++ [⟨(s : Int), .slice (some ⟨g2, 0, none⟩) 512 512, bs⟩], _, rfl, by rw [HLn.out]; have := HN1.out; omega, ?_, HIE.out.len, HE.out.1, HE.out.2.2.2, ?_, HE.out.2.1, HE.out.2.2.1⟩
            · rw [List.length_append, List.length_singleton, HPQ.out]; omega
            · omega
          by_cases z2 : z = 2
          · subst z2
            clear d0 d1 fb lb r0 r1 fr lr hn1
            go_wp2_with fail
            refine wp_region_V (fun wx : World => wx.cell? ⟨D, 0, none⟩ = some (.slice (some ⟨g, 0, none⟩) n n) ∧ wx.cell? ⟨D, 1, none⟩ = some (.slice a4 pl c4) ∧ wx.frozen? ⟨D, 1, none⟩ = false) 8 9 rfl (by kernel_rfl) ?_
            generalize hwd : World.drew w7 = v0
            have hk0 : Same w7 v0 := by rw [← hwd]; exact (Kept.refl _ _).drew
            clear hwd
            have HA0 := hid (HI7.out.same hk0)
            clear hk0
            have hS : (fun wx : World => wx.cell? ⟨D, 0, none⟩ = some (.slice (some ⟨g, 0, none⟩) n n) ∧ wx.cell? ⟨D, 1, none⟩ = some (.slice a4 pl c4) ∧ wx.frozen? ⟨D, 1, none⟩ = false) v0 := ⟨HA0.out.box.cell 0, HA0.out.box.cell 1, HA0.out.box.frozen 1⟩
            refine tk 0 64 hS ?_
            refine tk 1 65 hS ?_
            refine tk 2 66 hS ?_
            refine wpAnyV_one (i := 3) (by kernel_rfl) rfl (fun K hK => ?_)
            go_simp
            refine (fill_k 511 HA0.out.src (by omega) (by omega)).mono ?_
            rintro e v3 ⟨g2, bs, rfl, hbl, _, ho3, hgB, hs3, hg2, hk3⟩
            have HA3 := hid (HA0.out.draw hBw hD hs3 hk3)
            have HO3 := (show Hid (Own 0 5 .u8 v3 (.slice (some ⟨g2, 0, none⟩) 511 511) bs) from ho3.mono (fun _ _ => Nat.zero_le _))
            have HF3 := (show Hid (w.heap.size < g2 ∧ ¬ g2 = D ∧ ¬ footD (.slice (some ⟨g, 0, none⟩) n n) (.slice a4 pl c4) ps g2) from ⟨by have h1 := HA0.out.kept.size; have h2 := HA0.out.res.lt; omega, fun e => by have h2 := HA0.out.box.lt; omega, fun hf => by have h2 := HA0.out.own.lt g2 hf; omega⟩)
            clear hs3 hk3 ho3
            have hS : (fun wx : World => wx.cell? ⟨D, 0, none⟩ = some (.slice (some ⟨g, 0, none⟩) n n) ∧ wx.cell? ⟨D, 1, none⟩ = some (.slice a4 pl c4) ∧ wx.frozen? ⟨D, 1, none⟩ = false) v3 := ⟨HA3.out.box.cell 0, HA3.out.box.cell 1, HA3.out.box.frozen 1⟩
            go_wp2_with fail
            refine hK.out _ _ (fun _ => hS) ?_
            clear hK K
            try simp only [Act.put, sA, s0, sS]
            refine tk 4 68 hS ?_
            refine wpAnyV_one (i := 5) (by kernel_rfl) rfl (fun K hK => ?_)
            go_simp
            have HA4 := hid (HA3.out.same ((Kept.refl _ _).alloc (.cells #[.int .i64 0, .slice (some ⟨g2, 0, none⟩) 511 511] 40)))
            have hS : (fun wx : World => wx.cell? ⟨D, 0, none⟩ = some (.slice (some ⟨g, 0, none⟩) n n) ∧ wx.cell? ⟨D, 1, none⟩ = some (.slice a4 pl c4) ∧ wx.frozen? ⟨D, 1, none⟩ = false) (v3.alloc (.cells #[.int .i64 0, .slice (some ⟨g2, 0, none⟩) 511 511] 40)) := ⟨HA4.out.box.cell 0, HA4.out.box.cell 1, HA4.out.box.frozen 1⟩
            refine hK.out _ _ (fun _ => hS) ?_
            clear hK K
            try simp only [Act.put, sA, s0, sS]
            have HKO := (show Hid ((v3.alloc (.cells #[.int .i64 0, .slice (some ⟨g2, 0, none⟩) 511 511] 40)).ownsRow 0 40 2 (.slice a4 pl c4) pl (pwCells ps)) from by have h := HA4.out.own.pend.row; rw [HPQ.out] at h; exact h)
            refine wpAnyV_one (i := 6) (by kernel_rfl) rfl (fun K hK => ?_)
            refine step_append_lies _ (by rfl) (.tmp 65) (.tmp 69) 23 (by rfl) 0 40 i0 _ 2 32 Try.underlying23 hi hz0 hz1 hz2 rfl (by omega) (.slice a4 pl c4) pl (pwCells ps) (by rfl) (by exact HKO.out) ⟨v3.heap.size, 0, none⟩ 1 1 [.int .i64 0, .slice (some ⟨g2, 0, none⟩) 511 511] (by rfl) (by rfl) (World.news_of_block (cs := #[.int .i64 0, .slice (some ⟨g2, 0, none⟩) 511 511]) (t := 40) (fr := (0, 0)) (heap_alloc_new v3 _)) (by simp [Value.oneCell']) (by omega) (by unfold maxLen; omega) (by omega) (Nat.zero_le _) (v3.heap.size + 1) (by simp) ?_
            intro g6 cap6 v4 hown6 hgrow6 hat6 hlt6
            have HA5 := HA3
            have HIE := (show Hid (DkI w0 w (v4.setCell ⟨D, 1, none⟩ (.slice (some ⟨g6, 0, none⟩) (pl + 1) cap6)) B v cs _ size D (.slice (some ⟨g, 0, none⟩) n n) (.slice (some ⟨g6, 0, none⟩) (pl + 1) cap6) dur (ps ++ [⟨0, .slice (some ⟨g2, 0, none⟩) 511 511, bs⟩])) from by
              have hA := HA3.out
              have hO := hown6
              rw [← HPQ.out] at hA hO ⊢
              exact hA.pend hBw hD hA.box.lt hw0 HO3.out (by omega) (fun b hb => by have e : g2 = b := (by simpa [Value.ownBlock] using hb); subst e; have h := HF3.out; rw [← HPQ.out] at h; exact h) (by rw [← HPQ.out] at hgrow6; exact hgrow6) hO (by rw [← HPQ.out] at hat6; exact hat6))
            have hk6 : Kept (fun b => (Value.slice a4 pl c4).ownBlock = some b) v3 v4 := ((Kept.refl _ _).alloc _).trans (Kept.of_grown hgrow6 (fun k e => e))
            have hbx := HA3.out.box.kept hk6 (fun e => (HA3.out.new D (.inr (.inl e))).2 rfl)
            have hS : (fun wx : World => wx.cell? ⟨D, 0, none⟩ = some (.slice (some ⟨g, 0, none⟩) n n) ∧ wx.cell? ⟨D, 1, none⟩ = some (.slice a4 pl c4) ∧ wx.frozen? ⟨D, 1, none⟩ = false) v4 := ⟨hbx.cell 0, hbx.cell 1, hbx.frozen 1⟩
            clear hown6 hgrow6 hat6 hlt6 hk6
            refine hK.out _ _ (fun _ => hS) ?_
            clear hK K
            try simp only [Act.put, sA, s0, sS]
            refine tk 7 71 hS ?_
            have zc := hbx.cell 1
            have zf := hbx.frozen 1
            refine wpAnyV_one (i := 8) (by kernel_rfl) rfl (fun K hK => ?_)
            go_simp
            refine hK.out _ _ (fun h => absurd rfl h) ?_
            clear hK K
            refine wpAnyV_done (by kernel_rfl) ?_
            try simp only [Act.put, sA, s0, sS]
            clear hbx zc zf hS
            generalize v4.setCell ⟨D, 1, none⟩ (.slice (some ⟨g6, 0, none⟩) (pl + 1) cap6) = v5 at HIE ⊢
            obtain ⟨d0, d1⟩ := HIE.out.box.all2
            obtain ⟨r0, r1⟩ := HIE.out.res.all2
            have fr := HIE.out.res.frozen
            have lr := HIE.out.res.lt
            have HE := hid (dk_end hBw hw0 HIE.out.src HIE.out.own.rd (fun b hb => (HIE.out.new b hb).1) (fun b hb => (HIE.out.own.lt b hb).2) HIE.out.kept)
            go_wp2
            refine bodyPost_ret (v := .agg #[.slice (some ⟨g, 0, none⟩) n n, .slice (some ⟨g6, 0, none⟩) (pl + 1) cap6]) (by simp [results, Try.results47, go_sem, r0, r1]) rfl ⟨_, _, dur, ps ++ [⟨0, .slice (some ⟨g2, 0, none⟩) 511 511, bs⟩], _, rfl, by rw [HLn.out]; have := HN1.out; omega, ?_, HIE.out.len, HE.out.1, HE.out.2.2.2, ?_, HE.out.2.1, HE.out.2.2.1⟩
            · rw [List.length_append, List.length_singleton, HPQ.out]; omega
            · omega
          by_cases z3 : z = 3
          · subst z3
            have hkD : Kept (fun b => b = D) w7 (w7.setCell ⟨D, 0, none⟩ (.slice none 0 0)) := (Kept.refl (fun b => b = D) w7).setCell (p := ⟨D, 0, none⟩) (.inr rfl) _
            have HE := hid (dk_end (dv := .slice none 0 0) (pv := .slice a4 pl c4) (dur := []) (ps := ps) hBw hw0 (HI7.out.src.on hkD (fun e => by omega) (fun i hi e => by omega)) ⟨⟨Nat.zero_le _, .inl ⟨rfl, none, 0, rfl, fun _ => rfl⟩⟩, HI7.out.own.pend.rd.kept hkD (fun b hb e => (HI7.out.new b (.inr hb)).2 e)⟩ (fun b hb => by rcases hb with hb | hb; simp [Value.ownBlock] at hb; exact (HI7.out.new b (.inr hb)).1) (fun b hb => by rcases hb with hb | hb; simp [Value.ownBlock] at hb; exact Nat.lt_of_lt_of_le (HI7.out.own.lt b (.inr hb)).2 hkD.size) (HI7.out.kept.next hkD (fun i hi e => by omega)))
            clear hn1
            go_wp2
            exact bodyPost_ret (v := .agg #[.slice none 0 0, .slice a4 pl c4]) (by simp [results, Try.results47, go_sem, r0, r1]) rfl ⟨_, _, _, ps, _, rfl, by simp, by have := HPQ.out; omega, HI7.out.len, HE.out.1, HE.out.2.2.2, by omega, HE.out.2.1, HE.out.2.2.1⟩
          have y0 : (z == 0) = false := by simp [z0]
          have y1 : (z == 1) = false := by simp [z1]
          have y2 : (z == 2) = false := by simp [z2]
          have y3 : (z == 3) = false := by simp [z3]
          have HE := hid (dk_end hBw hw0 HI7.out.src HI7.out.own.rd (fun b hb => (HI7.out.new b hb).1) (fun b hb => (HI7.out.own.lt b hb).2) HI7.out.kept)
          clear hn1
          go_wp2
          exact bodyPost_ret (v := .agg #[.slice (some ⟨g, 0, none⟩) n n, .slice a4 pl c4]) (by simp [results, Try.results47, go_sem, r0, r1]) rfl ⟨_, _, _, ps, _, rfl, by rw [HLn.out]; have := HN1.out; omega, by have := HPQ.out; omega, HI7.out.len, HE.out.1, HE.out.2.2.2, by omega, HE.out.2.1, HE.out.2.2.1⟩
end Go.Proofs.Ytfhdkbibcndmjaa

namespace Go.Proofs.Ytfhdkbibcndmjaa
open Go.RowKit
set_option linter.unusedVariables false
set_option linter.unusedSimpArgs false
variable {E : Type}
section
variable {K : RowK E} {base : Nat} {tw tb : TypeId} {w w' : World} {v : Value} {qs : List E}
theorem OwnR.snoc {g n cap : Nat} (p : E) (h : OwnR K base tw tb w v qs) (hu : Own base tb .u8 w (K.v p) (K.bs p)) (huf : ∀ b, (K.v p).ownBlock = some b → ¬ footR K v qs b)
    (hg : w.grownBy w' v.ownBlock) (hrow : w'.ownsRow base tw K.m (.slice (some ⟨g, 0, none⟩) (n + 1) cap) (n + 1) (K.all qs ++ K.cells p)) (hn : n = qs.length) (hat : v.ownBlock = some g ∨ g = w.heap.size) :
    OwnR K base tw tb w' (.slice (some ⟨g, 0, none⟩) (n + 1) cap) (qs ++ [p]) := by
  have hk : Kept (fun b => v.ownBlock = some b) w w' := Kept.of_grown hg (fun k e => e)
  have hul : ∀ b, (K.v p).ownBlock = some b → b < w.heap.size := fun b hb => (hu.lt b hb).2
  have hgu : (K.v p).ownBlock ≠ some g := fun e => by
    rcases hat with hat | hat
    · exact huf g e (.inl hat)
    · have := hul g e; omega
  have hgp : ∀ q ∈ qs, (K.v q).ownBlock ≠ some g := fun q hp e => by
    rcases hat with hat | hat
    · exact h.out (K.v q) (List.mem_map_of_mem hp) g hat e
    · have := (h.lt g (.inr ⟨q, hp, e⟩)).2; omega
  refine ⟨?_, fun q hp => ?_, fun x hx => ?_, ?_⟩
  · have e : K.all (qs ++ [p]) = K.all qs ++ K.cells p := by rw [K.all_append]; simp [RowK.all]
    rw [e, List.length_append, List.length_singleton, ← hn]
    exact hrow
  · rcases List.mem_append.1 hp with hp | hp
    · exact (h.data q hp).kept hk (fun b hb e => h.out (K.v q) (List.mem_map_of_mem hp) b e hb)
    · simp at hp
      subst hp
      exact hu.kept hk (fun b hb e => huf b hb (.inl e))
  · rw [List.map_append, List.mem_append] at hx
    intro b hb
    have hb' : b = g := by simpa [Value.ownBlock] using hb.symm
    subst hb'
    rcases hx with hx | hx
    · obtain ⟨q, hp, rfl⟩ := List.mem_map.1 hx
      exact hgp q hp
    · simp at hx
      subst hx
      exact hgu
  · rw [List.map_append]
    refine List.pairwise_append.2 ⟨h.each, by simp, fun x hx y hy => ?_⟩
    obtain ⟨q, hp, rfl⟩ := List.mem_map.1 hx
    simp at hy
    subst hy
    exact fun b hb hb' => huf b hb' (.inr ⟨q, hp, hb⟩)
theorem footR_snoc {g n cap : Nat} {p : E} (b : Nat) (hb : footR K (.slice (some ⟨g, 0, none⟩) n cap) (qs ++ [p]) b) : b = g ∨ footR K v qs b ∨ (K.v p).ownBlock = some b := by
  rcases hb with hb | ⟨q, hp, hb⟩
  · exact .inl (by simpa [Value.ownBlock] using hb.symm)
  · rcases List.mem_append.1 hp with hp | hp
    · exact .inr (.inl (.inr ⟨q, hp, hb⟩))
    · simp at hp
      subst hp
      exact .inr (.inr hb)
end
end Go.Proofs.Ytfhdkbibcndmjaa

namespace Go.Proofs.Ytfhdkbibcndmjaa
set_option maxRecDepth 100000
set_option maxHeartbeats 8000000
open Go.RowKit
set_option linter.unusedVariables false
set_option linter.unusedSimpArgs false
theorem chance2_k {w0 w : World} {B : Nat} {v : Value} {cs : List Int} {k : Nat} {size : Int} (n : Int) (h : SrcR w0 w B v cs k size) (hk : k ≤ 1073741824) (hn : IsI n) :
    Calls Try.prog 84 #[.pointer (some ⟨B, 0, none⟩), .int .i64 n] w fun e w' => ∃ b, e = .returned (.bool b) ∧ SrcR w0 w' B v cs (k + 1) size ∧ Kept (fun b => b = B) w w' := by
  have k0 := next_k n h hk hn
  clear h
  go_enter Try.func84, Try.ntmps84
  go_wp2_with fail
  refine k0.mono ?_
  rintro e w1 ⟨r, rfl, hd, hs, hk1⟩
  have HS := hid hs
  have HK := hid hk1
  clear k0 hs hk1
  go_wp2
  go_ret
  exact ⟨_, rfl, HS.out, HK.out⟩
def OpR (w0 w w' : World) (B : Nat) (v : Value) (cs : List Int) (k : Nat) (size : Int) (e : Ending) : Prop :=
  ∃ (kind sec : Int) (a : Option Addr) (n c : Nat) (bs : List Int) (k' : Nat), e = .returned (.agg #[.int .i64 kind, .int .i64 sec, .slice a n c]) ∧ bs.length ≤ 512 ∧ Own 0 5 .u8 w' (.slice a n c) bs ∧ (∀ b, (Value.slice a n c).ownBlock = some b → w.heap.size < b) ∧ k' ≤ k + 5 ∧ SrcR w0 w' B v cs k' size ∧ Kept (fun b => b = B) w w'
theorem op_end {w0 w wr : World} {B : Nat} {v : Value} {cs : List Int} {k k' : Nat} {size : Int} {kind sec : Int} {a : Option Addr} {n c : Nat} {bs : List Int} (hB : B < w.heap.size) (hw : w0.heap.size ≤ w.heap.size) (hs : SrcR w0 wr B v cs k' size) (hl : bs.length ≤ 512) (ho : Own 0 5 .u8 wr (.slice a n c) bs) (hn : ∀ b, (Value.slice a n c).ownBlock = some b → w.heap.size < b) (hk' : k' ≤ k + 5) (hk : Kept (fun b => b = B) w wr) :
    OpR w0 w (((wr.setCell ⟨w.heap.size, 0, none⟩ (.int .i64 kind)).setCell ⟨w.heap.size, 1, none⟩ (.int .i64 sec)).setCell ⟨w.heap.size, 2, none⟩ (.slice a n c)) B v cs k size (.returned (.agg #[.int .i64 kind, .int .i64 sec, .slice a n c])) := by
  have hkr : Kept (fun b => b = w.heap.size) wr (((wr.setCell ⟨w.heap.size, 0, none⟩ (.int .i64 kind)).setCell ⟨w.heap.size, 1, none⟩ (.int .i64 sec)).setCell ⟨w.heap.size, 2, none⟩ (.slice a n c)) := (((Kept.refl (fun b => b = w.heap.size) wr).setCell (p := ⟨w.heap.size, 0, none⟩) (.inr rfl) _).setCell (p := ⟨w.heap.size, 1, none⟩) (.inr rfl) _).setCell (p := ⟨w.heap.size, 2, none⟩) (.inr rfl) _
  exact ⟨kind, sec, a, n, c, bs, k', rfl, hl, ho.kept hkr (fun b hb e => by have := hn b hb; omega), hn, hk', hs.on hkr (fun e => by omega) (fun i hi e => by omega), hk.next hkr (fun i hi e => by omega)⟩
theorem drawOp_k {w0 w : World} {B : Nat} {v : Value} {cs : List Int} {k : Nat} {size : Int} (S : Nat) (h : SrcR w0 w B v cs k size) (hk : k ≤ 1000000) (hS : S ≤ 1024) :
    Calls Try.prog 49 #[.pointer (some ⟨B, 0, none⟩), .int .i64 (S : Int)] w fun e w' => OpR w0 w w' B v cs k size e := by
  have hBw := h.lt
  have hw0 := h.kept.size
  have HR0 := hid (Blk.newL w [.int .i64 0, .int .i64 0, .slice none 0 0] 76)
  have HK0 := hid (sameA w [.int .i64 0, .int .i64 0, .slice none 0 0] 76)
  have k0 := next_k 10 (h.same HK0.out) (by omega) (by constructor <;> decide)
  clear h
  go_enter Try.func49, Try.ntmps49
  go_wp2_with fail
  refine k0.mono ?_
  rintro e w1 ⟨q, rfl, hd, hs1, hk1⟩
  have HS1 := hid hs1
  have HK1 := (show Hid (Kept (fun b => b = B) w w1) from (HK0.out.mono (fun _ _ e => e.elim)).trans hk1)
  have HR1 := hid (HR0.out.kept hk1 (fun e => by omega))
  clear k0 hs1 hk1 hd HR0 HK0
  by_cases hq : q < 2
  · obtain ⟨r0, r1, r2⟩ := HR1.out.all3
    have fr := HR1.out.frozen
    have lr := HR1.out.lt
    have HE := hid (op_end (k := k) (kind := 2) (sec := 0) (a := none) (n := 0) (c := 0) (bs := []) hBw hw0 HS1.out (by simp) (Own.nil _ _ _ _) (fun b hb => by simp [Value.ownBlock] at hb) (by omega) HK1.out)
    go_wp2
    exact bodyPost_ret (v := .agg #[.int .i64 2, .int .i64 0, .slice none 0 0]) (by simp [results, Try.results49, go_sem, r0, r1, r2]) rfl HE.out
  have fin : ∀ (w2 : World) (k2 : Nat), k2 ≤ k + 2 → SrcR w0 w2 B v cs k2 size → Kept (fun b => b = B) w w2 → Blk w2 w.heap.size 76 [.int .i64 0, .int .i64 0, .slice none 0 0] → True := fun _ _ _ _ _ _ => trivial
  clear fin
  by_cases hq2 : q = 2
  · subst hq2
    go_wp2_with fail
    refine (chance2_k 3 HS1.out (by omega) (by constructor <;> decide)).mono ?_
    rintro e w2 ⟨b, rfl, hs2, hk2⟩
    have HS2 := hid hs2
    have HK2 := hid (HK1.out.trans hk2)
    have HR2 := hid (HR1.out.kept hk2 (fun e => by omega))
    clear hs2 hk2 HS1 HK1 HR1
    cases b with
    | true =>
      go_wp2_with fail
      refine (next_k 5 HS2.out (by omega) (by constructor <;> decide)).mono ?_
      rintro e w3 ⟨kd, rfl, _, hs3, hk3⟩
      have HS3 := hid hs3
      have HK3 := hid (HK2.out.trans hk3)
      have HR3 := hid (HR2.out.kept hk3 (fun e => by omega))
      clear hs3 hk3 HS2 HK2 HR2
      go_wp2_with fail
      refine (fill_k 3 HS3.out (by omega) (by omega)).mono ?_
      rintro e w4 ⟨g, bs, rfl, hbl, _, ho, _, hs4, hg, hk4⟩
      have HK4 := hid (HK3.out.trans hk4)
      have HR4 := hid (HR3.out.kept hk4 (fun e => by omega))
      have hgw := HR3.out.lt
      obtain ⟨r0, r1, r2⟩ := HR4.out.all3
      have fr := HR4.out.frozen
      have lr := HR4.out.lt
      have HE := hid (op_end (k := k) (kind := kd) (sec := (S : Int)) hBw hw0 hs4 (by omega) (ho.mono (fun _ _ => Nat.zero_le _)) (fun b hb => by have e : g = b := (by simpa [Value.ownBlock] using hb); omega) (by omega) HK4.out)
      clear hs4 hk4 ho
      go_wp2
      exact bodyPost_ret (v := .agg #[.int .i64 kd, .int .i64 (S : Int), .slice (some ⟨g, 0, none⟩) 3 3]) (by simp [results, Try.results49, go_sem, r0, r1, r2]) rfl HE.out
    | false =>
      go_wp2_with fail
      refine (next_k (S : Int) HS2.out (by omega) (by constructor <;> omega)).mono ?_
      rintro e w3 ⟨sc, rfl, _, hs3, hk3⟩
      have HS3 := hid hs3
      have HK3 := hid (HK2.out.trans hk3)
      have HR3 := hid (HR2.out.kept hk3 (fun e => by omega))
      clear hs3 hk3 HS2 HK2 HR2
      go_wp2_with fail
      refine (fill_k 512 HS3.out (by omega) (by omega)).mono ?_
      rintro e w4 ⟨g, bs, rfl, hbl, _, ho, _, hs4, hg, hk4⟩
      have HK4 := hid (HK3.out.trans hk4)
      have HR4 := hid (HR3.out.kept hk4 (fun e => by omega))
      have hgw := HR3.out.lt
      obtain ⟨r0, r1, r2⟩ := HR4.out.all3
      have fr := HR4.out.frozen
      have lr := HR4.out.lt
      have HE := hid (op_end (k := k) (kind := 1) (sec := sc) hBw hw0 hs4 (by omega) (ho.mono (fun _ _ => Nat.zero_le _)) (fun b hb => by have e : g = b := (by simpa [Value.ownBlock] using hb); omega) (by omega) HK4.out)
      clear hs4 hk4 ho
      go_wp2
      exact bodyPost_ret (v := .agg #[.int .i64 1, .int .i64 sc, .slice (some ⟨g, 0, none⟩) 512 512]) (by simp [results, Try.results49, go_sem, r0, r1, r2]) rfl HE.out
  · have e2 : (q == 2) = false := by simp [hq2]
    go_wp2_with fail
    refine (next_k (S : Int) HS1.out (by omega) (by constructor <;> omega)).mono ?_
    rintro e w3 ⟨sc, rfl, _, hs3, hk3⟩
    have HS3 := hid hs3
    have HK3 := hid (HK1.out.trans hk3)
    have HR3 := hid (HR1.out.kept hk3 (fun e => by omega))
    clear hs3 hk3 HS1 HK1 HR1
    go_wp2_with fail
    refine (fill_k 512 HS3.out (by omega) (by omega)).mono ?_
    rintro e w4 ⟨g, bs, rfl, hbl, _, ho, _, hs4, hg, hk4⟩
    have HK4 := hid (HK3.out.trans hk4)
    have HR4 := hid (HR3.out.kept hk4 (fun e => by omega))
    have hgw := HR3.out.lt
    obtain ⟨r0, r1, r2⟩ := HR4.out.all3
    have fr := HR4.out.frozen
    have lr := HR4.out.lt
    have HE := hid (op_end (k := k) (kind := 1) (sec := sc) hBw hw0 hs4 (by omega) (ho.mono (fun _ _ => Nat.zero_le _)) (fun b hb => by have e : g = b := (by simpa [Value.ownBlock] using hb); omega) (by omega) HK4.out)
    clear hs4 hk4 ho
    go_wp2
    exact bodyPost_ret (v := .agg #[.int .i64 1, .int .i64 sc, .slice (some ⟨g, 0, none⟩) 512 512]) (by simp [results, Try.results49, go_sem, r0, r1, r2]) rfl HE.out
end Go.Proofs.Ytfhdkbibcndmjaa
