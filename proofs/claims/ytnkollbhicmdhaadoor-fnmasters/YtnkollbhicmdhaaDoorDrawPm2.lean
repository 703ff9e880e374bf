import Derived.Test.YtnkollbhicmdhaaDoorG11
import Derived.Test.YtnkollbhicmdhaaDoorG09
namespace Go.Proofs.YtnkollbhicmdhaaDoor
set_option maxRecDepth 100000
set_option maxHeartbeats 8000000
set_option linter.unusedVariables false
set_option linter.unusedSimpArgs false
open Go.RowKit
theorem isB_putAt {dur bs : List Int} (h : IsB dur) (h' : IsB bs) (lo : Nat) : IsB (putAt dur lo bs) := by
 intro x hx
 unfold putAt at hx
 rcases List.mem_append.1 hx with hx | hx
 ·exact h x (List.mem_of_mem_take hx)
 ·rcases List.mem_append.1 hx with hx | hx
  ·exact h' x hx
  ·exact h x (List.mem_of_mem_drop hx)
structure PlM (w w0 : World) (B X0 D : Nat) : Prop where
 b1 : w.heap.size ≤ B
 b2 : B < w0.heap.size
 x1 : w.heap.size ≤ X0
 x2 : X0 < w0.heap.size
 xb : ¬ B = X0
 d : w0.heap.size ≤ D
structure PmI (w w0 wr : World) (B : Nat) (v : Value) (cs : List Int) (k : Nat) (size : Int) (X0 D g n : Nat) (pv : Value) (dur : List Int) (ps : List PW) : Prop where
 src : SrcR w0 wr B v cs k size
 box : Blk wr D 25 [.slice (some ⟨g, 0, none⟩) n n, pv]
 own : OwnD 0 70 5 wr (.slice (some ⟨g, 0, none⟩) n n) pv dur ps
 new : ∀ b, footD (.slice (some ⟨g, 0, none⟩) n n) pv ps b → w0.heap.size ≤ b ∧ ¬ b = D
 isB : DiskB dur ps
 len : ∀ p ∈ ps, p.bs.length ≤ 512
 res : Blk wr X0 25 [.slice none 0 0, .slice none 0 0]
 kept : Same w wr
 num : dur.length = n
section
variable {w w0 wr wx : World} {B : Nat} {v : Value} {cs : List Int} {k k' : Nat} {size : Int} {X0 D g n : Nat} {pv : Value} {dur : List Int} {ps : List PW}
theorem PmI.same (h : PmI w w0 wr B v cs k size X0 D g n pv dur ps) (hk : Same wr wx) : PmI w w0 wx B v cs k size X0 D g n pv dur ps :=
 ⟨h.src.same hk, h.box.same hk, h.own.same hk, h.new, h.isB, h.len, h.res.same hk, h.kept.trans hk, h.num⟩
theorem PmI.draw (h : PmI w w0 wr B v cs k size X0 D g n pv dur ps) (hp : PlM w w0 B X0 D) (hs : SrcR w0 wx B v cs k' size) (hk : Kept (fun b => b = B) wr wx) : PmI w w0 wx B v cs k' size X0 D g n pv dur ps := by
 have h1 := hp.b1; have h2 := hp.b2; have h3 := hp.d
 exact ⟨hs, h.box.kept hk (fun e => by omega), h.own.kept hk (fun b hb e => by have := (h.new b hb).1; have e' : b = B := e; omega), h.new, h.isB, h.len, h.res.kept hk (fun e => hp.xb e.symm), h.kept.next hk (fun i hi e => by have e' : i = B := e; omega), h.num⟩
theorem PmI.durs {dur' : List Int} (h : PmI w w0 wr B v cs k size X0 D g n pv dur ps) (hp : PlM w w0 B X0 D) (ho : Own 0 5 .u8 wx (.slice (some ⟨g, 0, none⟩) n n) dur') (hk : Kept (fun b => b = g) wr wx) (hB : IsB dur') (hl : dur'.length = n) :
  PmI w w0 wx B v cs k size X0 D g n pv dur' ps := by
 have hgn := h.new g (.inl rfl)
 have h1 := hp.b1; have h2 := hp.b2; have h3 := hp.x1; have h4 := hp.x2
 exact ⟨h.src.on hk (fun e => by omega) (fun i hi e => by omega), h.box.kept hk (fun e => hgn.2 e.symm), ⟨ho, h.own.pend.kept hk (fun b hb e => h.own.apart b hb (by rw [e]; rfl)), h.own.apart⟩, h.new, ⟨hB, h.isB.2⟩, h.len, h.res.kept hk (fun e => by omega), h.kept.next hk (fun i hi e => by have e' : i = g := e; omega), hl⟩
theorem PmI.pend {w3 : World} {s : Int} {a5 : Option Addr} {n5 c5 : Nat} {bs : List Int} {g6 cap6 : Nat} (h : PmI w w0 wr B v cs k size X0 D g n (.slice none 0 0) dur []) (hp : PlM w w0 B X0 D) (hDl : D < wr.heap.size)
  (hu : Own 0 5 .u8 wr (.slice a5 n5 c5) bs) (hul : bs.length ≤ 512) (hub : IsB bs) (huf : ∀ b, (Value.slice a5 n5 c5).ownBlock = some b → w0.heap.size ≤ b ∧ ¬ b = D ∧ ¬ b = g)
  (hg : (wr.alloc (.cells #[.int .i64 s, .slice a5 n5 c5] 70)).grownBy w3 (Value.slice none 0 0).ownBlock)
  (hown : w3.ownsRow 0 70 2 (.slice (some ⟨g6, 0, none⟩) 1 cap6) 1 (pwCells [] ++ [.int .i64 s, .slice a5 n5 c5])) (hat : (Value.slice none 0 0).ownBlock = some g6 ∨ g6 = wr.heap.size + 1) :
  PmI w w0 (w3.setCell ⟨D, 1, none⟩ (.slice (some ⟨g6, 0, none⟩) 1 cap6)) B v cs k size X0 D g n (.slice (some ⟨g6, 0, none⟩) 1 cap6) dur [⟨s, .slice a5 n5 c5, bs⟩] := by
 have hat' : g6 = wr.heap.size + 1 := by rcases hat with e | e; simp [Value.ownBlock] at e; exact e
 have hk3 : Same wr w3 := ((Kept.refl _ _).alloc _).trans (Kept.of_grown hg (fun k e => by simp [Value.ownBlock] at e))
 have hsz := hk3.size
 have hk4 : Kept (fun b => b = D) wr (w3.setCell ⟨D, 1, none⟩ (.slice (some ⟨g6, 0, none⟩) 1 cap6)) := (hk3.mono (fun _ _ e => e.elim) : Kept (fun b => b = D) wr w3).setCell (p := ⟨D, 1, none⟩) (.inr rfl) _
 have h1 := hp.b1; have h2 := hp.b2; have h3 := hp.x1; have h4 := hp.x2; have h5 := hp.d
 have hwz := h.kept.size
 have hw0z := h.src.kept.size
 have hgl := (h.own.dur.lt g rfl).2
 have hgn := h.new g (.inl rfl)
 have hsn := OwnP.snoc (sec := s) (bs := bs) (h.own.pend.same ((Kept.refl (fun _ => False) _).alloc (.cells #[.int .i64 s, .slice a5 n5 c5] 70))) (hu.same ((Kept.refl (fun _ => False) _).alloc (.cells #[.int .i64 s, .slice a5 n5 c5] 70))) (fun b hb hf => absurd hf (footP_nil b)) hg hown rfl (by rw [World.size_alloc]; exact hat)
 have hfoot : ∀ b, footP (.slice (some ⟨g6, 0, none⟩) 1 cap6) ([] ++ [⟨s, .slice a5 n5 c5, bs⟩]) b → (w0.heap.size ≤ b ∧ ¬ b = D) ∧ ¬ b = g := fun b hb => by
  rcases footP_snoc (v := .slice none 0 0) b hb with rfl | hb | hb
  ·exact ⟨⟨by omega, by omega⟩, by omega⟩
  ·exact absurd hb (footP_nil b)
  ·exact ⟨⟨(huf b hb).1, (huf b hb).2.1⟩, (huf b hb).2.2⟩
 refine ⟨h.src.on hk4 (fun e => by omega) (fun i hi e => by omega), (h.box.same hk3).stored 1 _, ⟨h.own.dur.kept hk4 (fun b hb e => (h.new b (.inl hb)).2 e), hsn.kept (R := fun b => b = D) ((Kept.refl (fun b => b = D) _).setCell (p := ⟨D, 1, none⟩) (.inr rfl) _) (fun b hb e => (hfoot b hb).1.2 e), fun b hb hd => (hfoot b hb).2 (by simpa [Value.ownBlock] using hd.symm)⟩, ?_, ⟨h.isB.1, fun p hp => by rw [List.mem_singleton.1 hp]; exact hub⟩, fun p hp => by rw [List.mem_singleton.1 hp]; exact hul, h.res.kept hk4 (fun e => by omega), h.kept.next hk4 (fun i hi e => by have e' : i = D := e; omega), h.num⟩
 rintro b (hb | hb)
 ·exact h.new b (.inl hb)
 ·exact (hfoot b hb).1
end
def PmR (w w' : World) (e : Ending) : Prop := ∃ dv pv dur ps, e = .returned (.agg #[dv, pv]) ∧ dur.length ≤ 2048 ∧ ps.length ≤ 1 ∧ (∀ p ∈ ps, p.bs.length ≤ 512) ∧ DiskB dur ps ∧ RdD w' dv pv dur ps ∧ Same w w'
structure PmE (w w0 wr : World) (X0 D : Nat) (dv pv : Value) (dur : List Int) (ps : List PW) : Prop where
 box : Blk wr D 25 [dv, pv]
 res : Blk wr X0 25 [.slice none 0 0, .slice none 0 0]
 rd : RdD wr dv pv dur ps
 foot : ∀ b, footD dv pv ps b → w0.heap.size ≤ b
 len : dur.length ≤ 2048 ∧ ps.length ≤ 1 ∧ ∀ p ∈ ps, p.bs.length ≤ 512
 isB : DiskB dur ps
 kept : Same w wr
theorem em_any {s e c l : Int} (w : World) (h : mF s e c l = 0) : Calls Tryd.prog 24 #[.agg #[.int .i64 s, .int .i64 e, .int .i64 c, .int .i64 l]] w fun ex w' => ∃ g c', ex = .returned (.slice (some ⟨g, 0, none⟩) 512 c') ∧ w.heap.size ≤ g ∧ Own 0 5 .u8 w' (.slice (some ⟨g, 0, none⟩) 512 c') (mB s e c l) ∧ Same w w' := by
 refine (specEM_any s e c l w).mono ?_
 rw [encM_yes h, mB_length]
 rintro ex w' ⟨a, c', rfl, hf, ho, hk⟩
 rcases ho.form with ⟨h1, h2⟩ | ⟨g, cap, h1, _⟩
 ·have := mB_length s e c l; rw [h2] at this; simp at this
 ·injection h1 with h1 _ _
  subst h1
  exact ⟨g, c', rfl, hf g rfl, ho, hk⟩
theorem drawPm_any (v : Value) (cs : List Int) (w : World) (hb : IsB cs) (hn : cs.length ≤ 1048576) (hv : Rd .u8 w v cs) :
  Calls Tryd.prog 9 #[v] w fun e w' => PmR w w' e := by
 obtain ⟨i0, hi, hz0, hz1, hz2⟩ := info_parts Tryd.infoSW
 have hsz1 : (Tryd.prog.info? 5).map (·.size) = some 1 := by kernel_rfl
 have b0 := Blk.new w #[.slice none 0 0, .slice none 0 0] 25
 have hk0 : Same w (w.alloc (.cells #[.slice none 0 0, .slice none 0 0] 25)) := (Kept.refl _ _).alloc _
 have k1 := source_r v cs _ hb hn (hv.same hk0)
 clear hv hb hn
 go_enter Tryd.func9, Tryd.ntmps9
 go_wp2_with fail
 obtain ⟨X0, hX⟩ : ∃ X, w.heap.size = X := ⟨_, rfl⟩
 rw [hX] at b0
 try rw [hX]
 generalize w.alloc (.cells #[.slice none 0 0, .slice none 0 0] 25) = w1 at *
 have HB0 := hid b0
 have HK0 := hid hk0
 have hl0 := b0.lt
 clear b0 hk0
 refine k1.mono ?_
 rintro e w0 ⟨B, size, rfl, hB, hs, hk⟩
 have HS0 := hid hs
 have HR0 := hid (HB0.out.same hk)
 have HK0 := hid (HK0.out.trans hk)
 have hB2 := hs.lt
 have hz0 := hk.size
 clear hs hk k1 HB0
 go_wp2_with fail
 refine (next_k 3 HS0.out (by omega) (by constructor <;> decide)).mono ?_
 rintro e w2 ⟨r, rfl, hd, hs2, hk2⟩
 obtain ⟨hr1, hr2⟩ := hd.2 (by decide)
 obtain ⟨s, hs⟩ : ∃ s : Nat, 2 + r = (s : Int) := ⟨(2 + r).toNat, by omega⟩
 have kN := specNewDisk_yes (s : Int) w2 (by omega) (by omega)
 rw [show ((s : Int)).toNat = s from by omega] at kN
 have hwr : IntKind.i64.wrap (2 + r) = (s : Int) := by rw [IntKind.wrap_i64]; omega
 have hs5 : 2 ≤ s ∧ s ≤ 4 := by omega
 have HS2 := hid hs2
 have HK2 := hid hk2
 have hz2' := hk2.size
 clear hd hs2 hk2 HS0 hs hr1 hr2
 go_wp2_with fail
 refine kN.mono ?_
 rintro e w3 ⟨g, rfl, hg, ho3, hk3⟩
 have hz3 := hk3.size
 obtain ⟨n, hn⟩ : ∃ n, s * 512 = n := ⟨_, rfl⟩
 rw [hn] at ho3 ⊢
 have hn1 : 1024 ≤ n ∧ n ≤ 2048 := by omega
 have hp : PlM w w0 B X0 w3.heap.size := ⟨by omega, hB2, by omega, by omega, by omega, by omega⟩
 have hgl := (ho3.lt g rfl).2
 have hk4 : Same w3 (w3.alloc (.cells #[.slice (some ⟨g, 0, none⟩) n n, .slice none 0 0] 25)) := (Kept.refl _ _).alloc _
 have HI := (show Hid (PmI w w0 (w3.alloc (.cells #[.slice (some ⟨g, 0, none⟩) n n, .slice none 0 0] 25)) B v cs 1 size X0 w3.heap.size g n (.slice none 0 0) (List.replicate n 0) []) from
  ⟨(HS2.out.same hk3).same hk4, Blk.new _ _ _, (OwnD.ofDur ho3).same hk4, fun b hb => by rcases hb with hb | hb; have e : g = b := (by simpa [Value.ownBlock] using hb); omega; exact absurd hb (footP_nil b), ⟨fun x hx => by rw [List.eq_of_mem_replicate hx]; omega, fun p hp => by simp at hp⟩, fun p hp => by simp at hp, (((HR0.out.kept HK2.out (fun e => by omega)).same hk3).same hk4), ((HK0.out.next HK2.out (fun i hi e => by have e' : i = B := e; omega)).trans hk3).trans hk4, List.length_replicate⟩)
 clear ho3 hk3 hk4 kN HS2 HK2 HR0 HK0 hn hwr hs5 hg
 obtain ⟨D, hD⟩ : ∃ D, w3.heap.size = D := ⟨_, rfl⟩
 rw [hD] at hp HI
 have HD := hid hD
 clear hD hgl hz0 hz2' hz3 hl0
 generalize List.replicate n (0 : Int) = dur at HI
 go_upto_region 3 with fail
 try rw [HD.out]
 generalize w3.alloc (.cells #[.slice (some ⟨g, 0, none⟩) n n, .slice none 0 0] 25) = w4 at HI ⊢
 clear HD
 refine wp_region_V (fun wx : World => wx.cell? ⟨D, 0, none⟩ = some (.slice (some ⟨g, 0, none⟩) n n)) 99 6 rfl (by kernel_rfl) ?_
 have hd0 : Same w4 w4.drew := (Kept.refl _ _).drew
 have HJ := hid (HI.out.same hd0)
 generalize w4.drew = v1 at *
 clear hd0
 have hS : (fun wx : World => wx.cell? ⟨D, 0, none⟩ = some (.slice (some ⟨g, 0, none⟩) n n)) v1 := HJ.out.box.cell 0
 refine tk 0 12 hS ?_
 refine tk 1 13 hS ?_
 refine tk 2 14 hS ?_
 refine wpAnyV_one (i := 3) (by kernel_rfl) rfl (fun K hK => ?_)
 go_simp
 refine (ms_k HJ.out.src (by omega)).mono ?_
 rintro ex v2 ⟨s, e, c, l, k2, rfl, hmf, hk2, hs2, hkk2⟩
 have HJ2 := hid (HJ.out.draw hp hs2 hkk2)
 clear hs2 hkk2
 have hS : (fun wx : World => wx.cell? ⟨D, 0, none⟩ = some (.slice (some ⟨g, 0, none⟩) n n)) v2 := HJ2.out.box.cell 0
 go_wp2_with fail
 refine hK.out _ _ (fun _ => hS) ?_
 clear hK K
 try simp only [Act.put, sA, s0, sS]
 refine wpAnyV_one (i := 4) (by kernel_rfl) rfl (fun K hK => ?_)
 go_simp
 refine (em_any _ hmf).mono ?_
 rintro ex v3 ⟨g2, c2, rfl, hg2, ho2, hk3⟩
 have HJ3 := hid (HJ2.out.same hk3)
 have HO2 := hid ho2
 clear hk3 ho2
 have hS : (fun wx : World => wx.cell? ⟨D, 0, none⟩ = some (.slice (some ⟨g, 0, none⟩) n n)) v3 := HJ3.out.box.cell 0
 go_wp2_with fail
 refine hK.out _ _ (fun _ => hS) ?_
 clear hK K
 try simp only [Act.put, sA, s0, sS]
 refine wpAnyV_one (i := 5) (by kernel_rfl) rfl (fun K hK => ?_)
 refine step_copy_own (base := 0) (by rfl) (.tmp 13) (.tmp 16) 22 (by rfl) Tryd.underlying22 hsz1 g 0 n n (n - 0) g2 0 c2 dur (mB s e c l) HJ3.out.own.dur HJ3.out.num.symm (by rfl) (by rw [mB_length]; rfl) (fun i hi => by rw [Nat.zero_add]; exact HO2.out.cell (mB_length s e c l).symm i (by rw [← mB_length s e c l]; exact hi)) (by rw [HJ3.out.num, mB_length]; omega) ?_
 intro v4 ho4 hg4
 have hk4 : Kept (fun b => b = g) v3 v4 := Kept.of_grown hg4 (fun k e => by cases e; rfl)
 have HJ4 := hid (HJ3.out.durs hp ho4 hk4 (isB_putAt HJ3.out.isB.1 (mB_isB s e c l) 0) (by rw [putAt_length _ _ _ (by rw [HJ3.out.num, mB_length]; omega)]; exact HJ3.out.num))
 have hS : (fun wx : World => wx.cell? ⟨D, 0, none⟩ = some (.slice (some ⟨g, 0, none⟩) n n)) v4 := HJ4.out.box.cell 0
 refine hK.out _ _ (fun _ => hS) ?_
 clear hK K ho4 hg4 hk4
 refine wpAnyV_done (by kernel_rfl) ?_
 try simp only [List.getElem_toArray, List.getElem_cons_succ, List.getElem_cons_zero]
 try simp only [Act.put, sA, s0, sS]
 clear hS HJ HJ3 HJ2 HO2
 generalize putAt dur 0 (mB s e c l) = dur at HJ4
 clear HI hmf
 go_wp2_with fail
 refine (chance_k 5 HJ4.out.src (by omega) (by constructor <;> decide)).mono ?_
 rintro ex w5 ⟨ch, rfl, hs5, hk5⟩
 have HI5 := hid (HJ4.out.draw hp hs5 hk5)
 clear hs5 hk5 HJ4
 go_upto_if 20 with fail
 go_cut [5] (fun _ wx => ∃ (k5 : Nat) (dur : List Int), k5 ≤ 20 ∧ Hid (PmI w w0 wx B v cs k5 size X0 D g n (.slice none 0 0) dur []))
 case first =>
  cases ch
  case true =>
   go_wp2_with fail
   go_meet
   case rel => exact ⟨_, _, by omega, HI5⟩
  go_wp2_with fail
  refine (ms_k HI5.out.src (by omega)).mono ?_
  rintro ex w6 ⟨s, e, c, l, k6, rfl, hmf, hk6, hs6, hkk6⟩
  have hk7 : Same w6 (w6.alloc (.cells #[.int .i64 s, .int .i64 e, .int .i64 c, .int .i64 l] 28)) := (Kept.refl _ _).alloc _
  have HI6 := hid ((HI5.out.draw hp hs6 hkk6).same hk7)
  have HMB := hid (Blk.new w6 #[.int .i64 s, .int .i64 e, .int .i64 c, .int .i64 l] 28)
  have HMN := (show Hid (w6.heap.size > g ∧ w6.heap.size ≥ w0.heap.size) from ⟨((HI5.out.draw hp hs6 hkk6).own.dur.lt g rfl).2, hs6.kept.size⟩)
  clear hs6 hkk6 hk7 HI5
  obtain ⟨M, hM⟩ : ∃ M, w6.heap.size = M := ⟨_, rfl⟩
  rw [hM] at HMB HMN
  have HMM := hid hM
  clear hM
  go_upto_region 6 with fail
  try rw [HMM.out]
  generalize w6.alloc (.cells #[.int .i64 s, .int .i64 e, .int .i64 c, .int .i64 l] 28) = w7 at *
  clear HMM
  have n1 : ¬ n = 512 := by omega
  have g1 : (512 : Int) ≤ (n : Int) := by omega
  refine wp_region_V (fun wx : World => wx.cell? ⟨D, 0, none⟩ = some (.slice (some ⟨g, 0, none⟩) n n) ∧ wx.cell? ⟨M, 0, none⟩ = some (.int .i64 s) ∧ wx.cell? ⟨M, 1, none⟩ = some (.int .i64 e) ∧ wx.cell? ⟨M, 2, none⟩ = some (.int .i64 c) ∧ wx.cell? ⟨M, 3, none⟩ = some (.int .i64 l)) 99 6 rfl (by kernel_rfl) ?_
  have hd0 : Same w7 w7.drew := (Kept.refl _ _).drew
  have HJ := hid (HI6.out.same hd0)
  have HMB := hid (HMB.out.same hd0)
  generalize w7.drew = v1 at *
  clear hd0
  have hS : (fun wx : World => wx.cell? ⟨D, 0, none⟩ = some (.slice (some ⟨g, 0, none⟩) n n) ∧ wx.cell? ⟨M, 0, none⟩ = some (.int .i64 s) ∧ wx.cell? ⟨M, 1, none⟩ = some (.int .i64 e) ∧ wx.cell? ⟨M, 2, none⟩ = some (.int .i64 c) ∧ wx.cell? ⟨M, 3, none⟩ = some (.int .i64 l)) v1 := ⟨HJ.out.box.cell 0, HMB.out.cell 0, HMB.out.cell 1, HMB.out.cell 2, HMB.out.cell 3⟩
  refine tk 0 23 hS ?_
  refine tk 1 24 hS ?_
  refine tkV 2 25 (.slice (some ⟨g, 512, none⟩) (n - 512) (n - 512)) hS ?_
  refine tk 3 26 hS ?_
  refine wpAnyV_one (i := 4) (by kernel_rfl) rfl (fun K hK => ?_)
  go_simp
  refine (em_any _ hmf).mono ?_
  rintro ex v3 ⟨g2, c2, rfl, hg2, ho2, hk3⟩
  have HJ3 := hid (HJ.out.same hk3)
  have HMB := hid (HMB.out.same hk3)
  have HO2 := hid ho2
  clear hk3 ho2
  have hS : (fun wx : World => wx.cell? ⟨D, 0, none⟩ = some (.slice (some ⟨g, 0, none⟩) n n) ∧ wx.cell? ⟨M, 0, none⟩ = some (.int .i64 s) ∧ wx.cell? ⟨M, 1, none⟩ = some (.int .i64 e) ∧ wx.cell? ⟨M, 2, none⟩ = some (.int .i64 c) ∧ wx.cell? ⟨M, 3, none⟩ = some (.int .i64 l)) v3 := ⟨HJ3.out.box.cell 0, HMB.out.cell 0, HMB.out.cell 1, HMB.out.cell 2, HMB.out.cell 3⟩
  go_wp2_with fail
  refine hK.out _ _ (fun _ => hS) ?_
  clear hK K
  try simp only [Act.put, sA, s0, sS]
  refine wpAnyV_one (i := 5) (by kernel_rfl) rfl (fun K hK => ?_)
  refine step_copy_own (base := 0) (by rfl) (.tmp 25) (.tmp 27) 22 (by rfl) Tryd.underlying22 hsz1 g 512 n n (n - 512) g2 0 c2 dur (mB s e c l) HJ3.out.own.dur HJ3.out.num.symm (by rfl) (by rw [mB_length]; rfl) (fun i hi => by rw [Nat.zero_add]; exact HO2.out.cell (mB_length s e c l).symm i (by rw [← mB_length s e c l]; exact hi)) (by rw [HJ3.out.num, mB_length]; omega) ?_
  intro v4 ho4 hg4
  have hk4 : Kept (fun b => b = g) v3 v4 := Kept.of_grown hg4 (fun k e => by cases e; rfl)
  have HJ4 := hid (HJ3.out.durs hp ho4 hk4 (isB_putAt HJ3.out.isB.1 (mB_isB s e c l) 512) (by rw [putAt_length _ _ _ (by rw [HJ3.out.num, mB_length]; omega)]; exact HJ3.out.num))
  have HMB := hid (HMB.out.kept hk4 (fun e => by have h1 := (HJ3.out.own.dur.lt g rfl).2; have h2 := HMN.out; omega))
  have hS : (fun wx : World => wx.cell? ⟨D, 0, none⟩ = some (.slice (some ⟨g, 0, none⟩) n n) ∧ wx.cell? ⟨M, 0, none⟩ = some (.int .i64 s) ∧ wx.cell? ⟨M, 1, none⟩ = some (.int .i64 e) ∧ wx.cell? ⟨M, 2, none⟩ = some (.int .i64 c) ∧ wx.cell? ⟨M, 3, none⟩ = some (.int .i64 l)) v4 := ⟨HJ4.out.box.cell 0, HMB.out.cell 0, HMB.out.cell 1, HMB.out.cell 2, HMB.out.cell 3⟩
  refine hK.out _ _ (fun _ => hS) ?_
  clear hK K ho4 hg4 hk4
  refine wpAnyV_done (by kernel_rfl) ?_
  try simp only [List.getElem_toArray, List.getElem_cons_succ, List.getElem_cons_zero]
  try simp only [Act.put, sA, s0, sS]
  clear hS HJ HJ3 HO2
  generalize putAt dur 512 (mB s e c l) = dur at HJ4
  clear HI6
  go_wp2_with fail
  refine (chance_k 4 HJ4.out.src (by omega) (by constructor <;> decide)).mono ?_
  rintro ex w8 ⟨ch, rfl, hs8, hk8⟩
  have HI8 := hid (HJ4.out.draw hp hs8 hk8)
  have HMB := hid (HMB.out.kept hk8 (fun e => by have h1 := hp.b2; have h2 := HMN.out; omega))
  clear hs8 hk8 HJ4
  cases ch
  ·go_wp2_with fail
   go_meet
   case rel => exact ⟨_, _, by omega, HI8⟩
  go_wp2_with fail
  refine wp_region_V (fun wx : World => wx.cell? ⟨D, 0, none⟩ = some (.slice (some ⟨g, 0, none⟩) n n) ∧ wx.cell? ⟨M, 0, none⟩ = some (.int .i64 s) ∧ wx.cell? ⟨M, 1, none⟩ = some (.int .i64 e) ∧ wx.cell? ⟨M, 2, none⟩ = some (.int .i64 c) ∧ wx.cell? ⟨M, 3, none⟩ = some (.int .i64 l)) 99 5 rfl (by kernel_rfl) ?_
  have hd0 : Same w8 w8.drew := (Kept.refl _ _).drew
  have HJ := hid (HI8.out.same hd0)
  have HMB := hid (HMB.out.same hd0)
  generalize w8.drew = v1 at *
  clear hd0
  have hS : (fun wx : World => wx.cell? ⟨D, 0, none⟩ = some (.slice (some ⟨g, 0, none⟩) n n) ∧ wx.cell? ⟨M, 0, none⟩ = some (.int .i64 s) ∧ wx.cell? ⟨M, 1, none⟩ = some (.int .i64 e) ∧ wx.cell? ⟨M, 2, none⟩ = some (.int .i64 c) ∧ wx.cell? ⟨M, 3, none⟩ = some (.int .i64 l)) v1 := ⟨HJ.out.box.cell 0, HMB.out.cell 0, HMB.out.cell 1, HMB.out.cell 2, HMB.out.cell 3⟩
  refine tk 0 31 hS ?_
  refine tk 1 32 hS ?_
  refine tk 2 33 hS ?_
  refine wpAnyV_one (i := 3) (by kernel_rfl) rfl (fun K hK => ?_)
  go_simp
  refine (em_any _ hmf).mono ?_
  rintro ex v3 ⟨g2, c2, rfl, hg2, ho2, hk3⟩
  have HJ3 := hid (HJ.out.same hk3)
  have HMB := hid (HMB.out.same hk3)
  have HO2 := hid ho2
  clear hk3 ho2
  have hS : (fun wx : World => wx.cell? ⟨D, 0, none⟩ = some (.slice (some ⟨g, 0, none⟩) n n) ∧ wx.cell? ⟨M, 0, none⟩ = some (.int .i64 s) ∧ wx.cell? ⟨M, 1, none⟩ = some (.int .i64 e) ∧ wx.cell? ⟨M, 2, none⟩ = some (.int .i64 c) ∧ wx.cell? ⟨M, 3, none⟩ = some (.int .i64 l)) v3 := ⟨HJ3.out.box.cell 0, HMB.out.cell 0, HMB.out.cell 1, HMB.out.cell 2, HMB.out.cell 3⟩
  go_wp2_with fail
  refine hK.out _ _ (fun _ => hS) ?_
  clear hK K
  try simp only [Act.put, sA, s0, sS]
  refine wpAnyV_one (i := 4) (by kernel_rfl) rfl (fun K hK => ?_)
  refine step_copy_own (base := 0) (by rfl) (.tmp 32) (.tmp 34) 22 (by rfl) Tryd.underlying22 hsz1 g 0 n n (n - 0) g2 0 c2 dur (mB s e c l) HJ3.out.own.dur HJ3.out.num.symm (by rfl) (by rw [mB_length]; rfl) (fun i hi => by rw [Nat.zero_add]; exact HO2.out.cell (mB_length s e c l).symm i (by rw [← mB_length s e c l]; exact hi)) (by rw [HJ3.out.num, mB_length]; omega) ?_
  intro v4 ho4 hg4
  have hk4 : Kept (fun b => b = g) v3 v4 := Kept.of_grown hg4 (fun k e => by cases e; rfl)
  have HJ4 := hid (HJ3.out.durs hp ho4 hk4 (isB_putAt HJ3.out.isB.1 (mB_isB s e c l) 0) (by rw [putAt_length _ _ _ (by rw [HJ3.out.num, mB_length]; omega)]; exact HJ3.out.num))
  have HMB := hid (HMB.out.kept hk4 (fun e => by have h1 := (HJ3.out.own.dur.lt g rfl).2; have h2 := HMN.out; omega))
  have hS : (fun wx : World => wx.cell? ⟨D, 0, none⟩ = some (.slice (some ⟨g, 0, none⟩) n n) ∧ wx.cell? ⟨M, 0, none⟩ = some (.int .i64 s) ∧ wx.cell? ⟨M, 1, none⟩ = some (.int .i64 e) ∧ wx.cell? ⟨M, 2, none⟩ = some (.int .i64 c) ∧ wx.cell? ⟨M, 3, none⟩ = some (.int .i64 l)) v4 := ⟨HJ4.out.box.cell 0, HMB.out.cell 0, HMB.out.cell 1, HMB.out.cell 2, HMB.out.cell 3⟩
  refine hK.out _ _ (fun _ => hS) ?_
  clear hK K ho4 hg4 hk4
  refine wpAnyV_done (by kernel_rfl) ?_
  try simp only [List.getElem_toArray, List.getElem_cons_succ, List.getElem_cons_zero]
  try simp only [Act.put, sA, s0, sS]
  clear hS HJ HJ3 HO2
  generalize putAt dur 0 (mB s e c l) = dur at HJ4
  go_wp2_with fail
  go_meet
  case rel => exact ⟨_, _, by omega, HJ4⟩
 case rest =>
 obtain ⟨w9, rfl⟩ : ∃ x, x = wc := ⟨wc, rfl⟩
 obtain ⟨k9, dur, hk9, HI9⟩ := hcut
 clear HI5
 go_wp2_with fail
 refine (chance_k 4 HI9.out.src (by omega) (by constructor <;> decide)).mono ?_
 rintro ex w10 ⟨ch, rfl, hs', hk'⟩
 have HI10 := hid (HI9.out.draw hp hs' hk')
 clear hs' hk' HI9
 go_upto_if 37 with fail
 go_cut [37] (fun cv wx => ∃ (k5 np : Nat) (pa : Option Addr) (pc : Nat) (ps : List PW), k5 ≤ 40 ∧ ps.length ≤ 1 ∧ np = ps.length ∧ Hid (PmI w w0 wx B v cs k5 size X0 D g n (.slice pa np pc) dur ps))
 case first =>
  cases ch
  ·go_wp2_with fail
   go_meet
   case rel => exact ⟨_, 0, none, 0, [], by omega, by simp, by simp, HI10⟩
  go_wp2_with fail
  refine wp_region_V (fun wx : World => wx.cell? ⟨D, 0, none⟩ = some (.slice (some ⟨g, 0, none⟩) n n) ∧ wx.cell? ⟨D, 1, none⟩ = some (.slice none 0 0) ∧ wx.frozen? ⟨D, 1, none⟩ = false) 11 12 rfl (by kernel_rfl) ?_
  have hd0 : Same w10 w10.drew := (Kept.refl _ _).drew
  have HA0 := hid (HI10.out.same hd0)
  generalize w10.drew = v0 at *
  clear hd0
  have hS : (fun wx : World => wx.cell? ⟨D, 0, none⟩ = some (.slice (some ⟨g, 0, none⟩) n n) ∧ wx.cell? ⟨D, 1, none⟩ = some (.slice none 0 0) ∧ wx.frozen? ⟨D, 1, none⟩ = false) v0 := ⟨HA0.out.box.cell 0, HA0.out.box.cell 1, HA0.out.box.frozen 1⟩
  refine tk 0 38 hS ?_
  refine tk 1 39 hS ?_
  refine tk 2 40 hS ?_
  refine tk 4 42 hS ?_
  refine wpAnyV_one (i := 3) (by kernel_rfl) rfl (fun K hK => ?_)
  go_simp
  refine (next_k 2 HA0.out.src (by omega) (by constructor <;> decide)).mono ?_
  rintro ex v1 ⟨rs, rfl, _, hs1, hk1⟩
  have HA1 := hid (HA0.out.draw hp hs1 hk1)
  clear hs1 hk1
  have hS : (fun wx : World => wx.cell? ⟨D, 0, none⟩ = some (.slice (some ⟨g, 0, none⟩) n n) ∧ wx.cell? ⟨D, 1, none⟩ = some (.slice none 0 0) ∧ wx.frozen? ⟨D, 1, none⟩ = false) v1 := ⟨HA1.out.box.cell 0, HA1.out.box.cell 1, HA1.out.box.frozen 1⟩
  go_wp2_with fail
  refine hK.out _ _ (fun _ => hS) ?_
  clear hK K
  try simp only [Act.put, sA, s0, sS]
  refine wpAnyV_one (i := 5) (by kernel_rfl) rfl (fun K hK => ?_)
  go_simp
  refine (ms_k HA1.out.src (by omega)).mono ?_
  rintro ex v2 ⟨s, e, c, l, k2, rfl, hmf, hk2, hs2, hkk2⟩
  have HA2 := hid (HA1.out.draw hp hs2 hkk2)
  clear hs2 hkk2
  have hS : (fun wx : World => wx.cell? ⟨D, 0, none⟩ = some (.slice (some ⟨g, 0, none⟩) n n) ∧ wx.cell? ⟨D, 1, none⟩ = some (.slice none 0 0) ∧ wx.frozen? ⟨D, 1, none⟩ = false) v2 := ⟨HA2.out.box.cell 0, HA2.out.box.cell 1, HA2.out.box.frozen 1⟩
  go_wp2_with fail
  refine hK.out _ _ (fun _ => hS) ?_
  clear hK K
  try simp only [Act.put, sA, s0, sS]
  refine wpAnyV_one (i := 6) (by kernel_rfl) rfl (fun K hK => ?_)
  go_simp
  refine (em_any _ hmf).mono ?_
  rintro ex v3 ⟨g2, c2, rfl, hg2, ho2, hk3⟩
  have HA3 := hid (HA2.out.same hk3)
  have HO3 := hid ho2
  have HF3 := (show Hid (w0.heap.size ≤ g2 ∧ ¬ g2 = D ∧ ¬ g2 = g) from ⟨by have := HA2.out.src.kept.size; omega, by have := HA2.out.box.lt; omega, by have := (HA2.out.own.dur.lt g rfl).2; omega⟩)
  clear hk3 ho2
  have hS : (fun wx : World => wx.cell? ⟨D, 0, none⟩ = some (.slice (some ⟨g, 0, none⟩) n n) ∧ wx.cell? ⟨D, 1, none⟩ = some (.slice none 0 0) ∧ wx.frozen? ⟨D, 1, none⟩ = false) v3 := ⟨HA3.out.box.cell 0, HA3.out.box.cell 1, HA3.out.box.frozen 1⟩
  go_wp2_with fail
  refine hK.out _ _ (fun _ => hS) ?_
  clear hK K
  try simp only [Act.put, sA, s0, sS]
  refine tk 7 45 hS ?_
  refine wpAnyV_one (i := 8) (by kernel_rfl) rfl (fun K hK => ?_)
  go_simp
  have HA4 := hid (HA3.out.same ((Kept.refl _ _).alloc (.cells #[.int .i64 rs, .slice (some ⟨g2, 0, none⟩) 512 c2] 70)))
  have hS : (fun wx : World => wx.cell? ⟨D, 0, none⟩ = some (.slice (some ⟨g, 0, none⟩) n n) ∧ wx.cell? ⟨D, 1, none⟩ = some (.slice none 0 0) ∧ wx.frozen? ⟨D, 1, none⟩ = false) (v3.alloc (.cells #[.int .i64 rs, .slice (some ⟨g2, 0, none⟩) 512 c2] 70)) := ⟨HA4.out.box.cell 0, HA4.out.box.cell 1, HA4.out.box.frozen 1⟩
  refine hK.out _ _ (fun _ => hS) ?_
  clear hK K
  try simp only [Act.put, sA, s0, sS]
  have HKO := (show Hid ((v3.alloc (.cells #[.int .i64 rs, .slice (some ⟨g2, 0, none⟩) 512 c2] 70)).ownsRow 0 70 2 (.slice none 0 0) 0 (pwCells [])) from HA4.out.own.pend.row)
  refine wpAnyV_one (i := 9) (by kernel_rfl) rfl (fun K hK => ?_)
  refine step_append_lies _ (by rfl) (.tmp 39) (.tmp 46) 23 (by rfl) 0 70 i0 _ 2 32 Tryd.underlying23 hi hz0 hz1 hz2 rfl (by omega) (.slice none 0 0) 0 (pwCells []) (by rfl) (by exact HKO.out) ⟨v3.heap.size, 0, none⟩ 1 1 [.int .i64 rs, .slice (some ⟨g2, 0, none⟩) 512 c2] (by rfl) (by rfl) (World.news_of_block (cs := #[.int .i64 rs, .slice (some ⟨g2, 0, none⟩) 512 c2]) (t := 70) (fr := (0, 0)) (heap_alloc_new v3 _)) (by simp [Value.oneCell']) (by omega) (by unfold maxLen; omega) (by omega) (Nat.zero_le _) (v3.heap.size + 1) (by simp) ?_
  intro g6 cap6 v4 hown6 hgrow6 hat6 hlt6
  have HIE := hid (HA3.out.pend hp HA3.out.box.lt HO3.out (by rw [mB_length]; omega) (mB_isB s e c l) (fun b hb => by have e1 : g2 = b := (by simpa [Value.ownBlock] using hb); subst e1; exact HF3.out) hgrow6 hown6 hat6)
  have hk6 : Same v3 v4 := ((Kept.refl _ _).alloc _).trans (Kept.of_grown hgrow6 (fun k e => by simp [Value.ownBlock] at e))
  have HA5 := hid (HA3.out.box.same hk6)
  have hS : (fun wx : World => wx.cell? ⟨D, 0, none⟩ = some (.slice (some ⟨g, 0, none⟩) n n) ∧ wx.cell? ⟨D, 1, none⟩ = some (.slice none 0 0) ∧ wx.frozen? ⟨D, 1, none⟩ = false) v4 := ⟨HA5.out.cell 0, HA5.out.cell 1, HA5.out.frozen 1⟩
  clear hown6 hgrow6 hat6 hlt6 hk6
  refine hK.out _ _ (fun _ => hS) ?_
  clear hK K
  try simp only [Act.put, sA, s0, sS]
  refine tk 10 48 hS ?_
  have zc := HA5.out.cell 1
  have zf := HA5.out.frozen 1
  refine wpAnyV_one (i := 11) (by kernel_rfl) rfl (fun K hK => ?_)
  go_simp
  refine hK.out _ _ (fun h => absurd rfl h) ?_
  clear hK K
  refine wpAnyV_done (by kernel_rfl) ?_
  try simp only [Act.put, sA, s0, sS]
  clear zc zf hS HA5 HA4 HA3 HA2 HA1 HA0 HO3 HKO
  generalize v4.setCell ⟨D, 1, none⟩ (.slice (some ⟨g6, 0, none⟩) 1 cap6) = v5 at HIE ⊢
  go_wp2_with fail
  go_meet
  case rel => exact ⟨_, 1, some ⟨g6, 0, none⟩, cap6, _, by omega, by simp, by simp, HIE⟩
 case rest =>
 obtain ⟨w11, rfl⟩ : ∃ x, x = wc := ⟨wc, rfl⟩
 obtain ⟨k11, np, pa, pc, ps, hk11, hps1, hnp, HI11⟩ := hcut
 have HNP := hid hnp
 clear HI10 hnp
 go_wp2_with fail
 refine (chance_k 5 HI11.out.src (by omega) (by constructor <;> decide)).mono ?_
 rintro ex w12 ⟨ch, rfl, hs', hk'⟩
 have HI12 := hid (HI11.out.draw hp hs' hk')
 clear hs' hk' HI11
 go_upto_if 50 with fail
 go_cut [50] (fun cv wx => ∃ (k5 : Nat) (dur : List Int), k5 ≤ 50 ∧ Hid (PmI w w0 wx B v cs k5 size X0 D g n (.slice pa np pc) dur ps))
 case first =>
  cases ch
  ·go_wp2_with fail
   go_meet
   case rel => exact ⟨_, _, by omega, HI12⟩
  go_wp2_with fail
  refine wp_region_V (fun wx : World => wx.cell? ⟨D, 0, none⟩ = some (.slice (some ⟨g, 0, none⟩) n n)) 99 10 rfl (by kernel_rfl) ?_
  have hd0 : Same w12 w12.drew := (Kept.refl _ _).drew
  have HA0 := hid (HI12.out.same hd0)
  generalize w12.drew = v0 at *
  clear hd0
  have hS : (fun wx : World => wx.cell? ⟨D, 0, none⟩ = some (.slice (some ⟨g, 0, none⟩) n n)) v0 := HA0.out.box.cell 0
  refine tk 0 51 hS ?_
  refine tk 1 52 hS ?_
  refine tk 2 53 hS ?_
  refine tk 5 56 hS ?_
  refine wpAnyV_one (i := 3) (by kernel_rfl) rfl (fun K hK => ?_)
  go_simp
  refine (next_k 2 HA0.out.src (by omega) (by constructor <;> decide)).mono ?_
  rintro ex v1 ⟨r1, rfl, hd, hs1, hk1⟩
  obtain ⟨hr1, hr2⟩ := hd.2 (by decide)
  have HA1 := hid (HA0.out.draw hp hs1 hk1)
  clear hs1 hk1 hd
  have hS : (fun wx : World => wx.cell? ⟨D, 0, none⟩ = some (.slice (some ⟨g, 0, none⟩) n n)) v1 := HA1.out.box.cell 0
  go_wp2_with fail
  refine hK.out _ _ (fun _ => hS) ?_
  clear hK K
  try simp only [Act.put, sA, s0, sS]
  have q1 : IntKind.i64.wrap (r1 * 512) = r1 * 512 := by rw [IntKind.wrap_i64]; omega
  refine tkV 4 55 (.int .i64 (r1 * 512)) hS ?_
  refine wpAnyV_one (i := 6) (by kernel_rfl) rfl (fun K hK => ?_)
  go_simp
  refine (next_k 40 HA1.out.src (by omega) (by constructor <;> decide)).mono ?_
  rintro ex v2 ⟨r2, rfl, hd, hs1, hk1⟩
  obtain ⟨hr3, hr4⟩ := hd.2 (by decide)
  have HA2 := hid (HA1.out.draw hp hs1 hk1)
  clear hs1 hk1 hd
  have hS : (fun wx : World => wx.cell? ⟨D, 0, none⟩ = some (.slice (some ⟨g, 0, none⟩) n n)) v2 := HA2.out.box.cell 0
  go_wp2_with fail
  refine hK.out _ _ (fun _ => hS) ?_
  clear hK K
  try simp only [Act.put, sA, s0, sS]
  obtain ⟨at1, hat⟩ : ∃ m : Nat, r1 * 512 + r2 = (m : Int) := ⟨(r1 * 512 + r2).toNat, by omega⟩
  have q2 : IntKind.i64.wrap (r1 * 512 + r2) = (at1 : Int) := by rw [IntKind.wrap_i64, hat]; omega
  have hat2 : at1 < n := by omega
  have hat3 : (at1 : Int) < (n : Int) := by omega
  clear hat
  refine tkV 7 58 (.int .i64 (at1 : Int)) hS ?_
  refine tkV 8 59 (.pointer (some ⟨g, at1, none⟩)) hS ?_
  have u0 := HA2.out.own.dur.cell HA2.out.num.symm at1 hat2
  have uf := HA2.out.own.dur.frozen HA2.out.num.symm at1
  have HIE := hid (HA2.out.durs hp (HA2.out.own.dur.stored HA2.out.num.symm at1 7) ((Kept.refl (fun b => b = g) v2).setCell (p := ⟨g, at1, none⟩) (.inr rfl) _) (fun y hy => by rcases List.mem_or_eq_of_mem_set hy with hy | rfl; exact HA2.out.isB.1 y hy; omega) (by rw [List.length_set]; exact HA2.out.num))
  refine wpAnyV_one (i := 9) (by kernel_rfl) rfl (fun K hK => ?_)
  go_simp
  have hS : (fun wx : World => wx.cell? ⟨D, 0, none⟩ = some (.slice (some ⟨g, 0, none⟩) n n)) (v2.setCell ⟨g, at1, none⟩ (.int .u8 7)) := HIE.out.box.cell 0
  refine hK.out _ _ (fun _ => hS) ?_
  clear hK K
  refine wpAnyV_done (by kernel_rfl) ?_
  try simp only [Act.put, sA, s0, sS]
  clear hS u0 uf HA0 HA1 HA2
  generalize v2.setCell ⟨g, at1, none⟩ (.int .u8 7) = v3 at HIE ⊢
  go_wp2_with fail
  go_meet
  case rel => exact ⟨_, _, by omega, HIE⟩
 case rest =>
 obtain ⟨w13, rfl⟩ : ∃ x, x = wc := ⟨wc, rfl⟩
 obtain ⟨k13, dur, hk13, HI13⟩ := hcut
 clear HI12
 go_wp2_with fail
 refine (chance_k 15 HI13.out.src (by omega) (by constructor <;> decide)).mono ?_
 rintro ex w14 ⟨ch, rfl, hs', hk'⟩
 have HI14 := hid (HI13.out.draw hp hs' hk')
 clear hs' hk' HI13
 go_upto_if 61 with fail
 go_cut [61] (fun cv wx => ∃ (dn dc : Nat) (dur : List Int), Hid (PmE w w0 wx X0 D (.slice (some ⟨g, 0, none⟩) dn dc) (.slice pa np pc) dur ps))
 case first =>
  cases ch
  ·have HE := (show Hid (PmE w w0 w14 X0 D (.slice (some ⟨g, 0, none⟩) n n) (.slice pa np pc) dur ps) from ⟨HI14.out.box, HI14.out.res, HI14.out.own.rd, fun b hb => (HI14.out.new b hb).1, ⟨by rw [HI14.out.num]; omega, hps1, HI14.out.len⟩, HI14.out.isB, HI14.out.kept⟩)
   go_wp2_with fail
   go_meet
   case rel => exact ⟨_, _, _, HE⟩
  have g1 : (512 : Int) ≤ (n : Int) := by omega
  obtain ⟨d0, d1⟩ := HI14.out.box.all2
  have fd := HI14.out.box.frozen
  have hkD : Kept (fun b => b = D) w14 (w14.setCell ⟨D, 0, none⟩ (.slice (some ⟨g, 0, none⟩) 512 n)) := (Kept.refl (fun b => b = D) w14).setCell (p := ⟨D, 0, none⟩) (.inr rfl) _
  have hrd := HI14.out.own.rd.kept hkD (fun b hb e => (HI14.out.new b hb).2 e)
  have HE := (show Hid (PmE w w0 (w14.setCell ⟨D, 0, none⟩ (.slice (some ⟨g, 0, none⟩) 512 n)) X0 D (.slice (some ⟨g, 0, none⟩) 512 n) (.slice pa np pc) ((dur.drop 0).take 512) ps) from
   ⟨HI14.out.box.stored 0 _, HI14.out.res.kept hkD (fun e => by have h1 := hp.x2; have h2 := hp.d; omega), ⟨Rd.part (k := .u8) (b := g) (off := 0) (n := 512) (c := n) (bs := dur) (fun i hi => by rw [Nat.zero_add]; exact (HI14.out.own.dur.kept hkD (fun b hb e => (HI14.out.new b (.inl hb)).2 e)).cell HI14.out.num.symm i (by rw [← HI14.out.num]; exact hi)) 0 512 (by rw [HI14.out.num]; omega) rfl (by omega) (by unfold maxLen; omega), hrd.pend⟩, fun b hb => (HI14.out.new b (by rcases hb with hb | hb; exact .inl hb; exact .inr hb)).1, ⟨by rw [List.length_take]; omega, hps1, HI14.out.len⟩, ⟨fun x hx => HI14.out.isB.1 x (List.mem_of_mem_drop (List.mem_of_mem_take hx)), HI14.out.isB.2⟩, HI14.out.kept.next hkD (fun i hi e => by have h1 := hp.x1; have h2 := hp.x2; have h3 := hp.d; have e' : i = D := e; omega)⟩)
  clear hrd hkD HI14
  go_wp2_with fail
  go_meet
  case rel => exact ⟨_, _, _, HE⟩
 case rest =>
 obtain ⟨w15, rfl⟩ : ∃ x, x = wc := ⟨wc, rfl⟩
 obtain ⟨dn, dc, dur, HE⟩ := hcut
 clear HI14
 obtain ⟨d0, d1⟩ := HE.out.box.all2
 obtain ⟨r0, r1⟩ := HE.out.res.all2
 have fr := HE.out.res.frozen
 have hkX : Kept (fun b => b = X0) w15 ((w15.setCell ⟨X0, 0, none⟩ (.slice (some ⟨g, 0, none⟩) dn dc)).setCell ⟨X0, 1, none⟩ (.slice pa np pc)) := ((Kept.refl (fun b => b = X0) w15).setCell (p := ⟨X0, 0, none⟩) (.inr rfl) _).setCell (p := ⟨X0, 1, none⟩) (.inr rfl) _
 have HEN := (show Hid (PmR w ((w15.setCell ⟨X0, 0, none⟩ (.slice (some ⟨g, 0, none⟩) dn dc)).setCell ⟨X0, 1, none⟩ (.slice pa np pc)) (.returned (.agg #[.slice (some ⟨g, 0, none⟩) dn dc, .slice pa np pc]))) from ⟨_, _, dur, ps, rfl, HE.out.len.1, HE.out.len.2.1, HE.out.len.2.2, HE.out.isB, HE.out.rd.kept hkX (fun b hb e => by have h1 := HE.out.foot b hb; have h2 := hp.x2; have e' : b = X0 := e; omega), HE.out.kept.next hkX (fun i hi e => by have h1 := hp.x1; have e' : i = X0 := e; omega)⟩)
 have HBE := hid ((HE.out.res.stored 0 (.slice (some ⟨g, 0, none⟩) dn dc)).stored 1 (.slice pa np pc))
 clear hkX
 go_wp2
 generalize (w15.setCell ⟨X0, 0, none⟩ (.slice (some ⟨g, 0, none⟩) dn dc)).setCell ⟨X0, 1, none⟩ (.slice pa np pc) = wz at *
 obtain ⟨x0, x1⟩ := HBE.out.all2
 exact bodyPost_ret (v := .agg #[.slice (some ⟨g, 0, none⟩) dn dc, .slice pa np pc]) (by simp [results, Tryd.results9, go_sem, x0, x1]) rfl HEN.out
end Go.Proofs.YtnkollbhicmdhaaDoor
