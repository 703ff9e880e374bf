import Derived.Test.YtbbllmlokddolaaDrawPool
import Derived.Deep.CutBlock
import Derived.Deep.DeepCutAuto
namespace Go.Proofs.Ytbbllmlokddolaa
set_option maxRecDepth 100000
set_option maxHeartbeats 8000000
open Go.RowKit
set_option linter.unusedVariables false
set_option linter.unusedSimpArgs false
structure BdI (F : Nat → Prop) (w0 w wr : World) (B : Nat) (v : Value) (cs : List Int) (k : Nat) (size : Int) (X g n c : Nat) (hd : Int) (qs : List EFrame) : Prop where
  src : SrcR w0 wr B v cs k size
  box : Blk wr X 25 [.slice (some ⟨g, 0, none⟩) n c, .int .i64 hd]
  res : Blk wr (X + 1) 25 [.slice none 0 0, .int .i64 0]
  own : OwnR kFrame 0 36 5 wr (.slice (some ⟨g, 0, none⟩) n c) qs
  foot : ∀ b, footR kFrame (.slice (some ⟨g, 0, none⟩) n c) qs b → b ≠ B ∧ w0.heap.size ≤ b ∧ b ≠ X ∧ b ≠ X + 1 ∧ (F b ∨ w.heap.size ≤ b)
  kept : Kept (fun b => b = B ∨ F b) w wr
  len : qs.length = n
structure BdE (F : Nat → Prop) (w0 w wr : World) (B : Nat) (v : Value) (cs : List Int) (k : Nat) (size : Int) (X : Nat) (pv : Value) (hd : Int) (qs : List EFrame) : Prop where
  src : SrcR w0 wr B v cs k size
  box : Blk wr X 25 [pv, .int .i64 hd]
  res : Blk wr (X + 1) 25 [.slice none 0 0, .int .i64 0]
  rd : RdR kFrame wr pv qs
  foot : ∀ b, footR kFrame pv qs b → b ≠ B ∧ b ≠ X ∧ b ≠ X + 1 ∧ (F b ∨ w.heap.size ≤ b)
  kept : Kept (fun b => b = B ∨ F b) w wr
section
variable {F : Nat → Prop} {w0 w wr wx : World} {B : Nat} {v : Value} {cs : List Int} {k k' : Nat} {size : Int} {X g n c : Nat} {hd : Int} {qs : List EFrame}
theorem BdI.same (h : BdI F w0 w wr B v cs k size X g n c hd qs) (hk : Same wr wx) : BdI F w0 w wx B v cs k size X g n c hd qs :=
  ⟨h.src.same hk, h.box.same hk, h.res.same hk, h.own.same hk, h.foot, h.kept.trans (hk.mono (fun _ _ e => e.elim)), h.len⟩
theorem BdI.draw (h : BdI F w0 w wr B v cs k size X g n c hd qs) (hB : B < X) (hs : SrcR w0 wx B v cs k' size) (hk : Kept (fun b => b = B) wr wx) : BdI F w0 w wx B v cs k' size X g n c hd qs :=
  ⟨hs, h.box.kept hk (fun e => by omega), h.res.kept hk (fun e => by omega), h.own.kept hk (fun b hb e => (h.foot b hb).1 e), h.foot, h.kept.trans (hk.mono (fun _ _ e => .inl e)), h.len⟩
theorem BdI.fin (h : BdI F w0 w wr B v cs k size X g n c hd qs) : BdE F w0 w wr B v cs k size X (.slice (some ⟨g, 0, none⟩) n c) hd qs :=
  ⟨h.src, h.box, h.res, h.own.rd, fun b hb => ⟨(h.foot b hb).1, (h.foot b hb).2.2⟩, h.kept⟩
theorem BdI.stored (h : BdI F w0 w wr B v cs k size X g n c hd qs) (hB : B < X) (hX : X = w.heap.size) (hw : w0.heap.size ≤ X) (i : Nat) (u : Value) : SrcR w0 (wr.setCell ⟨X, i, none⟩ u) B v cs k size ∧ Blk (wr.setCell ⟨X, i, none⟩ u) X 25 ([.slice (some ⟨g, 0, none⟩) n c, .int .i64 hd].set i u) ∧ Blk (wr.setCell ⟨X, i, none⟩ u) (X + 1) 25 [.slice none 0 0, .int .i64 0] ∧ OwnR kFrame 0 36 5 (wr.setCell ⟨X, i, none⟩ u) (.slice (some ⟨g, 0, none⟩) n c) qs ∧ Kept (fun b => b = B ∨ F b) w (wr.setCell ⟨X, i, none⟩ u) := by
  have hk : Kept (fun b => b = X) wr (wr.setCell ⟨X, i, none⟩ u) := (Kept.refl (fun b => b = X) wr).setCell (p := ⟨X, i, none⟩) (.inr rfl) _
  exact ⟨h.src.on hk (fun e => by omega) (fun j hj e => by omega), h.box.stored i u, h.res.kept hk (fun e => by omega), h.own.kept hk (fun b hb e => (h.foot b hb).2.2.1 e), h.kept.next hk (fun j hj e => by have e' : j = X := e; omega)⟩
theorem BdI.setAt {p' : EFrame} (h : BdI F w0 w wr B v cs k size X g n c hd qs) (hg : F g) {a : Nat} (ha : a < qs.length) (i : Nat) (u : Value) (hi : i < 6) (hc : kFrame.cells p' = (kFrame.cells qs[a]).set i u) (hv : p'.v = qs[a].v) (hb : p'.bs = qs[a].bs) (j : Nat) (hj : j = a * 6 + i) :
    BdI F w0 w (wr.setCell ⟨g, j, none⟩ u) B v cs k size X g n c hd (qs.set a p') := by
  have hgf := h.foot g (.inl rfl)
  have hk : Kept (fun b => b = g) wr (wr.setCell ⟨g, j, none⟩ u) := (Kept.refl (fun b => b = g) wr).setCell (p := ⟨g, j, none⟩) (.inr rfl) _
  exact ⟨h.src.on hk (fun e => hgf.1 e.symm) (fun i hi e => by omega), h.box.kept hk (fun e => hgf.2.2.1 e.symm), h.res.kept hk (fun e => hgf.2.2.2.1 e.symm), h.own.setAt h.len.symm ha i u hi hc hv hb j hj, fun b hb => h.foot b (footR_set ha hv b hb), h.kept.trans (hk.mono (fun b _ e => .inr (by have e' : b = g := e; rw [e']; exact hg))), by rw [List.length_set, h.len]⟩
theorem BdI.push {w3 : World} {p : EFrame} {g6 cap6 : Nat} {ce : Array Value} (h : BdI F w0 w wr B v cs k size X g n c hd qs) (hB : B < X) (hX : X = w.heap.size) (hw : w0.heap.size ≤ X)
    (hu : Own 0 5 .u8 wr p.v p.bs) (huf : ∀ b, p.v.ownBlock = some b → X + 1 < b ∧ ¬ footR kFrame (.slice (some ⟨g, 0, none⟩) n c) qs b)
    (hg : (wr.alloc (.cells ce 36)).grownBy w3 (Value.slice (some ⟨g, 0, none⟩) n c).ownBlock)
    (hown : w3.ownsRow 0 36 6 (.slice (some ⟨g6, 0, none⟩) (n + 1) cap6) (n + 1) (kFrame.all qs ++ kFrame.cells p)) (hat : (Value.slice (some ⟨g, 0, none⟩) n c).ownBlock = some g6 ∨ g6 = wr.heap.size + 1) :
    BdI F w0 w (w3.setCell ⟨X, 0, none⟩ (.slice (some ⟨g6, 0, none⟩) (n + 1) cap6)) B v cs k size X g6 (n + 1) cap6 hd (qs ++ [p]) := by
  have hgf := h.foot g (.inl rfl)
  have hka : Same wr (wr.alloc (.cells ce 36)) := (Kept.refl _ _).alloc _
  have hkg : Kept (fun b => b = g) wr w3 := (hka.mono (fun _ _ e => e.elim) : Kept (fun b => b = g) wr _).trans (Kept.of_grown hg (fun b e => by have e' : g = b := (by simpa [Value.ownBlock] using e); exact e'.symm))
  have hXl : X + 1 < wr.heap.size := h.res.lt
  have hlen := h.len
  have hsn := OwnR.snoc (K := kFrame) p (h.own.same hka) (hu.same hka) (fun b hb hf => (huf b hb).2 hf) hg hown hlen.symm (by rw [World.size_alloc]; exact hat)
  have hfoot : ∀ b, footR kFrame (.slice (some ⟨g6, 0, none⟩) (n + 1) cap6) (qs ++ [p]) b → b ≠ B ∧ w0.heap.size ≤ b ∧ b ≠ X ∧ b ≠ X + 1 ∧ (F b ∨ w.heap.size ≤ b) := fun b hb => by
    rcases footR_snoc (v := .slice (some ⟨g, 0, none⟩) n c) b hb with rfl | hb | hb
    · rcases hat with e | e
      · have e' : g = b := by simpa [Value.ownBlock] using e
        subst e'
        exact hgf
      · exact ⟨by omega, by omega, by omega, by omega, .inr (by omega)⟩
    · exact h.foot b hb
    · have := (huf b hb).1
      exact ⟨by omega, by omega, by omega, by omega, .inr (by omega)⟩
  have hkX : Kept (fun b => b = X) w3 (w3.setCell ⟨X, 0, none⟩ (.slice (some ⟨g6, 0, none⟩) (n + 1) cap6)) := (Kept.refl (fun b => b = X) w3).setCell (p := ⟨X, 0, none⟩) (.inr rfl) _
  refine ⟨(h.src.on hkg (fun e => hgf.1 e.symm) (fun i hi e => by omega)).on hkX (fun e => by omega) (fun i hi e => by omega), (h.box.kept hkg (fun e => hgf.2.2.1 e.symm)).stored 0 _, (h.res.kept hkg (fun e => hgf.2.2.2.1 e.symm)).kept hkX (fun e => by omega), hsn.kept hkX (fun b hb e => (hfoot b hb).2.2.1 e), hfoot, ?_, by rw [List.length_append, hlen]; rfl⟩
  refine (h.kept.next (R' := fun b => b = g) hkg (fun i hi e => ?_)).next hkX (fun i hi e => by have e' : i = X := e; omega)
  have e' : i = g := e
  subst e'
  rcases hgf.2.2.2.2 with h1 | h1
  · exact .inr h1
  · omega
end
theorem RdR.dropF {w : World} {g c K : Nat} {os : List EFrame} (h : RdR kFrame w (.slice (some ⟨g, 0, none⟩) os.length c) os) (hK : K ≤ os.length) : RdR kFrame w (.slice (some ⟨g, K * 6, none⟩) (os.length - K) (c - K)) (os.drop K) := by
  have hl : (os.drop K).length = os.length - K := List.length_drop
  refine ⟨by rw [hl]; have := h.max; omega, ?_, fun p hp => h.data p (List.mem_of_mem_drop hp)⟩
  rcases h.row with ⟨h1, _⟩ | ⟨b, off, c', e, hc⟩
  · subst h1
    exact .inl ⟨by simp, some ⟨g, K * 6, none⟩, c - K, by simp⟩
  · injection e with e1 _ e2
    injection e1 with e1
    cases e1
    subst e2
    refine .inr ⟨g, K * 6, c - K, by rw [hl], fun j i hj hi => ?_⟩
    have h1 := hc (K + j) i (by omega) hi
    rw [List.getElem_drop, ← h1]
    congr 2
    show K * 6 + (j * 6 + i) = 0 + ((K + j) * 6 + i)
    omega
theorem Own.take {base : Nat} {e : TypeId} {k : IntKind} {w : World} {a : Option Addr} {n c : Nat} {bs : List Int} (h : Own base e k w (.slice a n c) bs) (H : Nat) (hH : H ≤ bs.length) : Own base e k w (.slice a H c) (bs.take H) := by
  obtain ⟨hlen, hrow⟩ := h
  have hl : (bs.take H).length = H := by rw [List.length_take]; omega
  rcases hrow with ⟨h1, h2⟩ | ⟨g', cap', cur, h1, hb, hg, hnc, hcm, hcs, htake⟩
  · injection h1 with h1 h3 h4
    have h2' : bs.length = 0 := h2
    subst h1 h3 h4
    obtain rfl : H = 0 := by omega
    exact Own.nil _ _ _ _
  · injection h1 with h1 h3 h4
    subst h1 h4
    refine ⟨by rw [vals_length]; omega, .inr ⟨g', c, cur, by rw [hl], hb, hg, by rw [hl]; omega, hcm, hcs, ?_⟩⟩
    rw [hl]
    have e : vals k (bs.take H) = (vals k bs).take H := by simp [vals]
    rw [e, ← htake, List.take_take]
    congr 1
    omega
theorem Own.caps' {base : Nat} {e : TypeId} {k : IntKind} {w : World} {a : Option Addr} {n cap : Nat} {xs : List Int} (h : Own base e k w (.slice a n cap) xs) : n = xs.length ∧ n ≤ cap := by
  rcases h.form with ⟨h, h'⟩ | ⟨g', cap', h, _, _, hc, _⟩
  · simp only [Value.slice.injEq] at h
    rw [h']
    exact ⟨h.2.1, by omega⟩
  · simp only [Value.slice.injEq] at h
    exact ⟨h.2.1, by omega⟩
def lenAt (w : World) (X : Nat) : Nat := match w.cell? ⟨X, 0, none⟩ with
  | some (.slice _ n _) => n
  | _ => 0
theorem bend_any : BendsPool := by
  intro w0 w B v cs kk size hd g n c qs h hkk hn1 hn4 hql hsh ho hf
  obtain ⟨i0, hi0, hz0, hz1, hz2⟩ := info_parts Try.infoByte'
  obtain ⟨j0, hj0, hy0, hy1, hy2⟩ := info_parts Try.infoRFrame
  obtain ⟨F, hF⟩ : ∃ F, footR kFrame (.slice (some ⟨g, 0, none⟩) n c) qs = F := ⟨_, rfl⟩
  have hFg : F g := by rw [← hF]; exact .inl rfl
  have hFl : ∀ b, F b → b < w.heap.size := fun b hb => by rw [← hF] at hb; exact (ho.lt b hb).2
  have hf' : ∀ b, F b → b ≠ B ∧ w0.heap.size ≤ b := fun b hb => hf b (by rw [hF]; exact hb)
  rw [hF]
  have hBw := h.lt
  have hw0 := h.kept.size
  have hk0 : Same w ((w.alloc (.cells #[.slice (some ⟨g, 0, none⟩) n c, .int .i64 hd] 25)).alloc (.cells #[.slice none 0 0, .int .i64 0] 25)) := ((Kept.refl _ _).alloc _).alloc _
  obtain ⟨X, hX⟩ : ∃ X, w.heap.size = X := ⟨_, rfl⟩
  have HI := (show Hid (BdI F w0 w ((w.alloc (.cells #[.slice (some ⟨g, 0, none⟩) n c, .int .i64 hd] 25)).alloc (.cells #[.slice none 0 0, .int .i64 0] 25)) B v cs kk size X g n c hd qs) from ⟨h.same hk0, by rw [← hX]; exact (Blk.new w #[.slice (some ⟨g, 0, none⟩) n c, .int .i64 hd] 25).same ((Kept.refl _ _).alloc _), by rw [← hX]; have h2 := Blk.new (w.alloc (.cells #[.slice (some ⟨g, 0, none⟩) n c, .int .i64 hd] 25)) #[.slice none 0 0, .int .i64 0] 25; rw [World.size_alloc] at h2; exact h2, ho.same hk0, fun b hb => by rw [hF] at hb; have h1 := hFl b hb; have h2 := hf' b hb; exact ⟨h2.1, h2.2, by omega, by omega, .inl hb⟩, hk0.mono (fun _ _ e => e.elim), hql⟩)
  have HSH := hid hsh
  clear h ho hf hk0 hF hql hsh
  rw [hX] at hBw hw0 hFl
  go_enter Try.func46, Try.ntmps46
  go_upto_region 1 with fail
  try rw [hX]
  generalize (w.alloc (.cells #[.slice (some ⟨g, 0, none⟩) n c, .int .i64 hd] 25)).alloc (.cells #[.slice none 0 0, .int .i64 0] 25) = w1 at *
  have HX := hid hX.symm
  clear hX
  obtain ⟨b0, b1⟩ := HI.out.box.all2
  go_wp2_with fail
  refine (next_k (n : Int) HI.out.src (by omega) (by constructor <;> omega)).mono ?_
  rintro e w2 ⟨at_, rfl, hdr, hs2, hk2⟩
  obtain ⟨ha1, ha2⟩ := hdr.2 (by omega)
  obtain ⟨A, rfl⟩ : ∃ m : Nat, at_ = (m : Int) := ⟨at_.toNat, by omega⟩
  have hAn : A < n := by omega
  have HI2 := hid (HI.out.draw hBw hs2 hk2)
  clear hdr hs2 hk2 HI b0 b1 ha1
  go_wp2_with fail
  refine (next_k 9 HI2.out.src (by omega) (by constructor <;> decide)).mono ?_
  rintro e w3 ⟨z, rfl, _, hs3, hk3⟩
  have HI3 := hid (HI2.out.draw hBw hs3 hk3)
  clear hs3 hk3 HI2
  go_upto_block 0 with fail
  go_cut [12] (fun _ wx => ∃ (a : Option Addr) (n' c' k' : Nat) (hd' : Int) (qs' : List EFrame), k' ≤ kk + 10 ∧ n' = qs'.length ∧ n' ≤ 17 ∧ Hid (BdE F w0 w wx B v cs k' size X (.slice a n' c') hd' qs'))
  case first =>
    have hAq : A < qs.length := by rw [HI3.out.len]; exact hAn
    obtain ⟨b0, b1⟩ := HI3.out.box.all2
    have fb := HI3.out.box.frozen
    by_cases z0 : z = 0
    · subst z0
      have hst := HI3.out.stored hBw HX.out hw0 0 (.slice none 0 0)
      have HE := (show Hid (BdE F w0 w (w3.setCell ⟨X, 0, none⟩ (.slice none 0 0)) B v cs _ size X (.slice none 0 0) hd []) from ⟨hst.1, hst.2.1, hst.2.2.1, ⟨Nat.zero_le _, .inl ⟨rfl, _, _, rfl⟩, fun p hp => by simp at hp⟩, fun b hb => by rcases hb with hb | ⟨p, hp, _⟩; simp [Value.ownBlock] at hb; simp at hp, hst.2.2.2.2⟩)
      clear hst
      go_wp2_with fail
      go_meet
      case rel => exact ⟨none, 0, 0, _, _, [], by omega, rfl, by omega, HE⟩
    have e0 : (z == 0) = false := by simp [z0]
    by_cases z1 : z = 1
    · subst z1
      go_wp2_with fail
      refine wp_region_V (fun wx : World => wx.cell? ⟨X, 0, none⟩ = some (.slice (some ⟨g, 0, none⟩) n c)) 12 13 rfl (by kernel_rfl) ?_
      have HJ := hid (HI3.out.same (Kept.refl _ _).drew)
      generalize w3.drew = v1 at HJ ⊢
      clear b0 b1 fb
      have hS : (fun wx : World => wx.cell? ⟨X, 0, none⟩ = some (.slice (some ⟨g, 0, none⟩) n c)) v1 := HJ.out.box.cell 0
      have q1 : IntKind.i64.wrap ((n : Int) + 1) = (n : Int) + 1 := by rw [IntKind.wrap_i64]; omega
      refine tk 0 18 hS ?_
      refine tk 1 19 hS ?_
      refine tk 2 20 hS ?_
      refine tk 3 21 hS ?_
      refine tk 5 23 hS ?_
      refine tk 6 24 hS ?_
      refine tk 7 25 hS ?_
      refine tkV 8 26 (.int .i64 ((n : Int) + 1)) hS ?_
      refine wpAnyV_one (i := 4) (by kernel_rfl) rfl (fun K hK => ?_)
      go_simp
      refine (next_k 2 HJ.out.src (by omega) (by constructor <;> decide)).mono ?_
      rintro e v2 ⟨r, rfl, hdr, hs', hk'⟩
      obtain ⟨hr1, hr2⟩ := hdr.2 (by decide)
      have HJ2 := hid (HJ.out.draw hBw hs' hk')
      clear hdr hs' hk' HJ
      have hS : (fun wx : World => wx.cell? ⟨X, 0, none⟩ = some (.slice (some ⟨g, 0, none⟩) n c)) v2 := HJ2.out.box.cell 0
      go_wp2_with fail
      refine hK.out _ _ (fun _ => hS) ?_
      clear hK K
      try simp only [Act.put, sA, s0, sS]
      obtain ⟨m, hm⟩ : ∃ m, r * ((n : Int) + 1) = m := ⟨_, rfl⟩
      have hm1 : 0 ≤ m ∧ m ≤ 5 := by
        rcases (show r = 0 ∨ r = 1 by omega) with rfl | rfl
        · rw [← hm]; simp
        · rw [← hm]; omega
      have q2 : IntKind.i64.wrap (r * ((n : Int) + 1)) = m := by rw [IntKind.wrap_i64, hm]; omega
      have q3 : IntKind.i64.wrap ((n : Int) - m) = (n : Int) - m := by rw [IntKind.wrap_i64]; omega
      clear hm
      refine tkV 9 27 (.int .i64 m) hS ?_
      refine tkV 10 28 (.int .i64 ((n : Int) - m)) hS ?_
      refine tk 11 29 hS ?_
      obtain ⟨z0, z1⟩ := HJ2.out.box.all2
      have zf := HJ2.out.box.frozen
      have hst := HJ2.out.stored hBw HX.out hw0 1 (.int .i64 ((n : Int) - m))
      have HE := (show Hid (BdE F w0 w (v2.setCell ⟨X, 1, none⟩ (.int .i64 ((n : Int) - m))) B v cs _ size X (.slice (some ⟨g, 0, none⟩) n c) ((n : Int) - m) qs) from ⟨hst.1, hst.2.1, hst.2.2.1, hst.2.2.2.1.rd, fun b hb => ⟨(HJ2.out.foot b hb).1, (HJ2.out.foot b hb).2.2⟩, hst.2.2.2.2⟩)
      have HLN := hid HJ2.out.len
      refine wpAnyV_one (i := 12) (by kernel_rfl) rfl (fun K hK => ?_)
      go_simp
      refine hK.out _ _ (fun h => absurd rfl h) ?_
      clear hK K
      refine wpAnyV_done (by kernel_rfl) ?_
      try simp only [Act.put, sA, s0, sS]
      generalize v2.setCell ⟨X, 1, none⟩ (.int .i64 ((n : Int) - m)) = v3 at HE ⊢
      clear hS z0 z1 zf hst HJ2
      go_wp2_with fail
      go_meet
      case rel => exact ⟨_, n, c, _, _, _, by omega, HLN.out.symm, by omega, HE⟩
    have e1 : (z == 1) = false := by simp [z1]
    by_cases z2 : z = 2
    · subst z2
      have u0 : ∃ u, w3.cell? ⟨g, A * 6, none⟩ = some u := ⟨_, by have h := HI3.out.own.cell HI3.out.len.symm A 0 hAq (by decide); exact h⟩
      obtain ⟨u0, hu0⟩ := u0
      have uf : w3.frozen? ⟨g, A * 6, none⟩ = false := HI3.out.own.frozen HI3.out.len.symm _
      have HE := hid (HI3.out.setAt (p' := { qs[A] with page := -1 }) hFg hAq 0 (.int .i64 (-1)) (by decide) rfl rfl rfl (A * 6) rfl)
      go_wp2_with fail
      go_meet
      case rel => exact ⟨_, n, c, _, _, _, by omega, by rw [List.length_set, HI3.out.len], by omega, HE.out.fin⟩
    have e2 : (z == 2) = false := by simp [z2]
    by_cases z3 : z = 3
    · subst z3
      have u0 : ∃ u, w3.cell? ⟨g, A * 6, none⟩ = some u := ⟨_, by have h := HI3.out.own.cell HI3.out.len.symm A 0 hAq (by decide); exact h⟩
      obtain ⟨u0, hu0⟩ := u0
      have uf : w3.frozen? ⟨g, A * 6, none⟩ = false := HI3.out.own.frozen HI3.out.len.symm _
      have HE := hid (HI3.out.setAt (p' := { qs[A] with page := 16 }) hFg hAq 0 (.int .i64 16) (by decide) rfl rfl rfl (A * 6) rfl)
      go_wp2_with fail
      go_meet
      case rel => exact ⟨_, n, c, _, _, _, by omega, by rw [List.length_set, HI3.out.len], by omega, HE.out.fin⟩
    have e3 : (z == 3) = false := by simp [z3]
    by_cases z4 : z = 4
    · subst z4
      go_wp2_with fail
      refine wp_region_V (fun wx : World => wx.cell? ⟨X, 0, none⟩ = some (.slice (some ⟨g, 0, none⟩) n c)) 99 11 rfl (by kernel_rfl) ?_
      have HJ := hid (HI3.out.same (Kept.refl _ _).drew)
      generalize w3.drew = v1 at HJ ⊢
      clear b0 b1 fb
      have hS : (fun wx : World => wx.cell? ⟨X, 0, none⟩ = some (.slice (some ⟨g, 0, none⟩) n c)) v1 := HJ.out.box.cell 0
      have hAi : (A : Int) < (n : Int) := by omega
      refine tk 0 46 hS ?_
      refine tk 1 47 hS ?_
      refine tk 2 48 hS ?_
      refine tk 4 50 hS ?_
      refine wpAnyV_two (i := 3) (j := 5) (by kernel_rfl) rfl rfl (fun K hK => ?_) (fun K hK => ?_)
      · go_simp
        have HL0 := hid (Blk.new v1 #[.int .i64 (-1), .int .i64 2147483647, .int .i64 2147483648] 2)
        have hLs : X + 1 < v1.heap.size := HJ.out.res.lt
        have HJ2 := hid (HJ.out.same ((Kept.refl _ _).alloc (.cells #[.int .i64 (-1), .int .i64 2147483647, .int .i64 2147483648] 2)))
        have hS : (fun wx : World => wx.cell? ⟨X, 0, none⟩ = some (.slice (some ⟨g, 0, none⟩) n c)) (v1.alloc (.cells #[.int .i64 (-1), .int .i64 2147483647, .int .i64 2147483648] 2)) := HJ2.out.box.cell 0
        refine hK.out _ _ (fun _ => hS) ?_
        clear hK K HJ
        try simp only [Act.put, sA, s0, sS]
        obtain ⟨L, hL⟩ : ∃ L, v1.heap.size = L := ⟨_, rfl⟩
        rw [hL] at HL0 hLs
        try rw [hL]
        generalize v1.alloc (.cells #[.int .i64 (-1), .int .i64 2147483647, .int .i64 2147483648] 2) = v2 at HJ2 HL0 hS ⊢
        clear hL
        refine wpAnyV_one (i := 5) (by kernel_rfl) rfl (fun K hK => ?_)
        go_simp
        refine (next_k 3 HJ2.out.src (by omega) (by constructor <;> decide)).mono ?_
        rintro e v3 ⟨r, rfl, hdr, hs', hk'⟩
        obtain ⟨hr1, hr2⟩ := hdr.2 (by decide)
        obtain ⟨r, rfl⟩ : ∃ m : Nat, r = (m : Int) := ⟨r.toNat, by omega⟩
        have HJ3 := hid (HJ2.out.draw hBw hs' hk')
        have HL := hid (HL0.out.kept hk' (fun e => by omega))
        clear hdr hs' hk' HJ2 HL0
        have hS : (fun wx : World => wx.cell? ⟨X, 0, none⟩ = some (.slice (some ⟨g, 0, none⟩) n c)) v3 := HJ3.out.box.cell 0
        go_wp2_with fail
        refine hK.out _ _ (fun _ => hS) ?_
        clear hK K
        try simp only [Act.put, sA, s0, sS]
        have hlx : ∃ x, v3.cell? ⟨L, r, none⟩ = some (.int .i64 x) := by
          rcases (show r = 0 ∨ r = 1 ∨ r = 2 by omega) with rfl | rfl | rfl
          · exact ⟨_, HL.out.cell 0⟩
          · exact ⟨_, HL.out.cell 1⟩
          · exact ⟨_, HL.out.cell 2⟩
        obtain ⟨x, hlx⟩ := hlx
        have hri : (r : Int) < 3 := by omega
        refine tkV 6 52 (.pointer (some ⟨L, r, none⟩)) hS ?_
        refine wpAnyV_one (i := 7) (by kernel_rfl) rfl (fun K hK => ?_)
        go_simp
        refine hK.out _ _ (fun _ => hS) ?_
        clear hK K
        try simp only [Act.put, sA, s0, sS]
        refine tkV 8 54 (.pointer (some ⟨g, A * 6, none⟩)) hS ?_
        refine tkV 9 55 (.pointer (some ⟨g, A * 6 + 2, none⟩)) hS ?_
        have u0 : ∃ u, v3.cell? ⟨g, A * 6 + 2, none⟩ = some u := ⟨_, by have h := HJ3.out.own.cell HJ3.out.len.symm A 2 hAq (by decide); exact h⟩
        obtain ⟨u0, hu0⟩ := u0
        have uf : v3.frozen? ⟨g, A * 6 + 2, none⟩ = false := HJ3.out.own.frozen HJ3.out.len.symm _
        have HE := hid (HJ3.out.setAt (p' := { qs[A] with pins := x }) hFg hAq 2 (.int .i64 x) (by decide) rfl rfl rfl (A * 6 + 2) rfl)
        have HLN := hid HJ3.out.len
        refine wpAnyV_one (i := 10) (by kernel_rfl) rfl (fun K hK => ?_)
        go_simp
        refine hK.out _ _ (fun _ => HE.out.box.cell 0) ?_
        clear hK K
        refine wpAnyV_done (by kernel_rfl) ?_
        try simp only [Act.put, sA, s0, sS]
        generalize v3.setCell ⟨g, A * 6 + 2, none⟩ (.int .i64 x) = v4 at HE ⊢
        clear hS hu0 uf HJ3 hlx HL
        go_wp2_with fail
        go_meet
        case rel => exact ⟨_, n, c, _, _, _, by omega, by rw [List.length_set, HLN.out], by omega, HE.out.fin⟩
      · go_simp
        refine (next_k 3 HJ.out.src (by omega) (by constructor <;> decide)).mono ?_
        rintro e v2 ⟨r, rfl, hdr, hs', hk'⟩
        obtain ⟨hr1, hr2⟩ := hdr.2 (by decide)
        obtain ⟨r, rfl⟩ : ∃ m : Nat, r = (m : Int) := ⟨r.toNat, by omega⟩
        have HJ2 := hid (HJ.out.draw hBw hs' hk')
        clear hdr hs' hk' HJ
        have hS : (fun wx : World => wx.cell? ⟨X, 0, none⟩ = some (.slice (some ⟨g, 0, none⟩) n c)) v2 := HJ2.out.box.cell 0
        go_wp2_with fail
        refine hK.out _ _ (fun _ => hS) ?_
        clear hK K
        try simp only [Act.put, sA, s0, sS]
        refine wpAnyV_one (i := 3) (by kernel_rfl) rfl (fun K hK => ?_)
        go_simp
        have HL := hid (Blk.new v2 #[.int .i64 (-1), .int .i64 2147483647, .int .i64 2147483648] 2)
        have HJ3 := hid (HJ2.out.same ((Kept.refl _ _).alloc (.cells #[.int .i64 (-1), .int .i64 2147483647, .int .i64 2147483648] 2)))
        have hS : (fun wx : World => wx.cell? ⟨X, 0, none⟩ = some (.slice (some ⟨g, 0, none⟩) n c)) (v2.alloc (.cells #[.int .i64 (-1), .int .i64 2147483647, .int .i64 2147483648] 2)) := HJ3.out.box.cell 0
        refine hK.out _ _ (fun _ => hS) ?_
        clear hK K HJ2
        try simp only [Act.put, sA, s0, sS]
        obtain ⟨L, hL⟩ : ∃ L, v2.heap.size = L := ⟨_, rfl⟩
        rw [hL] at HL
        try rw [hL]
        generalize v2.alloc (.cells #[.int .i64 (-1), .int .i64 2147483647, .int .i64 2147483648] 2) = v3 at HJ3 HL hS ⊢
        clear hL
        have hlx : ∃ x, v3.cell? ⟨L, r, none⟩ = some (.int .i64 x) := by
          rcases (show r = 0 ∨ r = 1 ∨ r = 2 by omega) with rfl | rfl | rfl
          · exact ⟨_, HL.out.cell 0⟩
          · exact ⟨_, HL.out.cell 1⟩
          · exact ⟨_, HL.out.cell 2⟩
        obtain ⟨x, hlx⟩ := hlx
        have hri : (r : Int) < 3 := by omega
        refine tkV 6 52 (.pointer (some ⟨L, r, none⟩)) hS ?_
        refine wpAnyV_one (i := 7) (by kernel_rfl) rfl (fun K hK => ?_)
        go_simp
        refine hK.out _ _ (fun _ => hS) ?_
        clear hK K
        try simp only [Act.put, sA, s0, sS]
        refine tkV 8 54 (.pointer (some ⟨g, A * 6, none⟩)) hS ?_
        refine tkV 9 55 (.pointer (some ⟨g, A * 6 + 2, none⟩)) hS ?_
        have u0 : ∃ u, v3.cell? ⟨g, A * 6 + 2, none⟩ = some u := ⟨_, by have h := HJ3.out.own.cell HJ3.out.len.symm A 2 hAq (by decide); exact h⟩
        obtain ⟨u0, hu0⟩ := u0
        have uf : v3.frozen? ⟨g, A * 6 + 2, none⟩ = false := HJ3.out.own.frozen HJ3.out.len.symm _
        have HE := hid (HJ3.out.setAt (p' := { qs[A] with pins := x }) hFg hAq 2 (.int .i64 x) (by decide) rfl rfl rfl (A * 6 + 2) rfl)
        have HLN := hid HJ3.out.len
        refine wpAnyV_one (i := 10) (by kernel_rfl) rfl (fun K hK => ?_)
        go_simp
        refine hK.out _ _ (fun _ => HE.out.box.cell 0) ?_
        clear hK K
        refine wpAnyV_done (by kernel_rfl) ?_
        try simp only [Act.put, sA, s0, sS]
        generalize v3.setCell ⟨g, A * 6 + 2, none⟩ (.int .i64 x) = v4 at HE ⊢
        clear hS hu0 uf HJ3 hlx HL
        go_wp2_with fail
        go_meet
        case rel => exact ⟨_, n, c, _, _, _, by omega, by rw [List.length_set, HLN.out], by omega, HE.out.fin⟩
    have e4 : (z == 4) = false := by simp [z4]
    by_cases z5 : z = 5
    · subst z5
      go_wp2_with fail
      refine wp_region_V (fun wx : World => wx.cell? ⟨X, 0, none⟩ = some (.slice (some ⟨g, 0, none⟩) n c)) 99 11 rfl (by kernel_rfl) ?_
      have HJ := hid (HI3.out.same (Kept.refl _ _).drew)
      generalize w3.drew = v1 at HJ ⊢
      clear b0 b1 fb
      have hS : (fun wx : World => wx.cell? ⟨X, 0, none⟩ = some (.slice (some ⟨g, 0, none⟩) n c)) v1 := HJ.out.box.cell 0
      have hAi : (A : Int) < (n : Int) := by omega
      refine tk 0 58 hS ?_
      refine tk 1 59 hS ?_
      refine tk 2 60 hS ?_
      refine tk 4 62 hS ?_
      refine wpAnyV_two (i := 3) (j := 5) (by kernel_rfl) rfl rfl (fun K hK => ?_) (fun K hK => ?_)
      · go_simp
        have HL0 := hid (Blk.new v1 #[.int .i64 0, .int .i64 1, .int .i64 1099511627777] 2)
        have hLs : X + 1 < v1.heap.size := HJ.out.res.lt
        have HJ2 := hid (HJ.out.same ((Kept.refl _ _).alloc (.cells #[.int .i64 0, .int .i64 1, .int .i64 1099511627777] 2)))
        have hS : (fun wx : World => wx.cell? ⟨X, 0, none⟩ = some (.slice (some ⟨g, 0, none⟩) n c)) (v1.alloc (.cells #[.int .i64 0, .int .i64 1, .int .i64 1099511627777] 2)) := HJ2.out.box.cell 0
        refine hK.out _ _ (fun _ => hS) ?_
        clear hK K HJ
        try simp only [Act.put, sA, s0, sS]
        obtain ⟨L, hL⟩ : ∃ L, v1.heap.size = L := ⟨_, rfl⟩
        rw [hL] at HL0 hLs
        try rw [hL]
        generalize v1.alloc (.cells #[.int .i64 0, .int .i64 1, .int .i64 1099511627777] 2) = v2 at HJ2 HL0 hS ⊢
        clear hL
        refine wpAnyV_one (i := 5) (by kernel_rfl) rfl (fun K hK => ?_)
        go_simp
        refine (next_k 3 HJ2.out.src (by omega) (by constructor <;> decide)).mono ?_
        rintro e v3 ⟨r, rfl, hdr, hs', hk'⟩
        obtain ⟨hr1, hr2⟩ := hdr.2 (by decide)
        obtain ⟨r, rfl⟩ : ∃ m : Nat, r = (m : Int) := ⟨r.toNat, by omega⟩
        have HJ3 := hid (HJ2.out.draw hBw hs' hk')
        have HL := hid (HL0.out.kept hk' (fun e => by omega))
        clear hdr hs' hk' HJ2 HL0
        have hS : (fun wx : World => wx.cell? ⟨X, 0, none⟩ = some (.slice (some ⟨g, 0, none⟩) n c)) v3 := HJ3.out.box.cell 0
        go_wp2_with fail
        refine hK.out _ _ (fun _ => hS) ?_
        clear hK K
        try simp only [Act.put, sA, s0, sS]
        have hlx : ∃ x, v3.cell? ⟨L, r, none⟩ = some (.int .i64 x) := by
          rcases (show r = 0 ∨ r = 1 ∨ r = 2 by omega) with rfl | rfl | rfl
          · exact ⟨_, HL.out.cell 0⟩
          · exact ⟨_, HL.out.cell 1⟩
          · exact ⟨_, HL.out.cell 2⟩
        obtain ⟨x, hlx⟩ := hlx
        have hri : (r : Int) < 3 := by omega
        refine tkV 6 64 (.pointer (some ⟨L, r, none⟩)) hS ?_
        refine wpAnyV_one (i := 7) (by kernel_rfl) rfl (fun K hK => ?_)
        go_simp
        refine hK.out _ _ (fun _ => hS) ?_
        clear hK K
        try simp only [Act.put, sA, s0, sS]
        refine tkV 8 66 (.pointer (some ⟨g, A * 6, none⟩)) hS ?_
        refine tkV 9 67 (.pointer (some ⟨g, A * 6 + 4, none⟩)) hS ?_
        have u0 : ∃ u, v3.cell? ⟨g, A * 6 + 4, none⟩ = some u := ⟨_, by have h := HJ3.out.own.cell HJ3.out.len.symm A 4 hAq (by decide); exact h⟩
        obtain ⟨u0, hu0⟩ := u0
        have uf : v3.frozen? ⟨g, A * 6 + 4, none⟩ = false := HJ3.out.own.frozen HJ3.out.len.symm _
        have HE := hid (HJ3.out.setAt (p' := { qs[A] with rl := x }) hFg hAq 4 (.int .i64 x) (by decide) rfl rfl rfl (A * 6 + 4) rfl)
        have HLN := hid HJ3.out.len
        refine wpAnyV_one (i := 10) (by kernel_rfl) rfl (fun K hK => ?_)
        go_simp
        refine hK.out _ _ (fun _ => HE.out.box.cell 0) ?_
        clear hK K
        refine wpAnyV_done (by kernel_rfl) ?_
        try simp only [Act.put, sA, s0, sS]
        generalize v3.setCell ⟨g, A * 6 + 4, none⟩ (.int .i64 x) = v4 at HE ⊢
        clear hS hu0 uf HJ3 hlx HL
        go_wp2_with fail
        go_meet
        case rel => exact ⟨_, n, c, _, _, _, by omega, by rw [List.length_set, HLN.out], by omega, HE.out.fin⟩
      · go_simp
        refine (next_k 3 HJ.out.src (by omega) (by constructor <;> decide)).mono ?_
        rintro e v2 ⟨r, rfl, hdr, hs', hk'⟩
        obtain ⟨hr1, hr2⟩ := hdr.2 (by decide)
        obtain ⟨r, rfl⟩ : ∃ m : Nat, r = (m : Int) := ⟨r.toNat, by omega⟩
        have HJ2 := hid (HJ.out.draw hBw hs' hk')
        clear hdr hs' hk' HJ
        have hS : (fun wx : World => wx.cell? ⟨X, 0, none⟩ = some (.slice (some ⟨g, 0, none⟩) n c)) v2 := HJ2.out.box.cell 0
        go_wp2_with fail
        refine hK.out _ _ (fun _ => hS) ?_
        clear hK K
        try simp only [Act.put, sA, s0, sS]
        refine wpAnyV_one (i := 3) (by kernel_rfl) rfl (fun K hK => ?_)
        go_simp
        have HL := hid (Blk.new v2 #[.int .i64 0, .int .i64 1, .int .i64 1099511627777] 2)
        have HJ3 := hid (HJ2.out.same ((Kept.refl _ _).alloc (.cells #[.int .i64 0, .int .i64 1, .int .i64 1099511627777] 2)))
        have hS : (fun wx : World => wx.cell? ⟨X, 0, none⟩ = some (.slice (some ⟨g, 0, none⟩) n c)) (v2.alloc (.cells #[.int .i64 0, .int .i64 1, .int .i64 1099511627777] 2)) := HJ3.out.box.cell 0
        refine hK.out _ _ (fun _ => hS) ?_
        clear hK K HJ2
        try simp only [Act.put, sA, s0, sS]
        obtain ⟨L, hL⟩ : ∃ L, v2.heap.size = L := ⟨_, rfl⟩
        rw [hL] at HL
        try rw [hL]
        generalize v2.alloc (.cells #[.int .i64 0, .int .i64 1, .int .i64 1099511627777] 2) = v3 at HJ3 HL hS ⊢
        clear hL
        have hlx : ∃ x, v3.cell? ⟨L, r, none⟩ = some (.int .i64 x) := by
          rcases (show r = 0 ∨ r = 1 ∨ r = 2 by omega) with rfl | rfl | rfl
          · exact ⟨_, HL.out.cell 0⟩
          · exact ⟨_, HL.out.cell 1⟩
          · exact ⟨_, HL.out.cell 2⟩
        obtain ⟨x, hlx⟩ := hlx
        have hri : (r : Int) < 3 := by omega
        refine tkV 6 64 (.pointer (some ⟨L, r, none⟩)) hS ?_
        refine wpAnyV_one (i := 7) (by kernel_rfl) rfl (fun K hK => ?_)
        go_simp
        refine hK.out _ _ (fun _ => hS) ?_
        clear hK K
        try simp only [Act.put, sA, s0, sS]
        refine tkV 8 66 (.pointer (some ⟨g, A * 6, none⟩)) hS ?_
        refine tkV 9 67 (.pointer (some ⟨g, A * 6 + 4, none⟩)) hS ?_
        have u0 : ∃ u, v3.cell? ⟨g, A * 6 + 4, none⟩ = some u := ⟨_, by have h := HJ3.out.own.cell HJ3.out.len.symm A 4 hAq (by decide); exact h⟩
        obtain ⟨u0, hu0⟩ := u0
        have uf : v3.frozen? ⟨g, A * 6 + 4, none⟩ = false := HJ3.out.own.frozen HJ3.out.len.symm _
        have HE := hid (HJ3.out.setAt (p' := { qs[A] with rl := x }) hFg hAq 4 (.int .i64 x) (by decide) rfl rfl rfl (A * 6 + 4) rfl)
        have HLN := hid HJ3.out.len
        refine wpAnyV_one (i := 10) (by kernel_rfl) rfl (fun K hK => ?_)
        go_simp
        refine hK.out _ _ (fun _ => HE.out.box.cell 0) ?_
        clear hK K
        refine wpAnyV_done (by kernel_rfl) ?_
        try simp only [Act.put, sA, s0, sS]
        generalize v3.setCell ⟨g, A * 6 + 4, none⟩ (.int .i64 x) = v4 at HE ⊢
        clear hS hu0 uf HJ3 hlx HL
        go_wp2_with fail
        go_meet
        case rel => exact ⟨_, n, c, _, _, _, by omega, by rw [List.length_set, HLN.out], by omega, HE.out.fin⟩
    have e5 : (z == 5) = false := by simp [z5]
    by_cases z6 : z = 6
    · subst z6
      go_wp2_with fail
      refine wp_region_V (fun wx : World => wx.cell? ⟨X, 0, none⟩ = some (.slice (some ⟨g, 0, none⟩) n c)) 13 14 rfl (by kernel_rfl) ?_
      have HJ := hid (HI3.out.same (Kept.refl _ _).drew)
      generalize w3.drew = v1 at HJ ⊢
      clear b0 b1 fb
      have hS : (fun wx : World => wx.cell? ⟨X, 0, none⟩ = some (.slice (some ⟨g, 0, none⟩) n c)) v1 := HJ.out.box.cell 0
      have hAi : (A : Int) < (n : Int) := by omega
      obtain ⟨pg, hpg⟩ : ∃ x, qs[A].page = x := ⟨_, rfl⟩
      refine tk 0 70 hS ?_
      refine tk 1 71 hS ?_
      refine tk 2 72 hS ?_
      refine tk 3 73 hS ?_
      refine tk 4 74 hS ?_
      refine tkV 5 75 (.pointer (some ⟨g, A * 6, none⟩)) hS ?_
      refine tk 6 76 hS ?_
      obtain ⟨L, hL⟩ : ∃ L, v1.heap.size = L := ⟨_, rfl⟩
      have hLs : X + 1 < L := by rw [← hL]; exact HJ.out.res.lt
      have HLF := (show Hid (∀ b, footR kFrame (.slice (some ⟨g, 0, none⟩) n c) qs b → b < L) from fun b hb => by rw [← hL]; exact (HJ.out.own.lt b hb).2)
      refine wpAnyV_two (i := 7) (j := 8) (by kernel_rfl) rfl rfl (fun K hK => ?_) (fun K hK => ?_)
      · have hc0 : v1.cell? ⟨g, A * 6, none⟩ = some (.int .i64 pg) := by have h := HJ.out.own.cell HJ.out.len.symm A 0 hAq (by decide); rw [← hpg]; exact h
        go_simp
        refine hK.out _ _ (fun _ => hS) ?_
        clear hK K hc0
        try simp only [Act.put, sA, s0, sS]
        refine wpAnyV_one (i := 8) (by kernel_rfl) rfl (fun K hK => ?_)
        refine step_mk (by rfl) (.const (.int .i64 4096)) (.const (.int .i64 4096)) 22 (by rfl) 0 5 i0 _ 1 Try.underlying22 hi0 hz0 hz1 .i64 .i64 _ _ 4096 4096 (by rfl) (by rfl) (by rfl) (by rfl) (Nat.le_refl _) (by rw [hz2]; omega) (by unfold maxLen; omega) (Nat.zero_le _) ?_
        intro v2 hown1 hgrow1 _
        rw [hL] at hown1
        try rw [hL]
        have HB2 : Hid (∃ bs : List Int, Own 0 5 .u8 v2 (.slice (some ⟨L, 0, none⟩) 4096 4096) bs) := ⟨List.replicate 4096 0, own_made (by have h := hown1; rw [List.take_of_length_le (by rw [Array.length_toList, size_madeCells]; exact Nat.le_refl _)] at h; simpa using h)⟩
        have HJ2 := hid (HJ.out.same (Kept.of_grown hgrow1 (fun k e => by cases e)))
        clear hown1 hgrow1 HJ hL
        have hS : (fun wx : World => wx.cell? ⟨X, 0, none⟩ = some (.slice (some ⟨g, 0, none⟩) n c)) v2 := HJ2.out.box.cell 0
        refine hK.out _ _ (fun _ => hS) ?_
        clear hK K
        try simp only [List.getElem_toArray, List.getElem_cons_succ, List.getElem_cons_zero]
        try simp only [Act.put, sA, s0, sS]
        refine tk 9 79 hS ?_
        refine wpAnyV_one (i := 10) (by kernel_rfl) rfl (fun K hK => ?_)
        go_simp
        have HJ3 := hid (HJ2.out.same ((Kept.refl _ _).alloc (.cells #[.int .i64 pg, .slice (some ⟨L, 0, none⟩) 4096 4096, .int .i64 0, .bool false, .int .i64 0, .bool false] 36)))
        have hS : (fun wx : World => wx.cell? ⟨X, 0, none⟩ = some (.slice (some ⟨g, 0, none⟩) n c)) (v2.alloc (.cells #[.int .i64 pg, .slice (some ⟨L, 0, none⟩) 4096 4096, .int .i64 0, .bool false, .int .i64 0, .bool false] 36)) := HJ3.out.box.cell 0
        refine hK.out _ _ (fun _ => hS) ?_
        clear hK K
        try simp only [Act.put, sA, s0, sS]
        have HKO := (show Hid ((v2.alloc (.cells #[.int .i64 pg, .slice (some ⟨L, 0, none⟩) 4096 4096, .int .i64 0, .bool false, .int .i64 0, .bool false] 36)).ownsRow 0 36 6 (.slice (some ⟨g, 0, none⟩) n c) n (kFrame.all qs)) from by have h := HJ3.out.own.row; rw [HJ3.out.len] at h; exact h)
        refine wpAnyV_one (i := 11) (by kernel_rfl) rfl (fun K hK => ?_)
        refine step_append_lies _ (by rfl) (.tmp 71) (.tmp 80) 23 (by rfl) 0 36 j0 _ 6 64 Try.underlying23 hj0 hy0 hy1 hy2 rfl (by omega) (.slice (some ⟨g, 0, none⟩) n c) n (kFrame.all qs) (by rfl) (by exact HKO.out) ⟨v2.heap.size, 0, none⟩ 1 1 [.int .i64 pg, .slice (some ⟨L, 0, none⟩) 4096 4096, .int .i64 0, .bool false, .int .i64 0, .bool false] (by rfl) (by rfl) (World.news_of_block (cs := #[.int .i64 pg, .slice (some ⟨L, 0, none⟩) 4096 4096, .int .i64 0, .bool false, .int .i64 0, .bool false]) (t := 36) (fr := (0, 0)) (heap_alloc_new v2 _)) (by simp [Value.oneCell']) (by omega) (by unfold maxLen; omega) (by omega) (Nat.zero_le _) (v2.heap.size + 1) (by simp) ?_
        intro g6 cap6 v4 hown6 hgrow6 hat6 hlt6
        obtain ⟨bs0, hb0⟩ := HB2.out
        have HE := hid (HJ2.out.push (p := ⟨pg, .slice (some ⟨L, 0, none⟩) 4096 4096, bs0, 0, false, 0, false⟩) hBw HX.out hw0 hb0 (fun b hb => by have e1 : L = b := (by simpa [Value.ownBlock] using hb); subst e1; exact ⟨hLs, fun hf => by have := HLF.out L hf; omega⟩) hgrow6 hown6 hat6)
        have HLN := hid HJ2.out.len
        have hkg : Kept (fun b => b = g) v2 v4 := ((Kept.refl (fun b => b = g) _).alloc _).trans (Kept.of_grown hgrow6 (fun b e => by have e' : g = b := (by simpa [Value.ownBlock] using e); exact e'.symm))
        have HBX := hid (HJ2.out.box.kept hkg (fun e => (HJ2.out.foot g (.inl rfl)).2.2.1 e.symm))
        have hS : (fun wx : World => wx.cell? ⟨X, 0, none⟩ = some (.slice (some ⟨g, 0, none⟩) n c)) v4 := HBX.out.cell 0
        refine hK.out _ _ (fun _ => hS) ?_
        clear hK K hown6 hgrow6 hat6 hlt6 hkg
        try simp only [List.getElem_toArray, List.getElem_cons_succ, List.getElem_cons_zero]
        try simp only [Act.put, sA, s0, sS]
        refine tk 12 82 hS ?_
        have zc := HBX.out.cell 0
        have zf := HBX.out.frozen 0
        refine wpAnyV_one (i := 13) (by kernel_rfl) rfl (fun K hK => ?_)
        go_simp
        refine hK.out _ _ (fun h => absurd rfl h) ?_
        clear hK K
        refine wpAnyV_done (by kernel_rfl) ?_
        try simp only [Act.put, sA, s0, sS]
        generalize v4.setCell ⟨X, 0, none⟩ (.slice (some ⟨g6, 0, none⟩) (n + 1) cap6) = v5 at HE ⊢
        clear hS zc zf HBX HJ2 HJ3 HKO hb0
        go_wp2_with fail
        go_meet
        case rel => exact ⟨_, n + 1, cap6, _, _, _, by omega, by rw [List.length_append, HLN.out]; rfl, by omega, HE.out.fin⟩
      · refine step_mk (by rfl) (.const (.int .i64 4096)) (.const (.int .i64 4096)) 22 (by rfl) 0 5 i0 _ 1 Try.underlying22 hi0 hz0 hz1 .i64 .i64 _ _ 4096 4096 (by rfl) (by rfl) (by rfl) (by rfl) (Nat.le_refl _) (by rw [hz2]; omega) (by unfold maxLen; omega) (Nat.zero_le _) ?_
        intro v2 hown1 hgrow1 _
        rw [hL] at hown1
        try rw [hL]
        have HB2 : Hid (∃ bs : List Int, Own 0 5 .u8 v2 (.slice (some ⟨L, 0, none⟩) 4096 4096) bs) := ⟨List.replicate 4096 0, own_made (by have h := hown1; rw [List.take_of_length_le (by rw [Array.length_toList, size_madeCells]; exact Nat.le_refl _)] at h; simpa using h)⟩
        have HJ2 := hid (HJ.out.same (Kept.of_grown hgrow1 (fun k e => by cases e)))
        clear hown1 hgrow1 HJ hL
        have hS : (fun wx : World => wx.cell? ⟨X, 0, none⟩ = some (.slice (some ⟨g, 0, none⟩) n c)) v2 := HJ2.out.box.cell 0
        refine hK.out _ _ (fun _ => hS) ?_
        clear hK K
        try simp only [List.getElem_toArray, List.getElem_cons_succ, List.getElem_cons_zero]
        try simp only [Act.put, sA, s0, sS]
        have hc0 : v2.cell? ⟨g, A * 6, none⟩ = some (.int .i64 pg) := by have h := HJ2.out.own.cell HJ2.out.len.symm A 0 hAq (by decide); rw [← hpg]; exact h
        refine wpAnyV_one (i := 7) (by kernel_rfl) rfl (fun K hK => ?_)
        go_simp
        refine hK.out _ _ (fun _ => hS) ?_
        clear hK K hc0
        try simp only [Act.put, sA, s0, sS]
        refine tk 9 79 hS ?_
        refine wpAnyV_one (i := 10) (by kernel_rfl) rfl (fun K hK => ?_)
        go_simp
        have HJ3 := hid (HJ2.out.same ((Kept.refl _ _).alloc (.cells #[.int .i64 pg, .slice (some ⟨L, 0, none⟩) 4096 4096, .int .i64 0, .bool false, .int .i64 0, .bool false] 36)))
        have hS : (fun wx : World => wx.cell? ⟨X, 0, none⟩ = some (.slice (some ⟨g, 0, none⟩) n c)) (v2.alloc (.cells #[.int .i64 pg, .slice (some ⟨L, 0, none⟩) 4096 4096, .int .i64 0, .bool false, .int .i64 0, .bool false] 36)) := HJ3.out.box.cell 0
        refine hK.out _ _ (fun _ => hS) ?_
        clear hK K
        try simp only [Act.put, sA, s0, sS]
        have HKO := (show Hid ((v2.alloc (.cells #[.int .i64 pg, .slice (some ⟨L, 0, none⟩) 4096 4096, .int .i64 0, .bool false, .int .i64 0, .bool false] 36)).ownsRow 0 36 6 (.slice (some ⟨g, 0, none⟩) n c) n (kFrame.all qs)) from by have h := HJ3.out.own.row; rw [HJ3.out.len] at h; exact h)
        refine wpAnyV_one (i := 11) (by kernel_rfl) rfl (fun K hK => ?_)
        refine step_append_lies _ (by rfl) (.tmp 71) (.tmp 80) 23 (by rfl) 0 36 j0 _ 6 64 Try.underlying23 hj0 hy0 hy1 hy2 rfl (by omega) (.slice (some ⟨g, 0, none⟩) n c) n (kFrame.all qs) (by rfl) (by exact HKO.out) ⟨v2.heap.size, 0, none⟩ 1 1 [.int .i64 pg, .slice (some ⟨L, 0, none⟩) 4096 4096, .int .i64 0, .bool false, .int .i64 0, .bool false] (by rfl) (by rfl) (World.news_of_block (cs := #[.int .i64 pg, .slice (some ⟨L, 0, none⟩) 4096 4096, .int .i64 0, .bool false, .int .i64 0, .bool false]) (t := 36) (fr := (0, 0)) (heap_alloc_new v2 _)) (by simp [Value.oneCell']) (by omega) (by unfold maxLen; omega) (by omega) (Nat.zero_le _) (v2.heap.size + 1) (by simp) ?_
        intro g6 cap6 v4 hown6 hgrow6 hat6 hlt6
        obtain ⟨bs0, hb0⟩ := HB2.out
        have HE := hid (HJ2.out.push (p := ⟨pg, .slice (some ⟨L, 0, none⟩) 4096 4096, bs0, 0, false, 0, false⟩) hBw HX.out hw0 hb0 (fun b hb => by have e1 : L = b := (by simpa [Value.ownBlock] using hb); subst e1; exact ⟨hLs, fun hf => by have := HLF.out L hf; omega⟩) hgrow6 hown6 hat6)
        have HLN := hid HJ2.out.len
        have hkg : Kept (fun b => b = g) v2 v4 := ((Kept.refl (fun b => b = g) _).alloc _).trans (Kept.of_grown hgrow6 (fun b e => by have e' : g = b := (by simpa [Value.ownBlock] using e); exact e'.symm))
        have HBX := hid (HJ2.out.box.kept hkg (fun e => (HJ2.out.foot g (.inl rfl)).2.2.1 e.symm))
        have hS : (fun wx : World => wx.cell? ⟨X, 0, none⟩ = some (.slice (some ⟨g, 0, none⟩) n c)) v4 := HBX.out.cell 0
        refine hK.out _ _ (fun _ => hS) ?_
        clear hK K hown6 hgrow6 hat6 hlt6 hkg
        try simp only [List.getElem_toArray, List.getElem_cons_succ, List.getElem_cons_zero]
        try simp only [Act.put, sA, s0, sS]
        refine tk 12 82 hS ?_
        have zc := HBX.out.cell 0
        have zf := HBX.out.frozen 0
        refine wpAnyV_one (i := 13) (by kernel_rfl) rfl (fun K hK => ?_)
        go_simp
        refine hK.out _ _ (fun h => absurd rfl h) ?_
        clear hK K
        refine wpAnyV_done (by kernel_rfl) ?_
        try simp only [Act.put, sA, s0, sS]
        generalize v4.setCell ⟨X, 0, none⟩ (.slice (some ⟨g6, 0, none⟩) (n + 1) cap6) = v5 at HE ⊢
        clear hS zc zf HBX HJ2 HJ3 HKO hb0
        go_wp2_with fail
        go_meet
        case rel => exact ⟨_, n + 1, cap6, _, _, _, by omega, by rw [List.length_append, HLN.out]; rfl, by omega, HE.out.fin⟩
    have e6 : (z == 6) = false := by simp [z6]
    by_cases z7 : z = 7
    · subst z7
      obtain ⟨ba, bn, bc, hbv, hbl⟩ : ∃ ba bn bc, qs[A].v = .slice ba bn bc ∧ qs[A].bs.length = bn := by
        have h := (HI3.out.own.data qs[A] (List.getElem_mem hAq)).rd
        obtain ⟨a, c, e⟩ := h.form
        exact ⟨a, _, c, e, rfl⟩
      have hbm : bn ≤ 4096 := by have h := HSH.out qs[A] (List.getElem_mem hAq); omega
      have HBL := hid hbl
      have HBV := hid hbv
      clear hbl
      go_wp2_with fail
      refine wp_region_V (fun wx : World => wx.cell? ⟨X, 0, none⟩ = some (.slice (some ⟨g, 0, none⟩) n c) ∧ wx.cell? ⟨g, A * 6 + 1, none⟩ = some (.slice ba bn bc)) 21 22 rfl (by kernel_rfl) ?_
      have HJ := hid (HI3.out.same (Kept.refl _ _).drew)
      generalize w3.drew = v1 at HJ ⊢
      clear b0 b1 fb hbv
      have hbv := HBV.out
      have hS : (fun wx : World => wx.cell? ⟨X, 0, none⟩ = some (.slice (some ⟨g, 0, none⟩) n c) ∧ wx.cell? ⟨g, A * 6 + 1, none⟩ = some (.slice ba bn bc)) v1 := ⟨HJ.out.box.cell 0, by have h := HJ.out.own.cell HJ.out.len.symm A 1 hAq (by decide); rw [← hbv]; exact h⟩
      clear hbv
      have hAi : (A : Int) < (n : Int) := by omega
      obtain ⟨H, hH⟩ : ∃ H : Nat, bn / 2 = H := ⟨_, rfl⟩
      have hHb : H ≤ bn := by omega
      have qd : (bn : Int) / 2 = (H : Int) := by omega
      have qw : IntKind.i64.wrap (H : Int) = (H : Int) := by rw [IntKind.wrap_i64]; omega
      have HHH := hid hH
      clear hH
      refine tk 0 85 hS ?_
      refine tk 1 86 hS ?_
      refine tk 2 87 hS ?_
      refine tk 3 88 hS ?_
      refine tk 4 89 hS ?_
      refine tk 5 90 hS ?_
      refine tkV 6 91 (.pointer (some ⟨g, A * 6, none⟩)) hS ?_
      refine tkV 7 92 (.pointer (some ⟨g, A * 6 + 1, none⟩)) hS ?_
      refine tk 8 93 hS ?_
      refine tk 10 95 hS ?_
      refine tk 11 96 hS ?_
      refine tk 12 97 hS ?_
      refine tkV 13 98 (.pointer (some ⟨g, A * 6, none⟩)) hS ?_
      refine tkV 14 99 (.pointer (some ⟨g, A * 6 + 1, none⟩)) hS ?_
      refine tk 15 100 hS ?_
      refine tk 16 101 hS ?_
      refine tkV 17 102 (.int .i64 (H : Int)) hS ?_
      refine wpAnyV_one (i := 9) (by kernel_rfl) rfl (fun K hK => ?_)
      go_simp
      refine (l1Copy_any (.slice ba bn bc) qs[A].bs v1 (by rw [HBL.out]; omega) (by have h := (HJ.out.own.data qs[A] (List.getElem_mem hAq)).rd; rw [show kFrame.v qs[A] = .slice ba bn bc from HBV.out] at h; exact h)).mono ?_
      rintro e v2 ⟨a2, n2, c2, rfl, ho2, hf2, hk2⟩
      have hn2 : n2 = bn := ho2.caps'.1.trans HBL.out
      have hc2 : bn ≤ c2 := by have := ho2.caps'; omega
      subst hn2
      have HJ2 := hid (HJ.out.same hk2)
      have HO2 := hid ho2
      have HF2 := (show Hid (∀ b, (Value.slice a2 n2 c2).ownBlock = some b → ¬ footR kFrame (.slice (some ⟨g, 0, none⟩) n c) qs b ∧ X + 1 < b) from fun b hb => ⟨fun hf => by have h1 := hf2 b hb; have h2 := (HJ.out.own.lt b hf).2; omega, by have h1 := hf2 b hb; have h2 := HJ.out.res.lt; omega⟩)
      clear ho2 hf2 hk2
      have hS : (fun wx : World => wx.cell? ⟨X, 0, none⟩ = some (.slice (some ⟨g, 0, none⟩) n c) ∧ wx.cell? ⟨g, A * 6 + 1, none⟩ = some (.slice ba n2 bc)) v2 := ⟨HJ2.out.box.cell 0, by have h := HJ2.out.own.cell HJ2.out.len.symm A 1 hAq (by decide); rw [← HBV.out]; exact h⟩
      go_wp2_with fail
      refine hK.out _ _ (fun _ => hS) ?_
      clear hK K HJ
      try simp only [Act.put, sA, s0, sS]
      have hHc : (H : Int) ≤ (c2 : Int) := by omega
      have hH0 : (0 : Int) ≤ (H : Int) := by omega
      refine tkV 18 103 (.slice a2 H c2) hS ?_
      refine wpAnyV_one (i := 19) (by kernel_rfl) rfl (fun K hK => ?_)
      go_simp
      refine hK.out _ _ (fun _ => hS) ?_
      clear hK K
      try simp only [Act.put, sA, s0, sS]
      refine tkV 20 105 (.pointer (some ⟨g, A * 6 + 1, none⟩)) hS ?_
      have u0 := hS.2
      have uf : v2.frozen? ⟨g, A * 6 + 1, none⟩ = false := HJ2.out.own.frozen HJ2.out.len.symm _
      have HF3 := (show Hid (∀ b, (Value.slice a2 H c2).ownBlock = some b → ¬ footR kFrame (.slice (some ⟨g, 0, none⟩) n c) qs b ∧ X + 1 < b) from fun b hb => HF2.out b (by cases a2 with
        | none => simp [Value.ownBlock] at hb
        | some x => simpa [Value.ownBlock] using hb))
      have hgf := HJ2.out.foot g (.inl rfl)
      have hkv : Kept (fun b => b = g) v2 (v2.setCell ⟨g, A * 6 + 1, none⟩ (.slice a2 H c2)) := (Kept.refl (fun b => b = g) v2).setCell (p := ⟨g, A * 6 + 1, none⟩) (.inr rfl) _
      have HE := (show Hid (BdE F w0 w (v2.setCell ⟨g, A * 6 + 1, none⟩ (.slice a2 H c2)) B v cs _ size X (.slice (some ⟨g, 0, none⟩) n c) hd (qs.set A (⟨qs[A].page, .slice a2 H c2, qs[A].bs.take H, qs[A].pins, qs[A].dirty, qs[A].rl, qs[A].rf⟩ : EFrame))) from ⟨HJ2.out.src.on hkv (fun e => hgf.1 e.symm) (fun i hi e => by omega), HJ2.out.box.kept hkv (fun e => hgf.2.2.1 e.symm), HJ2.out.res.kept hkv (fun e => hgf.2.2.2.1 e.symm), (HJ2.out.own.setNew (p' := (⟨qs[A].page, .slice a2 H c2, qs[A].bs.take H, qs[A].pins, qs[A].dirty, qs[A].rl, qs[A].rf⟩ : EFrame)) HJ2.out.len.symm hAq 1 (.slice a2 H c2) (by decide) rfl (HO2.out.take H (by rw [HBL.out]; exact hHb)) (fun b hb => (HF3.out b hb).1) _ rfl).rd, fun b hb => by
          rcases footR_setNew b hb with h | h
          · exact ⟨(HJ2.out.foot b h).1, (HJ2.out.foot b h).2.2⟩
          · have h2 := (HF3.out b h).2
            have h3 := HX.out
            exact ⟨by omega, by omega, by omega, .inr (by omega)⟩, HJ2.out.kept.trans (hkv.mono (fun b _ e => .inr (by have e' : b = g := e; rw [e']; exact hFg)))⟩)
      have HLN := hid HJ2.out.len
      refine wpAnyV_one (i := 21) (by kernel_rfl) rfl (fun K hK => ?_)
      go_simp
      refine hK.out _ _ (fun h => absurd rfl h) ?_
      clear hK K
      refine wpAnyV_done (by kernel_rfl) ?_
      try simp only [Act.put, sA, s0, sS]
      generalize v2.setCell ⟨g, A * 6 + 1, none⟩ (.slice a2 H c2) = v3 at HE ⊢
      clear hS u0 uf HJ2 hkv
      go_wp2_with fail
      go_meet
      case rel => exact ⟨_, n, c, _, _, _, by omega, by rw [List.length_set, HLN.out], by omega, HE⟩
    have e7 : (z == 7) = false := by simp [z7]
    by_cases z8 : z = 8
    · subst z8
      clear b0 b1 fb
      go_wp2_with fail
      go_loopw [108] (fun av wr => ∃ (g1 n1 c1 : Nat) (qs1 : List EFrame), n1 ≤ 17 ∧ Hid (BdI F w0 w wr B v cs (kk + 1 + 1) size X g1 n1 c1 hd qs1)) (fun _ wr => 17 - lenAt wr X)
      case atStart => exact ⟨g, n, c, qs, by omega, HI3⟩
      case round =>
        obtain ⟨w4, rfl⟩ : ∃ x, x = wr := ⟨wr, rfl⟩
        obtain ⟨g1, n1, c1, qs1, hn17, HJ⟩ := hrel
        obtain ⟨x0, x1⟩ := HJ.out.box.all2
        have fx := HJ.out.box.frozen
        have hxl := HJ.out.box.lt
        by_cases hlt : n1 < 17
        case pos =>
          have hlti : (n1 : Int) < 17 := by omega
          have HJA := hid (HJ.out.same ((Kept.refl _ _).alloc (.cells #[.int .i64 (-1), .slice none 0 0, .int .i64 0, .bool false, .int .i64 0, .bool false] 36)))
          have HKO := (show Hid ((w4.alloc (.cells #[.int .i64 (-1), .slice none 0 0, .int .i64 0, .bool false, .int .i64 0, .bool false] 36)).ownsRow 0 36 6 (.slice (some ⟨g1, 0, none⟩) n1 c1) n1 (kFrame.all qs1)) from by have h := HJA.out.own.row; rw [HJA.out.len] at h; exact h)
          have hl4 : lenAt w4 X = n1 := by unfold lenAt; rw [x0]
          have HL4 := hid hl4
          clear hl4 HJA
          go_wp2_with (at_builtin; refine wpList_append_lies _ rfl (.tmp 113) (.tmp 115) 23 rfl 0 36 j0 _ 6 64 Try.underlying23 hj0 hy0 hy1 hy2 rfl (by omega) (.slice (some ⟨g1, 0, none⟩) n1 c1) n1 (kFrame.all qs1) rfl (by exact HKO.out) ⟨w4.heap.size, 0, none⟩ 1 1 [.int .i64 (-1), .slice none 0 0, .int .i64 0, .bool false, .int .i64 0, .bool false] rfl rfl (World.news_of_block (cs := #[.int .i64 (-1), .slice none 0 0, .int .i64 0, .bool false, .int .i64 0, .bool false]) (t := 36) (fr := (0, 0)) (heap_alloc_new w4 _)) (by simp [Value.oneCell']) (by omega) (by unfold maxLen; omega) (by omega) (Nat.zero_le _) (w4.heap.size + 1) (by simp) ?_; intro g6 cap6 w5 hown6 hgrow6 hat6 hlt6; have HE := hid (HJ.out.push (p := ⟨-1, .slice none 0 0, [], 0, false, 0, false⟩) hBw HX.out hw0 (Own.nil _ _ _ _) (fun b hb => by simp [Value.ownBlock] at hb) hgrow6 hown6 hat6); have hkg : Kept (fun b => b = g1) w4 w5 := ((Kept.refl (fun b => b = g1) _).alloc _).trans (Kept.of_grown hgrow6 (fun b e => by have e' : g1 = b := (by simpa [Value.ownBlock] using e); exact e'.symm)); have HBX := hid (HJ.out.box.kept hkg (fun e => (HJ.out.foot g1 (.inl rfl)).2.2.1 e.symm)); have zc := HBX.out.cell 0; have zf := HBX.out.frozen 0; have zl := HBX.out.lt; clear hown6 hgrow6 hat6 hlt6 hkg)
          go_roundw
          case rel => exact ⟨g6, n1 + 1, cap6, _, by omega, HE⟩
          case measure =>
            have h1 : lenAt (w5.setCell ⟨X, 0, none⟩ (.slice (some ⟨g6, 0, none⟩) (n1 + 1) cap6)) X = n1 + 1 := by unfold lenAt; rw [show (w5.setCell ⟨X, 0, none⟩ (.slice (some ⟨g6, 0, none⟩) (n1 + 1) cap6)).cell? ⟨X, 0, none⟩ = some (.slice (some ⟨g6, 0, none⟩) (n1 + 1) cap6) from HE.out.box.cell 0]
            have h2 := HL4.out
            omega
        have h17 : n1 = 17 := by omega
        subst h17
        clear x1 fx hn17 hlt
        go_wp2_with fail
        clear x0 hxl
        refine wp_region_V (fun wx : World => wx.cell? ⟨X, 0, none⟩ = some (.slice (some ⟨g1, 0, none⟩) 17 c1)) 6 7 rfl (by kernel_rfl) ?_
        have HJ1 := hid (HJ.out.same (Kept.refl _ _).drew)
        generalize w4.drew = v1 at HJ1 ⊢
        have hS : (fun wx : World => wx.cell? ⟨X, 0, none⟩ = some (.slice (some ⟨g1, 0, none⟩) 17 c1)) v1 := HJ1.out.box.cell 0
        refine tk 0 118 hS ?_
        refine tk 1 119 hS ?_
        refine tk 2 120 hS ?_
        refine wpAnyV_one (i := 3) (by kernel_rfl) rfl (fun K hK => ?_)
        go_simp
        refine (next_k 2 HJ1.out.src (by omega) (by constructor <;> decide)).mono ?_
        rintro e v2 ⟨r, rfl, hdr, hs', hk'⟩
        obtain ⟨hr1, hr2⟩ := hdr.2 (by decide)
        obtain ⟨r, rfl⟩ : ∃ m : Nat, r = (m : Int) := ⟨r.toNat, by omega⟩
        have HJ2 := hid (HJ1.out.draw hBw hs' hk')
        clear hdr hs' hk' HJ HJ1
        have hS : (fun wx : World => wx.cell? ⟨X, 0, none⟩ = some (.slice (some ⟨g1, 0, none⟩) 17 c1)) v2 := HJ2.out.box.cell 0
        go_wp2_with fail
        refine hK.out _ _ (fun _ => hS) ?_
        clear hK K
        try simp only [Act.put, sA, s0, sS]
        have hc17 : 17 ≤ c1 := by
          rcases HJ2.out.own.form with ⟨h1, _⟩ | ⟨_, cap, h1, _, _, h2, _⟩
          · cases h1
          · injection h1 with _ _ h1; rw [HJ2.out.len] at h2; omega
        have g1' : (r : Int) ≤ 17 := by omega
        have n1' : ¬ c1 = r := by omega
        refine tkV 4 122 (.slice (some ⟨g1, r * 6, none⟩) (17 - r) (c1 - r)) hS ?_
        refine tk 5 123 hS ?_
        obtain ⟨x0, x1⟩ := HJ2.out.box.all2
        have fx := HJ2.out.box.frozen
        have hst := HJ2.out.stored hBw HX.out hw0 0 (.slice (some ⟨g1, r * 6, none⟩) (17 - r) (c1 - r))
        have hln := HJ2.out.len
        have hrd : RdR kFrame (v2.setCell ⟨X, 0, none⟩ (.slice (some ⟨g1, r * 6, none⟩) (17 - r) (c1 - r))) (.slice (some ⟨g1, r * 6, none⟩) (17 - r) (c1 - r)) (qs1.drop r) := by
          have h := hst.2.2.2.1.rd
          rw [← hln] at h ⊢
          exact RdR.dropF h (by omega)
        have HE := (show Hid (BdE F w0 w (v2.setCell ⟨X, 0, none⟩ (.slice (some ⟨g1, r * 6, none⟩) (17 - r) (c1 - r))) B v cs _ size X (.slice (some ⟨g1, r * 6, none⟩) (17 - r) (c1 - r)) hd (qs1.drop r)) from ⟨hst.1, hst.2.1, hst.2.2.1, hrd, fun b hb => by
          have h : footR kFrame (.slice (some ⟨g1, 0, none⟩) 17 c1) qs1 b := by
            rcases hb with hb | ⟨p, hp, hb⟩
            · exact .inl (by simpa [Value.ownBlock] using hb)
            · exact .inr ⟨p, List.mem_of_mem_drop hp, hb⟩
          exact ⟨(HJ2.out.foot b h).1, (HJ2.out.foot b h).2.2⟩, hst.2.2.2.2⟩)
        have HLN := hid hln
        clear hrd hst hln
        refine wpAnyV_one (i := 6) (by kernel_rfl) rfl (fun K hK => ?_)
        go_simp
        refine hK.out _ _ (fun h => absurd rfl h) ?_
        clear hK K
        refine wpAnyV_done (by kernel_rfl) ?_
        try simp only [Act.put, sA, s0, sS]
        generalize v2.setCell ⟨X, 0, none⟩ (.slice (some ⟨g1, r * 6, none⟩) (17 - r) (c1 - r)) = v3 at HE ⊢
        clear hS x0 x1 fx HJ2
        go_wp2_with fail
        go_meet
        case rel => exact ⟨_, 17 - r, c1 - r, _, _, _, by omega, by rw [List.length_drop, HLN.out], by omega, HE⟩
    have e8 : (z == 8) = false := by simp [z8]
    go_wp2_with fail
    go_meet
    case rel => exact ⟨_, n, c, _, _, _, by omega, HI3.out.len.symm, by omega, HI3.out.fin⟩
  case rest =>
  obtain ⟨w9, rfl⟩ : ∃ x, x = wc := ⟨wc, rfl⟩
  obtain ⟨a, n', c', k', hd', qs', hk', hn', hn17, HE⟩ := hcut
  have HN' := hid hn'
  clear HI3 hn'
  obtain ⟨b0, b1⟩ := HE.out.box.all2
  obtain ⟨r0, r1⟩ := HE.out.res.all2
  have fr := HE.out.res.frozen
  have hkX : Kept (fun b => b = X + 1) w9 ((w9.setCell ⟨X + 1, 0, none⟩ (.slice a n' c')).setCell ⟨X + 1, 1, none⟩ (.int .i64 hd')) := ((Kept.refl (fun b => b = X + 1) w9).setCell (p := ⟨X + 1, 0, none⟩) (.inr rfl) _).setCell (p := ⟨X + 1, 1, none⟩) (.inr rfl) _
  have HEN := (show Hid (∃ a_1 n'_1 c'_1 hd'_1 qs'_1 k'_1, (Ending.returned (.agg #[.slice a n' c', .int .i64 hd'])) = .returned (.agg #[.slice a_1 n'_1 c'_1, .int .i64 hd'_1]) ∧ k'_1 ≤ 950 ∧ n'_1 = qs'_1.length ∧ n'_1 ≤ 17 ∧ RdR kFrame ((w9.setCell ⟨X + 1, 0, none⟩ (.slice a n' c')).setCell ⟨X + 1, 1, none⟩ (.int .i64 hd')) (.slice a_1 n'_1 c'_1) qs'_1 ∧ (∀ b, footR kFrame (.slice a_1 n'_1 c'_1) qs'_1 b → b ≠ B ∧ (F b ∨ w.heap.size ≤ b)) ∧ SrcR w0 ((w9.setCell ⟨X + 1, 0, none⟩ (.slice a n' c')).setCell ⟨X + 1, 1, none⟩ (.int .i64 hd')) B v cs k'_1 size ∧ Kept (fun b => b = B ∨ F b) w ((w9.setCell ⟨X + 1, 0, none⟩ (.slice a n' c')).setCell ⟨X + 1, 1, none⟩ (.int .i64 hd'))) from ⟨a, n', c', hd', qs', k', rfl, by omega, HN'.out, hn17, HE.out.rd.kept hkX (fun b hb e => (HE.out.foot b hb).2.2.1 e), fun b hb => ⟨(HE.out.foot b hb).1, (HE.out.foot b hb).2.2.2⟩, HE.out.src.on hkX (fun e => by omega) (fun i hi e => by omega), HE.out.kept.next hkX (fun i hi e => by have := HX.out; have e' : i = X + 1 := e; omega)⟩)
  have HBE := hid ((HE.out.res.stored 0 (.slice a n' c')).stored 1 (.int .i64 hd'))
  clear hkX
  go_wp2
  generalize (w9.setCell ⟨X + 1, 0, none⟩ (.slice a n' c')).setCell ⟨X + 1, 1, none⟩ (.int .i64 hd') = wz at *
  obtain ⟨x0, x1⟩ := HBE.out.all2
  exact bodyPost_ret (v := .agg #[.slice a n' c', .int .i64 hd']) (by simp [results, Try.results46, go_sem, x0, x1]) rfl HEN.out
end Go.Proofs.Ytbbllmlokddolaa
