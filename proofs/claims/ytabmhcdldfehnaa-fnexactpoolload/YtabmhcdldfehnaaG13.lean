import Derived.Test.YtabmhcdldfehnaaG08
import Derived.Test.YtabmhcdldfehnaaG09
namespace Go.Proofs.Ytabmhcdldfehnaa
set_option maxRecDepth 100000
set_option maxHeartbeats 8000000
open Go.RowKit
set_option linter.unusedVariables false
set_option linter.unusedSimpArgs false
section
variable {w : World} {P : Nat} {hand : Int} {g n cap : Nat} {bl : List Nat} {ps : List EFrame}
theorem footS_swap {k b' : Nat} {p' : EFrame} (x : Nat) (hf : footS kFrame (bl.set k b') (ps.set k p') x) : footS kFrame bl ps x ∨ x = b' ∨ p'.v.ownBlock = some x := by
  rcases hf with hf | ⟨q, hq, hf⟩
  · rcases List.mem_or_eq_of_mem_set hf with hf | rfl
    · exact .inl (.inl hf)
    · exact .inr (.inl rfl)
  · rcases List.mem_or_eq_of_mem_set hq with hq | rfl
    · exact .inl (.inr ⟨q, hq, hf⟩)
    · exact .inr (.inr hf)
theorem FP.swap {k b b' : Nat} {p' : EFrame} (h : FP w P hand g n cap bl ps) (hb : bl[k]? = some b) (hb' : Blk w b' 51 (kFrame.cells p')) (hu : Own 0 5 .u8 w p'.v p'.bs) (hf : ¬ footFP P g bl ps b') (hx : ∀ x, p'.v.ownBlock = some x → ¬ footFP P g bl ps x ∧ x ≠ b') :
    FP (w.setCell ⟨g, k, none⟩ (.pointer (some ⟨b', 0, none⟩))) P hand g n cap (bl.set k b') (ps.set k p') := by
  have hk : Kept (fun x => x = g) w (w.setCell ⟨g, k, none⟩ (.pointer (some ⟨b', 0, none⟩))) := Kept.setCell (R := fun x => x = g) (Kept.refl _ _) (p := ⟨g, k, none⟩) (.inr rfl) _
  have hout : ∀ x, (x = P ∨ x = g) → ¬ footS kFrame (bl.set k b') (ps.set k p') x := fun x hx' hs => by
    rcases footS_swap x hs with hs | rfl | hs
    · rcases hx' with rfl | rfl
      · exact h.outP hs
      · exact h.outg hs
    · exact hf (by rcases hx' with rfl | rfl
                   · exact .inl rfl
                   · exact .inr (.inl rfl))
    · exact (hx x hs).1 (by rcases hx' with rfl | rfl
                            · exact .inl rfl
                            · exact .inr (.inl rfl))
  refine ⟨h.top.kept hk h.pg, by rw [List.length_set]; exact h.len, ?_, ?_, h.pg, hout P (.inl rfl), hout g (.inr rfl)⟩
  · have hs := (World.ownsRow.stored h.row k (.pointer (some ⟨b', 0, none⟩))).1
    rw [List.map_set]
    exact hs
  · exact (h.ptr.swap hb hb' hu (fun e => hf (.inr (.inr e))) (fun x hx' => ⟨fun e => (hx x hx').1 (.inr (.inr e)), (hx x hx').2⟩)).kept hk (fun x hs e => hout x (.inr e) hs)
end
def loadT (frame page : Int) (bs : List Int) (ps : List EFrame) : Int × Int × List (Int × List Int × Int × Bool × Int × Bool) :=
  if frame < 0 ∨ (ps.length : Int) ≤ frame then (2, 0, datFrameS ps) else
  match (datFrameS ps)[frame.toNat]? with
  | none => (0, 0, [])
  | some d => if 0 < d.2.2.1 ∨ d.2.2.2.1 = true then (2, 0, datFrameS ps) else
    if isPageB page = false ∨ bs.length ≠ 4096 then (3, 0, datFrameS ps) else
    if findB page ps ≠ -1 ∧ findB page ps ≠ frame then (4, 0, datFrameS ps) else
    (0, frame, (datFrameS ps).set frame.toNat (page, bs, 0, false, 0, true))
theorem loadT_dat {frame page : Int} {bs : List Int} {ps qs : List EFrame} (h : datFrameS qs = datFrameS ps) : loadT frame page bs qs = loadT frame page bs ps := by
  unfold loadT
  rw [findB_dat h, h, dat_len h]
theorem loadM_any (frame page : Int) (u : Value) (bs : List Int) (P : Nat) (hand : Int) (g n cap : Nat) (bl : List Nat) (ps : List EFrame) (w : World) (h : FP w P hand g n cap bl ps) (hn : n ≤ 16) (hbl : bs.length ≤ 1099511627776) (hu : Rd .u8 w u bs) :
    Calls Try.prog 46 #[.pointer (some ⟨P, 0, none⟩), .int .i64 frame, .int .i64 page, u] w fun e w' => ∃ fr cd bl' qs', e = .returned (.tuple #[.int .i64 fr, .int .i64 cd]) ∧ FP w' P hand g n cap bl' qs' ∧ (cd, fr, datFrameS qs') = loadT frame page bs ps ∧ (∀ b, footS kFrame bl' qs' b → footS kFrame bl ps b ∨ w.heap.size ≤ b) ∧ Kept (footFP P g bl ps) w w' := by
  have k0 := find_any page P hand g n cap bl ps w h hn
  have kp := isPage_eq page
  have HF := (show Hid (FP w P hand g n cap bl ps) from h)
  obtain ⟨au, cu, rfl⟩ := hu.form
  have HU := (show Hid (Rd .u8 w (.slice au bs.length cu) bs) from hu)
  have HBL := hid hbl
  obtain ⟨x0, x1⟩ := h.top.all2
  have hlen := h.len
  have HLN : Hid (n = ps.length) := hlen
  clear hu hbl
  have HFAIL : Hid (∀ (cd : Int) (w1 : World), Same w w1 → loadT frame page bs ps = (cd, 0, datFrameS ps) → FP w1 P hand g n cap bl ps ∧ (cd, 0, datFrameS ps) = loadT frame page bs ps ∧ (∀ b, footS kFrame bl ps b → footS kFrame bl ps b ∨ w.heap.size ≤ b) ∧ Kept (footFP P g bl ps) w w1) := fun cd w1 hk e =>
    ⟨HF.out.same hk, by rw [e], fun b hb => .inl hb, hk.mono (fun _ _ e => e.elim)⟩
  by_cases h1 : frame < 0
  · have HT := (show Hid (loadT frame page bs ps = (2, 0, datFrameS ps)) from if_pos (.inl h1))
    clear h hlen
    go_enter Try.func46, Try.ntmps46
    go_wp2
    go_ret2
    first | exact ⟨0, 2, bl, ps, rfl, HFAIL.out 2 _ (Kept.refl _ _) HT.out⟩ | exact ⟨0, 2, rfl, bl, ps, HFAIL.out 2 _ (Kept.refl _ _) HT.out⟩
  by_cases h2 : (n : Int) ≤ frame
  · have HT := (show Hid (loadT frame page bs ps = (2, 0, datFrameS ps)) from if_pos (.inr (by rw [← hlen]; exact h2)))
    clear h hlen
    go_enter Try.func46, Try.ntmps46
    go_wp2
    go_ret2
    first | exact ⟨0, 2, bl, ps, rfl, HFAIL.out 2 _ (Kept.refl _ _) HT.out⟩ | exact ⟨0, 2, rfl, bl, ps, HFAIL.out 2 _ (Kept.refl _ _) HT.out⟩
  obtain ⟨k, rfl⟩ : ∃ k : Nat, frame = (k : Int) := ⟨frame.toNat, by omega⟩
  have hkn : k < n := by omega
  have hkl : k < ps.length := by omega
  obtain ⟨bk, p, hbk, hpk, hck, hb⟩ := h.at k hkn
  have hdat := h.ptr.data p (List.mem_of_getElem? hpk)
  have HBK : Hid (bl[k]? = some bk) := hbk
  have HPK : Hid (ps[k]? = some p) := hpk
  obtain ⟨pg, pv, fb, pn, dt, rl, rf⟩ := p
  obtain ⟨a1, n1, c1, e1⟩ := slice_of_own (show Own 0 5 .u8 w pv fb from hdat)
  subst e1
  have HB := (show Hid (Blk w bk 51 [.int .i64 pg, .slice a1 n1 c1, .int .i64 pn, .bool dt, .int .i64 rl, .bool rf]) from hb)
  have HT : Hid (loadT (k : Int) page bs ps = if 0 < pn ∨ dt = true then (2, 0, datFrameS ps) else
    if isPageB page = false ∨ bs.length ≠ 4096 then (3, 0, datFrameS ps) else
    if findB page ps ≠ -1 ∧ findB page ps ≠ (k : Int) then (4, 0, datFrameS ps) else
    (0, (k : Int), (datFrameS ps).set k (page, bs, 0, false, 0, true))) := by
    unfold loadT Hid
    rw [if_neg (by omega), Int.toNat_natCast, dat_at HPK.out]
    rfl
  obtain ⟨c0, c1', c2, c3, c4, c5⟩ := HB.out.all6
  have hki : (k : Int) < (n : Int) := by omega
  have HFL : Hid (∀ x, footFP P g bl ps x → x < w.heap.size) := fun x hx => HF.out.lt x hx
  have hPl : P < w.heap.size := HF.out.lt P (.inl rfl)
  have hgl : g < w.heap.size := HF.out.lt g (.inr (.inl rfl))
  have hPg := h.pg
  clear hb hdat hbk hpk h hlen
  by_cases h3 : 0 < pn
  · have HT1 := (show Hid (loadT (k : Int) page bs ps = (2, 0, datFrameS ps)) from HT.out.trans (if_pos (.inl h3)))
    go_enter Try.func46, Try.ntmps46
    go_wp2
    go_ret2
    first | exact ⟨0, 2, bl, ps, rfl, HFAIL.out 2 _ (Kept.refl _ _) HT1.out⟩ | exact ⟨0, 2, rfl, bl, ps, HFAIL.out 2 _ (Kept.refl _ _) HT1.out⟩
  cases dt with
  | true =>
    have HT1 := (show Hid (loadT (k : Int) page bs ps = (2, 0, datFrameS ps)) from HT.out.trans (if_pos (.inr rfl)))
    go_enter Try.func46, Try.ntmps46
    go_wp2
    go_ret2
    first | exact ⟨0, 2, bl, ps, rfl, HFAIL.out 2 _ (Kept.refl _ _) HT1.out⟩ | exact ⟨0, 2, rfl, bl, ps, HFAIL.out 2 _ (Kept.refl _ _) HT1.out⟩
  | false =>
    have HT1 := (show Hid (loadT (k : Int) page bs ps = if isPageB page = false ∨ bs.length ≠ 4096 then (3, 0, datFrameS ps) else
      if findB page ps ≠ -1 ∧ findB page ps ≠ (k : Int) then (4, 0, datFrameS ps) else
      (0, (k : Int), (datFrameS ps).set k (page, bs, 0, false, 0, true))) from HT.out.trans (if_neg (by simp; omega)))
    clear HT
    obtain ⟨nb, hnb⟩ : ∃ x, bs.length = x := ⟨_, rfl⟩
    rw [hnb] at HT1 HU ⊢
    have HBL2 : Hid (bs.length ≤ 1099511627776) := HBL
    clear HBL
    cases hp : isPageB page with
    | false =>
      have HT2 := (show Hid (loadT (k : Int) page bs ps = (3, 0, datFrameS ps)) from HT1.out.trans (if_pos (.inl hp)))
      rw [hp] at kp
      go_enter Try.func46, Try.ntmps46
      go_wp2_with fail
      refine (kp _).mono ?_
      rintro e w1 ⟨rfl, rfl⟩
      go_wp2
      go_ret2
      first | exact ⟨0, 3, bl, ps, rfl, HFAIL.out 3 _ (Kept.refl _ _) HT2.out⟩ | exact ⟨0, 3, rfl, bl, ps, HFAIL.out 3 _ (Kept.refl _ _) HT2.out⟩
    | true =>
      rw [hp] at kp
      by_cases h4 : nb = 4096
      case neg =>
        have h4' : ¬ (nb : Int) = 4096 := by omega
        have HT2 := (show Hid (loadT (k : Int) page bs ps = (3, 0, datFrameS ps)) from HT1.out.trans (if_pos (.inr h4)))
        go_enter Try.func46, Try.ntmps46
        go_wp2_with fail
        refine (kp _).mono ?_
        rintro e w1 ⟨rfl, rfl⟩
        go_wp2
        go_ret2
        first | exact ⟨0, 3, bl, ps, rfl, HFAIL.out 3 _ (Kept.refl _ _) HT2.out⟩ | exact ⟨0, 3, rfl, bl, ps, HFAIL.out 3 _ (Kept.refl _ _) HT2.out⟩
      subst h4
      have HT2 := (show Hid (loadT (k : Int) page bs ps = if findB page ps ≠ -1 ∧ findB page ps ≠ (k : Int) then (4, 0, datFrameS ps) else
        (0, (k : Int), (datFrameS ps).set k (page, bs, 0, false, 0, true))) from HT1.out.trans (if_neg (by rw [hp]; simp)))
      clear HT1
      obtain ⟨fi, hfi⟩ : ∃ x, findB page ps = x := ⟨_, rfl⟩
      rw [hfi] at k0 HT2
      by_cases h5 : fi ≠ -1 ∧ fi ≠ (k : Int)
      · have HT3 := (show Hid (loadT (k : Int) page bs ps = (4, 0, datFrameS ps)) from HT2.out.trans (if_pos h5))
        have hb1 : (fi != -1) = true := by simp [h5.1]
        have hb2 : (fi != (k : Int)) = true := by simp [h5.2]
        clear h5
        go_enter Try.func46, Try.ntmps46
        go_wp2_with fail
        refine (kp _).mono ?_
        rintro e w1 ⟨rfl, rfl⟩
        go_wp2_with fail
        refine k0.mono ?_
        rintro e w2 ⟨rfl, hk2⟩
        have HK2 := hid hk2
        clear hk2
        go_wp2
        go_ret2
        first | exact ⟨0, 4, bl, ps, rfl, HFAIL.out 4 _ HK2.out HT3.out⟩ | exact ⟨0, 4, rfl, bl, ps, HFAIL.out 4 _ HK2.out HT3.out⟩
      · have HT3 := (show Hid (loadT (k : Int) page bs ps = (0, (k : Int), (datFrameS ps).set k (page, bs, 0, false, 0, true))) from HT2.out.trans (if_neg h5))
        have h5' : fi = -1 ∨ fi = (k : Int) := by omega
        clear h5 HT2
        rcases h5' with rfl | rfl
        · go_enter Try.func46, Try.ntmps46
          go_wp2_with fail
          refine (kp _).mono ?_
          rintro e w1 ⟨rfl, hw1⟩
          replace hw1 := hw1.symm
          subst hw1
          go_wp2_with fail
          refine k0.mono ?_
          rintro e w2 ⟨rfl, hk2⟩
          have HK2 := hid hk2
          have HF2 := (show Hid (FP w2 P hand g n cap bl ps) from HF.out.same hk2)
          have hz2 := hk2.size
          have HX2 := hid HF2.out.top
          have hrow := HF2.out.row
          clear hk2 k0 c0 c1' c2 c3 c4 c5 x0 x1 hck
          go_wp2_with fail
          have hS : (fun wx : World => wx.cell? ⟨P, 0, none⟩ = some (.slice (some ⟨g, 0, none⟩) n cap)) w2.drew := HX2.out.drew.cell 0
          refine wp_region_V (fun wx : World => wx.cell? ⟨P, 0, none⟩ = some (.slice (some ⟨g, 0, none⟩) n cap)) 12 13 rfl (by kernel_rfl) ?_
          refine tk 0 61 hS ?_
          refine tk 1 62 hS ?_
          refine tk 2 63 hS ?_
          refine tk 3 64 hS ?_
          refine tk 4 65 hS ?_
          refine tk 5 66 hS ?_
          refine tk 6 67 hS ?_
          refine tk 7 68 hS ?_
          refine wpAnyV_one (i := 8) (by kernel_rfl) rfl (fun K hK => ?_)
          go_simp
          refine (cloneS_any (.slice au 4096 cu) bs _ HBL2.out (HU.out.same HK2.out.drew)).mono ?_
          rintro e w3 ⟨a4, n4, c4, rfl, ho4, hf4, hk4⟩
          have hk23 : Same w2 w3 := (Kept.refl (fun _ => False) w2).drew.trans hk4
          have HK3 := (show Hid (Same w w3) from HK2.out.trans hk23)
          have HF3 := (show Hid (FP w3 P hand g n cap bl ps) from HF2.out.same hk23)
          have HX3 := hid HF3.out.top
          have HO4 := (show Hid (Own 0 5 .u8 w3 (.slice a4 n4 c4) bs) from ho4)
          have HZ4 : Hid (∀ b, (Value.slice a4 n4 c4).ownBlock = some b → w.heap.size ≤ b ∧ b < w3.heap.size) := fun b hb => ⟨by have h : w2.heap.size ≤ b := hf4 b hb; omega, (ho4.lt b hb).2⟩
          have hz3 : w2.heap.size ≤ w3.heap.size := hk23.size
          clear ho4 hf4 hk4 hk23
          go_wp2_with fail
          have hS3 : (fun wx : World => wx.cell? ⟨P, 0, none⟩ = some (.slice (some ⟨g, 0, none⟩) n cap)) w3 := HX3.out.cell 0
          refine hK.out _ _ (fun _ => hS3) ?_
          clear hK K hS
          try simp only [Act.put, sA, s0, sS]
          refine tk 9 70 hS3 ?_
          refine wpAnyV_one (i := 10) (by kernel_rfl) rfl (fun K hK => ?_)
          go_simp
          have hS4 : (fun wx : World => wx.cell? ⟨P, 0, none⟩ = some (.slice (some ⟨g, 0, none⟩) n cap)) (w3.alloc (.cells #[.int .i64 page, .slice a4 n4 c4, .int .i64 0, .bool false, .int .i64 0, .bool true] 51)) := (HX3.out.alloc _).cell 0
          refine hK.out _ _ (fun _ => hS4) ?_
          clear hK K
          try simp only [Act.put, sA, s0, sS]
          refine wpAnyV_one (i := 11) (by kernel_rfl) rfl (fun K hK => ?_)
          go_simp
          refine hK.out _ _ (fun _ => hS4) ?_
          clear hK K
          try simp only [Act.put, sA, s0, sS]
          have yk : w3.cell? ⟨g, k, none⟩ = some (.pointer (some ⟨bk, 0, none⟩)) := by
            obtain ⟨b1, p1, hb1, _, hc1, _⟩ := HF3.out.at k hkn
            rw [HBK.out] at hb1
            obtain rfl := Option.some.inj hb1
            exact hc1
          have fg := World.ownsRow.frozenAt HF3.out.row
          have hg3 : g < w3.heap.size := by omega
          refine wpAnyV_one (i := 12) (by kernel_rfl) rfl (fun K hK => ?_)
          go_simp
          refine hK.out _ _ (fun h => absurd rfl h) ?_
          clear hK K
          refine wpAnyV_done (by kernel_rfl) ?_
          try simp only [Act.put, sA, s0, sS]
          have HFN := (show Hid (FP ((w3.alloc (.cells #[.int .i64 page, .slice a4 n4 c4, .int .i64 0, .bool false, .int .i64 0, .bool true] 51)).setCell ⟨g, k, none⟩ (.pointer (some ⟨w3.heap.size, 0, none⟩))) P hand g n cap (bl.set k w3.heap.size) (ps.set k (⟨page, .slice a4 n4 c4, bs, 0, false, 0, true⟩ : EFrame))) from
            FP.swap (p' := (⟨page, .slice a4 n4 c4, bs, 0, false, 0, true⟩ : EFrame)) (HF3.out.same ((Kept.refl _ _).alloc _)) HBK.out (Blk.newL w3 [.int .i64 page, .slice a4 n4 c4, .int .i64 0, .bool false, .int .i64 0, .bool true] 51) (HO4.out.same ((Kept.refl _ _).alloc _)) (fun hf => by have := HFL.out _ hf; omega)
              (fun x hx => ⟨fun hf => by have h1 := (HZ4.out x hx).1; have h2 := HFL.out x hf; omega, by have h1 := (HZ4.out x hx).2; omega⟩))
          have hcomm : (w3.alloc (.cells #[.int .i64 page, .slice a4 n4 c4, .int .i64 0, .bool false, .int .i64 0, .bool true] 51)).setCell ⟨g, k, none⟩ (.pointer (some ⟨w3.heap.size, 0, none⟩)) = (w3.setCell ⟨g, k, none⟩ (.pointer (some ⟨w3.heap.size, 0, none⟩))).alloc (.cells #[.int .i64 page, .slice a4 n4 c4, .int .i64 0, .bool false, .int .i64 0, .bool true] 51) := by go_simp
          rw [hcomm] at HFN
          clear hcomm
          have hzw : w.heap.size ≤ w3.heap.size := HK3.out.size
          go_wp2
          go_ret2
          refine ⟨(k : Int), 0, rfl, _, _, HFN.out, ?_, ?_, ?_⟩
          · rw [HT3.out, dat_set]; rfl
          · intro b hb
            rcases footS_swap b hb with hb | rfl | hb
            · exact .inl hb
            · exact .inr hzw
            · exact .inr (HZ4.out b hb).1
          · refine Kept.alloc (Kept.next (R := footFP P g bl ps) (R' := fun b => b = g) (HK3.out.mono (fun _ _ e => e.elim)) (Kept.setCell (R := fun b => b = g) (Kept.refl _ _) (p := ⟨g, k, none⟩) (.inr rfl) _) (fun i hi e => .inr (.inl e))) _
        · go_enter Try.func46, Try.ntmps46
          go_wp2_with fail
          refine (kp _).mono ?_
          rintro e w1 ⟨rfl, hw1⟩
          replace hw1 := hw1.symm
          subst hw1
          go_wp2_with fail
          refine k0.mono ?_
          rintro e w2 ⟨rfl, hk2⟩
          have HK2 := hid hk2
          have HF2 := (show Hid (FP w2 P hand g n cap bl ps) from HF.out.same hk2)
          have hz2 := hk2.size
          have HX2 := hid HF2.out.top
          have hrow := HF2.out.row
          clear hk2 k0 c0 c1' c2 c3 c4 c5 x0 x1 hck
          go_wp2_with fail
          have hS : (fun wx : World => wx.cell? ⟨P, 0, none⟩ = some (.slice (some ⟨g, 0, none⟩) n cap)) w2.drew := HX2.out.drew.cell 0
          refine wp_region_V (fun wx : World => wx.cell? ⟨P, 0, none⟩ = some (.slice (some ⟨g, 0, none⟩) n cap)) 12 13 rfl (by kernel_rfl) ?_
          refine tk 0 61 hS ?_
          refine tk 1 62 hS ?_
          refine tk 2 63 hS ?_
          refine tk 3 64 hS ?_
          refine tk 4 65 hS ?_
          refine tk 5 66 hS ?_
          refine tk 6 67 hS ?_
          refine tk 7 68 hS ?_
          refine wpAnyV_one (i := 8) (by kernel_rfl) rfl (fun K hK => ?_)
          go_simp
          refine (cloneS_any (.slice au 4096 cu) bs _ HBL2.out (HU.out.same HK2.out.drew)).mono ?_
          rintro e w3 ⟨a4, n4, c4, rfl, ho4, hf4, hk4⟩
          have hk23 : Same w2 w3 := (Kept.refl (fun _ => False) w2).drew.trans hk4
          have HK3 := (show Hid (Same w w3) from HK2.out.trans hk23)
          have HF3 := (show Hid (FP w3 P hand g n cap bl ps) from HF2.out.same hk23)
          have HX3 := hid HF3.out.top
          have HO4 := (show Hid (Own 0 5 .u8 w3 (.slice a4 n4 c4) bs) from ho4)
          have HZ4 : Hid (∀ b, (Value.slice a4 n4 c4).ownBlock = some b → w.heap.size ≤ b ∧ b < w3.heap.size) := fun b hb => ⟨by have h : w2.heap.size ≤ b := hf4 b hb; omega, (ho4.lt b hb).2⟩
          have hz3 : w2.heap.size ≤ w3.heap.size := hk23.size
          clear ho4 hf4 hk4 hk23
          go_wp2_with fail
          have hS3 : (fun wx : World => wx.cell? ⟨P, 0, none⟩ = some (.slice (some ⟨g, 0, none⟩) n cap)) w3 := HX3.out.cell 0
          refine hK.out _ _ (fun _ => hS3) ?_
          clear hK K hS
          try simp only [Act.put, sA, s0, sS]
          refine tk 9 70 hS3 ?_
          refine wpAnyV_one (i := 10) (by kernel_rfl) rfl (fun K hK => ?_)
          go_simp
          have hS4 : (fun wx : World => wx.cell? ⟨P, 0, none⟩ = some (.slice (some ⟨g, 0, none⟩) n cap)) (w3.alloc (.cells #[.int .i64 page, .slice a4 n4 c4, .int .i64 0, .bool false, .int .i64 0, .bool true] 51)) := (HX3.out.alloc _).cell 0
          refine hK.out _ _ (fun _ => hS4) ?_
          clear hK K
          try simp only [Act.put, sA, s0, sS]
          refine wpAnyV_one (i := 11) (by kernel_rfl) rfl (fun K hK => ?_)
          go_simp
          refine hK.out _ _ (fun _ => hS4) ?_
          clear hK K
          try simp only [Act.put, sA, s0, sS]
          have yk : w3.cell? ⟨g, k, none⟩ = some (.pointer (some ⟨bk, 0, none⟩)) := by
            obtain ⟨b1, p1, hb1, _, hc1, _⟩ := HF3.out.at k hkn
            rw [HBK.out] at hb1
            obtain rfl := Option.some.inj hb1
            exact hc1
          have fg := World.ownsRow.frozenAt HF3.out.row
          have hg3 : g < w3.heap.size := by omega
          refine wpAnyV_one (i := 12) (by kernel_rfl) rfl (fun K hK => ?_)
          go_simp
          refine hK.out _ _ (fun h => absurd rfl h) ?_
          clear hK K
          refine wpAnyV_done (by kernel_rfl) ?_
          try simp only [Act.put, sA, s0, sS]
          have HFN := (show Hid (FP ((w3.alloc (.cells #[.int .i64 page, .slice a4 n4 c4, .int .i64 0, .bool false, .int .i64 0, .bool true] 51)).setCell ⟨g, k, none⟩ (.pointer (some ⟨w3.heap.size, 0, none⟩))) P hand g n cap (bl.set k w3.heap.size) (ps.set k (⟨page, .slice a4 n4 c4, bs, 0, false, 0, true⟩ : EFrame))) from
            FP.swap (p' := (⟨page, .slice a4 n4 c4, bs, 0, false, 0, true⟩ : EFrame)) (HF3.out.same ((Kept.refl _ _).alloc _)) HBK.out (Blk.newL w3 [.int .i64 page, .slice a4 n4 c4, .int .i64 0, .bool false, .int .i64 0, .bool true] 51) (HO4.out.same ((Kept.refl _ _).alloc _)) (fun hf => by have := HFL.out _ hf; omega)
              (fun x hx => ⟨fun hf => by have h1 := (HZ4.out x hx).1; have h2 := HFL.out x hf; omega, by have h1 := (HZ4.out x hx).2; omega⟩))
          have hcomm : (w3.alloc (.cells #[.int .i64 page, .slice a4 n4 c4, .int .i64 0, .bool false, .int .i64 0, .bool true] 51)).setCell ⟨g, k, none⟩ (.pointer (some ⟨w3.heap.size, 0, none⟩)) = (w3.setCell ⟨g, k, none⟩ (.pointer (some ⟨w3.heap.size, 0, none⟩))).alloc (.cells #[.int .i64 page, .slice a4 n4 c4, .int .i64 0, .bool false, .int .i64 0, .bool true] 51) := by go_simp
          rw [hcomm] at HFN
          clear hcomm
          have hzw : w.heap.size ≤ w3.heap.size := HK3.out.size
          go_wp2
          go_ret2
          refine ⟨(k : Int), 0, rfl, _, _, HFN.out, ?_, ?_, ?_⟩
          · rw [HT3.out, dat_set]; rfl
          · intro b hb
            rcases footS_swap b hb with hb | rfl | hb
            · exact .inl hb
            · exact .inr hzw
            · exact .inr (HZ4.out b hb).1
          · refine Kept.alloc (Kept.next (R := footFP P g bl ps) (R' := fun b => b = g) (HK3.out.mono (fun _ _ e => e.elim)) (Kept.setCell (R := fun b => b = g) (Kept.refl _ _) (p := ⟨g, k, none⟩) (.inr rfl) _) (fun i hi e => .inr (.inl e))) _
end Go.Proofs.Ytabmhcdldfehnaa

namespace Go.Proofs.Ytabmhcdldfehnaa
set_option maxRecDepth 100000
set_option maxHeartbeats 8000000
open Go.RowKit
set_option linter.unusedVariables false
set_option linter.unusedSimpArgs false
def loadP (ps : List EFrame) (hand frame page : Int) (bs : List Int) : Int × Int × Int × List (Int × List Int × Int × Bool × Int × Bool) := turnP (loadT frame page bs ps) ps hand
theorem loadP_dat {ps qs : List EFrame} {hand frame page : Int} {bs : List Int} (h : datFrameS qs = datFrameS ps) : loadP qs hand frame page bs = loadP ps hand frame page bs := by
  unfold loadP
  rw [loadT_dat h, turnP_dat h]
theorem loadP_small {ps qs : List EFrame} {hand frame page a b c : Int} {bs : List Int} (h : (a, b, c, datFrameS qs) = loadP ps hand frame page bs) : SmallF (datFrameS qs) := by
  refine turnP_small h (fun h0 h1 => ?_)
  unfold loadT at h1 ⊢
  by_cases h2 : frame < 0 ∨ (ps.length : Int) ≤ frame
  · rw [if_pos h2]; exact small_dat h0
  rw [if_neg h2] at h1 ⊢
  cases hd : (datFrameS ps)[frame.toNat]? with
  | none => exact small_nil
  | some d =>
    dsimp only
    by_cases h3 : 0 < d.2.2.1 ∨ d.2.2.2.1 = true
    · rw [if_pos h3]; exact small_dat h0
    rw [if_neg h3]
    by_cases h4 : isPageB page = false ∨ bs.length ≠ 4096
    · rw [if_pos h4]; exact small_dat h0
    rw [if_neg h4]
    by_cases h5 : findB page ps ≠ -1 ∧ findB page ps ≠ frame
    · rw [if_pos h5]; exact small_dat h0
    rw [if_neg h5]
    have h6 : bs.length = 4096 := Classical.byContradiction fun e => h4 (.inr e)
    exact small_set (small_dat h0) (by dsimp only; omega)
theorem isPage_in (page : Int) : isPageB page = inB page 0 15 := by
  unfold isPageB inB
  rw [Bool.eq_iff_iff]
  simp
  omega
theorem specPoolLoad_any (v : Value) (hand frame page : Int) (u : Value) (bs : List Int) (ps : List EFrame) (w : World) (hv : RdR kFrame w v ps) (hbl : bs.length ≤ 1099511627776) (hu : Rd .u8 w u bs) :
    Calls Try.prog 16 #[.agg #[v, .int .i64 hand], .int .i64 frame, .int .i64 page, u] w fun e w' => ∃ cd fr a n c hd qs, e = .returned (.agg #[.int .i64 cd, .int .i64 fr, .slice a n c, .int .i64 hd]) ∧ (cd, fr, hd, datFrameS qs) = loadP ps hand frame page bs ∧ (∀ b, footR kFrame (.slice a n c) qs b → w.heap.size ≤ b) ∧ OwnR kFrame 0 51 5 w' (.slice a n c) qs ∧ Same w w' := by
  obtain ⟨a, c, rfl⟩ := hv.form
  obtain ⟨au, cu, rfl⟩ := hu.form
  have HV := (show Hid (RdR kFrame w (.slice a ps.length c) ps) from hv)
  have HU := (show Hid (Rd .u8 w (.slice au bs.length cu) bs) from hu)
  have HBL : Hid (bs.length ≤ 1099511627776) := hbl
  clear hv hu hbl
  have hk0 : Same w ((w.alloc (.cells #[.slice a ps.length c, .int .i64 hand] 29)).alloc (.cells #[.int .i64 0, .int .i64 0, .slice none 0 0, .int .i64 0] 37)) := ((Kept.refl _ _).alloc _).alloc _
  have k0 := specPoolFault_any (.slice a ps.length c) hand ps _ (HV.out.same hk0)
  have b0 := Blk.newA w [.slice a ps.length c, .int .i64 hand] 29 [.int .i64 0, .int .i64 0, .slice none 0 0, .int .i64 0] 37
  have b1 := Blk.newB w [.slice a ps.length c, .int .i64 hand] 29 [.int .i64 0, .int .i64 0, .slice none 0 0, .int .i64 0] 37
  obtain ⟨q, hq⟩ : ∃ q, poolF ps hand = q := ⟨_, rfl⟩
  have HQ : Hid (poolF ps hand = q) := hq
  rw [hq] at k0
  go_enter Try.func16, Try.ntmps16
  go_wp2_with fail
  refine k0.mono ?_
  rintro e w1 ⟨rfl, hk1⟩
  have HK1 := (show Hid (Same w w1) from hk0.trans hk1)
  have HB0 := hid (b0.same hk1)
  have HB1 := hid (b1.same hk1)
  clear hk0 hk1 b0 b1 k0
  obtain ⟨g0, g1⟩ := HB0.out.all2
  obtain ⟨z0, z1, z2, z3⟩ := HB1.out.all4
  have fz := HB1.out.frozen
  have lz := HB1.out.lt
  by_cases h0 : q = 0
  case neg =>
    have HT0 : Hid (loadP ps hand frame page bs = (1, 0, 0, [])) := if_pos (by rw [HQ.out]; exact h0)
    clear hq
    go_wp2
    refine bodyPost_ret (v := .agg #[.int .i64 1, .int .i64 0, .slice none 0 0, .int .i64 0]) (by simp [results, Try.results16, go_sem, z0, z1, z2, z3]) rfl ⟨1, 0, none, 0, 0, 0, [], rfl, ?_, fun b hb => absurd hb (footR_nil b), OwnR.nil _ _ _ _ _, ?_⟩
    · rw [HT0.out]
      rfl
    · (iterate 4 refine Kept.setCell ?_ (.inl (Nat.le_succ _)) _)
      exact HK1.out
  subst h0
  have HP : Hid (∀ x : Int × Int × List (Int × List Int × Int × Bool × Int × Bool), loadT frame page bs ps = x → loadP ps hand frame page bs = if x.1 ≠ 0 then (x.1, 0, 0, []) else (0, x.2.1, hand, x.2.2)) := fun x hx => by
    unfold loadP turnP
    rw [if_neg (by rw [HQ.out]; simp), hx]
  obtain ⟨hl1, hl16, _, _⟩ := poolF_len hq
  have hfr := frame_of hq
  have HM : Hid (∀ p ∈ ps, p.bs.length ≤ 1099511627776) := fun p hp => Nat.le_trans (hfr p hp).2 (by omega)
  obtain ⟨b, off, rfl, hc⟩ : ∃ b off, a = some ⟨b, off, none⟩ ∧ ∀ j i, (h : j < ps.length) → i < 6 → w.cell? ⟨b, off + (j * 6 + i), none⟩ = (kFrame.cells ps[j])[i]? := by
    rcases HV.out.row with ⟨hps, _⟩ | ⟨b, off, c', he, hc⟩
    · rw [hps] at hl1; simp at hl1
    · injection he with he1 he2 he3
      exact ⟨b, off, he1, hc⟩
  have HC : Hid (∀ j i, (h : j < ps.length) → i < 6 → w.cell? ⟨b, off + (j * 6 + i), none⟩ = (kFrame.cells ps[j])[i]?) := hc
  obtain ⟨len, hl⟩ : ∃ n, ps.length = n := ⟨_, rfl⟩
  have HL : Hid (ps.length = len) := hl
  have HE0 : Hid (frame < 0 ∨ (len : Int) ≤ frame → loadP ps hand frame page bs = (2, 0, 0, [])) := fun h => by
    rw [HP.out (2, 0, datFrameS ps) (if_pos (by rw [hl]; exact h))]
    rfl
  rw [hl] at HV HB0 g0 hl1 hl16
  clear hc hfr hq
  by_cases h1 : frame < 0
  · have HT0 := hid (HE0.out (.inl h1))
    clear hl
    go_wp2
    refine bodyPost_ret (v := .agg #[.int .i64 2, .int .i64 0, .slice none 0 0, .int .i64 0]) (by simp [results, Try.results16, go_sem, z0, z1, z2, z3]) rfl ⟨2, 0, none, 0, 0, 0, [], rfl, ?_, fun b hb => absurd hb (footR_nil b), OwnR.nil _ _ _ _ _, ?_⟩
    · rw [HT0.out]
      rfl
    · (iterate 4 refine Kept.setCell ?_ (.inl (Nat.le_succ _)) _)
      exact HK1.out
  by_cases h2 : (len : Int) ≤ frame
  · have HT0 := hid (HE0.out (.inr h2))
    clear hl
    go_wp2
    refine bodyPost_ret (v := .agg #[.int .i64 2, .int .i64 0, .slice none 0 0, .int .i64 0]) (by simp [results, Try.results16, go_sem, z0, z1, z2, z3]) rfl ⟨2, 0, none, 0, 0, 0, [], rfl, ?_, fun b hb => absurd hb (footR_nil b), OwnR.nil _ _ _ _ _, ?_⟩
    · rw [HT0.out]
      rfl
    · (iterate 4 refine Kept.setCell ?_ (.inl (Nat.le_succ _)) _)
      exact HK1.out
  obtain ⟨k, rfl⟩ : ∃ k : Nat, frame = (k : Int) := ⟨frame.toNat, by omega⟩
  have hkl : k < ps.length := by omega
  obtain ⟨p, hp⟩ : ∃ p, ps[k] = p := ⟨_, rfl⟩
  have hc2 : w.cell? ⟨b, off + k * 6 + 2, none⟩ = some (.int .i64 p.pins) := by have h := HC.out k 2 hkl (by decide); rw [← Nat.add_assoc, hp] at h; exact h
  have hc3 : w.cell? ⟨b, off + k * 6 + 3, none⟩ = some (.bool p.dirty) := by have h := HC.out k 3 hkl (by decide); rw [← Nat.add_assoc, hp] at h; exact h
  have HT : Hid (loadT (k : Int) page bs ps = if 0 < p.pins ∨ p.dirty = true then (2, 0, datFrameS ps) else
    if isPageB page = false ∨ bs.length ≠ 4096 then (3, 0, datFrameS ps) else
    if findB page ps ≠ -1 ∧ findB page ps ≠ (k : Int) then (4, 0, datFrameS ps) else
    (0, (k : Int), (datFrameS ps).set k (page, bs, 0, false, 0, true))) := by
    unfold loadT Hid
    rw [if_neg (by omega), Int.toNat_natCast, dat_at (List.getElem?_eq_getElem hkl), hp]
    rfl
  have d2 := HK1.out.cellOf hc2 id
  have d3 := HK1.out.cellOf hc3 id
  have hki : (k : Int) < (len : Int) := by omega
  clear hl hc2 hc3
  obtain ⟨pn, hpn⟩ : ∃ x, p.pins = x := ⟨_, rfl⟩
  rw [hpn] at HT d2
  by_cases h3 : 0 < pn
  · have HT0 : Hid (loadP ps hand (k : Int) page bs = (2, 0, 0, [])) := (HP.out _ (HT.out.trans (if_pos (.inl h3)))).trans (if_pos (by simp))
    go_wp2
    refine bodyPost_ret (v := .agg #[.int .i64 2, .int .i64 0, .slice none 0 0, .int .i64 0]) (by simp [results, Try.results16, go_sem, z0, z1, z2, z3]) rfl ⟨2, 0, none, 0, 0, 0, [], rfl, ?_, fun b hb => absurd hb (footR_nil b), OwnR.nil _ _ _ _ _, ?_⟩
    · rw [HT0.out]
      rfl
    · (iterate 4 refine Kept.setCell ?_ (.inl (Nat.le_succ _)) _)
      exact HK1.out
  cases hdt : p.dirty with
  | true =>
    have HT0 : Hid (loadP ps hand (k : Int) page bs = (2, 0, 0, [])) := (HP.out _ (HT.out.trans (if_pos (.inr hdt)))).trans (if_pos (by simp))
    rw [hdt] at d3
    go_wp2
    refine bodyPost_ret (v := .agg #[.int .i64 2, .int .i64 0, .slice none 0 0, .int .i64 0]) (by simp [results, Try.results16, go_sem, z0, z1, z2, z3]) rfl ⟨2, 0, none, 0, 0, 0, [], rfl, ?_, fun b hb => absurd hb (footR_nil b), OwnR.nil _ _ _ _ _, ?_⟩
    · rw [HT0.out]
      rfl
    · (iterate 4 refine Kept.setCell ?_ (.inl (Nat.le_succ _)) _)
      exact HK1.out
  | false =>
    rw [hdt] at d3
    have HT1 : Hid (loadT (k : Int) page bs ps = if isPageB page = false ∨ bs.length ≠ 4096 then (3, 0, datFrameS ps) else
      if findB page ps ≠ -1 ∧ findB page ps ≠ (k : Int) then (4, 0, datFrameS ps) else
      (0, (k : Int), (datFrameS ps).set k (page, bs, 0, false, 0, true))) := HT.out.trans (if_neg (by rw [hdt]; simp; omega))
    clear HT hpn
    have kin := l4In_any page 0 15
    obtain ⟨nb, hnb⟩ : ∃ x, bs.length = x := ⟨_, rfl⟩
    rw [hnb] at HT1 HU ⊢
    clear hnb
    rw [isPage_in] at HT1
    cases hpg : inB page 0 15 with
    | false =>
      rw [hpg] at kin
      have HT0 : Hid (loadP ps hand (k : Int) page bs = (3, 0, 0, [])) := (HP.out _ (HT1.out.trans (if_pos (.inl hpg)))).trans (if_pos (by simp))
      clear z0 z1 z2 z3 fz lz
      go_wp2_with fail
      refine (kin _).mono ?_
      rintro e w2 ⟨rfl, hk2⟩
      have HK2 := (show Hid (Same w w2) from HK1.out.trans hk2)
      obtain ⟨z0, z1, z2, z3⟩ := (HB1.out.same hk2).all4
      have fz := (HB1.out.same hk2).frozen
      have lz := (HB1.out.same hk2).lt
      go_wp2
      refine bodyPost_ret (v := .agg #[.int .i64 3, .int .i64 0, .slice none 0 0, .int .i64 0]) (by simp [results, Try.results16, go_sem, z0, z1, z2, z3]) rfl ⟨3, 0, none, 0, 0, 0, [], rfl, ?_, fun b hb => absurd hb (footR_nil b), OwnR.nil _ _ _ _ _, ?_⟩
      · rw [HT0.out]
        rfl
      · (iterate 4 refine Kept.setCell ?_ (.inl (Nat.le_succ _)) _)
        exact HK2.out
    | true =>
      rw [hpg] at kin
      clear z0 z1 z2 z3 fz lz
      by_cases h4 : nb = 4096
      case neg =>
        have h4' : ¬ (nb : Int) = 4096 := by omega
        have HT0 : Hid (loadP ps hand (k : Int) page bs = (3, 0, 0, [])) := (HP.out _ (HT1.out.trans (if_pos (.inr h4)))).trans (if_pos (by simp))
        go_wp2_with fail
        refine (kin _).mono ?_
        rintro e w2 ⟨rfl, hk2⟩
        have HK2 := (show Hid (Same w w2) from HK1.out.trans hk2)
        obtain ⟨z0, z1, z2, z3⟩ := (HB1.out.same hk2).all4
        have fz := (HB1.out.same hk2).frozen
        have lz := (HB1.out.same hk2).lt
        go_wp2
        refine bodyPost_ret (v := .agg #[.int .i64 3, .int .i64 0, .slice none 0 0, .int .i64 0]) (by simp [results, Try.results16, go_sem, z0, z1, z2, z3]) rfl ⟨3, 0, none, 0, 0, 0, [], rfl, ?_, fun b hb => absurd hb (footR_nil b), OwnR.nil _ _ _ _ _, ?_⟩
        · rw [HT0.out]
          rfl
        · (iterate 4 refine Kept.setCell ?_ (.inl (Nat.le_succ _)) _)
          exact HK2.out
      subst h4
      have HT2 : Hid (loadT (k : Int) page bs ps = if findB page ps ≠ -1 ∧ findB page ps ≠ (k : Int) then (4, 0, datFrameS ps) else
        (0, (k : Int), (datFrameS ps).set k (page, bs, 0, false, 0, true))) := HT1.out.trans (if_neg (by rw [hpg]; simp))
      clear HT1
      go_wp2_with fail
      refine (kin _).mono ?_
      rintro e w2 ⟨rfl, hk2⟩
      have HK2 := (show Hid (Same w w2) from HK1.out.trans hk2)
      have HB02 := hid (HB0.out.same hk2)
      have HB12 := hid (HB1.out.same hk2)
      have kfi := specPoolFind_any (.slice (some ⟨b, off, none⟩) len c) hand page ps w2 (HV.out.same HK2.out)
      obtain ⟨fi, hfi⟩ : ∃ x, findB page ps = x := ⟨_, rfl⟩
      rw [← findB_eq page HQ.out, hfi] at kfi
      rw [hfi] at HT2
      have hfj : fi = -1 ∨ 0 ≤ fi := by
        by_cases hh : fi = -1
        · exact .inl hh
        · obtain ⟨j, hj, _⟩ := findB_lt (by rw [hfi]; exact hh)
          exact .inr (by omega)
      clear hk2 g0 g1 d2 d3 hfi
      obtain ⟨g0, g1⟩ := HB02.out.all2
      go_wp2_with fail
      refine kfi.mono ?_
      rintro e w3 ⟨rfl, hk3⟩
      have HK3 := (show Hid (Same w w3) from HK2.out.trans hk3)
      have HB03 := hid (HB02.out.same hk3)
      have HB13 := hid (HB12.out.same hk3)
      clear hk3 kfi g0 g1
      obtain ⟨g0, g1⟩ := HB03.out.all2
      by_cases h5 : fi ≠ -1 ∧ fi ≠ (k : Int)
      · have HT0 : Hid (loadP ps hand (k : Int) page bs = (4, 0, 0, [])) := (HP.out _ (HT2.out.trans (if_pos h5))).trans (if_pos (by simp))
        have h5a : 0 ≤ fi := by omega
        have h5b : (fi != (k : Int)) = true := by simp [h5.2]
        clear h5
        obtain ⟨z0, z1, z2, z3⟩ := HB13.out.all4
        have fz := HB13.out.frozen
        have lz := HB13.out.lt
        go_wp2
        refine bodyPost_ret (v := .agg #[.int .i64 4, .int .i64 0, .slice none 0 0, .int .i64 0]) (by simp [results, Try.results16, go_sem, z0, z1, z2, z3]) rfl ⟨4, 0, none, 0, 0, 0, [], rfl, ?_, fun b hb => absurd hb (footR_nil b), OwnR.nil _ _ _ _ _, ?_⟩
        · rw [HT0.out]
          rfl
        · (iterate 4 refine Kept.setCell ?_ (.inl (Nat.le_succ _)) _)
          exact HK3.out
      have HT3 : Hid (loadP ps hand (k : Int) page bs = (0, (k : Int), hand, (datFrameS ps).set k (page, bs, 0, false, 0, true))) := (HP.out _ (HT2.out.trans (if_neg h5))).trans (if_neg (by simp))
      have h5' : fi = -1 ∨ fi = (k : Int) := by omega
      clear h5 HT2 hfj
      rcases h5' with rfl | rfl
      · go_wp2_with fail
        refine (l7Copy_any (.slice (some ⟨b, off, none⟩) len c) hand ps _ (by have := HL.out; omega) HM.out (HV.out.same HK3.out)).mono ?_
        rintro e w4 ⟨a3, n3, c3, qs, rfl, hd3, hf3, ho3, hk4⟩
        have hql : qs.length = len := by rw [← HL.out]; exact dat_len hd3
        obtain ⟨g, e3⟩ : ∃ g, (Value.slice a3 n3 c3) = .slice (some ⟨g, 0, none⟩) len c3 := by
          rcases ho3.form with ⟨_, hps⟩ | ⟨g, cap, e, _⟩
          · rw [hps] at hql; simp at hql; omega
          · rw [hql] at e
            injection e with e1 e2 e3
            exact ⟨g, by rw [e1, e2]⟩
        injection e3 with e31 e32
        subst e31 e32
        have HQL : Hid (qs.length = n3) := hql
        have HD3 := hid hd3
        have hkq : k < qs.length := by omega
        have HO4 := (show Hid (OwnR kFrame 0 51 5 w4 (.slice (some ⟨g, 0, none⟩) n3 c3) qs) from ho3)
        have hz13 := HB13.out.lt
        have HF3 : Hid (∀ b, footR kFrame (.slice (some ⟨g, 0, none⟩) n3 c3) qs b → w.heap.size + 1 < b ∧ b < w4.heap.size) := fun b hb => ⟨by have := hf3 b hb; omega, (ho3.lt b hb).2⟩
        have HK4 := (show Hid (Same w w4) from HK3.out.trans hk4)
        have HB14 := hid (HB13.out.same hk4)
        have HB4 := (show Hid (Blk (w4.alloc (.cells #[.slice (some ⟨g, 0, none⟩) n3 c3, .int .i64 hand] 29)) w4.heap.size 29 [.slice (some ⟨g, 0, none⟩) n3 c3, .int .i64 hand]) from Blk.newL w4 [.slice (some ⟨g, 0, none⟩) n3 c3, .int .i64 hand] 29)
        obtain ⟨hgl1, hgl2⟩ : w.heap.size + 1 < g ∧ g < w4.heap.size := HF3.out g (.inl rfl)
        clear hd3 hf3 ho3 hk4 hql g0 g1
        go_wp2_with fail
        have hk45 : Same w4 (w4.alloc (.cells #[.slice (some ⟨g, 0, none⟩) n3 c3, .int .i64 hand] 29)) := (Kept.refl _ _).alloc _
        obtain ⟨w5, hw5⟩ : ∃ x, x = (w4.alloc (.cells #[.slice (some ⟨g, 0, none⟩) n3 c3, .int .i64 hand] 29)) := ⟨_, rfl⟩
        rw [← hw5] at HB4 hk45 ⊢
        clear hw5
        have hS : (fun wx : World => wx.cell? ⟨w4.heap.size, 0, none⟩ = some (.slice (some ⟨g, 0, none⟩) n3 c3)) w5.drew := HB4.out.drew.cell 0
        refine wp_region_V (fun wx : World => wx.cell? ⟨w4.heap.size, 0, none⟩ = some (.slice (some ⟨g, 0, none⟩) n3 c3)) 8 9 rfl (by kernel_rfl) ?_
        refine tk 0 64 hS ?_
        refine tk 1 65 hS ?_
        refine tk 2 66 hS ?_
        refine tk 3 67 hS ?_
        refine tk 4 68 hS ?_
        refine wpAnyV_one (i := 5) (by kernel_rfl) rfl (fun K hK => ?_)
        go_simp
        refine (l1Copy_any (.slice au 4096 cu) bs _ HBL.out (HU.out.same ((HK4.out.trans hk45).drew))).mono ?_
        rintro e w6 ⟨a5, n5, c5, rfl, ho5, hf5, hk5⟩
        have hk56 : Same w5 w6 := (Kept.refl (fun _ => False) w5).drew.trans hk5
        have HK6 := (show Hid (Same w w6) from (HK4.out.trans hk45).trans hk56)
        have HO6 := (show Hid (OwnR kFrame 0 51 5 w6 (.slice (some ⟨g, 0, none⟩) n3 c3) qs) from (HO4.out.same hk45).same hk56)
        have HU6 := (show Hid (Own 0 5 .u8 w6 (.slice a5 n5 c5) bs) from ho5)
        have hzl : w4.heap.size < w5.heap.size := HB4.out.lt
        have HF6 : Hid (∀ b, (Value.slice a5 n5 c5).ownBlock = some b → w4.heap.size < b) := fun b hb => by have h : w5.heap.size ≤ b := hf5 b hb; omega
        have HB46 := hid (HB4.out.same hk56)
        have HB16 := (show Hid (Blk w6 (w.heap.size + 1) 37 [.int .i64 0, .int .i64 0, .slice none 0 0, .int .i64 0]) from (HB14.out.same hk45).same hk56)
        clear ho5 hf5 hk5 hk56 hk45
        go_wp2_with fail
        have hS6 : (fun wx : World => wx.cell? ⟨w4.heap.size, 0, none⟩ = some (.slice (some ⟨g, 0, none⟩) n3 c3)) w6 := HB46.out.cell 0
        refine hK.out _ _ (fun _ => hS6) ?_
        clear hK K hS
        try simp only [Act.put, sA, s0, sS]
        refine tk 6 70 hS6 ?_
        refine wpAnyV_one (i := 7) (by kernel_rfl) rfl (fun K hK => ?_)
        go_simp
        refine hK.out _ _ (fun _ => hS6) ?_
        clear hK K
        try simp only [Act.put, sA, s0, sS]
        obtain ⟨pz, hpz⟩ : ∃ x, qs[k] = x := ⟨_, rfl⟩
        have hyy : ∀ i, i < 6 → w6.cell? ⟨g, k * 6 + i, none⟩ = (kFrame.cells pz)[i]? := fun i hi => by have h := HO6.out.cell HQL.out.symm k i hkq hi; rw [hpz] at h; exact h
        have y0 : w6.cell? ⟨g, k * 6, none⟩ = some (.int .i64 pz.page) := hyy 0 (by decide)
        have y1 : w6.cell? ⟨g, k * 6 + 1, none⟩ = some pz.v := hyy 1 (by decide)
        have y2 : w6.cell? ⟨g, k * 6 + 2, none⟩ = some (.int .i64 pz.pins) := hyy 2 (by decide)
        have y3 : w6.cell? ⟨g, k * 6 + 3, none⟩ = some (.bool pz.dirty) := hyy 3 (by decide)
        have y4 : w6.cell? ⟨g, k * 6 + 4, none⟩ = some (.int .i64 pz.rl) := hyy 4 (by decide)
        have y5 : w6.cell? ⟨g, k * 6 + 5, none⟩ = some (.bool pz.rf) := hyy 5 (by decide)
        have fg := HO6.out.frozen HQL.out.symm
        clear hyy
        refine wpAnyV_one (i := 8) (by kernel_rfl) rfl (fun K hK => ?_)
        go_simp
        refine hK.out _ _ (fun h => absurd rfl h) ?_
        clear hK K
        refine wpAnyV_done (by kernel_rfl) ?_
        try simp only [Act.put, sA, s0, sS]
        obtain ⟨x0, x1⟩ := HB46.out.all2
        obtain ⟨z0, z1, z2, z3⟩ := HB16.out.all4
        have fz := HB16.out.frozen
        have lz := HB16.out.lt
        have lx := HB46.out.lt
        have HOA := (show Hid (OwnR kFrame 0 51 5 (w6.setCells g (k * 6) [.int .i64 page, .slice a5 n5 c5, .int .i64 0, .bool false, .int .i64 0, .bool true]) (.slice (some ⟨g, 0, none⟩) n3 c3) (qs.set k (⟨page, .slice a5 n5 c5, bs, 0, false, 0, true⟩ : EFrame))) from
          OwnR.setWhole (p' := (⟨page, .slice a5 n5 c5, bs, 0, false, 0, true⟩ : EFrame)) HO6.out HQL.out.symm hkq HU6.out (fun b hb hf => by have h1 := HF6.out b hb; have h2 := (HF3.out b hf).2; omega) _ rfl)
        have HKB := (show Hid (Kept (fun b => b = g) w6 (w6.setCells g (k * 6) [.int .i64 page, .slice a5 n5 c5, .int .i64 0, .bool false, .int .i64 0, .bool true])) from Kept.setCells (R := fun b => b = g) (.inr rfl) _ _ (Kept.refl _ _))
        go_wp2
        have HKB2 := (show Hid (Kept (fun b => b = g) w6 ((((((w6.setCell ⟨g, k * 6, none⟩ (.int .i64 page)).setCell ⟨g, k * 6 + 1, none⟩ (.slice a5 n5 c5)).setCell ⟨g, k * 6 + 2, none⟩ (.int .i64 0)).setCell ⟨g, k * 6 + 3, none⟩ (.bool false)).setCell ⟨g, k * 6 + 4, none⟩ (.int .i64 0)).setCell ⟨g, k * 6 + 5, none⟩ (.bool true))) from HKB.out)
        have hbf := ((((HB16.out.kept HKB2.out (by intro e; omega)).stored 0 (.int .i64 0)).stored 1 (.int .i64 k)).stored 2 (.slice (some ⟨g, 0, none⟩) n3 c3)).stored 3 (.int .i64 hand)
        obtain ⟨f0, f1, f2, f3⟩ := hbf.all4
        have hfoot : ∀ b, footR kFrame (.slice (some ⟨g, 0, none⟩) n3 c3) (qs.set k (⟨page, .slice a5 n5 c5, bs, 0, false, 0, true⟩ : EFrame)) b → w.heap.size + 1 < b := fun b hb => by
          rcases footR_setNew b hb with h | h
          · exact (HF3.out b h).1
          · have := HF6.out b h; omega
        refine bodyPost_ret (v := .agg #[.int .i64 0, .int .i64 k, .slice (some ⟨g, 0, none⟩) n3 c3, .int .i64 hand]) (by simp [results, Try.results16, go_sem, f0, f1, f2, f3]) rfl ?_
        refine ⟨0, (k : Int), some ⟨g, 0, none⟩, n3, c3, hand, rfl, _, ?_, fun b hb => by have := hfoot b hb; omega, HOA.out.kept (R := fun b => b = w.heap.size + 1) ?_ (fun b hb e => by have := hfoot b hb; omega), ?_⟩
        · rw [HT3.out, dat_set, HD3.out]
          rfl
        · (iterate 4 refine Kept.setCell (R := fun b => b = w.heap.size + 1) ?_ (.inr rfl) _)
          exact Kept.refl _ _
        · (iterate 4 refine Kept.setCell ?_ (.inl (Nat.le_succ _)) _)
          exact HK6.out.next HKB.out (fun i hi e => by omega)
      · go_wp2_with fail
        refine (l7Copy_any (.slice (some ⟨b, off, none⟩) len c) hand ps _ (by have := HL.out; omega) HM.out (HV.out.same HK3.out)).mono ?_
        rintro e w4 ⟨a3, n3, c3, qs, rfl, hd3, hf3, ho3, hk4⟩
        have hql : qs.length = len := by rw [← HL.out]; exact dat_len hd3
        obtain ⟨g, e3⟩ : ∃ g, (Value.slice a3 n3 c3) = .slice (some ⟨g, 0, none⟩) len c3 := by
          rcases ho3.form with ⟨_, hps⟩ | ⟨g, cap, e, _⟩
          · rw [hps] at hql; simp at hql; omega
          · rw [hql] at e
            injection e with e1 e2 e3
            exact ⟨g, by rw [e1, e2]⟩
        injection e3 with e31 e32
        subst e31 e32
        have HQL : Hid (qs.length = n3) := hql
        have HD3 := hid hd3
        have hkq : k < qs.length := by omega
        have HO4 := (show Hid (OwnR kFrame 0 51 5 w4 (.slice (some ⟨g, 0, none⟩) n3 c3) qs) from ho3)
        have hz13 := HB13.out.lt
        have HF3 : Hid (∀ b, footR kFrame (.slice (some ⟨g, 0, none⟩) n3 c3) qs b → w.heap.size + 1 < b ∧ b < w4.heap.size) := fun b hb => ⟨by have := hf3 b hb; omega, (ho3.lt b hb).2⟩
        have HK4 := (show Hid (Same w w4) from HK3.out.trans hk4)
        have HB14 := hid (HB13.out.same hk4)
        have HB4 := (show Hid (Blk (w4.alloc (.cells #[.slice (some ⟨g, 0, none⟩) n3 c3, .int .i64 hand] 29)) w4.heap.size 29 [.slice (some ⟨g, 0, none⟩) n3 c3, .int .i64 hand]) from Blk.newL w4 [.slice (some ⟨g, 0, none⟩) n3 c3, .int .i64 hand] 29)
        obtain ⟨hgl1, hgl2⟩ : w.heap.size + 1 < g ∧ g < w4.heap.size := HF3.out g (.inl rfl)
        clear hd3 hf3 ho3 hk4 hql g0 g1
        go_wp2_with fail
        have hk45 : Same w4 (w4.alloc (.cells #[.slice (some ⟨g, 0, none⟩) n3 c3, .int .i64 hand] 29)) := (Kept.refl _ _).alloc _
        obtain ⟨w5, hw5⟩ : ∃ x, x = (w4.alloc (.cells #[.slice (some ⟨g, 0, none⟩) n3 c3, .int .i64 hand] 29)) := ⟨_, rfl⟩
        rw [← hw5] at HB4 hk45 ⊢
        clear hw5
        have hS : (fun wx : World => wx.cell? ⟨w4.heap.size, 0, none⟩ = some (.slice (some ⟨g, 0, none⟩) n3 c3)) w5.drew := HB4.out.drew.cell 0
        refine wp_region_V (fun wx : World => wx.cell? ⟨w4.heap.size, 0, none⟩ = some (.slice (some ⟨g, 0, none⟩) n3 c3)) 8 9 rfl (by kernel_rfl) ?_
        refine tk 0 64 hS ?_
        refine tk 1 65 hS ?_
        refine tk 2 66 hS ?_
        refine tk 3 67 hS ?_
        refine tk 4 68 hS ?_
        refine wpAnyV_one (i := 5) (by kernel_rfl) rfl (fun K hK => ?_)
        go_simp
        refine (l1Copy_any (.slice au 4096 cu) bs _ HBL.out (HU.out.same ((HK4.out.trans hk45).drew))).mono ?_
        rintro e w6 ⟨a5, n5, c5, rfl, ho5, hf5, hk5⟩
        have hk56 : Same w5 w6 := (Kept.refl (fun _ => False) w5).drew.trans hk5
        have HK6 := (show Hid (Same w w6) from (HK4.out.trans hk45).trans hk56)
        have HO6 := (show Hid (OwnR kFrame 0 51 5 w6 (.slice (some ⟨g, 0, none⟩) n3 c3) qs) from (HO4.out.same hk45).same hk56)
        have HU6 := (show Hid (Own 0 5 .u8 w6 (.slice a5 n5 c5) bs) from ho5)
        have hzl : w4.heap.size < w5.heap.size := HB4.out.lt
        have HF6 : Hid (∀ b, (Value.slice a5 n5 c5).ownBlock = some b → w4.heap.size < b) := fun b hb => by have h : w5.heap.size ≤ b := hf5 b hb; omega
        have HB46 := hid (HB4.out.same hk56)
        have HB16 := (show Hid (Blk w6 (w.heap.size + 1) 37 [.int .i64 0, .int .i64 0, .slice none 0 0, .int .i64 0]) from (HB14.out.same hk45).same hk56)
        clear ho5 hf5 hk5 hk56 hk45
        go_wp2_with fail
        have hS6 : (fun wx : World => wx.cell? ⟨w4.heap.size, 0, none⟩ = some (.slice (some ⟨g, 0, none⟩) n3 c3)) w6 := HB46.out.cell 0
        refine hK.out _ _ (fun _ => hS6) ?_
        clear hK K hS
        try simp only [Act.put, sA, s0, sS]
        refine tk 6 70 hS6 ?_
        refine wpAnyV_one (i := 7) (by kernel_rfl) rfl (fun K hK => ?_)
        go_simp
        refine hK.out _ _ (fun _ => hS6) ?_
        clear hK K
        try simp only [Act.put, sA, s0, sS]
        obtain ⟨pz, hpz⟩ : ∃ x, qs[k] = x := ⟨_, rfl⟩
        have hyy : ∀ i, i < 6 → w6.cell? ⟨g, k * 6 + i, none⟩ = (kFrame.cells pz)[i]? := fun i hi => by have h := HO6.out.cell HQL.out.symm k i hkq hi; rw [hpz] at h; exact h
        have y0 : w6.cell? ⟨g, k * 6, none⟩ = some (.int .i64 pz.page) := hyy 0 (by decide)
        have y1 : w6.cell? ⟨g, k * 6 + 1, none⟩ = some pz.v := hyy 1 (by decide)
        have y2 : w6.cell? ⟨g, k * 6 + 2, none⟩ = some (.int .i64 pz.pins) := hyy 2 (by decide)
        have y3 : w6.cell? ⟨g, k * 6 + 3, none⟩ = some (.bool pz.dirty) := hyy 3 (by decide)
        have y4 : w6.cell? ⟨g, k * 6 + 4, none⟩ = some (.int .i64 pz.rl) := hyy 4 (by decide)
        have y5 : w6.cell? ⟨g, k * 6 + 5, none⟩ = some (.bool pz.rf) := hyy 5 (by decide)
        have fg := HO6.out.frozen HQL.out.symm
        clear hyy
        refine wpAnyV_one (i := 8) (by kernel_rfl) rfl (fun K hK => ?_)
        go_simp
        refine hK.out _ _ (fun h => absurd rfl h) ?_
        clear hK K
        refine wpAnyV_done (by kernel_rfl) ?_
        try simp only [Act.put, sA, s0, sS]
        obtain ⟨x0, x1⟩ := HB46.out.all2
        obtain ⟨z0, z1, z2, z3⟩ := HB16.out.all4
        have fz := HB16.out.frozen
        have lz := HB16.out.lt
        have lx := HB46.out.lt
        have HOA := (show Hid (OwnR kFrame 0 51 5 (w6.setCells g (k * 6) [.int .i64 page, .slice a5 n5 c5, .int .i64 0, .bool false, .int .i64 0, .bool true]) (.slice (some ⟨g, 0, none⟩) n3 c3) (qs.set k (⟨page, .slice a5 n5 c5, bs, 0, false, 0, true⟩ : EFrame))) from
          OwnR.setWhole (p' := (⟨page, .slice a5 n5 c5, bs, 0, false, 0, true⟩ : EFrame)) HO6.out HQL.out.symm hkq HU6.out (fun b hb hf => by have h1 := HF6.out b hb; have h2 := (HF3.out b hf).2; omega) _ rfl)
        have HKB := (show Hid (Kept (fun b => b = g) w6 (w6.setCells g (k * 6) [.int .i64 page, .slice a5 n5 c5, .int .i64 0, .bool false, .int .i64 0, .bool true])) from Kept.setCells (R := fun b => b = g) (.inr rfl) _ _ (Kept.refl _ _))
        go_wp2
        have HKB2 := (show Hid (Kept (fun b => b = g) w6 ((((((w6.setCell ⟨g, k * 6, none⟩ (.int .i64 page)).setCell ⟨g, k * 6 + 1, none⟩ (.slice a5 n5 c5)).setCell ⟨g, k * 6 + 2, none⟩ (.int .i64 0)).setCell ⟨g, k * 6 + 3, none⟩ (.bool false)).setCell ⟨g, k * 6 + 4, none⟩ (.int .i64 0)).setCell ⟨g, k * 6 + 5, none⟩ (.bool true))) from HKB.out)
        have hbf := ((((HB16.out.kept HKB2.out (by intro e; omega)).stored 0 (.int .i64 0)).stored 1 (.int .i64 k)).stored 2 (.slice (some ⟨g, 0, none⟩) n3 c3)).stored 3 (.int .i64 hand)
        obtain ⟨f0, f1, f2, f3⟩ := hbf.all4
        have hfoot : ∀ b, footR kFrame (.slice (some ⟨g, 0, none⟩) n3 c3) (qs.set k (⟨page, .slice a5 n5 c5, bs, 0, false, 0, true⟩ : EFrame)) b → w.heap.size + 1 < b := fun b hb => by
          rcases footR_setNew b hb with h | h
          · exact (HF3.out b h).1
          · have := HF6.out b h; omega
        refine bodyPost_ret (v := .agg #[.int .i64 0, .int .i64 k, .slice (some ⟨g, 0, none⟩) n3 c3, .int .i64 hand]) (by simp [results, Try.results16, go_sem, f0, f1, f2, f3]) rfl ?_
        refine ⟨0, (k : Int), some ⟨g, 0, none⟩, n3, c3, hand, rfl, _, ?_, fun b hb => by have := hfoot b hb; omega, HOA.out.kept (R := fun b => b = w.heap.size + 1) ?_ (fun b hb e => by have := hfoot b hb; omega), ?_⟩
        · rw [HT3.out, dat_set, HD3.out]
          rfl
        · (iterate 4 refine Kept.setCell (R := fun b => b = w.heap.size + 1) ?_ (.inr rfl) _)
          exact Kept.refl _ _
        · (iterate 4 refine Kept.setCell ?_ (.inl (Nat.le_succ _)) _)
          exact HK6.out.next HKB.out (fun i hi e => by omega)
end Go.Proofs.Ytabmhcdldfehnaa

namespace Go.Proofs.Ytabmhcdldfehnaa
set_option maxRecDepth 100000
set_option maxHeartbeats 4000000
open Go.RowKit
set_option linter.unusedVariables false
set_option linter.unusedSimpArgs false
theorem load1_any (frame : Int) (page : Int) (u : Value) (bs : List Int) (C0 C1 C2 : Nat) (P : Nat) (hand : Int) (g n cap : Nat) (bl : List Nat) (ps : List EFrame) (w : World) (h : FP w P hand g n cap bl ps) (hn : n ≤ 16) (hbl : bs.length ≤ 1099511627776) (hu : Rd .u8 w u bs) (hc0 : Blk w C0 2 [.int .i64 frame]) (hc1 : Blk w C1 2 [.int .i64 page]) (hc2 : Blk w C2 35 [u]) :
    Calls Try.prog 45 #[.pointer (some ⟨P, 0, none⟩), .pointer (some ⟨C0, 0, none⟩), .pointer (some ⟨C1, 0, none⟩), .pointer (some ⟨C2, 0, none⟩)] w fun e w' => ∃ fr cd bl' qs', e = .returned (.tuple #[.int .i64 fr, .int .i64 cd]) ∧ FP w' P hand g n cap bl' qs' ∧ (cd, fr, datFrameS qs') = loadT frame page bs ps ∧ (∀ b, footS kFrame bl' qs' b → footS kFrame bl ps b ∨ w.heap.size ≤ b) ∧ Kept (footFP P g bl ps) w w' := by
  have d0 := hc0.c0
  have d1 := hc1.c0
  have d2 := hc2.c0
  have k0 := loadM_any frame page u bs P hand g n cap bl ps w h hn hbl hu
  obtain ⟨au, cu, rfl⟩ := hu.form
  clear h hu hbl hc0 hc1 hc2
  go_enter Try.func45, Try.ntmps45
  go_wp2_with fail
  refine k0.mono ?_
  rintro e w1 ⟨fr, cd, bl', qs', rfl, hf, ht, hn', hk⟩
  have H1 := hid hf
  have H2 := hid ht
  have H3 := hid hn'
  have H4 := hid hk
  clear hf ht hn' hk k0
  go_wp2
  go_ret2
  exact ⟨fr, cd, bl', qs', rfl, H1.out, H2.out, H3.out, H4.out⟩
theorem enters_load1 : Enters 45 := fun args wx => by simp [callFunc, go_sem, Try.func45, Try.f45]
theorem implPoolLoad_any (v : Value) (hand : Int) (frame : Int) (page : Int) (u : Value) (bs : List Int) (ps : List EFrame) (w : World) (hv : RdR kFrame w v ps) (hbl : bs.length ≤ 1099511627776) (hu : Rd .u8 w u bs) :
    Calls Try.prog 18 #[.agg #[v, .int .i64 hand], .int .i64 frame, .int .i64 page, u] w fun e w' => ∃ cd fr a n c hd qs, e = .returned (.agg #[.int .i64 cd, .int .i64 fr, .slice a n c, .int .i64 hd]) ∧ (cd, fr, hd, datFrameS qs) = loadP ps hand frame page bs ∧ (∀ b, footR kFrame (.slice a n c) qs b → w.heap.size ≤ b) ∧ OwnR kFrame 0 51 5 w' (.slice a n c) qs ∧ Same w w' := by
  obtain ⟨a, c, rfl⟩ := hv.form
  obtain ⟨au, cu, rfl⟩ := hu.form
  obtain ⟨wa, hwa⟩ : ∃ x, x = ((((w.alloc (.cells #[.slice a ps.length c, .int .i64 hand] 29)).alloc (.cells #[.int .i64 frame] 2)).alloc (.cells #[.int .i64 page] 2)).alloc (.cells #[.slice au bs.length cu] 35)) := ⟨_, rfl⟩
  have hka : Same w wa := by rw [hwa]; exact (((((Kept.refl _ _).alloc _).alloc _).alloc _).alloc _)
  have hza : wa.heap.size = w.heap.size + 1 + 1 + 1 + 1 := by rw [hwa]; simp
  have b0 : Blk wa w.heap.size 29 [.slice a ps.length c, .int .i64 hand] := by rw [hwa]; exact (((Blk.newL w [.slice a ps.length c, .int .i64 hand] 29).alloc _).alloc _).alloc _
  have bC0 : Blk wa (w.heap.size + 1) 2 [.int .i64 frame] := by
    have h := (((Blk.newL (w.alloc (.cells #[.slice a ps.length c, .int .i64 hand] 29)) [.int .i64 frame] 2).alloc (.cells #[.int .i64 page] 2)).alloc (.cells #[.slice au bs.length cu] 35))
    rw [← hwa] at h
    simpa using h
  have bC1 : Blk wa (w.heap.size + 1 + 1) 2 [.int .i64 page] := by
    have h := ((Blk.newL ((w.alloc (.cells #[.slice a ps.length c, .int .i64 hand] 29)).alloc (.cells #[.int .i64 frame] 2)) [.int .i64 page] 2).alloc (.cells #[.slice au bs.length cu] 35))
    rw [← hwa] at h
    simpa using h
  have bC2 : Blk wa (w.heap.size + 1 + 1 + 1) 35 [.slice au bs.length cu] := by
    have h := (Blk.newL (((w.alloc (.cells #[.slice a ps.length c, .int .i64 hand] 29)).alloc (.cells #[.int .i64 frame] 2)).alloc (.cells #[.int .i64 page] 2)) [.slice au bs.length cu] 35)
    rw [← hwa] at h
    simpa using h
  have k0 := turned_any 45 #[.pointer (some ⟨w.heap.size + 1, 0, none⟩), .pointer (some ⟨w.heap.size + 1 + 1, 0, none⟩), .pointer (some ⟨w.heap.size + 1 + 1 + 1, 0, none⟩)] (.slice a ps.length c) hand ps (loadT frame page bs ps) (wa.alloc (.cells #[.int .i64 0, .int .i64 0, .slice none 0 0, .int .i64 0] 37)) (hv.same (hka.alloc _)) enters_load1 (fun wx P g n cap bl qs hf hn hd hq hk hb => by
    have h := load1_any frame page (.slice au bs.length cu) bs (w.heap.size + 1) (w.heap.size + 1 + 1) (w.heap.size + 1 + 1 + 1) P hand g n cap bl qs wx hf hn hbl (hu.same ((hka.alloc _).trans hk)) ((bC0.alloc _).same hk) ((bC1.alloc _).same hk) ((bC2.alloc _).same hk)
    rw [loadT_dat hd] at h
    exact h)
  have bR := Blk.newL wa [.int .i64 0, .int .i64 0, .slice none 0 0, .int .i64 0] 37
  obtain ⟨g0, g1⟩ := b0.all2
  have l0 := b0.lt
  have hmf : ∀ (fn : Fn) (first cap : Array Value) (w : World), (Instr.makeFunc fn first cap).run Try.prog w = .ok (.func fn first cap) w := fun _ _ _ _ => rfl
  rw [hza] at bR
  have HKA := hid hka
  have HZ := hid hza
  clear hv hu hbl bC0 bC1 bC2 b0 hka
  go_enter Try.func18, Try.ntmps18
  go_wp2_with fail
  rw [← hwa]
  clear hwa
  refine k0.mono ?_
  rintro e w1 ⟨cd, fr, a1, n1, c1, hd, qs, rfl, hR, hf, ho, hk1⟩
  have HR := (show Hid ((cd, fr, hd, datFrameS qs) = turnP (loadT frame page bs ps) ps hand) from hR)
  have HK1 := (show Hid (Same w w1) from (HKA.out.alloc _).trans hk1)
  have HB1 := hid (bR.same hk1)
  have HF : Hid (∀ b, footR kFrame (.slice a1 n1 c1) qs b → w.heap.size + 1 + 1 + 1 + 1 < b) := fun b hb => by have h := hf b hb; simp only [World.size_alloc] at h; omega
  have HO := (show Hid (OwnR kFrame 0 51 5 w1 (.slice a1 n1 c1) qs) from ho)
  clear hk1 bR k0 hR hf ho g0 g1 hza
  obtain ⟨z0, z1, z2, z3⟩ := HB1.out.all4
  have fz := HB1.out.frozen
  have lz := HB1.out.lt
  go_wp2
  refine bodyPost_ret (v := .agg #[.int .i64 cd, .int .i64 fr, .slice a1 n1 c1, .int .i64 hd]) (by simp [results, Try.results18, go_sem, z0, z1, z2, z3]) rfl ⟨cd, fr, a1, n1, c1, hd, qs, rfl, HR.out, fun b hb => by have := HF.out b hb; omega, HO.out.kept (R := fun b => b = w.heap.size + 1 + 1 + 1 + 1) ?_ (fun b hb e => by have := HF.out b hb; omega), ?_⟩
  · (iterate 4 refine Kept.setCell (R := fun b => b = w.heap.size + 1 + 1 + 1 + 1) ?_ (.inr rfl) _)
    exact Kept.refl _ _
  · (iterate 4 refine Kept.setCell ?_ (.inl (by show w.heap.size ≤ w.heap.size + 1 + 1 + 1 + 1; omega)) _)
    exact HK1.out
end Go.Proofs.Ytabmhcdldfehnaa
