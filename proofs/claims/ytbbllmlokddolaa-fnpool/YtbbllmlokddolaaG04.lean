import Derived.Test.YtbbllmlokddolaaG03
import Derived.Test.YtbbllmlokddolaaG01
namespace Go.Proofs.Ytbbllmlokddolaa
set_option maxRecDepth 100000
set_option maxHeartbeats 4000000
open Go.RowKit
set_option linter.unusedVariables false
set_option linter.unusedSimpArgs false
section
variable {w : World} {P : Nat} {hand : Int} {g n cap : Nat} {bl : List Nat} {ps : List EFrame}
theorem FP.storeNew {k b i : Nat} {p p' : EFrame} {u : Value} (h : FP w P hand g n cap bl ps) (hb : bl[k]? = some b) (hp : ps[k]? = some p) (hc : kFrame.cells p' = (kFrame.cells p).set i u) (hu : Own 0 5 .u8 w p'.v p'.bs) (hx : ∀ x, p'.v.ownBlock = some x → ¬ footFP P g bl ps x) :
    FP (w.setCell ⟨b, i, none⟩ u) P hand g n cap bl (ps.set k p') := by
  have hbm : b ∈ bl := List.mem_of_getElem? hb
  have hk : Kept (fun x => x = b) w (w.setCell ⟨b, i, none⟩ u) := Kept.setCell (R := fun x => x = b) (Kept.refl _ _) (p := ⟨b, i, none⟩) (.inr rfl) _
  have hfs : ∀ x, footS kFrame bl (ps.set k p') x → footS kFrame bl ps x ∨ p'.v.ownBlock = some x := fun x hf => by
    rcases hf with hf | ⟨q, hq, hf⟩
    · exact .inl (.inl hf)
    · rcases List.mem_or_eq_of_mem_set hq with hq | rfl
      · exact .inl (.inr ⟨q, hq, hf⟩)
      · exact .inr hf
  refine ⟨h.top.kept hk (fun e => h.outP (.inl (e ▸ hbm))), by rw [List.length_set]; exact h.len, hk.owns h.row (fun x hx e => h.outg (.inl (by simp [Value.ownBlock] at hx; rw [hx, e]; exact hbm))), h.ptr.store hb hp hc hu (fun x hx' => ⟨fun hm => hx x hx' (.inr (.inr (.inl hm))), fun j q _ hq e => hx x hx' (.inr (.inr (.inr ⟨q, List.mem_of_getElem? hq, e⟩)))⟩), h.pg, fun hf => ?_, fun hf => ?_⟩
  · rcases hfs _ hf with hf | hf
    · exact h.outP hf
    · exact hx _ hf (.inl rfl)
  · rcases hfs _ hf with hf | hf
    · exact h.outg hf
    · exact hx _ hf (.inr (.inl rfl))
end
def putT (page : Int) (bs : List Int) (lsn : Int) (ps : List EFrame) : Int × Int × List (Int × List Int × Int × Bool × Int × Bool) :=
  if findB page ps = -1 then (2, 0, datFrameS ps) else
  if bs.length ≠ 4096 ∨ inB lsn 1 1099511627776 = false then (3, 0, datFrameS ps) else
  match (datFrameS ps)[(findB page ps).toNat]? with
  | none => (0, 0, [])
  | some d => (0, findB page ps, (datFrameS ps).set (findB page ps).toNat (d.1, bs, d.2.2.1, true, (if d.2.2.2.1 = true then d.2.2.2.2.1 else lsn), true))
theorem putT_dat {page lsn : Int} {bs : List Int} {ps qs : List EFrame} (h : datFrameS qs = datFrameS ps) : putT page bs lsn qs = putT page bs lsn ps := by
  unfold putT
  rw [findB_dat h, h]
theorem putM_any (page : Int) (u : Value) (bs : List Int) (lsn : Int) (P : Nat) (hand : Int) (g n cap : Nat) (bl : List Nat) (ps : List EFrame) (w : World) (h : FP w P hand g n cap bl ps) (hn : n ≤ 16) (hbl : bs.length ≤ 1099511627776) (hu : Rd .u8 w u bs) :
    Calls Try.prog 40 #[.pointer (some ⟨P, 0, none⟩), .int .i64 page, u, .int .i64 lsn] w fun e w' => ∃ fr cd bl' qs', e = .returned (.tuple #[.int .i64 fr, .int .i64 cd]) ∧ FP w' P hand g n cap bl' qs' ∧ (cd, fr, datFrameS qs') = putT page bs lsn ps ∧ (∀ b, footS kFrame bl' qs' b → footS kFrame bl ps b ∨ w.heap.size ≤ b) ∧ Kept (footFP P g bl ps) w w' := by
  have k0 := find_any page P hand g n cap bl ps w h hn
  have HF := (show Hid (FP w P hand g n cap bl ps) from h)
  obtain ⟨au, cu, rfl⟩ := hu.form
  have HU := (show Hid (Rd .u8 w (.slice au bs.length cu) bs) from hu)
  have HBL := hid hbl
  obtain ⟨fi, hfi⟩ : ∃ x, findB page ps = x := ⟨_, rfl⟩
  have HFI : Hid (findB page ps = fi) := hfi
  rw [hfi] at k0
  clear hu hbl
  by_cases h1 : fi = -1
  · subst h1
    clear h hfi
    go_enter Try.func40, Try.ntmps40
    go_wp2_with fail
    refine k0.mono ?_
    rintro e w1 ⟨rfl, hk1⟩
    go_wp2
    go_ret2
    exact ⟨0, 2, bl, ps, rfl, HF.out.same hk1, by unfold putT; rw [HFI.out, if_pos rfl], fun b hb => .inl hb, hk1.mono (fun _ _ e => e.elim)⟩
  obtain ⟨k, hk, hkl⟩ := findB_lt (by rw [hfi]; exact h1)
  obtain rfl : fi = (k : Int) := by rw [← hfi]; exact hk
  have kc := chLSN_any lsn
  obtain ⟨nb, hnb⟩ : ∃ x, bs.length = x := ⟨_, rfl⟩
  have HNB : Hid (bs.length = nb) := hnb
  rw [hnb] at HU ⊢
  have HT0 : Hid (nb ≠ 4096 ∨ inB lsn 1 1099511627776 = false → putT page bs lsn ps = (3, 0, datFrameS ps)) := fun hh => by
    unfold putT
    rw [HFI.out, if_neg h1, hnb, if_pos hh]
  by_cases h2 : nb = 4096
  case neg =>
    have h2' : ¬ (nb : Int) = 4096 := by omega
    clear h hfi hnb
    go_enter Try.func40, Try.ntmps40
    go_wp2_with fail
    refine k0.mono ?_
    rintro e w1 ⟨rfl, hk1⟩
    go_wp2
    go_ret2
    exact ⟨0, 3, bl, ps, rfl, HF.out.same hk1, by rw [HT0.out (.inl h2)], fun b hb => .inl hb, hk1.mono (fun _ _ e => e.elim)⟩
  subst h2
  cases h3 : inB lsn 1 1099511627776 with
  | false =>
    rw [h3] at kc
    have HT1 := hid (HT0.out (.inr h3))
    clear h hfi hnb
    go_enter Try.func40, Try.ntmps40
    go_wp2_with fail
    refine k0.mono ?_
    rintro e w1 ⟨rfl, hk1⟩
    have HK1 := (show Hid (Same w w1) from hk1)
    clear hk1
    go_wp2_with fail
    refine (kc _).mono ?_
    rintro e w2 ⟨rfl, rfl⟩
    go_wp2
    go_ret2
    exact ⟨0, 3, bl, ps, rfl, HF.out.same HK1.out, by rw [HT1.out], fun b hb => .inl hb, HK1.out.mono (fun _ _ e => e.elim)⟩
  | true =>
    rw [h3] at kc
    have hkn : k < n := by rw [h.len]; exact hkl
    obtain ⟨bk, p, hbk, hpk, hck, hb⟩ := h.at k hkn
    have hdat := h.ptr.data p (List.mem_of_getElem? hpk)
    have HBK : Hid (bl[k]? = some bk) := hbk
    have HPK : Hid (ps[k]? = some p) := hpk
    have HIN : Hid (footFP P g bl ps bk) := .inr (.inr (.inl (List.mem_of_getElem? hbk)))
    obtain ⟨pg, pv, fb, pn, dt, rl, rf⟩ := p
    obtain ⟨a1, n1, c1, e1⟩ := slice_of_own (show Own 0 5 .u8 w pv fb from hdat)
    subst e1
    have HB := (show Hid (Blk w bk 36 [.int .i64 pg, .slice a1 n1 c1, .int .i64 pn, .bool dt, .int .i64 rl, .bool rf]) from hb)
    obtain ⟨x0, x1⟩ := h.top.all2
    have HT : Hid (putT page bs lsn ps = (0, (k : Int), (datFrameS ps).set k (pg, bs, pn, true, (if dt = true then rl else lsn), true))) := by
      unfold putT Hid
      rw [HFI.out, if_neg h1, if_neg (by rw [hnb, h3]; simp), Int.toNat_natCast, dat_at HPK.out]
      rfl
    have hki : (k : Int) < (n : Int) := by omega
    have HBI : Hid (bk < w.heap.size) := HF.out.lt bk HIN.out
    have HFL : Hid (∀ x, footFP P g bl ps x → x < w.heap.size) := fun x hx => HF.out.lt x hx
    clear hb hdat hbk hpk hfi hk hnb h
    go_enter Try.func40, Try.ntmps40
    go_wp2_with fail
    refine k0.mono ?_
    rintro e w1 ⟨rfl, hk1⟩
    have HK1 := (show Hid (Same w w1) from hk1)
    have HB1 := hid (HB.out.same hk1)
    have y0 : w1.cell? ⟨P, 0, none⟩ = some (.slice (some ⟨g, 0, none⟩) n cap) := hk1.cellOf x0 id
    have yk : w1.cell? ⟨g, k, none⟩ = some (.pointer (some ⟨bk, 0, none⟩)) := hk1.cellOf hck id
    clear hk1 x0 x1 hck
    go_wp2_with fail
    refine (kc _).mono ?_
    rintro e w1' ⟨rfl, rfl⟩
    go_wp2_with fail
    refine (cloneS_any (.slice au 4096 cu) bs _ HBL.out (HU.out.same HK1.out)).mono ?_
    rintro e w2 ⟨a4, n4, c4, rfl, ho4, hf4, hk4⟩
    have HK2 := (show Hid (Same w w2) from HK1.out.trans hk4)
    have HB2 := hid (HB1.out.same hk4)
    have HO4 := (show Hid (Own 0 5 .u8 w2 (.slice a4 n4 c4) bs) from ho4)
    have HZ1 := hid HK1.out.size
    have HF4 : Hid (∀ b, (Value.slice a4 n4 c4).ownBlock = some b → w.heap.size ≤ b) := fun b hb => Nat.le_trans HZ1.out (hf4 b hb)
    clear ho4 hf4 hk4 y0 yk
    obtain ⟨c0, c1', c2, c3, c4', c5⟩ := HB2.out.all6
    have fz := HB2.out.frozen
    have HF2 := (show Hid (FP w2 P hand g n cap bl ps) from HF.out.same HK2.out)
    have f0 := FP.storeNew (i := 1) (u := .slice a4 n4 c4) (p' := (⟨pg, .slice a4 n4 c4, bs, pn, dt, rl, rf⟩ : EFrame)) HF2.out HBK.out HPK.out rfl HO4.out (fun x hx hf => by have h1 := HF4.out x hx; have h2 := HFL.out x hf; omega)
    have f1 := FP.storeOwn (i := 5) (u := .bool true) (p' := (⟨pg, .slice a4 n4 c4, bs, pn, dt, rl, true⟩ : EFrame)) f0 HBK.out (set_again hkl _) rfl rfl rfl
    have HFT : Hid (∀ (q : EFrame) b, q.v = .slice a4 n4 c4 → footS kFrame bl (ps.set k q) b → footS kFrame bl ps b ∨ w.heap.size ≤ b) := fun q b hq hb => by
      rcases hb with hb | ⟨r, hr, hb⟩
      · exact .inl (.inl hb)
      · rcases List.mem_or_eq_of_mem_set hr with hr | rfl
        · exact .inl (.inr ⟨r, hr, hb⟩)
        · exact .inr (HF4.out b (by rw [← hq]; exact hb))
    cases dt with
    | true =>
      have H1 := hid f1
      clear f0 f1
      go_wp2
      go_ret2
      refine ⟨(k : Int), 0, bl, _, rfl, H1.out, ?_, ?_, ?_⟩
      · rw [HT.out]
        simp only [List.set_set, dat_set]
        rfl
      · intro b hb
        rw [List.set_set] at hb
        exact HFT.out _ b rfl hb
      · refine Kept.next (R := footFP P g bl ps) (R' := fun b => b = bk) (HK2.out.mono (fun _ _ e => e.elim)) ?_ (fun i hi e => by rw [e]; exact HIN.out)
        (iterate 2 refine Kept.setCell (R := fun b => b = bk) ?_ (.inr rfl) _)
        exact Kept.refl _ _
    | false =>
      have f2 := FP.storeOwn (i := 3) (u := .bool true) (p' := (⟨pg, .slice a4 n4 c4, bs, pn, true, rl, true⟩ : EFrame)) f1 HBK.out (set_again (by simpa using hkl) _) rfl rfl rfl
      have f3 := FP.storeOwn (i := 4) (u := .int .i64 lsn) (p' := (⟨pg, .slice a4 n4 c4, bs, pn, true, lsn, true⟩ : EFrame)) f2 HBK.out (set_again (by simpa using hkl) _) rfl rfl rfl
      have H3 := hid f3
      clear f0 f1 f2 f3
      go_wp2
      go_ret2
      refine ⟨(k : Int), 0, bl, _, rfl, H3.out, ?_, ?_, ?_⟩
      · rw [HT.out]
        simp only [List.set_set, dat_set]
        rfl
      · intro b hb
        rw [List.set_set, List.set_set, List.set_set] at hb
        exact HFT.out _ b rfl hb
      · refine Kept.next (R := footFP P g bl ps) (R' := fun b => b = bk) (HK2.out.mono (fun _ _ e => e.elim)) ?_ (fun i hi e => by rw [e]; exact HIN.out)
        (iterate 4 refine Kept.setCell (R := fun b => b = bk) ?_ (.inr rfl) _)
        exact Kept.refl _ _
end Go.Proofs.Ytbbllmlokddolaa

namespace Go.Proofs.Ytbbllmlokddolaa
set_option maxRecDepth 100000
set_option maxHeartbeats 4000000
open Go.RowKit
set_option linter.unusedVariables false
set_option linter.unusedSimpArgs false
theorem cleanT_dat {page : Int} {ps qs : List EFrame} (h : datFrameS qs = datFrameS ps) : cleanT page qs = cleanT page ps := by
  unfold cleanT
  rw [findB_dat h, h]
def cleanP (ps : List EFrame) (hand page : Int) : Int × Int × Int × List (Int × List Int × Int × Bool × Int × Bool) := turnP (cleanT page ps) ps hand
theorem cleanP_turn (ps : List EFrame) (hand page : Int) : cleanP ps hand page = turnP (cleanT page ps) ps hand := rfl
end Go.Proofs.Ytbbllmlokddolaa

namespace Go.Proofs.Ytbbllmlokddolaa
open Go Go.RowKit
set_option linter.unusedVariables false
set_option linter.unusedSimpArgs false
variable {E : Type}
section
variable {K : RowK E} {base : Nat} {tw tb : TypeId} {w w' : World} {qs : List E}
theorem OwnR.setNew' {g n cap : Nat} {pre post : List E} {p p' : E} (h : OwnR K base tw tb w (.slice (some ⟨g, 0, none⟩) n cap) (pre ++ p :: post)) (hn : n = (pre ++ p :: post).length) (i : Nat) (x : Value) (hi : i < K.m) (hc : K.cells p' = (K.cells p).set i x) (j : Nat) (hj : j = pre.length * K.m + i)
    (hu : Own base tb .u8 w (K.v p') (K.bs p')) (hf : ∀ b, (K.v p').ownBlock = some b → ¬ footR K (.slice (some ⟨g, 0, none⟩) n cap) (pre ++ p :: post) b) :
    OwnR K base tw tb (w.setCell ⟨g, j, none⟩ x) (.slice (some ⟨g, 0, none⟩) n cap) (pre ++ p' :: post) := by
  subst hn hj
  have hk : Kept (fun b => b = g) w (w.setCell ⟨g, pre.length * K.m + i, none⟩ x) := Kept.setCell (R := fun b => b = g) (Kept.refl _ _) (p := ⟨g, pre.length * K.m + i, none⟩) (.inr rfl) _
  have hug : ∀ b, (K.v p').ownBlock = some b → ¬ b = g := fun b hb e => hf b hb (.inl (by rw [e]; rfl))
  have hold : ∀ q ∈ pre ++ post, q ∈ pre ++ p :: post := fun q hq => by
    rcases List.mem_append.1 hq with hq | hq
    · simp [hq]
    · simp [hq]
  have hea := h.each
  rw [List.map_append, List.map_cons] at hea
  obtain ⟨h1, h2, h3⟩ := List.pairwise_append.1 hea
  have h4 := List.pairwise_cons.1 h2
  refine ⟨?_, fun q hq => ?_, ?_, ?_⟩
  · have hs := (World.ownsRow.stored h.row (pre.length * K.m + i) x).1
    have e : K.all (pre ++ p' :: post) = (K.all (pre ++ p :: post)).set (pre.length * K.m + i) x := by
      rw [K.all_append, K.all_append, List.set_append_right (h := by rw [K.all_length]; omega), K.all_length, Nat.add_sub_cancel_left, RowK.all, RowK.all, List.set_append_left (h := by rw [K.len]; exact hi), hc]
    rw [e]
    simpa using hs
  · have hd : ∀ q ∈ pre ++ post, Own base tb .u8 (w.setCell ⟨g, pre.length * K.m + i, none⟩ x) (K.v q) (K.bs q) := fun q hq =>
      (h.data q (hold q hq)).kept hk (fun b hb e => h.out (K.v q) (List.mem_map_of_mem (hold q hq)) b (by rw [e]; rfl) hb)
    rcases List.mem_append.1 hq with hq | hq
    · exact hd q (by simp [hq])
    · rcases List.mem_cons.1 hq with rfl | hq
      · exact hu.kept hk hug
      · exact hd q (by simp [hq])
  · intro y hx
    rw [List.map_append, List.map_cons] at hx
    have hx' : y ∈ (pre ++ post).map K.v ∨ y = K.v p' := by
      simp only [List.mem_append, List.mem_cons, List.map_append] at hx ⊢
      rcases hx with hx | hx | hx
      · exact .inl (.inl hx)
      · exact .inr hx
      · exact .inl (.inr hx)
    rcases hx' with hx' | rfl
    · obtain ⟨q, hq, rfl⟩ := List.mem_map.1 hx'
      exact h.out (K.v q) (List.mem_map_of_mem (hold q hq))
    · exact fun b hb hu' => hf b hu' (.inl hb)
  · rw [List.map_append, List.map_cons]
    have hua : ∀ q ∈ pre ++ post, Apart (K.v p') (K.v q) := fun q hq b hb hq' => hf b hb (.inr ⟨q, hold q hq, hq'⟩)
    refine List.pairwise_append.2 ⟨h1, List.pairwise_cons.2 ⟨fun x hx => ?_, h4.2⟩, fun x hx y hy => ?_⟩
    · obtain ⟨q, hq, rfl⟩ := List.mem_map.1 hx
      exact hua q (by simp [hq])
    · obtain ⟨q, hq, rfl⟩ := List.mem_map.1 hx
      rcases List.mem_cons.1 hy with rfl | hy
      · exact (hua q (by simp [hq])).symm
      · exact h3 (K.v q) hx y (List.mem_cons_of_mem _ hy)
theorem OwnR.setNew {g n cap k : Nat} {p' : E} (h : OwnR K base tw tb w (.slice (some ⟨g, 0, none⟩) n cap) qs) (hn : n = qs.length) (hk : k < qs.length) (i : Nat) (x : Value) (hi : i < K.m) (hc : K.cells p' = (K.cells qs[k]).set i x)
    (hu : Own base tb .u8 w (K.v p') (K.bs p')) (hf : ∀ b, (K.v p').ownBlock = some b → ¬ footR K (.slice (some ⟨g, 0, none⟩) n cap) qs b) (j : Nat) (hj : j = k * K.m + i) :
    OwnR K base tw tb (w.setCell ⟨g, j, none⟩ x) (.slice (some ⟨g, 0, none⟩) n cap) (qs.set k p') := by
  have h' := h
  rw [list_mid hk] at h' hf
  rw [set_mid hk]
  exact OwnR.setNew' h' (by rw [← list_mid hk]; exact hn) i x hi hc j (by rw [List.length_take, Nat.min_eq_left (Nat.le_of_lt hk)]; exact hj) hu hf
theorem OwnR.setWhole {g n cap k : Nat} {p' : E} (h : OwnR K base tw tb w (.slice (some ⟨g, 0, none⟩) n cap) qs) (hn : n = qs.length) (hk : k < qs.length)
    (hu : Own base tb .u8 w (K.v p') (K.bs p')) (hf : ∀ b, (K.v p').ownBlock = some b → ¬ footR K (.slice (some ⟨g, 0, none⟩) n cap) qs b) (j : Nat) (hj : j = k * K.m) :
    OwnR K base tw tb (w.setCells g j (K.cells p')) (.slice (some ⟨g, 0, none⟩) n cap) (qs.set k p') := by
  have h' := h
  rw [list_mid hk] at h' hf
  rw [set_mid hk]
  exact OwnR.setElem h' (by rw [← list_mid hk]; exact hn) j (by rw [List.length_take, Nat.min_eq_left (Nat.le_of_lt hk)]; exact hj) hu hf
theorem footR_setNew {v : Value} {k : Nat} {p' : E} (b : Nat) (h : footR K v (qs.set k p') b) : footR K v qs b ∨ (K.v p').ownBlock = some b := by
  rcases h with h | ⟨q, hq, hb⟩
  · exact .inl (.inl h)
  · rcases List.mem_or_eq_of_mem_set hq with hq | rfl
    · exact .inl (.inr ⟨q, hq, hb⟩)
    · exact .inr hb
end
end Go.Proofs.Ytbbllmlokddolaa

namespace Go.Proofs.Ytbbllmlokddolaa
set_option maxRecDepth 100000
set_option maxHeartbeats 8000000
open Go.RowKit
set_option linter.unusedVariables false
set_option linter.unusedSimpArgs false
def putP (ps : List EFrame) (hand page : Int) (bs : List Int) (lsn : Int) : Int × Int × Int × List (Int × List Int × Int × Bool × Int × Bool) := turnP (putT page bs lsn ps) ps hand
end Go.Proofs.Ytbbllmlokddolaa

namespace Go.Proofs.Ytbbllmlokddolaa
set_option maxRecDepth 100000
set_option maxHeartbeats 8000000
open Go.RowKit
set_option linter.unusedVariables false
set_option linter.unusedSimpArgs false
section
variable {w : World} {P : Nat} {hand : Int} {g n cap : Nat} {bl : List Nat} {ps : List EFrame}
theorem footS_swap {k b' : Nat} {p' : EFrame} (x : Nat) (hf : footS kFrame (bl.set k b') (ps.set k p') x) : footS kFrame bl ps x ∨ x = b' ∨ p'.v.ownBlock = some x := by
  rcases hf with hf | ⟨q, hq, hf⟩
  · rcases List.mem_or_eq_of_mem_set hf with hf | rfl
    · exact .inl (.inl hf)
    · exact .inr (.inl rfl)
  · rcases List.mem_or_eq_of_mem_set hq with hq | rfl
    · exact .inl (.inr ⟨q, hq, hf⟩)
    · exact .inr (.inr hf)
theorem FP.swap {k b b' : Nat} {p' : EFrame} (h : FP w P hand g n cap bl ps) (hb : bl[k]? = some b) (hb' : Blk w b' 36 (kFrame.cells p')) (hu : Own 0 5 .u8 w p'.v p'.bs) (hf : ¬ footFP P g bl ps b') (hx : ∀ x, p'.v.ownBlock = some x → ¬ footFP P g bl ps x ∧ x ≠ b') :
    FP (w.setCell ⟨g, k, none⟩ (.pointer (some ⟨b', 0, none⟩))) P hand g n cap (bl.set k b') (ps.set k p') := by
  have hk : Kept (fun x => x = g) w (w.setCell ⟨g, k, none⟩ (.pointer (some ⟨b', 0, none⟩))) := Kept.setCell (R := fun x => x = g) (Kept.refl _ _) (p := ⟨g, k, none⟩) (.inr rfl) _
  have hout : ∀ x, (x = P ∨ x = g) → ¬ footS kFrame (bl.set k b') (ps.set k p') x := fun x hx' hs => by
    rcases footS_swap x hs with hs | rfl | hs
    · rcases hx' with rfl | rfl
      · exact h.outP hs
      · exact h.outg hs
    · exact hf (by rcases hx' with rfl | rfl
                   · exact .inl rfl
                   · exact .inr (.inl rfl))
    · exact (hx x hs).1 (by rcases hx' with rfl | rfl
                            · exact .inl rfl
                            · exact .inr (.inl rfl))
  refine ⟨h.top.kept hk h.pg, by rw [List.length_set]; exact h.len, ?_, ?_, h.pg, hout P (.inl rfl), hout g (.inr rfl)⟩
  · have hs := (World.ownsRow.stored h.row k (.pointer (some ⟨b', 0, none⟩))).1
    rw [List.map_set]
    exact hs
  · exact (h.ptr.swap hb hb' hu (fun e => hf (.inr (.inr e))) (fun x hx' => ⟨fun e => (hx x hx').1 (.inr (.inr e)), (hx x hx').2⟩)).kept hk (fun x hs e => hout x (.inr e) hs)
end
def loadT (frame page : Int) (bs : List Int) (ps : List EFrame) : Int × Int × List (Int × List Int × Int × Bool × Int × Bool) :=
  if frame < 0 ∨ (ps.length : Int) ≤ frame then (2, 0, datFrameS ps) else
  match (datFrameS ps)[frame.toNat]? with
  | none => (0, 0, [])
  | some d => if 0 < d.2.2.1 ∨ d.2.2.2.1 = true then (2, 0, datFrameS ps) else
    if isPageB page = false ∨ bs.length ≠ 4096 then (3, 0, datFrameS ps) else
    if findB page ps ≠ -1 ∧ findB page ps ≠ frame then (4, 0, datFrameS ps) else
    (0, frame, (datFrameS ps).set frame.toNat (page, bs, 0, false, 0, true))
theorem loadT_dat {frame page : Int} {bs : List Int} {ps qs : List EFrame} (h : datFrameS qs = datFrameS ps) : loadT frame page bs qs = loadT frame page bs ps := by
  unfold loadT
  rw [findB_dat h, h, dat_len h]
theorem loadM_any (frame page : Int) (u : Value) (bs : List Int) (P : Nat) (hand : Int) (g n cap : Nat) (bl : List Nat) (ps : List EFrame) (w : World) (h : FP w P hand g n cap bl ps) (hn : n ≤ 16) (hbl : bs.length ≤ 1099511627776) (hu : Rd .u8 w u bs) :
    Calls Try.prog 34 #[.pointer (some ⟨P, 0, none⟩), .int .i64 frame, .int .i64 page, u] w fun e w' => ∃ fr cd bl' qs', e = .returned (.tuple #[.int .i64 fr, .int .i64 cd]) ∧ FP w' P hand g n cap bl' qs' ∧ (cd, fr, datFrameS qs') = loadT frame page bs ps ∧ (∀ b, footS kFrame bl' qs' b → footS kFrame bl ps b ∨ w.heap.size ≤ b) ∧ Kept (footFP P g bl ps) w w' := by
  have k0 := find_any page P hand g n cap bl ps w h hn
  have kp := isPage_eq page
  have HF := (show Hid (FP w P hand g n cap bl ps) from h)
  obtain ⟨au, cu, rfl⟩ := hu.form
  have HU := (show Hid (Rd .u8 w (.slice au bs.length cu) bs) from hu)
  have HBL := hid hbl
  obtain ⟨x0, x1⟩ := h.top.all2
  have hlen := h.len
  have HLN : Hid (n = ps.length) := hlen
  clear hu hbl
  have HFAIL : Hid (∀ (cd : Int) (w1 : World), Same w w1 → loadT frame page bs ps = (cd, 0, datFrameS ps) → FP w1 P hand g n cap bl ps ∧ (cd, 0, datFrameS ps) = loadT frame page bs ps ∧ (∀ b, footS kFrame bl ps b → footS kFrame bl ps b ∨ w.heap.size ≤ b) ∧ Kept (footFP P g bl ps) w w1) := fun cd w1 hk e =>
    ⟨HF.out.same hk, by rw [e], fun b hb => .inl hb, hk.mono (fun _ _ e => e.elim)⟩
  by_cases h1 : frame < 0
  · have HT := (show Hid (loadT frame page bs ps = (2, 0, datFrameS ps)) from if_pos (.inl h1))
    clear h hlen
    go_enter Try.func34, Try.ntmps34
    go_wp2
    go_ret2
    first | exact ⟨0, 2, bl, ps, rfl, HFAIL.out 2 _ (Kept.refl _ _) HT.out⟩ | exact ⟨0, 2, rfl, bl, ps, HFAIL.out 2 _ (Kept.refl _ _) HT.out⟩
  by_cases h2 : (n : Int) ≤ frame
  · have HT := (show Hid (loadT frame page bs ps = (2, 0, datFrameS ps)) from if_pos (.inr (by rw [← hlen]; exact h2)))
    clear h hlen
    go_enter Try.func34, Try.ntmps34
    go_wp2
    go_ret2
    first | exact ⟨0, 2, bl, ps, rfl, HFAIL.out 2 _ (Kept.refl _ _) HT.out⟩ | exact ⟨0, 2, rfl, bl, ps, HFAIL.out 2 _ (Kept.refl _ _) HT.out⟩
  obtain ⟨k, rfl⟩ : ∃ k : Nat, frame = (k : Int) := ⟨frame.toNat, by omega⟩
  have hkn : k < n := by omega
  have hkl : k < ps.length := by omega
  obtain ⟨bk, p, hbk, hpk, hck, hb⟩ := h.at k hkn
  have hdat := h.ptr.data p (List.mem_of_getElem? hpk)
  have HBK : Hid (bl[k]? = some bk) := hbk
  have HPK : Hid (ps[k]? = some p) := hpk
  obtain ⟨pg, pv, fb, pn, dt, rl, rf⟩ := p
  obtain ⟨a1, n1, c1, e1⟩ := slice_of_own (show Own 0 5 .u8 w pv fb from hdat)
  subst e1
  have HB := (show Hid (Blk w bk 36 [.int .i64 pg, .slice a1 n1 c1, .int .i64 pn, .bool dt, .int .i64 rl, .bool rf]) from hb)
  have HT : Hid (loadT (k : Int) page bs ps = if 0 < pn ∨ dt = true then (2, 0, datFrameS ps) else
    if isPageB page = false ∨ bs.length ≠ 4096 then (3, 0, datFrameS ps) else
    if findB page ps ≠ -1 ∧ findB page ps ≠ (k : Int) then (4, 0, datFrameS ps) else
    (0, (k : Int), (datFrameS ps).set k (page, bs, 0, false, 0, true))) := by
    unfold loadT Hid
    rw [if_neg (by omega), Int.toNat_natCast, dat_at HPK.out]
    rfl
  obtain ⟨c0, c1', c2, c3, c4, c5⟩ := HB.out.all6
  have hki : (k : Int) < (n : Int) := by omega
  have HFL : Hid (∀ x, footFP P g bl ps x → x < w.heap.size) := fun x hx => HF.out.lt x hx
  have hPl : P < w.heap.size := HF.out.lt P (.inl rfl)
  have hgl : g < w.heap.size := HF.out.lt g (.inr (.inl rfl))
  have hPg := h.pg
  clear hb hdat hbk hpk h hlen
  by_cases h3 : 0 < pn
  · have HT1 := (show Hid (loadT (k : Int) page bs ps = (2, 0, datFrameS ps)) from HT.out.trans (if_pos (.inl h3)))
    go_enter Try.func34, Try.ntmps34
    go_wp2
    go_ret2
    first | exact ⟨0, 2, bl, ps, rfl, HFAIL.out 2 _ (Kept.refl _ _) HT1.out⟩ | exact ⟨0, 2, rfl, bl, ps, HFAIL.out 2 _ (Kept.refl _ _) HT1.out⟩
  cases dt with
  | true =>
    have HT1 := (show Hid (loadT (k : Int) page bs ps = (2, 0, datFrameS ps)) from HT.out.trans (if_pos (.inr rfl)))
    go_enter Try.func34, Try.ntmps34
    go_wp2
    go_ret2
    first | exact ⟨0, 2, bl, ps, rfl, HFAIL.out 2 _ (Kept.refl _ _) HT1.out⟩ | exact ⟨0, 2, rfl, bl, ps, HFAIL.out 2 _ (Kept.refl _ _) HT1.out⟩
  | false =>
    have HT1 := (show Hid (loadT (k : Int) page bs ps = if isPageB page = false ∨ bs.length ≠ 4096 then (3, 0, datFrameS ps) else
      if findB page ps ≠ -1 ∧ findB page ps ≠ (k : Int) then (4, 0, datFrameS ps) else
      (0, (k : Int), (datFrameS ps).set k (page, bs, 0, false, 0, true))) from HT.out.trans (if_neg (by simp; omega)))
    clear HT
    obtain ⟨nb, hnb⟩ : ∃ x, bs.length = x := ⟨_, rfl⟩
    rw [hnb] at HT1 HU ⊢
    have HBL2 : Hid (bs.length ≤ 1099511627776) := HBL
    clear HBL
    cases hp : isPageB page with
    | false =>
      have HT2 := (show Hid (loadT (k : Int) page bs ps = (3, 0, datFrameS ps)) from HT1.out.trans (if_pos (.inl hp)))
      rw [hp] at kp
      go_enter Try.func34, Try.ntmps34
      go_wp2_with fail
      refine (kp _).mono ?_
      rintro e w1 ⟨rfl, rfl⟩
      go_wp2
      go_ret2
      first | exact ⟨0, 3, bl, ps, rfl, HFAIL.out 3 _ (Kept.refl _ _) HT2.out⟩ | exact ⟨0, 3, rfl, bl, ps, HFAIL.out 3 _ (Kept.refl _ _) HT2.out⟩
    | true =>
      rw [hp] at kp
      by_cases h4 : nb = 4096
      case neg =>
        have h4' : ¬ (nb : Int) = 4096 := by omega
        have HT2 := (show Hid (loadT (k : Int) page bs ps = (3, 0, datFrameS ps)) from HT1.out.trans (if_pos (.inr h4)))
        go_enter Try.func34, Try.ntmps34
        go_wp2_with fail
        refine (kp _).mono ?_
        rintro e w1 ⟨rfl, rfl⟩
        go_wp2
        go_ret2
        first | exact ⟨0, 3, bl, ps, rfl, HFAIL.out 3 _ (Kept.refl _ _) HT2.out⟩ | exact ⟨0, 3, rfl, bl, ps, HFAIL.out 3 _ (Kept.refl _ _) HT2.out⟩
      subst h4
      have HT2 := (show Hid (loadT (k : Int) page bs ps = if findB page ps ≠ -1 ∧ findB page ps ≠ (k : Int) then (4, 0, datFrameS ps) else
        (0, (k : Int), (datFrameS ps).set k (page, bs, 0, false, 0, true))) from HT1.out.trans (if_neg (by rw [hp]; simp)))
      clear HT1
      obtain ⟨fi, hfi⟩ : ∃ x, findB page ps = x := ⟨_, rfl⟩
      rw [hfi] at k0 HT2
      by_cases h5 : fi ≠ -1 ∧ fi ≠ (k : Int)
      · have HT3 := (show Hid (loadT (k : Int) page bs ps = (4, 0, datFrameS ps)) from HT2.out.trans (if_pos h5))
        have hb1 : (fi != -1) = true := by simp [h5.1]
        have hb2 : (fi != (k : Int)) = true := by simp [h5.2]
        clear h5
        go_enter Try.func34, Try.ntmps34
        go_wp2_with fail
        refine (kp _).mono ?_
        rintro e w1 ⟨rfl, rfl⟩
        go_wp2_with fail
        refine k0.mono ?_
        rintro e w2 ⟨rfl, hk2⟩
        have HK2 := hid hk2
        clear hk2
        go_wp2
        go_ret2
        first | exact ⟨0, 4, bl, ps, rfl, HFAIL.out 4 _ HK2.out HT3.out⟩ | exact ⟨0, 4, rfl, bl, ps, HFAIL.out 4 _ HK2.out HT3.out⟩
      · have HT3 := (show Hid (loadT (k : Int) page bs ps = (0, (k : Int), (datFrameS ps).set k (page, bs, 0, false, 0, true))) from HT2.out.trans (if_neg h5))
        have h5' : fi = -1 ∨ fi = (k : Int) := by omega
        clear h5 HT2
        rcases h5' with rfl | rfl
        · go_enter Try.func34, Try.ntmps34
          go_wp2_with fail
          refine (kp _).mono ?_
          rintro e w1 ⟨rfl, hw1⟩
          replace hw1 := hw1.symm
          subst hw1
          go_wp2_with fail
          refine k0.mono ?_
          rintro e w2 ⟨rfl, hk2⟩
          have HK2 := hid hk2
          have HF2 := (show Hid (FP w2 P hand g n cap bl ps) from HF.out.same hk2)
          have hz2 := hk2.size
          have HX2 := hid HF2.out.top
          have hrow := HF2.out.row
          clear hk2 k0 c0 c1' c2 c3 c4 c5 x0 x1 hck
          go_wp2_with fail
          have hS : (fun wx : World => wx.cell? ⟨P, 0, none⟩ = some (.slice (some ⟨g, 0, none⟩) n cap)) w2.drew := HX2.out.drew.cell 0
          refine wp_region_V (fun wx : World => wx.cell? ⟨P, 0, none⟩ = some (.slice (some ⟨g, 0, none⟩) n cap)) 12 13 rfl (by kernel_rfl) ?_
          refine tk 0 61 hS ?_
          refine tk 1 62 hS ?_
          refine tk 2 63 hS ?_
          refine tk 3 64 hS ?_
          refine tk 4 65 hS ?_
          refine tk 5 66 hS ?_
          refine tk 6 67 hS ?_
          refine tk 7 68 hS ?_
          refine wpAnyV_one (i := 8) (by kernel_rfl) rfl (fun K hK => ?_)
          go_simp
          refine (cloneS_any (.slice au 4096 cu) bs _ HBL2.out (HU.out.same HK2.out.drew)).mono ?_
          rintro e w3 ⟨a4, n4, c4, rfl, ho4, hf4, hk4⟩
          have hk23 : Same w2 w3 := (Kept.refl (fun _ => False) w2).drew.trans hk4
          have HK3 := (show Hid (Same w w3) from HK2.out.trans hk23)
          have HF3 := (show Hid (FP w3 P hand g n cap bl ps) from HF2.out.same hk23)
          have HX3 := hid HF3.out.top
          have HO4 := (show Hid (Own 0 5 .u8 w3 (.slice a4 n4 c4) bs) from ho4)
          have HZ4 : Hid (∀ b, (Value.slice a4 n4 c4).ownBlock = some b → w.heap.size ≤ b ∧ b < w3.heap.size) := fun b hb => ⟨by have h : w2.heap.size ≤ b := hf4 b hb; omega, (ho4.lt b hb).2⟩
          have hz3 : w2.heap.size ≤ w3.heap.size := hk23.size
          clear ho4 hf4 hk4 hk23
          go_wp2_with fail
          have hS3 : (fun wx : World => wx.cell? ⟨P, 0, none⟩ = some (.slice (some ⟨g, 0, none⟩) n cap)) w3 := HX3.out.cell 0
          refine hK.out _ _ (fun _ => hS3) ?_
          clear hK K hS
          try simp only [Act.put, sA, s0, sS]
          refine tk 9 70 hS3 ?_
          refine wpAnyV_one (i := 10) (by kernel_rfl) rfl (fun K hK => ?_)
          go_simp
          have hS4 : (fun wx : World => wx.cell? ⟨P, 0, none⟩ = some (.slice (some ⟨g, 0, none⟩) n cap)) (w3.alloc (.cells #[.int .i64 page, .slice a4 n4 c4, .int .i64 0, .bool false, .int .i64 0, .bool true] 36)) := (HX3.out.alloc _).cell 0
          refine hK.out _ _ (fun _ => hS4) ?_
          clear hK K
          try simp only [Act.put, sA, s0, sS]
          refine wpAnyV_one (i := 11) (by kernel_rfl) rfl (fun K hK => ?_)
          go_simp
          refine hK.out _ _ (fun _ => hS4) ?_
          clear hK K
          try simp only [Act.put, sA, s0, sS]
          have yk : w3.cell? ⟨g, k, none⟩ = some (.pointer (some ⟨bk, 0, none⟩)) := by
            obtain ⟨b1, p1, hb1, _, hc1, _⟩ := HF3.out.at k hkn
            rw [HBK.out] at hb1
            obtain rfl := Option.some.inj hb1
            exact hc1
          have fg := World.ownsRow.frozenAt HF3.out.row
          have hg3 : g < w3.heap.size := by omega
          refine wpAnyV_one (i := 12) (by kernel_rfl) rfl (fun K hK => ?_)
          go_simp
          refine hK.out _ _ (fun h => absurd rfl h) ?_
          clear hK K
          refine wpAnyV_done (by kernel_rfl) ?_
          try simp only [Act.put, sA, s0, sS]
          have HFN := (show Hid (FP ((w3.alloc (.cells #[.int .i64 page, .slice a4 n4 c4, .int .i64 0, .bool false, .int .i64 0, .bool true] 36)).setCell ⟨g, k, none⟩ (.pointer (some ⟨w3.heap.size, 0, none⟩))) P hand g n cap (bl.set k w3.heap.size) (ps.set k (⟨page, .slice a4 n4 c4, bs, 0, false, 0, true⟩ : EFrame))) from
            FP.swap (p' := (⟨page, .slice a4 n4 c4, bs, 0, false, 0, true⟩ : EFrame)) (HF3.out.same ((Kept.refl _ _).alloc _)) HBK.out (Blk.newL w3 [.int .i64 page, .slice a4 n4 c4, .int .i64 0, .bool false, .int .i64 0, .bool true] 36) (HO4.out.same ((Kept.refl _ _).alloc _)) (fun hf => by have := HFL.out _ hf; omega)
              (fun x hx => ⟨fun hf => by have h1 := (HZ4.out x hx).1; have h2 := HFL.out x hf; omega, by have h1 := (HZ4.out x hx).2; omega⟩))
          have hcomm : (w3.alloc (.cells #[.int .i64 page, .slice a4 n4 c4, .int .i64 0, .bool false, .int .i64 0, .bool true] 36)).setCell ⟨g, k, none⟩ (.pointer (some ⟨w3.heap.size, 0, none⟩)) = (w3.setCell ⟨g, k, none⟩ (.pointer (some ⟨w3.heap.size, 0, none⟩))).alloc (.cells #[.int .i64 page, .slice a4 n4 c4, .int .i64 0, .bool false, .int .i64 0, .bool true] 36) := by go_simp
          rw [hcomm] at HFN
          clear hcomm
          have hzw : w.heap.size ≤ w3.heap.size := HK3.out.size
          go_wp2
          go_ret2
          refine ⟨(k : Int), 0, rfl, _, _, HFN.out, ?_, ?_, ?_⟩
          · rw [HT3.out, dat_set]; rfl
          · intro b hb
            rcases footS_swap b hb with hb | rfl | hb
            · exact .inl hb
            · exact .inr hzw
            · exact .inr (HZ4.out b hb).1
          · refine Kept.alloc (Kept.next (R := footFP P g bl ps) (R' := fun b => b = g) (HK3.out.mono (fun _ _ e => e.elim)) (Kept.setCell (R := fun b => b = g) (Kept.refl _ _) (p := ⟨g, k, none⟩) (.inr rfl) _) (fun i hi e => .inr (.inl e))) _
        · go_enter Try.func34, Try.ntmps34
          go_wp2_with fail
          refine (kp _).mono ?_
          rintro e w1 ⟨rfl, hw1⟩
          replace hw1 := hw1.symm
          subst hw1
          go_wp2_with fail
          refine k0.mono ?_
          rintro e w2 ⟨rfl, hk2⟩
          have HK2 := hid hk2
          have HF2 := (show Hid (FP w2 P hand g n cap bl ps) from HF.out.same hk2)
          have hz2 := hk2.size
          have HX2 := hid HF2.out.top
          have hrow := HF2.out.row
          clear hk2 k0 c0 c1' c2 c3 c4 c5 x0 x1 hck
          go_wp2_with fail
          have hS : (fun wx : World => wx.cell? ⟨P, 0, none⟩ = some (.slice (some ⟨g, 0, none⟩) n cap)) w2.drew := HX2.out.drew.cell 0
          refine wp_region_V (fun wx : World => wx.cell? ⟨P, 0, none⟩ = some (.slice (some ⟨g, 0, none⟩) n cap)) 12 13 rfl (by kernel_rfl) ?_
          refine tk 0 61 hS ?_
          refine tk 1 62 hS ?_
          refine tk 2 63 hS ?_
          refine tk 3 64 hS ?_
          refine tk 4 65 hS ?_
          refine tk 5 66 hS ?_
          refine tk 6 67 hS ?_
          refine tk 7 68 hS ?_
          refine wpAnyV_one (i := 8) (by kernel_rfl) rfl (fun K hK => ?_)
          go_simp
          refine (cloneS_any (.slice au 4096 cu) bs _ HBL2.out (HU.out.same HK2.out.drew)).mono ?_
          rintro e w3 ⟨a4, n4, c4, rfl, ho4, hf4, hk4⟩
          have hk23 : Same w2 w3 := (Kept.refl (fun _ => False) w2).drew.trans hk4
          have HK3 := (show Hid (Same w w3) from HK2.out.trans hk23)
          have HF3 := (show Hid (FP w3 P hand g n cap bl ps) from HF2.out.same hk23)
          have HX3 := hid HF3.out.top
          have HO4 := (show Hid (Own 0 5 .u8 w3 (.slice a4 n4 c4) bs) from ho4)
          have HZ4 : Hid (∀ b, (Value.slice a4 n4 c4).ownBlock = some b → w.heap.size ≤ b ∧ b < w3.heap.size) := fun b hb => ⟨by have h : w2.heap.size ≤ b := hf4 b hb; omega, (ho4.lt b hb).2⟩
          have hz3 : w2.heap.size ≤ w3.heap.size := hk23.size
          clear ho4 hf4 hk4 hk23
          go_wp2_with fail
          have hS3 : (fun wx : World => wx.cell? ⟨P, 0, none⟩ = some (.slice (some ⟨g, 0, none⟩) n cap)) w3 := HX3.out.cell 0
          refine hK.out _ _ (fun _ => hS3) ?_
          clear hK K hS
          try simp only [Act.put, sA, s0, sS]
          refine tk 9 70 hS3 ?_
          refine wpAnyV_one (i := 10) (by kernel_rfl) rfl (fun K hK => ?_)
          go_simp
          have hS4 : (fun wx : World => wx.cell? ⟨P, 0, none⟩ = some (.slice (some ⟨g, 0, none⟩) n cap)) (w3.alloc (.cells #[.int .i64 page, .slice a4 n4 c4, .int .i64 0, .bool false, .int .i64 0, .bool true] 36)) := (HX3.out.alloc _).cell 0
          refine hK.out _ _ (fun _ => hS4) ?_
          clear hK K
          try simp only [Act.put, sA, s0, sS]
          refine wpAnyV_one (i := 11) (by kernel_rfl) rfl (fun K hK => ?_)
          go_simp
          refine hK.out _ _ (fun _ => hS4) ?_
          clear hK K
          try simp only [Act.put, sA, s0, sS]
          have yk : w3.cell? ⟨g, k, none⟩ = some (.pointer (some ⟨bk, 0, none⟩)) := by
            obtain ⟨b1, p1, hb1, _, hc1, _⟩ := HF3.out.at k hkn
            rw [HBK.out] at hb1
            obtain rfl := Option.some.inj hb1
            exact hc1
          have fg := World.ownsRow.frozenAt HF3.out.row
          have hg3 : g < w3.heap.size := by omega
          refine wpAnyV_one (i := 12) (by kernel_rfl) rfl (fun K hK => ?_)
          go_simp
          refine hK.out _ _ (fun h => absurd rfl h) ?_
          clear hK K
          refine wpAnyV_done (by kernel_rfl) ?_
          try simp only [Act.put, sA, s0, sS]
          have HFN := (show Hid (FP ((w3.alloc (.cells #[.int .i64 page, .slice a4 n4 c4, .int .i64 0, .bool false, .int .i64 0, .bool true] 36)).setCell ⟨g, k, none⟩ (.pointer (some ⟨w3.heap.size, 0, none⟩))) P hand g n cap (bl.set k w3.heap.size) (ps.set k (⟨page, .slice a4 n4 c4, bs, 0, false, 0, true⟩ : EFrame))) from
            FP.swap (p' := (⟨page, .slice a4 n4 c4, bs, 0, false, 0, true⟩ : EFrame)) (HF3.out.same ((Kept.refl _ _).alloc _)) HBK.out (Blk.newL w3 [.int .i64 page, .slice a4 n4 c4, .int .i64 0, .bool false, .int .i64 0, .bool true] 36) (HO4.out.same ((Kept.refl _ _).alloc _)) (fun hf => by have := HFL.out _ hf; omega)
              (fun x hx => ⟨fun hf => by have h1 := (HZ4.out x hx).1; have h2 := HFL.out x hf; omega, by have h1 := (HZ4.out x hx).2; omega⟩))
          have hcomm : (w3.alloc (.cells #[.int .i64 page, .slice a4 n4 c4, .int .i64 0, .bool false, .int .i64 0, .bool true] 36)).setCell ⟨g, k, none⟩ (.pointer (some ⟨w3.heap.size, 0, none⟩)) = (w3.setCell ⟨g, k, none⟩ (.pointer (some ⟨w3.heap.size, 0, none⟩))).alloc (.cells #[.int .i64 page, .slice a4 n4 c4, .int .i64 0, .bool false, .int .i64 0, .bool true] 36) := by go_simp
          rw [hcomm] at HFN
          clear hcomm
          have hzw : w.heap.size ≤ w3.heap.size := HK3.out.size
          go_wp2
          go_ret2
          refine ⟨(k : Int), 0, rfl, _, _, HFN.out, ?_, ?_, ?_⟩
          · rw [HT3.out, dat_set]; rfl
          · intro b hb
            rcases footS_swap b hb with hb | rfl | hb
            · exact .inl hb
            · exact .inr hzw
            · exact .inr (HZ4.out b hb).1
          · refine Kept.alloc (Kept.next (R := footFP P g bl ps) (R' := fun b => b = g) (HK3.out.mono (fun _ _ e => e.elim)) (Kept.setCell (R := fun b => b = g) (Kept.refl _ _) (p := ⟨g, k, none⟩) (.inr rfl) _) (fun i hi e => .inr (.inl e))) _
end Go.Proofs.Ytbbllmlokddolaa

namespace Go.Proofs.Ytbbllmlokddolaa
set_option maxRecDepth 100000
set_option maxHeartbeats 8000000
open Go.RowKit
set_option linter.unusedVariables false
set_option linter.unusedSimpArgs false
def loadP (ps : List EFrame) (hand frame page : Int) (bs : List Int) : Int × Int × Int × List (Int × List Int × Int × Bool × Int × Bool) := turnP (loadT frame page bs ps) ps hand
end Go.Proofs.Ytbbllmlokddolaa

namespace Go.Proofs.Ytbbllmlokddolaa
set_option maxRecDepth 100000
set_option maxHeartbeats 4000000
open Go.RowKit
set_option linter.unusedVariables false
set_option linter.unusedSimpArgs false
def pinP (ps : List EFrame) (hand page : Int) : Int × Int × Int × List (Int × List Int × Int × Bool × Int × Bool) := pinsP 1 ps hand page
def unpinP (ps : List EFrame) (hand page : Int) : Int × Int × Int × List (Int × List Int × Int × Bool × Int × Bool) := pinsP (-1) ps hand page
end Go.Proofs.Ytbbllmlokddolaa

namespace Go.Proofs.Ytbbllmlokddolaa
set_option maxRecDepth 100000
set_option maxHeartbeats 4000000
open Go.RowKit
set_option linter.unusedVariables false
set_option linter.unusedSimpArgs false
theorem pinT_dat {page : Int} {ps qs : List EFrame} (h : datFrameS qs = datFrameS ps) : pinT page qs = pinT page ps := by
  unfold pinT
  rw [findB_dat h, h]
theorem pinP_turn (ps : List EFrame) (hand page : Int) : pinP ps hand page = turnP (pinT page ps) ps hand := by
  by_cases h0 : poolF ps hand ≠ 0
  · unfold pinP pinsP turnP
    rw [if_pos h0, show atP ps hand page = (0, 1) from if_pos h0, if_pos (by simp)]
  have h1 : poolF ps hand = 0 := Classical.not_not.1 h0
  by_cases h2 : findB page ps = -1
  · unfold pinP pinsP turnP
    rw [if_neg h0, atP_none h1 h2, if_pos (by simp)]
    have e : pinT page ps = (2, 0, datFrameS ps) := if_pos h2
    rw [e, if_pos (by simp)]
  obtain ⟨j, hj, hjl⟩ := findB_lt h2
  have hp := (frame_of h1 _ (List.getElem_mem hjl)).1
  have hd : ps[j].dat.2.2.1 = ps[j].pins := rfl
  by_cases h3 : 2147483647 ≤ ps[j].dat.2.2.1
  · have e : pinT page ps = (3, 0, datFrameS ps) := by
      unfold pinT
      rw [if_neg h2, hj, Int.toNat_natCast, dat_at (List.getElem?_eq_getElem hjl)]
      exact if_pos h3
    have hL : pinP ps hand page = (3, 0, 0, []) := by
      unfold pinP pinsP
      rw [atP_some h1 h2, if_neg (by simp)]
      dsimp only
      rw [hj, Int.toNat_natCast, dat_at (List.getElem?_eq_getElem hjl)]
      exact if_pos (by simp only [inB, hd] at h3 ⊢; simp; omega)
    have hR : turnP (pinT page ps) ps hand = (3, 0, 0, []) := by
      unfold turnP
      rw [if_neg h0, e]
      rfl
    rw [hL, hR]
  · have e : pinT page ps = (0, (j : Int), (datFrameS ps).set j (ps[j].dat.1, ps[j].dat.2.1, ps[j].dat.2.2.1 + 1, ps[j].dat.2.2.2.1, ps[j].dat.2.2.2.2.1, true)) := by
      unfold pinT
      rw [if_neg h2, hj, Int.toNat_natCast, dat_at (List.getElem?_eq_getElem hjl)]
      exact if_neg h3
    have hL : pinP ps hand page = (0, (j : Int), hand, (datFrameS ps).set j (ps[j].dat.1, ps[j].dat.2.1, ps[j].dat.2.2.1 + 1, ps[j].dat.2.2.2.1, ps[j].dat.2.2.2.2.1, true)) := by
      unfold pinP pinsP
      rw [atP_some h1 h2, if_neg (by simp)]
      dsimp only
      rw [hj, Int.toNat_natCast, dat_at (List.getElem?_eq_getElem hjl)]
      refine (if_neg (by simp only [inB, hd] at h3 ⊢; simp; omega)).trans ?_
      simp
    have hR : turnP (pinT page ps) ps hand = (0, (j : Int), hand, (datFrameS ps).set j (ps[j].dat.1, ps[j].dat.2.1, ps[j].dat.2.2.1 + 1, ps[j].dat.2.2.2.1, ps[j].dat.2.2.2.2.1, true)) := by
      unfold turnP
      rw [if_neg h0, e]
      rfl
    rw [hL, hR]
theorem pin1_any (page : Int) (C : Nat) (P : Nat) (hand : Int) (g n cap : Nat) (bl : List Nat) (ps : List EFrame) (w : World) (h : FP w P hand g n cap bl ps) (hn : n ≤ 16) (hpin : ∀ p ∈ ps, 0 ≤ p.pins ∧ p.pins ≤ 2147483647) (hc : Blk w C 2 [.int .i64 page]) :
    Calls Try.prog 35 #[.pointer (some ⟨P, 0, none⟩), .pointer (some ⟨C, 0, none⟩)] w fun e w' => ∃ fr cd bl' qs', e = .returned (.tuple #[.int .i64 fr, .int .i64 cd]) ∧ FP w' P hand g n cap bl' qs' ∧ (cd, fr, datFrameS qs') = pinT page ps ∧ (∀ b, footS kFrame bl' qs' b → footS kFrame bl ps b ∨ w.heap.size ≤ b) ∧ Kept (footFP P g bl ps) w w' := by
  have c0 := hc.c0
  have k0 := pinM_any page P hand g n cap bl ps w h hn hpin
  clear h hpin hc
  go_enter Try.func35, Try.ntmps35
  go_wp2_with fail
  refine k0.mono ?_
  rintro e w1 ⟨fr, cd, bl', qs', rfl, hf, ht, hn', hk⟩
  have H1 := hid hf
  have H2 := hid ht
  have H3 := hid hn'
  have H4 := hid hk
  clear hf ht hn' hk k0
  go_wp2
  go_ret2
  exact ⟨fr, cd, bl', qs', rfl, H1.out, H2.out, H3.out, H4.out⟩
theorem enters_pin1 : Enters 35 := fun args wx => by simp [callFunc, go_sem, Try.func35, Try.f35]
theorem implPoolPin_any (v : Value) (hand page : Int) (ps : List EFrame) (w : World) (hv : RdR kFrame w v ps) :
    Calls Try.prog 11 #[.agg #[v, .int .i64 hand], .int .i64 page] w fun e w' => ∃ cd fr a n c hd qs, e = .returned (.agg #[.int .i64 cd, .int .i64 fr, .slice a n c, .int .i64 hd]) ∧ (cd, fr, hd, datFrameS qs) = pinP ps hand page ∧ (∀ b, footR kFrame (.slice a n c) qs b → w.heap.size ≤ b) ∧ OwnR kFrame 0 36 5 w' (.slice a n c) qs ∧ Same w w' := by
  obtain ⟨a, c, rfl⟩ := hv.form
  obtain ⟨wa, hwa⟩ : ∃ x, x = (w.alloc (.cells #[.slice a ps.length c, .int .i64 hand] 25)).alloc (.cells #[.int .i64 page] 2) := ⟨_, rfl⟩
  have hka : Same w wa := by rw [hwa]; exact ((Kept.refl _ _).alloc _).alloc _
  have hza : wa.heap.size = w.heap.size + 1 + 1 := by rw [hwa]; simp
  have b0 : Blk wa w.heap.size 25 [.slice a ps.length c, .int .i64 hand] := by rw [hwa]; exact Blk.newA w _ _ _ _
  have bC : Blk wa (w.heap.size + 1) 2 [.int .i64 page] := by rw [hwa]; exact Blk.newB w _ _ _ _
  have k0 := turned_any 35 #[.pointer (some ⟨w.heap.size + 1, 0, none⟩)] (.slice a ps.length c) hand ps (pinT page ps) (wa.alloc (.cells #[.int .i64 0, .int .i64 0, .slice none 0 0, .int .i64 0] 33)) (hv.same (hka.alloc _)) enters_pin1 (fun wx P g n cap bl qs hf hn hd hq hk hb => by
    have h := pin1_any page (w.heap.size + 1) P hand g n cap bl qs wx hf hn (fun p hp => (frame_of ((poolF_dat hd).trans hq) p hp).1) ((bC.alloc _).same hk)
    rw [pinT_dat hd] at h
    exact h)
  have bR := Blk.newL wa [.int .i64 0, .int .i64 0, .slice none 0 0, .int .i64 0] 33
  obtain ⟨g0, g1⟩ := b0.all2
  have l0 := b0.lt
  have hmf : ∀ (fn : Fn) (first cap : Array Value) (w : World), (Instr.makeFunc fn first cap).run Try.prog w = .ok (.func fn first cap) w := fun _ _ _ _ => rfl
  rw [hza] at bR
  have HKA := hid hka
  have HZ := hid hza
  clear hv bC b0 hka
  go_enter Try.func11, Try.ntmps11
  go_wp2_with fail
  rw [← hwa]
  clear hwa
  refine k0.mono ?_
  rintro e w1 ⟨cd, fr, a1, n1, c1, hd, qs, rfl, hR, hf, ho, hk1⟩
  have HR := (show Hid ((cd, fr, hd, datFrameS qs) = turnP (pinT page ps) ps hand) from hR)
  have HK1 := (show Hid (Same w w1) from (HKA.out.alloc _).trans hk1)
  have HB1 := hid (bR.same hk1)
  have HF : Hid (∀ b, footR kFrame (.slice a1 n1 c1) qs b → w.heap.size + 1 + 1 < b) := fun b hb => by have h := hf b hb; simp only [World.size_alloc] at h; omega
  have HO := (show Hid (OwnR kFrame 0 36 5 w1 (.slice a1 n1 c1) qs) from ho)
  clear hk1 bR k0 hR hf ho g0 g1 hza
  obtain ⟨z0, z1, z2, z3⟩ := HB1.out.all4
  have fz := HB1.out.frozen
  have lz := HB1.out.lt
  go_wp2
  refine bodyPost_ret (v := .agg #[.int .i64 cd, .int .i64 fr, .slice a1 n1 c1, .int .i64 hd]) (by simp [results, Try.results11, go_sem, z0, z1, z2, z3]) rfl ⟨cd, fr, a1, n1, c1, hd, qs, rfl, by rw [pinP_turn]; exact HR.out, fun b hb => by have := HF.out b hb; omega, HO.out.kept (R := fun b => b = w.heap.size + 1 + 1) ?_ (fun b hb e => by have := HF.out b hb; omega), ?_⟩
  · (iterate 4 refine Kept.setCell (R := fun b => b = w.heap.size + 1 + 1) ?_ (.inr rfl) _)
    exact Kept.refl _ _
  · (iterate 4 refine Kept.setCell ?_ (.inl (by show w.heap.size ≤ w.heap.size + 1 + 1; omega)) _)
    exact HK1.out
end Go.Proofs.Ytbbllmlokddolaa

namespace Go.Proofs.Ytbbllmlokddolaa
set_option maxRecDepth 100000
set_option maxHeartbeats 4000000
open Go.RowKit
set_option linter.unusedVariables false
set_option linter.unusedSimpArgs false
theorem unpinT_dat {page : Int} {ps qs : List EFrame} (h : datFrameS qs = datFrameS ps) : unpinT page qs = unpinT page ps := by
  unfold unpinT
  rw [findB_dat h, h]
theorem unpinP_turn (ps : List EFrame) (hand page : Int) : unpinP ps hand page = turnP (unpinT page ps) ps hand := by
  by_cases h0 : poolF ps hand ≠ 0
  · unfold unpinP pinsP turnP
    rw [if_pos h0, show atP ps hand page = (0, 1) from if_pos h0, if_pos (by simp)]
  have h1 : poolF ps hand = 0 := Classical.not_not.1 h0
  by_cases h2 : findB page ps = -1
  · unfold unpinP pinsP turnP
    rw [if_neg h0, atP_none h1 h2, if_pos (by simp)]
    have e : unpinT page ps = (2, 0, datFrameS ps) := if_pos h2
    rw [e, if_pos (by simp)]
  obtain ⟨j, hj, hjl⟩ := findB_lt h2
  have hp := (frame_of h1 _ (List.getElem_mem hjl)).1
  have hd : ps[j].dat.2.2.1 = ps[j].pins := rfl
  by_cases h3 : ps[j].dat.2.2.1 ≤ 0
  · have e : unpinT page ps = (3, 0, datFrameS ps) := by
      unfold unpinT
      rw [if_neg h2, hj, Int.toNat_natCast, dat_at (List.getElem?_eq_getElem hjl)]
      exact if_pos h3
    have hL : unpinP ps hand page = (3, 0, 0, []) := by
      unfold unpinP pinsP
      rw [atP_some h1 h2, if_neg (by simp)]
      dsimp only
      rw [hj, Int.toNat_natCast, dat_at (List.getElem?_eq_getElem hjl)]
      exact if_pos (by simp only [inB, hd] at h3 ⊢; simp; omega)
    have hR : turnP (unpinT page ps) ps hand = (3, 0, 0, []) := by
      unfold turnP
      rw [if_neg h0, e]
      rfl
    rw [hL, hR]
  · have e : unpinT page ps = (0, (j : Int), (datFrameS ps).set j (ps[j].dat.1, ps[j].dat.2.1, ps[j].dat.2.2.1 - 1, ps[j].dat.2.2.2.1, ps[j].dat.2.2.2.2.1, ps[j].dat.2.2.2.2.2)) := by
      unfold unpinT
      rw [if_neg h2, hj, Int.toNat_natCast, dat_at (List.getElem?_eq_getElem hjl)]
      exact if_neg h3
    have hL : unpinP ps hand page = (0, (j : Int), hand, (datFrameS ps).set j (ps[j].dat.1, ps[j].dat.2.1, ps[j].dat.2.2.1 - 1, ps[j].dat.2.2.2.1, ps[j].dat.2.2.2.2.1, ps[j].dat.2.2.2.2.2)) := by
      unfold unpinP pinsP
      rw [atP_some h1 h2, if_neg (by simp)]
      dsimp only
      rw [hj, Int.toNat_natCast, dat_at (List.getElem?_eq_getElem hjl)]
      refine (if_neg (by simp only [inB, hd] at h3 ⊢; simp; omega)).trans ?_
      simp [Int.sub_eq_add_neg]
    have hR : turnP (unpinT page ps) ps hand = (0, (j : Int), hand, (datFrameS ps).set j (ps[j].dat.1, ps[j].dat.2.1, ps[j].dat.2.2.1 - 1, ps[j].dat.2.2.2.1, ps[j].dat.2.2.2.2.1, ps[j].dat.2.2.2.2.2)) := by
      unfold turnP
      rw [if_neg h0, e]
      rfl
    rw [hL, hR]
theorem unpin1_any (page : Int) (C : Nat) (P : Nat) (hand : Int) (g n cap : Nat) (bl : List Nat) (ps : List EFrame) (w : World) (h : FP w P hand g n cap bl ps) (hn : n ≤ 16) (hpin : ∀ p ∈ ps, 0 ≤ p.pins ∧ p.pins ≤ 2147483647) (hc : Blk w C 2 [.int .i64 page]) :
    Calls Try.prog 37 #[.pointer (some ⟨P, 0, none⟩), .pointer (some ⟨C, 0, none⟩)] w fun e w' => ∃ fr cd bl' qs', e = .returned (.tuple #[.int .i64 fr, .int .i64 cd]) ∧ FP w' P hand g n cap bl' qs' ∧ (cd, fr, datFrameS qs') = unpinT page ps ∧ (∀ b, footS kFrame bl' qs' b → footS kFrame bl ps b ∨ w.heap.size ≤ b) ∧ Kept (footFP P g bl ps) w w' := by
  have c0 := hc.c0
  have k0 := unpinM_any page P hand g n cap bl ps w h hn hpin
  clear h hpin hc
  go_enter Try.func37, Try.ntmps37
  go_wp2_with fail
  refine k0.mono ?_
  rintro e w1 ⟨fr, cd, bl', qs', rfl, hf, ht, hn', hk⟩
  have H1 := hid hf
  have H2 := hid ht
  have H3 := hid hn'
  have H4 := hid hk
  clear hf ht hn' hk k0
  go_wp2
  go_ret2
  exact ⟨fr, cd, bl', qs', rfl, H1.out, H2.out, H3.out, H4.out⟩
theorem enters_unpin1 : Enters 37 := fun args wx => by simp [callFunc, go_sem, Try.func37, Try.f37]
theorem implPoolUnpin_any (v : Value) (hand page : Int) (ps : List EFrame) (w : World) (hv : RdR kFrame w v ps) :
    Calls Try.prog 12 #[.agg #[v, .int .i64 hand], .int .i64 page] w fun e w' => ∃ cd fr a n c hd qs, e = .returned (.agg #[.int .i64 cd, .int .i64 fr, .slice a n c, .int .i64 hd]) ∧ (cd, fr, hd, datFrameS qs) = unpinP ps hand page ∧ (∀ b, footR kFrame (.slice a n c) qs b → w.heap.size ≤ b) ∧ OwnR kFrame 0 36 5 w' (.slice a n c) qs ∧ Same w w' := by
  obtain ⟨a, c, rfl⟩ := hv.form
  obtain ⟨wa, hwa⟩ : ∃ x, x = (w.alloc (.cells #[.slice a ps.length c, .int .i64 hand] 25)).alloc (.cells #[.int .i64 page] 2) := ⟨_, rfl⟩
  have hka : Same w wa := by rw [hwa]; exact ((Kept.refl _ _).alloc _).alloc _
  have hza : wa.heap.size = w.heap.size + 1 + 1 := by rw [hwa]; simp
  have b0 : Blk wa w.heap.size 25 [.slice a ps.length c, .int .i64 hand] := by rw [hwa]; exact Blk.newA w _ _ _ _
  have bC : Blk wa (w.heap.size + 1) 2 [.int .i64 page] := by rw [hwa]; exact Blk.newB w _ _ _ _
  have k0 := turned_any 37 #[.pointer (some ⟨w.heap.size + 1, 0, none⟩)] (.slice a ps.length c) hand ps (unpinT page ps) (wa.alloc (.cells #[.int .i64 0, .int .i64 0, .slice none 0 0, .int .i64 0] 33)) (hv.same (hka.alloc _)) enters_unpin1 (fun wx P g n cap bl qs hf hn hd hq hk hb => by
    have h := unpin1_any page (w.heap.size + 1) P hand g n cap bl qs wx hf hn (fun p hp => (frame_of ((poolF_dat hd).trans hq) p hp).1) ((bC.alloc _).same hk)
    rw [unpinT_dat hd] at h
    exact h)
  have bR := Blk.newL wa [.int .i64 0, .int .i64 0, .slice none 0 0, .int .i64 0] 33
  obtain ⟨g0, g1⟩ := b0.all2
  have l0 := b0.lt
  have hmf : ∀ (fn : Fn) (first cap : Array Value) (w : World), (Instr.makeFunc fn first cap).run Try.prog w = .ok (.func fn first cap) w := fun _ _ _ _ => rfl
  rw [hza] at bR
  have HKA := hid hka
  have HZ := hid hza
  clear hv bC b0 hka
  go_enter Try.func12, Try.ntmps12
  go_wp2_with fail
  rw [← hwa]
  clear hwa
  refine k0.mono ?_
  rintro e w1 ⟨cd, fr, a1, n1, c1, hd, qs, rfl, hR, hf, ho, hk1⟩
  have HR := (show Hid ((cd, fr, hd, datFrameS qs) = turnP (unpinT page ps) ps hand) from hR)
  have HK1 := (show Hid (Same w w1) from (HKA.out.alloc _).trans hk1)
  have HB1 := hid (bR.same hk1)
  have HF : Hid (∀ b, footR kFrame (.slice a1 n1 c1) qs b → w.heap.size + 1 + 1 < b) := fun b hb => by have h := hf b hb; simp only [World.size_alloc] at h; omega
  have HO := (show Hid (OwnR kFrame 0 36 5 w1 (.slice a1 n1 c1) qs) from ho)
  clear hk1 bR k0 hR hf ho g0 g1 hza
  obtain ⟨z0, z1, z2, z3⟩ := HB1.out.all4
  have fz := HB1.out.frozen
  have lz := HB1.out.lt
  go_wp2
  refine bodyPost_ret (v := .agg #[.int .i64 cd, .int .i64 fr, .slice a1 n1 c1, .int .i64 hd]) (by simp [results, Try.results12, go_sem, z0, z1, z2, z3]) rfl ⟨cd, fr, a1, n1, c1, hd, qs, rfl, by rw [unpinP_turn]; exact HR.out, fun b hb => by have := HF.out b hb; omega, HO.out.kept (R := fun b => b = w.heap.size + 1 + 1) ?_ (fun b hb e => by have := HF.out b hb; omega), ?_⟩
  · (iterate 4 refine Kept.setCell (R := fun b => b = w.heap.size + 1 + 1) ?_ (.inr rfl) _)
    exact Kept.refl _ _
  · (iterate 4 refine Kept.setCell ?_ (.inl (by show w.heap.size ≤ w.heap.size + 1 + 1; omega)) _)
    exact HK1.out
end Go.Proofs.Ytbbllmlokddolaa
