import Derived.Test.YtbbllmlokddolaaG05
import Derived.Test.YtbbllmlokddolaaG00
import Derived.Test.YtbbllmlokddolaaG03
import Derived.Test.YtbbllmlokddolaaG01
import Derived.Test.YtbbllmlokddolaaG04
import Derived.Laws.BytesArg
import Derived.Laws.IdiomCopy
namespace Go.Proofs.Ytbbllmlokddolaa
set_option maxRecDepth 100000
set_option maxHeartbeats 2000000
open Go.RowKit
set_option linter.unusedVariables false
def atS (cs : List Int) (k : Nat) (n : Int) : Int := if cs.length = 0 then ((k : Int) * 7) % n else (cs.getD (k % cs.length) 0 + ((k / cs.length : Nat) : Int)) % n
theorem atS_in (cs : List Int) (k : Nat) (n : Int) (hn : 1 < n) : 0 ≤ atS cs k n ∧ atS cs k n < n := by
  unfold atS
  split
  · exact ⟨Int.emod_nonneg _ (by omega), Int.emod_lt_of_pos _ (by omega)⟩
  · exact ⟨Int.emod_nonneg _ (by omega), Int.emod_lt_of_pos _ (by omega)⟩
theorem lwAtS_any (v : Value) (cs : List Int) (k : Nat) (n : Int) (w : World) (hb : IsB cs) (hfew : cs.length ≤ 1048576) (hk : k ≤ 1048576) (hn : 1 < n) (hn2 : n ≤ 200) (hv : Rd .u8 w v cs) :
    Calls Try.prog 5 #[v, .int .i64 k, .int .i64 n] w fun e w' => e = .returned (.int .i64 (atS cs k n)) ∧ Same w w' := by
  obtain ⟨a, c, rfl⟩ := hv.form
  by_cases h2 : cs.length = 0
  · have e0 : ((cs.length : Nat) : Int) = 0 := by omega
    rw [show atS cs k n = ((k : Int) * 7) % n from if_pos h2, h2]
    have q7 : IntKind.i64.wrap ((k : Int) * 7) = (k : Int) * 7 := by rw [IntKind.wrap_i64]; omega
    go_enter Try.func5, Try.ntmps5
    go_wp2
    go_ret
    exact ⟨rfl, Kept.refl _ _⟩
  · obtain ⟨b, off, rfl, hc⟩ : ∃ b off, a = some ⟨b, off, none⟩ ∧ ∀ i, i < cs.length → w.cell? ⟨b, off + i, none⟩ = some (.int .u8 (cs.getD i 0)) := by
      rcases hv.2 with ⟨hnil, _⟩ | ⟨b, off, c', h, _, hc⟩
      · rw [hnil] at h2
        simp at h2
      · cases h
        exact ⟨b, off, rfl, hc⟩
    have q1 := hc (k % cs.length) (Nat.mod_lt _ (by omega))
    have x1 := hb.at (k % cs.length) (Nat.mod_lt _ (by omega))
    have m1 : (k : Int) % (cs.length : Int) = ((k % cs.length : Nat) : Int) := by simp
    have l1 := Nat.mod_lt k (y := cs.length) (by omega)
    have d1 : (k : Int) / (cs.length : Int) = ((k / cs.length : Nat) : Int) := by simp
    have d2 : k / cs.length ≤ k := Nat.div_le_self _ _
    rw [show atS cs k n = (cs.getD (k % cs.length) 0 + ((k / cs.length : Nat) : Int)) % n from if_neg h2]
    clear hc hv hb
    generalize cs.getD (k % cs.length) 0 = x at *
    generalize k % cs.length = i1 at *
    generalize k / cs.length = j1 at *
    generalize hl : cs.length = len at *
    have hl0 : (0 : Int) < (len : Int) := by omega
    have hl1 : ¬ (len : Int) = 0 := by omega
    have l1' : (i1 : Int) < (len : Int) := by omega
    go_enter Try.func5, Try.ntmps5
    go_wp2
    go_quiet (fail)
    go_wp2
    go_ret
    exact ⟨rfl, (Kept.refl _ _).drewN _⟩
end Go.Proofs.Ytbbllmlokddolaa

namespace Go.Proofs.Ytbbllmlokddolaa
set_option maxRecDepth 100000
set_option maxHeartbeats 2000000
open Go.RowKit
set_option linter.unusedVariables false
set_option linter.unusedSimpArgs false
theorem conv_any {w : World} {v : Value} {bs : List Int} (h : Rd .u8 w v bs) : (convert 22 9 v).run Try.prog w = .ok (.string (strOfNums bs)) w := by
  rcases h.2 with ⟨rfl, a, c, rfl, _⟩ | ⟨b, off, c, rfl, _, hc⟩
  · rw [run_convert_bytes_string w 22 9 5 _ 0 c (by kernel_rfl) (by kernel_rfl) (by kernel_rfl)]
    cases a <;> simp [Conv.bytesToString, loadCells]
    all_goals rfl
  · exact run_convert_bytes_arg w 22 5 (by kernel_rfl) (by kernel_rfl) b off bs.length c bs rfl hc 9 (by kernel_rfl)
end Go.Proofs.Ytbbllmlokddolaa

namespace Go.Proofs.Ytbbllmlokddolaa
set_option maxRecDepth 100000
set_option maxHeartbeats 8000000
open Go.RowKit
set_option linter.unusedVariables false
set_option linter.unusedSimpArgs false
theorem sameB_any (va vb : Value) (xs : List Int) (w : World) (hra : Rd .u8 w va xs) (hrb : Rd .u8 w vb xs) :
    Calls Try.prog 14 #[va, vb] w fun e w' => e = .returned (.bool true) ∧ Same w w' := by
  have h1 := conv_any hra
  have h2 := conv_any hrb
  clear hra hrb
  generalize strOfNums xs = s at *
  go_enter Try.func14, Try.ntmps14
  go_wp2
  go_ret
  exact ⟨rfl, Kept.refl _ _⟩
end Go.Proofs.Ytbbllmlokddolaa

namespace Go.Proofs.Ytbbllmlokddolaa
set_option maxRecDepth 100000
set_option maxHeartbeats 8000000
open Go.RowKit
set_option linter.unusedVariables false
set_option linter.unusedSimpArgs false
section
variable {w : World} {P : Nat} {hand : Int} {g n cap : Nat} {bl : List Nat} {ps : List EFrame}
theorem FP.setHand (h : FP w P hand g n cap bl ps) (x : Int) : FP (w.setCell ⟨P, 1, none⟩ (.int .i64 x)) P x g n cap bl ps := by
  have hk : Kept (fun b => b = P) w (w.setCell ⟨P, 1, none⟩ (.int .i64 x)) := Kept.setCell (R := fun b => b = P) (Kept.refl _ _) (p := ⟨P, 1, none⟩) (.inr rfl) _
  exact ⟨h.top.stored 1 _, h.len, hk.owns h.row (fun b hb e => h.pg (by simp [Value.ownBlock] at hb; rw [hb, e])), h.ptr.kept hk (fun b hb e => h.outP (e ▸ hb)), h.pg, h.outP, h.outg⟩
end
theorem pass_any (P hn g n cap : Nat) (bl : List Nat) (ps : List EFrame) (w : World) (h : FP w P (hn : Int) g n cap bl ps) (hh : hn < n) (h16 : n ≤ 16) :
    Calls Try.prog 51 #[.pointer (some ⟨P, 0, none⟩)] w fun e w' => ∃ b, bl[hn]? = some b ∧ e = .returned (.tuple #[.int .i64 hn, .pointer (some ⟨b, 0, none⟩)]) ∧ FP w' P (((hn + 1) % n : Nat) : Int) g n cap bl ps ∧ Kept (fun b => b = P) w w' := by
  obtain ⟨b, p, hb, hp, hc, _⟩ := h.at hn hh
  have HB := hid hb
  obtain ⟨x0, x1⟩ := h.top.all2
  have fx := h.top.frozen
  have HF := hid (h.setHand (((hn + 1) % n : Nat) : Int))
  have HK := (show Hid (Kept (fun b => b = P) w (w.setCell ⟨P, 1, none⟩ (.int .i64 (((hn + 1) % n : Nat) : Int)))) from Kept.setCell (R := fun b => b = P) (Kept.refl _ _) (p := ⟨P, 1, none⟩) (.inr rfl) _)
  have hpg := h.pg
  have hgp : ¬ g = P := fun e => hpg e.symm
  have hrm := rem_nat hn n (by omega)
  have hnx : (hn + 1) % n < n := Nat.mod_lt _ (by omega)
  obtain ⟨nx, hnx'⟩ : ∃ x, (hn + 1) % n = x := ⟨_, rfl⟩
  rw [hnx'] at hrm hnx HF HK ⊢
  have hwh : IntKind.i64.wrap ((hn : Int) + 1) = (hn : Int) + 1 := by rw [IntKind.wrap_i64]; omega
  have hwr : IntKind.i64.wrap (nx : Int) = (nx : Int) := by rw [IntKind.wrap_i64]; omega
  have hn0 : ¬ (n : Int) = 0 := by omega
  have hhi : (hn : Int) < (n : Int) := by omega
  clear h hb hp hnx'
  go_enter Try.func51, Try.ntmps51
  go_wp2_with fail
  have hS : (fun wx : World => wx.cell? ⟨P, 0, none⟩ = some (.slice (some ⟨g, 0, none⟩) n cap) ∧ wx.cell? ⟨g, hn, none⟩ = some (.pointer (some ⟨b, 0, none⟩))) (w.setCell ⟨P, 1, none⟩ (.int .i64 nx)).drew := ⟨HF.out.top.cell 0, by
    obtain ⟨b', p', hb', _, hc', _⟩ := HF.out.at hn hh
    rw [HB.out] at hb'
    obtain rfl := Option.some.inj hb'
    exact hc'⟩
  refine wp_region_V (fun wx : World => wx.cell? ⟨P, 0, none⟩ = some (.slice (some ⟨g, 0, none⟩) n cap) ∧ wx.cell? ⟨g, hn, none⟩ = some (.pointer (some ⟨b, 0, none⟩))) 9 10 rfl (by kernel_rfl) ?_
  refine tk 0 20 hS ?_
  refine tk 1 21 hS ?_
  refine tk 2 22 hS ?_
  refine tk 3 23 hS ?_
  refine tk 4 24 hS ?_
  refine tk 5 25 hS ?_
  refine tk 6 26 hS ?_
  refine tk 7 27 hS ?_
  refine tk 8 2 hS ?_
  refine wpAnyV_one (i := 9) (by kernel_rfl) rfl (fun K hK => ?_)
  go_simp
  refine hK.out _ _ (fun h => absurd rfl h) ?_
  clear hK K
  refine wpAnyV_done (by kernel_rfl) ?_
  try simp only [Act.put, sA, s0, sS]
  go_wp2
  go_ret2
  exact ⟨b, HB.out, rfl, HF.out.same (Kept.refl _ _).drew, HK.out.drew⟩
theorem victim_any (P hn g n cap : Nat) (bl : List Nat) (ps : List EFrame) (w : World) (h : FP w P (hn : Int) g n cap bl ps) (hh : hn < n) (h16 : n ≤ 16) :
    Calls Try.prog 32 #[.pointer (some ⟨P, 0, none⟩)] w fun e w' => ∃ (r cd hd : Int) (qs : List EFrame), e = .returned (.tuple #[.int .i64 r, .int .i64 cd]) ∧ FP w' P hd g n cap bl qs ∧ (∀ b, footS kFrame bl qs b → footS kFrame bl ps b) ∧ Kept (footFP P g bl ps) w w' ∧
      ((findFrom (-1) 0 ps ≠ -1 ∧ cd = 0 ∧ r = findFrom (-1) 0 ps ∧ hd = hn ∧ datFrameS qs = datFrameS ps) ∨ (findFrom (-1) 0 ps = -1 ∧ ((clk (n + n) (datFrameS ps) hn = none ∧ cd = 2) ∨ ∃ R, clk (n + n) (datFrameS ps) hn = some R ∧ cd = 0 ∧ r = (R.1 : Int) ∧ hd = (R.2.1 : Int) ∧ datFrameS qs = R.2.2))) := by
  have k0 := first_any (-1) P (hn : Int) g n cap bl ps w h h16
  have HF := (show Hid (FP w P (hn : Int) g n cap bl ps) from h)
  obtain ⟨ff, hff⟩ : ∃ x, findFrom (-1) 0 ps = x := ⟨_, rfl⟩
  rw [hff] at k0 ⊢
  clear h hff
  by_cases h1 : ff = -1
  case neg =>
    have hb1 : (ff != -1) = true := by simp [h1]
    have H1 := hid h1
    clear h1
    go_enter Try.func32, Try.ntmps32
    go_wp2_with fail
    refine k0.mono ?_
    rintro e w1 ⟨rfl, hk1⟩
    have HK1 := hid hk1
    clear hk1
    go_wp2
    go_ret2
    exact ⟨ff, 0, (hn : Int), ps, rfl, HF.out.same HK1.out, fun b hb => hb, HK1.out.mono (fun _ _ e => e.elim), .inl ⟨H1.out, rfl, rfl, rfl, rfl⟩⟩
  subst h1
  obtain ⟨O, hO⟩ : ∃ x, clk (n + n) (datFrameS ps) hn = x := ⟨_, rfl⟩
  rw [hO]
  have HO := hid hO
  clear hO
  have hw2 : IntKind.i64.wrap (2 * (n : Int)) = 2 * (n : Int) := by rw [IntKind.wrap_i64]; omega
  go_enter Try.func32, Try.ntmps32
  go_wp2_with fail
  refine k0.mono ?_
  rintro e w1 ⟨rfl, hk1⟩
  have HK1 := hid hk1
  obtain ⟨x0, x1⟩ := (HF.out.same hk1).top.all2
  clear hk1 k0
  go_wp2_with fail
  go_loopw [19] (fun i wr => ∃ (k h : Nat) (qs : List EFrame), k ≤ n + n ∧ i = .int .i64 k ∧ h < n ∧ Hid (clk (n + n - k) (datFrameS qs) h = O) ∧ Hid (FP wr P (h : Int) g n cap bl qs) ∧ Hid (∀ b, footS kFrame bl qs b → footS kFrame bl ps b) ∧ Hid (Kept (footFP P g bl ps) w wr)) (fun i _ => n + n - (intOf i).toNat)
  case atStart => exact ⟨0, hn, ps, Nat.zero_le _, rfl, hh, HO, HF.out.same HK1.out, fun b hb => hb, HK1.out.mono (fun _ _ e => e.elim)⟩
  case round =>
    obtain ⟨k, h, qs, hk, rfl, hh', HC, HFr, HFT, HK⟩ := hrel
    clear x0 x1
    by_cases hlt : k < n + n
    · have hki : (k : Int) < 2 * (n : Int) := by omega
      obtain ⟨x0, x1⟩ := HFr.out.top.all2
      have HPP : Hid (footFP P g bl ps P) := .inl rfl
      go_wp2_with fail
      refine (pass_any P h g n cap bl qs _ HFr.out hh' h16).mono ?_
      rintro e w2 ⟨b, hb, rfl, hf2, hk2⟩
      have HF2 := hid hf2
      have HK2 := (show Hid (Kept (footFP P g bl ps) w w2) from HK.out.next hk2 (fun i hi e => by rw [e]; exact HPP.out))
      obtain ⟨b', p, hb', hp, _, hblk⟩ := hf2.at h hh'
      rw [hb] at hb'
      obtain rfl := Option.some.inj hb'
      have HB := hid hb
      have HP := hid hp
      have hlq : h < qs.length := (List.getElem?_eq_some_iff.1 hp).1
      have hda : (datFrameS qs)[h]? = some p.dat := dat_at hp
      have hdl : (datFrameS qs).length = n := by rw [datFrameS_length]; exact hf2.len.symm
      have c2 := hblk.c2
      have c5 := hblk.c5
      have fb := hblk.frozen
      have hstep : n + n - k = (n + n - (k + 1)) + 1 := by omega
      have HIN : Hid (footFP P g bl ps b) := .inr (.inr (.inl (List.mem_of_getElem? hb)))
      have hnx : (h + 1) % n < n := Nat.mod_lt _ (by omega)
      have HNX := hid hnx
      clear hf2 hk2 hblk hb hp x0 x1 hnx
      by_cases hpp : 0 < p.pins
      · have HC2 : Hid (clk (n + n - (k + 1)) (datFrameS qs) ((h + 1) % n) = O) := by
          have hx := HC.out
          rw [hstep, clk_pinned hda hpp, hdl] at hx
          exact hx
        clear hda hdl hstep
        go_wp2
        go_roundw
        case rel => exact ⟨k + 1, (h + 1) % n, qs, by omega, by go_num, HNX.out, HC2, HF2, HFT, HK2⟩
        case measure => simp [intOf]; omega
      · cases hrf : p.rf with
        | false =>
          rw [hrf] at c5
          have HC2 : Hid (O = some (h, (h + 1) % n, datFrameS qs)) := by
            have hx := HC.out
            rw [hstep, clk_found hda hpp hrf, hdl] at hx
            exact hx.symm
          clear hda hdl hstep
          go_wp2
          go_ret2
          first | exact ⟨(h : Int), 0, _, qs, rfl, HF2.out, HFT.out, HK2.out, .inr ⟨rfl, .inr ⟨_, HC2.out, rfl, rfl, rfl, rfl⟩⟩⟩ | exact ⟨(h : Int), 0, _, qs, rfl, HF2.out, HFT.out, HK2.out, .inr ⟨by trivial, .inr ⟨_, HC2.out, rfl, rfl, rfl, rfl⟩⟩⟩ | exact ⟨(h : Int), 0, _, qs, rfl, HF2.out, HFT.out, HK2.out, .inr (.inr ⟨_, HC2.out, rfl, rfl, rfl, rfl⟩)⟩
        | true =>
          rw [hrf] at c5
          have HRE : Hid (datFrameS (qs.set h (⟨p.page, p.v, p.bs, p.pins, p.dirty, p.rl, false⟩ : EFrame)) = (datFrameS qs).set h (unref p.dat)) := by
            unfold Hid
            rw [dat_set]
            rfl
          have HC2 : Hid (clk (n + n - (k + 1)) (datFrameS (qs.set h (⟨p.page, p.v, p.bs, p.pins, p.dirty, p.rl, false⟩ : EFrame))) ((h + 1) % n) = O) := by
            have hx := HC.out
            rw [hstep, clk_ref hda hpp hrf, hdl, ← HRE.out] at hx
            exact hx
          have HF3 := (show Hid (FP (w2.setCell ⟨b, 5, none⟩ (.bool false)) P (((h + 1) % n : Nat) : Int) g n cap bl (qs.set h (⟨p.page, p.v, p.bs, p.pins, p.dirty, p.rl, false⟩ : EFrame))) from FP.storeOwn (i := 5) (u := .bool false) (p' := (⟨p.page, p.v, p.bs, p.pins, p.dirty, p.rl, false⟩ : EFrame)) HF2.out HB.out HP.out rfl rfl rfl)
          have HFT3 : Hid (∀ b, footS kFrame bl (qs.set h (⟨p.page, p.v, p.bs, p.pins, p.dirty, p.rl, false⟩ : EFrame)) b → footS kFrame bl ps b) := fun b hb => HFT.out b (footS_set (p' := (⟨p.page, p.v, p.bs, p.pins, p.dirty, p.rl, false⟩ : EFrame)) HP.out rfl b hb)
          have HK3 := (show Hid (Kept (footFP P g bl ps) w (w2.setCell ⟨b, 5, none⟩ (.bool false))) from HK2.out.next (R' := fun x => x = b) (Kept.setCell (R := fun x => x = b) (Kept.refl _ _) (p := ⟨b, 5, none⟩) (.inr rfl) _) (fun i hi e => by rw [e]; exact HIN.out))
          clear hda hdl hstep
          go_wp2
          go_roundw
          case rel => exact ⟨k + 1, (h + 1) % n, _, by omega, by go_num, HNX.out, HC2, HF3, HFT3, HK3⟩
          case measure => simp [intOf]; omega
    · obtain rfl : k = n + n := by omega
      have HC2 : Hid (O = none) := by
        have hx := HC.out
        rw [Nat.sub_self] at hx
        exact hx.symm
      go_wp2
      go_ret2
      first | exact ⟨0, 2, _, qs, rfl, HFr.out, HFT.out, HK.out, .inr ⟨rfl, .inl ⟨HC2.out, rfl⟩⟩⟩ | exact ⟨0, 2, _, qs, rfl, HFr.out, HFT.out, HK.out, .inr ⟨by trivial, .inl ⟨HC2.out, by first | rfl | trivial⟩⟩⟩ | exact ⟨0, 2, _, qs, rfl, HFr.out, HFT.out, HK.out, .inl ⟨HC2.out, rfl⟩⟩
end Go.Proofs.Ytbbllmlokddolaa

namespace Go.Proofs.Ytbbllmlokddolaa
set_option maxRecDepth 100000
set_option maxHeartbeats 4000000
open Go.RowKit
set_option linter.unusedVariables false
set_option linter.unusedSimpArgs false
def TurnsH (fid : FuncId) (xs : Array Value) (hand : Int) (ps : List EFrame) (T : Int × Int × Int × List (Int × List Int × Int × Bool × Int × Bool)) (w : World) : Prop :=
  ∀ (wx : World) (P g n cap : Nat) (bl : List Nat) (qs : List EFrame), FP wx P hand g n cap bl qs → n ≤ 16 → datFrameS qs = datFrameS ps → poolF ps hand = 0 → Same w wx → (∀ b, footFP P g bl qs b → w.heap.size ≤ b) →
    Calls Try.prog fid (#[.pointer (some ⟨P, 0, none⟩)] ++ xs) wx fun e w' => ∃ fr cd hd bl' qs', e = .returned (.tuple #[.int .i64 fr, .int .i64 cd]) ∧ FP w' P hd g n cap bl' qs' ∧ ((cd ≠ 0 ∧ T.1 = cd) ∨ (cd = 0 ∧ T = (0, fr, hd, datFrameS qs'))) ∧ (∀ b, footS kFrame bl' qs' b → footS kFrame bl qs b ∨ wx.heap.size ≤ b) ∧ Kept (footFP P g bl qs) wx w'
def turnHP (T : Int × Int × Int × List (Int × List Int × Int × Bool × Int × Bool)) (ps : List EFrame) (hand : Int) : Int × Int × Int × List (Int × List Int × Int × Bool × Int × Bool) :=
  if poolF ps hand ≠ 0 then (1, 0, 0, []) else if T.1 ≠ 0 then (T.1, 0, 0, []) else T
theorem turnedH_any (fid : FuncId) (xs : Array Value) (v : Value) (hand : Int) (ps : List EFrame) (T : Int × Int × Int × List (Int × List Int × Int × Bool × Int × Bool)) (w : World) (hv : RdR kFrame w v ps) (hent : Enters fid) (hT : TurnsH fid xs hand ps T w) :
    Calls Try.prog 30 #[.agg #[v, .int .i64 hand], .func (.func fid) #[] xs] w fun e w' => ∃ cd fr a n c hd qs, e = .returned (.agg #[.int .i64 cd, .int .i64 fr, .slice a n c, .int .i64 hd]) ∧ (cd, fr, hd, datFrameS qs) = turnHP T ps hand ∧ (∀ b, footR kFrame (.slice a n c) qs b → w.heap.size ≤ b) ∧ OwnR kFrame 0 36 5 w' (.slice a n c) qs ∧ Same w w' := by
  obtain ⟨a, c, rfl⟩ := hv.form
  have hk0 : Same w ((w.alloc (.cells #[.slice a ps.length c, .int .i64 hand] 25)).alloc (.cells #[.int .i64 0, .int .i64 0, .slice none 0 0, .int .i64 0] 33)) := ((Kept.refl _ _).alloc _).alloc _
  have b0 := Blk.newA w [.slice a ps.length c, .int .i64 hand] 25 [.int .i64 0, .int .i64 0, .slice none 0 0, .int .i64 0] 33
  have b1 := Blk.newB w [.slice a ps.length c, .int .i64 hand] 25 [.int .i64 0, .int .i64 0, .slice none 0 0, .int .i64 0] 33
  have k0 := implPoolFault_any (.slice a ps.length c) hand ps _ (hv.same hk0)
  have HV := (show Hid (RdR kFrame w (.slice a ps.length c) ps) from hv)
  have HT := (show Hid (TurnsH fid xs hand ps T w) from hT)
  have hent' : ∀ (args : Array Value) (wx : World), (callFunc fid args).run Try.prog wx = .ok (.enter fid args) wx := hent
  clear hv hT hent
  obtain ⟨R, hR⟩ : ∃ R, turnHP T ps hand = R := ⟨_, rfl⟩
  rw [hR]
  unfold turnHP at hR
  obtain ⟨q, hq⟩ : ∃ q, poolF ps hand = q := ⟨_, rfl⟩
  have HQ : Hid (poolF ps hand = q) := hq
  rw [hq] at hR k0
  go_enter Try.func30, Try.ntmps30
  go_wp2_with fail
  refine k0.mono ?_
  rintro e w1 ⟨rfl, hk1⟩
  have HK1 := (show Hid (Same w w1) from hk0.trans hk1)
  have HB0 := hid (b0.same hk1)
  have HB1 := hid (b1.same hk1)
  clear hk0 hk1 b0 b1 k0
  obtain ⟨g0, g1⟩ := HB0.out.all2
  obtain ⟨z0, z1, z2, z3⟩ := HB1.out.all4
  have fz := HB1.out.frozen
  have lz := HB1.out.lt
  by_cases h0 : q = 0
  · subst h0
    rw [if_neg (by simp)] at hR
    obtain ⟨hl1, hl16, _, _⟩ := poolF_len hq
    have hfr := frame_of hq
    have HM : Hid (∀ p ∈ ps, p.bs.length ≤ 1099511627776) := fun p hp => Nat.le_trans (hfr p hp).2 (by omega)
    clear hfr hq
    go_wp2_with fail
    refine (openPool_any (.slice a ps.length c) hand ps _ (HV.out.same HK1.out) hl1 hl16 HM.out).mono ?_
    rintro e w2 ⟨P, g, n, cap, bl, qs, rfl, hd2, hf2, hn2, hk2⟩
    have hn : n ≤ 16 := by rw [hf2.len, dat_len hd2]; exact hl16
    have HF2 := (show Hid (FP w2 P hand g n cap bl qs) from hf2)
    have HD2 : Hid (datFrameS qs = datFrameS ps) := hd2
    have HN2 : Hid (∀ b, footFP P g bl qs b → w1.heap.size ≤ b) := hn2
    have HK2 := (show Hid (Same w w2) from HK1.out.trans hk2)
    have HB12 := hid (HB1.out.same hk2)
    have hz2 : w1.heap.size ≤ w2.heap.size := hk2.size
    have kt := HT.out w2 P g n cap bl qs hf2 hn hd2 HQ.out HK2.out (fun b hb => by have := hn2 b hb; omega)
    clear hd2 hf2 hn2 hk2 g0 g1 z0 z1 z2 z3 fz hl1 hl16
    go_wp2_with fail
    refine kt.mono ?_
    rintro e w3 ⟨fr, cd, hd3, bl', qs', rfl, hf3, ht3, hn3, hk3⟩
    have HF3 := (show Hid (FP w3 P hd3 g n cap bl' qs') from hf3)
    have HN3 : Hid (∀ b, footS kFrame bl' qs' b → w1.heap.size ≤ b) := fun b hb => by
      rcases hn3 b hb with h | h
      · exact HN2.out b (.inr (.inr h))
      · omega
    have HK3 := (show Hid (Same w w3) from HK2.out.next hk3 (fun i hi e => by have := HN2.out i e; omega))
    have HB13 := (show Hid (Blk w3 (w.heap.size + 1) 33 [.int .i64 0, .int .i64 0, .slice none 0 0, .int .i64 0]) from HB12.out.kept hk3 (fun e => by have := HN2.out _ e; omega))
    clear kt hf3 hn3 hk3
    obtain ⟨z0, z1, z2, z3⟩ := HB13.out.all4
    have fz := HB13.out.frozen
    have lz3 := HB13.out.lt
    rcases ht3 with ⟨h3, ht3⟩ | ⟨rfl, ht3⟩
    rotate_left
    · rw [ht3, if_neg (by simp)] at hR
      have HR := hid hR
      go_wp2_with fail
      refine (pool_any P hd3 g n cap bl' qs' _ HF3.out hn).mono ?_
      rintro e w4 ⟨a4, m4, c4, rfl, ho4, hf4, hk4⟩
      have HO4 := (show Hid (OwnR kFrame 0 36 5 w4 (.slice a4 m4 c4) qs') from ho4)
      have HF4 : Hid (∀ b, footR kFrame (.slice a4 m4 c4) qs' b → w1.heap.size ≤ b) := fun b hb => by
        rcases hf4 b hb with h | h
        · have h1 := HB13.out.lt
          have h2 := HF3.out.lt P (.inl rfl)
          have h3 := HN2.out P (.inl rfl)
          omega
        · exact HN3.out b h
      have HK4 := (show Hid (Same w w4) from HK3.out.trans hk4)
      have HB14 := hid (HB13.out.same hk4)
      clear ho4 hf4 hk4 z0 z1 z2 z3 fz
      obtain ⟨z0, z1, z2, z3⟩ := HB14.out.all4
      have fz := HB14.out.frozen
      have lz4 := HB14.out.lt
      go_wp2
      refine bodyPost_ret (v := .agg #[.int .i64 0, .int .i64 fr, .slice a4 m4 c4, .int .i64 hd3]) (by simp [results, Try.results30, go_sem, z0, z1, z2, z3]) rfl ⟨0, fr, a4, m4, c4, hd3, qs', rfl, HR.out, fun b hb => by have := HF4.out b hb; omega, HO4.out.kept (R := fun b => b = w.heap.size + 1) ?_ (fun b hb e => by have := HF4.out b hb; omega), ?_⟩
      · (iterate 4 refine Kept.setCell (R := fun b => b = w.heap.size + 1) ?_ (.inr rfl) _)
        exact Kept.refl _ _
      · (iterate 4 refine Kept.setCell ?_ (.inl (Nat.le_succ _)) _)
        exact HK4.out
    · rw [if_pos (by rw [ht3]; exact h3), ht3] at hR
      have HR := hid hR
      go_wp2
      refine bodyPost_ret (v := .agg #[.int .i64 cd, .int .i64 0, .slice none 0 0, .int .i64 0]) (by simp [results, Try.results30, go_sem, z0, z1, z2, z3]) rfl ⟨cd, 0, none, 0, 0, 0, [], rfl, ?_, fun b hb => absurd hb (footR_nil b), OwnR.nil _ _ _ _ _, ?_⟩
      · rw [← HR.out]; rfl
      · (iterate 4 refine Kept.setCell ?_ (.inl (Nat.le_succ _)) _)
        exact HK3.out
  · rw [if_pos h0] at hR
    have HR := hid hR
    go_wp2
    refine bodyPost_ret (v := .agg #[.int .i64 1, .int .i64 0, .slice none 0 0, .int .i64 0]) (by simp [results, Try.results30, go_sem, z0, z1, z2, z3]) rfl ⟨1, 0, none, 0, 0, 0, [], rfl, ?_, fun b hb => absurd hb (footR_nil b), OwnR.nil _ _ _ _ _, ?_⟩
    · rw [← HR.out]; rfl
    · (iterate 4 refine Kept.setCell ?_ (.inl (Nat.le_succ _)) _)
      exact HK1.out
end Go.Proofs.Ytbbllmlokddolaa

namespace Go.Proofs.Ytbbllmlokddolaa
set_option maxRecDepth 100000
set_option maxHeartbeats 8000000
open Go.RowKit
set_option linter.unusedVariables false
set_option linter.unusedSimpArgs false
theorem victim1_any (P hn g n cap : Nat) (bl : List Nat) (ps : List EFrame) (w : World) (h : FP w P (hn : Int) g n cap bl ps) (hh : hn < n) (h16 : n ≤ 16) :
    Calls Try.prog 31 #[.pointer (some ⟨P, 0, none⟩)] w fun e w' => ∃ (r cd hd : Int) (qs : List EFrame), e = .returned (.tuple #[.int .i64 r, .int .i64 cd]) ∧ FP w' P hd g n cap bl qs ∧ (∀ b, footS kFrame bl qs b → footS kFrame bl ps b) ∧ Kept (footFP P g bl ps) w w' ∧
      ((findFrom (-1) 0 ps ≠ -1 ∧ cd = 0 ∧ r = findFrom (-1) 0 ps ∧ hd = hn ∧ datFrameS qs = datFrameS ps) ∨ (findFrom (-1) 0 ps = -1 ∧ ((clk (n + n) (datFrameS ps) hn = none ∧ cd = 2) ∨ ∃ R, clk (n + n) (datFrameS ps) hn = some R ∧ cd = 0 ∧ r = (R.1 : Int) ∧ hd = (R.2.1 : Int) ∧ datFrameS qs = R.2.2))) := by
  have k0 := victim_any P hn g n cap bl ps w h hh h16
  clear h
  go_enter Try.func31, Try.ntmps31
  go_wp2_with fail
  refine k0.mono ?_
  rintro e w1 ⟨r, cd, hd, qs, rfl, hx⟩
  have H1 := hid hx
  clear hx k0
  go_wp2
  go_ret2
  exact ⟨r, cd, hd, qs, rfl, H1.out⟩
theorem enters_victim1 : Enters 31 := fun args wx => by simp [callFunc, go_sem, Try.func31, Try.f31]
def vicT (ps : List EFrame) (hand : Int) : Int × Int × Int × List (Int × List Int × Int × Bool × Int × Bool) :=
  if findFrom (-1) 0 ps ≠ -1 then (0, findFrom (-1) 0 ps, hand, datFrameS ps) else vicR (clk (ps.length + ps.length) (datFrameS ps) hand.toNat)
theorem victimP_turn (ps : List EFrame) (hand : Int) : victimP ps hand = turnHP (vicT ps hand) ps hand := by
  unfold victimP turnHP vicT
  by_cases h0 : poolF ps hand ≠ 0
  · rw [if_pos h0, if_pos h0]
  rw [if_neg h0, if_neg h0]
  by_cases h1 : findFrom (-1) 0 ps ≠ -1
  · simp only [if_pos h1]
    rw [if_neg (by simp)]
  simp only [if_neg h1]
  cases clk (ps.length + ps.length) (datFrameS ps) hand.toNat with
  | none => rfl
  | some R => rfl
theorem implPoolVictim_any (v : Value) (hand : Int) (ps : List EFrame) (w : World) (hv : RdR kFrame w v ps) :
    Calls Try.prog 9 #[.agg #[v, .int .i64 hand]] w fun e w' => ∃ cd fr a n c hd qs, e = .returned (.agg #[.int .i64 cd, .int .i64 fr, .slice a n c, .int .i64 hd]) ∧ (cd, fr, hd, datFrameS qs) = victimP ps hand ∧ (∀ b, footR kFrame (.slice a n c) qs b → w.heap.size ≤ b) ∧ OwnR kFrame 0 36 5 w' (.slice a n c) qs ∧ Same w w' := by
  obtain ⟨a, c, rfl⟩ := hv.form
  obtain ⟨wa, hwa⟩ : ∃ x, x = w.alloc (.cells #[.slice a ps.length c, .int .i64 hand] 25) := ⟨_, rfl⟩
  have hka : Same w wa := by rw [hwa]; exact (Kept.refl _ _).alloc _
  have hza : wa.heap.size = w.heap.size + 1 := by rw [hwa]; simp
  have b0 : Blk wa w.heap.size 25 [.slice a ps.length c, .int .i64 hand] := by rw [hwa]; exact Blk.newL w _ _
  have k0 := turnedH_any 31 #[] (.slice a ps.length c) hand ps (vicT ps hand) (wa.alloc (.cells #[.int .i64 0, .int .i64 0, .slice none 0 0, .int .i64 0] 33)) (hv.same (hka.alloc _)) enters_victim1 (fun wx P g n cap bl qs hf hn hd hq hk hb => by
    obtain ⟨_, _, hh0, hh1⟩ := poolF_len hq
    obtain ⟨h, rfl⟩ : ∃ h : Nat, hand = (h : Int) := ⟨hand.toNat, by omega⟩
    have hlq : qs.length = ps.length := dat_len hd
    have hnl : n = ps.length := by rw [hf.len, hlq]
    refine (victim1_any P h g n cap bl qs wx hf (by omega) hn).mono ?_
    rintro e w' ⟨r, cd, hd', rs, rfl, hf', hs', hk', hr⟩
    refine ⟨r, cd, hd', bl, rs, rfl, hf', ?_, fun b hb => .inl (hs' b hb), hk'⟩
    have hvt : vicT ps (h : Int) = if findFrom (-1) 0 qs ≠ -1 then (0, findFrom (-1) 0 qs, (h : Int), datFrameS qs) else vicR (clk (n + n) (datFrameS qs) h) := by
      unfold vicT
      rw [findFrom_dat hd, hd, hnl, Int.toNat_natCast]
    rcases hr with ⟨h1, rfl, h2, h3, h4⟩ | ⟨h1, ⟨h2, rfl⟩ | ⟨R, h2, rfl, h3, h4, h5⟩⟩
    · exact .inr ⟨rfl, by rw [hvt, if_pos h1, h2, h3, h4]⟩
    · exact .inl ⟨by simp, by rw [hvt, if_neg (by rw [h1]; simp), h2]; rfl⟩
    · exact .inr ⟨rfl, by rw [hvt, if_neg (by rw [h1]; simp), h2, h3, h4, h5]; rfl⟩)
  have bR := Blk.newL wa [.int .i64 0, .int .i64 0, .slice none 0 0, .int .i64 0] 33
  obtain ⟨g0, g1⟩ := b0.all2
  have l0 := b0.lt
  have hmf : ∀ (fn : Fn) (first cap : Array Value) (w : World), (Instr.makeFunc fn first cap).run Try.prog w = .ok (.func fn first cap) w := fun _ _ _ _ => rfl
  rw [hza] at bR
  have HKA := hid hka
  have HZ := hid hza
  clear hv b0 hka
  go_enter Try.func9, Try.ntmps9
  go_wp2_with fail
  rw [← hwa]
  clear hwa
  refine k0.mono ?_
  rintro e w1 ⟨cd, fr, a1, n1, c1, hd, qs, rfl, hR, hf, ho, hk1⟩
  have HR := (show Hid ((cd, fr, hd, datFrameS qs) = turnHP (vicT ps hand) ps hand) from hR)
  have HK1 := (show Hid (Same w w1) from (HKA.out.alloc _).trans hk1)
  have HB1 := hid (bR.same hk1)
  have HF : Hid (∀ b, footR kFrame (.slice a1 n1 c1) qs b → w.heap.size + 1 < b) := fun b hb => by have h := hf b hb; simp only [World.size_alloc] at h; omega
  have HO := (show Hid (OwnR kFrame 0 36 5 w1 (.slice a1 n1 c1) qs) from ho)
  clear hk1 bR k0 hR hf ho g0 g1 hza
  obtain ⟨z0, z1, z2, z3⟩ := HB1.out.all4
  have fz := HB1.out.frozen
  have lz := HB1.out.lt
  go_wp2
  refine bodyPost_ret (v := .agg #[.int .i64 cd, .int .i64 fr, .slice a1 n1 c1, .int .i64 hd]) (by simp [results, Try.results9, go_sem, z0, z1, z2, z3]) rfl ⟨cd, fr, a1, n1, c1, hd, qs, rfl, by rw [victimP_turn]; exact HR.out, fun b hb => by have := HF.out b hb; omega, HO.out.kept (R := fun b => b = w.heap.size + 1) ?_ (fun b hb e => by have := HF.out b hb; omega), ?_⟩
  · (iterate 4 refine Kept.setCell (R := fun b => b = w.heap.size + 1) ?_ (.inr rfl) _)
    exact Kept.refl _ _
  · (iterate 4 refine Kept.setCell ?_ (.inl (by show w.heap.size ≤ w.heap.size + 1; omega)) _)
    exact HK1.out
end Go.Proofs.Ytbbllmlokddolaa

namespace Go.Proofs.Ytbbllmlokddolaa
set_option maxRecDepth 100000
set_option maxHeartbeats 4000000
open Go.RowKit
set_option linter.unusedVariables false
set_option linter.unusedSimpArgs false
theorem load1_any (frame : Int) (page : Int) (u : Value) (bs : List Int) (C0 C1 C2 : Nat) (P : Nat) (hand : Int) (g n cap : Nat) (bl : List Nat) (ps : List EFrame) (w : World) (h : FP w P hand g n cap bl ps) (hn : n ≤ 16) (hbl : bs.length ≤ 1099511627776) (hu : Rd .u8 w u bs) (hc0 : Blk w C0 2 [.int .i64 frame]) (hc1 : Blk w C1 2 [.int .i64 page]) (hc2 : Blk w C2 22 [u]) :
    Calls Try.prog 33 #[.pointer (some ⟨P, 0, none⟩), .pointer (some ⟨C0, 0, none⟩), .pointer (some ⟨C1, 0, none⟩), .pointer (some ⟨C2, 0, none⟩)] w fun e w' => ∃ fr cd bl' qs', e = .returned (.tuple #[.int .i64 fr, .int .i64 cd]) ∧ FP w' P hand g n cap bl' qs' ∧ (cd, fr, datFrameS qs') = loadT frame page bs ps ∧ (∀ b, footS kFrame bl' qs' b → footS kFrame bl ps b ∨ w.heap.size ≤ b) ∧ Kept (footFP P g bl ps) w w' := by
  have d0 := hc0.c0
  have d1 := hc1.c0
  have d2 := hc2.c0
  have k0 := loadM_any frame page u bs P hand g n cap bl ps w h hn hbl hu
  obtain ⟨au, cu, rfl⟩ := hu.form
  clear h hu hbl hc0 hc1 hc2
  go_enter Try.func33, Try.ntmps33
  go_wp2_with fail
  refine k0.mono ?_
  rintro e w1 ⟨fr, cd, bl', qs', rfl, hf, ht, hn', hk⟩
  have H1 := hid hf
  have H2 := hid ht
  have H3 := hid hn'
  have H4 := hid hk
  clear hf ht hn' hk k0
  go_wp2
  go_ret2
  exact ⟨fr, cd, bl', qs', rfl, H1.out, H2.out, H3.out, H4.out⟩
theorem enters_load1 : Enters 33 := fun args wx => by simp [callFunc, go_sem, Try.func33, Try.f33]
theorem implPoolLoad_any (v : Value) (hand : Int) (frame : Int) (page : Int) (u : Value) (bs : List Int) (ps : List EFrame) (w : World) (hv : RdR kFrame w v ps) (hbl : bs.length ≤ 1099511627776) (hu : Rd .u8 w u bs) :
    Calls Try.prog 10 #[.agg #[v, .int .i64 hand], .int .i64 frame, .int .i64 page, u] w fun e w' => ∃ cd fr a n c hd qs, e = .returned (.agg #[.int .i64 cd, .int .i64 fr, .slice a n c, .int .i64 hd]) ∧ (cd, fr, hd, datFrameS qs) = loadP ps hand frame page bs ∧ (∀ b, footR kFrame (.slice a n c) qs b → w.heap.size ≤ b) ∧ OwnR kFrame 0 36 5 w' (.slice a n c) qs ∧ Same w w' := by
  obtain ⟨a, c, rfl⟩ := hv.form
  obtain ⟨au, cu, rfl⟩ := hu.form
  obtain ⟨wa, hwa⟩ : ∃ x, x = ((((w.alloc (.cells #[.slice a ps.length c, .int .i64 hand] 25)).alloc (.cells #[.int .i64 frame] 2)).alloc (.cells #[.int .i64 page] 2)).alloc (.cells #[.slice au bs.length cu] 22)) := ⟨_, rfl⟩
  have hka : Same w wa := by rw [hwa]; exact (((((Kept.refl _ _).alloc _).alloc _).alloc _).alloc _)
  have hza : wa.heap.size = w.heap.size + 1 + 1 + 1 + 1 := by rw [hwa]; simp
  have b0 : Blk wa w.heap.size 25 [.slice a ps.length c, .int .i64 hand] := by rw [hwa]; exact (((Blk.newL w [.slice a ps.length c, .int .i64 hand] 25).alloc _).alloc _).alloc _
  have bC0 : Blk wa (w.heap.size + 1) 2 [.int .i64 frame] := by
    have h := (((Blk.newL (w.alloc (.cells #[.slice a ps.length c, .int .i64 hand] 25)) [.int .i64 frame] 2).alloc (.cells #[.int .i64 page] 2)).alloc (.cells #[.slice au bs.length cu] 22))
    rw [← hwa] at h
    simpa using h
  have bC1 : Blk wa (w.heap.size + 1 + 1) 2 [.int .i64 page] := by
    have h := ((Blk.newL ((w.alloc (.cells #[.slice a ps.length c, .int .i64 hand] 25)).alloc (.cells #[.int .i64 frame] 2)) [.int .i64 page] 2).alloc (.cells #[.slice au bs.length cu] 22))
    rw [← hwa] at h
    simpa using h
  have bC2 : Blk wa (w.heap.size + 1 + 1 + 1) 22 [.slice au bs.length cu] := by
    have h := (Blk.newL (((w.alloc (.cells #[.slice a ps.length c, .int .i64 hand] 25)).alloc (.cells #[.int .i64 frame] 2)).alloc (.cells #[.int .i64 page] 2)) [.slice au bs.length cu] 22)
    rw [← hwa] at h
    simpa using h
  have k0 := turned_any 33 #[.pointer (some ⟨w.heap.size + 1, 0, none⟩), .pointer (some ⟨w.heap.size + 1 + 1, 0, none⟩), .pointer (some ⟨w.heap.size + 1 + 1 + 1, 0, none⟩)] (.slice a ps.length c) hand ps (loadT frame page bs ps) (wa.alloc (.cells #[.int .i64 0, .int .i64 0, .slice none 0 0, .int .i64 0] 33)) (hv.same (hka.alloc _)) enters_load1 (fun wx P g n cap bl qs hf hn hd hq hk hb => by
    have h := load1_any frame page (.slice au bs.length cu) bs (w.heap.size + 1) (w.heap.size + 1 + 1) (w.heap.size + 1 + 1 + 1) P hand g n cap bl qs wx hf hn hbl (hu.same ((hka.alloc _).trans hk)) ((bC0.alloc _).same hk) ((bC1.alloc _).same hk) ((bC2.alloc _).same hk)
    rw [loadT_dat hd] at h
    exact h)
  have bR := Blk.newL wa [.int .i64 0, .int .i64 0, .slice none 0 0, .int .i64 0] 33
  obtain ⟨g0, g1⟩ := b0.all2
  have l0 := b0.lt
  have hmf : ∀ (fn : Fn) (first cap : Array Value) (w : World), (Instr.makeFunc fn first cap).run Try.prog w = .ok (.func fn first cap) w := fun _ _ _ _ => rfl
  rw [hza] at bR
  have HKA := hid hka
  have HZ := hid hza
  clear hv hu hbl bC0 bC1 bC2 b0 hka
  go_enter Try.func10, Try.ntmps10
  go_wp2_with fail
  rw [← hwa]
  clear hwa
  refine k0.mono ?_
  rintro e w1 ⟨cd, fr, a1, n1, c1, hd, qs, rfl, hR, hf, ho, hk1⟩
  have HR := (show Hid ((cd, fr, hd, datFrameS qs) = turnP (loadT frame page bs ps) ps hand) from hR)
  have HK1 := (show Hid (Same w w1) from (HKA.out.alloc _).trans hk1)
  have HB1 := hid (bR.same hk1)
  have HF : Hid (∀ b, footR kFrame (.slice a1 n1 c1) qs b → w.heap.size + 1 + 1 + 1 + 1 < b) := fun b hb => by have h := hf b hb; simp only [World.size_alloc] at h; omega
  have HO := (show Hid (OwnR kFrame 0 36 5 w1 (.slice a1 n1 c1) qs) from ho)
  clear hk1 bR k0 hR hf ho g0 g1 hza
  obtain ⟨z0, z1, z2, z3⟩ := HB1.out.all4
  have fz := HB1.out.frozen
  have lz := HB1.out.lt
  go_wp2
  refine bodyPost_ret (v := .agg #[.int .i64 cd, .int .i64 fr, .slice a1 n1 c1, .int .i64 hd]) (by simp [results, Try.results10, go_sem, z0, z1, z2, z3]) rfl ⟨cd, fr, a1, n1, c1, hd, qs, rfl, HR.out, fun b hb => by have := HF.out b hb; omega, HO.out.kept (R := fun b => b = w.heap.size + 1 + 1 + 1 + 1) ?_ (fun b hb e => by have := HF.out b hb; omega), ?_⟩
  · (iterate 4 refine Kept.setCell (R := fun b => b = w.heap.size + 1 + 1 + 1 + 1) ?_ (.inr rfl) _)
    exact Kept.refl _ _
  · (iterate 4 refine Kept.setCell ?_ (.inl (by show w.heap.size ≤ w.heap.size + 1 + 1 + 1 + 1; omega)) _)
    exact HK1.out
end Go.Proofs.Ytbbllmlokddolaa

namespace Go.Proofs.Ytbbllmlokddolaa
set_option maxRecDepth 100000
set_option maxHeartbeats 4000000
open Go.RowKit
set_option linter.unusedVariables false
set_option linter.unusedSimpArgs false
theorem put1_any (page : Int) (u : Value) (bs : List Int) (lsn : Int) (C0 C1 C2 : Nat) (P : Nat) (hand : Int) (g n cap : Nat) (bl : List Nat) (ps : List EFrame) (w : World) (h : FP w P hand g n cap bl ps) (hn : n ≤ 16) (hbl : bs.length ≤ 1099511627776) (hu : Rd .u8 w u bs) (hc0 : Blk w C0 2 [.int .i64 page]) (hc1 : Blk w C1 22 [u]) (hc2 : Blk w C2 2 [.int .i64 lsn]) :
    Calls Try.prog 39 #[.pointer (some ⟨P, 0, none⟩), .pointer (some ⟨C0, 0, none⟩), .pointer (some ⟨C1, 0, none⟩), .pointer (some ⟨C2, 0, none⟩)] w fun e w' => ∃ fr cd bl' qs', e = .returned (.tuple #[.int .i64 fr, .int .i64 cd]) ∧ FP w' P hand g n cap bl' qs' ∧ (cd, fr, datFrameS qs') = putT page bs lsn ps ∧ (∀ b, footS kFrame bl' qs' b → footS kFrame bl ps b ∨ w.heap.size ≤ b) ∧ Kept (footFP P g bl ps) w w' := by
  have d0 := hc0.c0
  have d1 := hc1.c0
  have d2 := hc2.c0
  have k0 := putM_any page u bs lsn P hand g n cap bl ps w h hn hbl hu
  obtain ⟨au, cu, rfl⟩ := hu.form
  clear h hu hbl hc0 hc1 hc2
  go_enter Try.func39, Try.ntmps39
  go_wp2_with fail
  refine k0.mono ?_
  rintro e w1 ⟨fr, cd, bl', qs', rfl, hf, ht, hn', hk⟩
  have H1 := hid hf
  have H2 := hid ht
  have H3 := hid hn'
  have H4 := hid hk
  clear hf ht hn' hk k0
  go_wp2
  go_ret2
  exact ⟨fr, cd, bl', qs', rfl, H1.out, H2.out, H3.out, H4.out⟩
theorem enters_put1 : Enters 39 := fun args wx => by simp [callFunc, go_sem, Try.func39, Try.f39]
theorem implPoolPut_any (v : Value) (hand : Int) (page : Int) (u : Value) (bs : List Int) (lsn : Int) (ps : List EFrame) (w : World) (hv : RdR kFrame w v ps) (hbl : bs.length ≤ 1099511627776) (hu : Rd .u8 w u bs) :
    Calls Try.prog 13 #[.agg #[v, .int .i64 hand], .int .i64 page, u, .int .i64 lsn] w fun e w' => ∃ cd fr a n c hd qs, e = .returned (.agg #[.int .i64 cd, .int .i64 fr, .slice a n c, .int .i64 hd]) ∧ (cd, fr, hd, datFrameS qs) = putP ps hand page bs lsn ∧ (∀ b, footR kFrame (.slice a n c) qs b → w.heap.size ≤ b) ∧ OwnR kFrame 0 36 5 w' (.slice a n c) qs ∧ Same w w' := by
  obtain ⟨a, c, rfl⟩ := hv.form
  obtain ⟨au, cu, rfl⟩ := hu.form
  obtain ⟨wa, hwa⟩ : ∃ x, x = ((((w.alloc (.cells #[.slice a ps.length c, .int .i64 hand] 25)).alloc (.cells #[.int .i64 page] 2)).alloc (.cells #[.slice au bs.length cu] 22)).alloc (.cells #[.int .i64 lsn] 2)) := ⟨_, rfl⟩
  have hka : Same w wa := by rw [hwa]; exact (((((Kept.refl _ _).alloc _).alloc _).alloc _).alloc _)
  have hza : wa.heap.size = w.heap.size + 1 + 1 + 1 + 1 := by rw [hwa]; simp
  have b0 : Blk wa w.heap.size 25 [.slice a ps.length c, .int .i64 hand] := by rw [hwa]; exact (((Blk.newL w [.slice a ps.length c, .int .i64 hand] 25).alloc _).alloc _).alloc _
  have bC0 : Blk wa (w.heap.size + 1) 2 [.int .i64 page] := by
    have h := (((Blk.newL (w.alloc (.cells #[.slice a ps.length c, .int .i64 hand] 25)) [.int .i64 page] 2).alloc (.cells #[.slice au bs.length cu] 22)).alloc (.cells #[.int .i64 lsn] 2))
    rw [← hwa] at h
    simpa using h
  have bC1 : Blk wa (w.heap.size + 1 + 1) 22 [.slice au bs.length cu] := by
    have h := ((Blk.newL ((w.alloc (.cells #[.slice a ps.length c, .int .i64 hand] 25)).alloc (.cells #[.int .i64 page] 2)) [.slice au bs.length cu] 22).alloc (.cells #[.int .i64 lsn] 2))
    rw [← hwa] at h
    simpa using h
  have bC2 : Blk wa (w.heap.size + 1 + 1 + 1) 2 [.int .i64 lsn] := by
    have h := (Blk.newL (((w.alloc (.cells #[.slice a ps.length c, .int .i64 hand] 25)).alloc (.cells #[.int .i64 page] 2)).alloc (.cells #[.slice au bs.length cu] 22)) [.int .i64 lsn] 2)
    rw [← hwa] at h
    simpa using h
  have k0 := turned_any 39 #[.pointer (some ⟨w.heap.size + 1, 0, none⟩), .pointer (some ⟨w.heap.size + 1 + 1, 0, none⟩), .pointer (some ⟨w.heap.size + 1 + 1 + 1, 0, none⟩)] (.slice a ps.length c) hand ps (putT page bs lsn ps) (wa.alloc (.cells #[.int .i64 0, .int .i64 0, .slice none 0 0, .int .i64 0] 33)) (hv.same (hka.alloc _)) enters_put1 (fun wx P g n cap bl qs hf hn hd hq hk hb => by
    have h := put1_any page (.slice au bs.length cu) bs lsn (w.heap.size + 1) (w.heap.size + 1 + 1) (w.heap.size + 1 + 1 + 1) P hand g n cap bl qs wx hf hn hbl (hu.same ((hka.alloc _).trans hk)) ((bC0.alloc _).same hk) ((bC1.alloc _).same hk) ((bC2.alloc _).same hk)
    rw [putT_dat hd] at h
    exact h)
  have bR := Blk.newL wa [.int .i64 0, .int .i64 0, .slice none 0 0, .int .i64 0] 33
  obtain ⟨g0, g1⟩ := b0.all2
  have l0 := b0.lt
  have hmf : ∀ (fn : Fn) (first cap : Array Value) (w : World), (Instr.makeFunc fn first cap).run Try.prog w = .ok (.func fn first cap) w := fun _ _ _ _ => rfl
  rw [hza] at bR
  have HKA := hid hka
  have HZ := hid hza
  clear hv hu hbl bC0 bC1 bC2 b0 hka
  go_enter Try.func13, Try.ntmps13
  go_wp2_with fail
  rw [← hwa]
  clear hwa
  refine k0.mono ?_
  rintro e w1 ⟨cd, fr, a1, n1, c1, hd, qs, rfl, hR, hf, ho, hk1⟩
  have HR := (show Hid ((cd, fr, hd, datFrameS qs) = turnP (putT page bs lsn ps) ps hand) from hR)
  have HK1 := (show Hid (Same w w1) from (HKA.out.alloc _).trans hk1)
  have HB1 := hid (bR.same hk1)
  have HF : Hid (∀ b, footR kFrame (.slice a1 n1 c1) qs b → w.heap.size + 1 + 1 + 1 + 1 < b) := fun b hb => by have h := hf b hb; simp only [World.size_alloc] at h; omega
  have HO := (show Hid (OwnR kFrame 0 36 5 w1 (.slice a1 n1 c1) qs) from ho)
  clear hk1 bR k0 hR hf ho g0 g1 hza
  obtain ⟨z0, z1, z2, z3⟩ := HB1.out.all4
  have fz := HB1.out.frozen
  have lz := HB1.out.lt
  go_wp2
  refine bodyPost_ret (v := .agg #[.int .i64 cd, .int .i64 fr, .slice a1 n1 c1, .int .i64 hd]) (by simp [results, Try.results13, go_sem, z0, z1, z2, z3]) rfl ⟨cd, fr, a1, n1, c1, hd, qs, rfl, HR.out, fun b hb => by have := HF.out b hb; omega, HO.out.kept (R := fun b => b = w.heap.size + 1 + 1 + 1 + 1) ?_ (fun b hb e => by have := HF.out b hb; omega), ?_⟩
  · (iterate 4 refine Kept.setCell (R := fun b => b = w.heap.size + 1 + 1 + 1 + 1) ?_ (.inr rfl) _)
    exact Kept.refl _ _
  · (iterate 4 refine Kept.setCell ?_ (.inl (by show w.heap.size ≤ w.heap.size + 1 + 1 + 1 + 1; omega)) _)
    exact HK1.out
end Go.Proofs.Ytbbllmlokddolaa

namespace Go.Proofs.Ytbbllmlokddolaa
set_option maxRecDepth 100000
set_option maxHeartbeats 4000000
open Go.RowKit
set_option linter.unusedVariables false
set_option linter.unusedSimpArgs false
theorem clean1_any (page : Int) (C : Nat) (P : Nat) (hand : Int) (g n cap : Nat) (bl : List Nat) (ps : List EFrame) (w : World) (h : FP w P hand g n cap bl ps) (hn : n ≤ 16) (hpin : ∀ p ∈ ps, 0 ≤ p.pins ∧ p.pins ≤ 2147483647) (hc : Blk w C 2 [.int .i64 page]) :
    Calls Try.prog 41 #[.pointer (some ⟨P, 0, none⟩), .pointer (some ⟨C, 0, none⟩)] w fun e w' => ∃ fr cd bl' qs', e = .returned (.tuple #[.int .i64 fr, .int .i64 cd]) ∧ FP w' P hand g n cap bl' qs' ∧ (cd, fr, datFrameS qs') = cleanT page ps ∧ (∀ b, footS kFrame bl' qs' b → footS kFrame bl ps b ∨ w.heap.size ≤ b) ∧ Kept (footFP P g bl ps) w w' := by
  have c0 := hc.c0
  have k0 := cleanM_any page P hand g n cap bl ps w h hn hpin
  clear h hpin hc
  go_enter Try.func41, Try.ntmps41
  go_wp2_with fail
  refine k0.mono ?_
  rintro e w1 ⟨fr, cd, bl', qs', rfl, hf, ht, hn', hk⟩
  have H1 := hid hf
  have H2 := hid ht
  have H3 := hid hn'
  have H4 := hid hk
  clear hf ht hn' hk k0
  go_wp2
  go_ret2
  exact ⟨fr, cd, bl', qs', rfl, H1.out, H2.out, H3.out, H4.out⟩
theorem enters_clean1 : Enters 41 := fun args wx => by simp [callFunc, go_sem, Try.func41, Try.f41]
theorem implPoolClean_any (v : Value) (hand page : Int) (ps : List EFrame) (w : World) (hv : RdR kFrame w v ps) :
    Calls Try.prog 15 #[.agg #[v, .int .i64 hand], .int .i64 page] w fun e w' => ∃ cd fr a n c hd qs, e = .returned (.agg #[.int .i64 cd, .int .i64 fr, .slice a n c, .int .i64 hd]) ∧ (cd, fr, hd, datFrameS qs) = cleanP ps hand page ∧ (∀ b, footR kFrame (.slice a n c) qs b → w.heap.size ≤ b) ∧ OwnR kFrame 0 36 5 w' (.slice a n c) qs ∧ Same w w' := by
  obtain ⟨a, c, rfl⟩ := hv.form
  obtain ⟨wa, hwa⟩ : ∃ x, x = (w.alloc (.cells #[.slice a ps.length c, .int .i64 hand] 25)).alloc (.cells #[.int .i64 page] 2) := ⟨_, rfl⟩
  have hka : Same w wa := by rw [hwa]; exact ((Kept.refl _ _).alloc _).alloc _
  have hza : wa.heap.size = w.heap.size + 1 + 1 := by rw [hwa]; simp
  have b0 : Blk wa w.heap.size 25 [.slice a ps.length c, .int .i64 hand] := by rw [hwa]; exact Blk.newA w _ _ _ _
  have bC : Blk wa (w.heap.size + 1) 2 [.int .i64 page] := by rw [hwa]; exact Blk.newB w _ _ _ _
  have k0 := turned_any 41 #[.pointer (some ⟨w.heap.size + 1, 0, none⟩)] (.slice a ps.length c) hand ps (cleanT page ps) (wa.alloc (.cells #[.int .i64 0, .int .i64 0, .slice none 0 0, .int .i64 0] 33)) (hv.same (hka.alloc _)) enters_clean1 (fun wx P g n cap bl qs hf hn hd hq hk hb => by
    have h := clean1_any page (w.heap.size + 1) P hand g n cap bl qs wx hf hn (fun p hp => (frame_of ((poolF_dat hd).trans hq) p hp).1) ((bC.alloc _).same hk)
    rw [cleanT_dat hd] at h
    exact h)
  have bR := Blk.newL wa [.int .i64 0, .int .i64 0, .slice none 0 0, .int .i64 0] 33
  obtain ⟨g0, g1⟩ := b0.all2
  have l0 := b0.lt
  have hmf : ∀ (fn : Fn) (first cap : Array Value) (w : World), (Instr.makeFunc fn first cap).run Try.prog w = .ok (.func fn first cap) w := fun _ _ _ _ => rfl
  rw [hza] at bR
  have HKA := hid hka
  have HZ := hid hza
  clear hv bC b0 hka
  go_enter Try.func15, Try.ntmps15
  go_wp2_with fail
  rw [← hwa]
  clear hwa
  refine k0.mono ?_
  rintro e w1 ⟨cd, fr, a1, n1, c1, hd, qs, rfl, hR, hf, ho, hk1⟩
  have HR := (show Hid ((cd, fr, hd, datFrameS qs) = turnP (cleanT page ps) ps hand) from hR)
  have HK1 := (show Hid (Same w w1) from (HKA.out.alloc _).trans hk1)
  have HB1 := hid (bR.same hk1)
  have HF : Hid (∀ b, footR kFrame (.slice a1 n1 c1) qs b → w.heap.size + 1 + 1 < b) := fun b hb => by have h := hf b hb; simp only [World.size_alloc] at h; omega
  have HO := (show Hid (OwnR kFrame 0 36 5 w1 (.slice a1 n1 c1) qs) from ho)
  clear hk1 bR k0 hR hf ho g0 g1 hza
  obtain ⟨z0, z1, z2, z3⟩ := HB1.out.all4
  have fz := HB1.out.frozen
  have lz := HB1.out.lt
  go_wp2
  refine bodyPost_ret (v := .agg #[.int .i64 cd, .int .i64 fr, .slice a1 n1 c1, .int .i64 hd]) (by simp [results, Try.results15, go_sem, z0, z1, z2, z3]) rfl ⟨cd, fr, a1, n1, c1, hd, qs, rfl, by rw [cleanP_turn]; exact HR.out, fun b hb => by have := HF.out b hb; omega, HO.out.kept (R := fun b => b = w.heap.size + 1 + 1) ?_ (fun b hb e => by have := HF.out b hb; omega), ?_⟩
  · (iterate 4 refine Kept.setCell (R := fun b => b = w.heap.size + 1 + 1) ?_ (.inr rfl) _)
    exact Kept.refl _ _
  · (iterate 4 refine Kept.setCell ?_ (.inl (by show w.heap.size ≤ w.heap.size + 1 + 1; omega)) _)
    exact HK1.out
end Go.Proofs.Ytbbllmlokddolaa

namespace Go.Proofs.Ytbbllmlokddolaa
open Go.RowKit
set_option linter.unusedVariables false
set_option linter.unusedSimpArgs false
theorem run_copy_m {P : Program} (w : World) (dT sT ty elem : TypeId) (m b o dLen dCap : Nat) (a : Addr) (sLen sCap c : Nat) (cs : List Value)
    (hu : P.underlying dT = some (.slice elem)) (hs : (P.info? elem).map (·.size) = some m) (hc0 : Nat.min sLen dLen = c) (hn : c * m = cs.length)
    (hsrc : ∀ j v, cs[j]? = some v → w.cell? (a.add j) = some v) (hc : ∀ j, j < cs.length → (w.cell? ⟨b, o + j, none⟩).isSome = true) (hf : ∀ j, j < cs.length → w.frozen? ⟨b, o + j, none⟩ = false) (h1 : ∀ v ∈ cs, v.oneCell' = true) :
    (Builtin.copy_ #[dT, sT] ty #[.slice (some ⟨b, o, none⟩) dLen dCap, .slice (some a) sLen sCap]).run P w = .ok (goInt c) (w.setCells b o cs) := by
  have hl := run_loadCells_list (P := P) w a cs hsrc
  have hst := run_storeCells_cells (P := P) b o cs 0 w (by simpa using hc) (by simpa using hf) h1
  cases hq : P.info? elem with
  | none => simp [hq] at hs
  | some i =>
    have hi : i.size = m := by simpa [hq] using hs
    simp [Builtin.copy_, run_underlying hu, Builtin.lenOf, Builtin.firstCells, sizeOf, typeInfo, hq, hi, hc0, hn, hl, hst]
section
variable {P : Program} {ops : Array Oper} {o : Oper} {a : Act} {w : World} {K : Act → World → Prop} {Q : Exit → Act → World → Prop} {E : Prop}
theorem step_copy_m {B off dl dc sl sc m c : Nat} {e tb : TypeId} {ad : Addr} {xs : List Value} (hgd : o.guard = none) (d s : Operand) (T : TypeId) (ho : o.op = .call { callee := .builtin .copy, args := #[d, s], argTypes := #[T, T] })
    (hu : P.underlying T = some (.slice tb)) (hsz : (P.info? tb).map (·.size) = some m) (cs : List Value) (hb : Blk w B e xs) (hd : a.eval d = .slice (some ⟨B, off, none⟩) dl dc) (hs : a.eval s = .slice (some ad) sl sc)
    (hc0 : Nat.min sl dl = c) (hn : c * m = cs.length) (hsrc : ∀ j v, cs[j]? = some v → w.cell? (ad.add j) = some v) (hfit : off + cs.length ≤ xs.length) (h1 : ∀ v ∈ cs, v.oneCell' = true)
    (h : K (a.put o.dst (goInt c)) (w.setCells B off cs)) :
    if Region.wanted o (yielded ops a.tmps) = true then Oper.wp P o a w K Q else E := by
  have hw : Region.wanted o (yielded ops a.tmps) = true := by simp [Region.wanted, hgd]
  rw [if_pos hw]
  have hrun := run_copy_m (P := P) w T T o.type tb m B off dl dc ad sl sc c cs hu hsz hc0 hn hsrc (fun j hj => by rw [hb.cell, List.getElem?_eq_getElem (by omega)]; rfl) (fun j _ => hb.frozen _) h1
  unfold Oper.wp
  simp [execOp, ho, resolve, invoke, builtin, hd, hs, hrun, Result.andThen]
  exact h
end
end Go.Proofs.Ytbbllmlokddolaa

namespace Go.Proofs.Ytbbllmlokddolaa
set_option maxRecDepth 100000
set_option maxHeartbeats 8000000
open Go.RowKit
set_option linter.unusedVariables false
set_option linter.unusedSimpArgs false
theorem mul64_one (n : Int) (w : World) (h : 1 ≤ n ∧ n ≤ 16) :
    Calls Try.prog 55 #[.int .u64 1, .int .u64 n] w fun e w' => e = .returned (.tuple #[.int .u64 0, .int .u64 n]) ∧ w' = w := by
  have hn : n = 1 ∨ n = 2 ∨ n = 3 ∨ n = 4 ∨ n = 5 ∨ n = 6 ∨ n = 7 ∨ n = 8 ∨ n = 9 ∨ n = 10 ∨ n = 11 ∨ n = 12 ∨ n = 13 ∨ n = 14 ∨ n = 15 ∨ n = 16 := by omega
  clear h
  rcases hn with rfl | rfl | rfl | rfl | rfl | rfl | rfl | rfl | rfl | rfl | rfl | rfl | rfl | rfl | rfl | rfl <;>
  · go_enter Try.func55, Try.ntmps55
    go_wp2
    go_ret2
    exact ⟨rfl, rfl⟩
theorem mul_one (n : Int) (w : World) (h : 1 ≤ n ∧ n ≤ 16) :
    Calls Try.prog 43 #[.int .u64 1, .int .u64 n] w fun e w' => e = .returned (.tuple #[.int .u64 0, .int .u64 n]) ∧ w' = w := by
  have k0 := mul64_one n w h
  clear h
  go_enter Try.func43, Try.ntmps43
  go_wp2_with fail
  refine k0.mono ?_
  rintro e w1 ⟨rfl, rfl⟩
  go_wp2
  go_ret2
  exact ⟨rfl, rfl⟩
end Go.Proofs.Ytbbllmlokddolaa
