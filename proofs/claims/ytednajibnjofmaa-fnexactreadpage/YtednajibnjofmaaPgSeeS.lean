/-
  spec.l10See: a page of a disk of the geometry, as a reader sees it.
-/
import Derived.Test.YtednajibnjofmaaFits
import Derived.Test.YtednajibnjofmaaSee
import Derived.Test.YtednajibnjofmaaApp
import Derived.Test.YtednajibnjofmaaJoinD
namespace Go.Proofs.Ytednajibnjofmaa
set_option maxRecDepth 100000
set_option maxHeartbeats 4000000
open Go.RowKit
set_option linter.unusedVariables false
set_option linter.unusedSimpArgs false

/-- the bytes of the page whose first sector is F -/
def pgB (F : Int) (dur : List Int) (ds : List (Int × List Int)) : List Int := joinS (fun i => seeD (F + (i : Int)) dur ds) 8
theorem seeD_length {s : Int} {dur : List Int} {ds : List (Int × List Int)} (hV : Valid dur.length ds) (h1 : 0 ≤ s) (h2 : s < (dur.length / 512 : Nat)) : (seeD s dur ds).length = 512 := by
  unfold seeD
  cases hl : lastP s ds with
  | none => simp only [Option.getD_none, List.length_take, List.length_drop]; omega
  | some bs =>
    obtain ⟨p, hp, rfl⟩ := lastP_mem s ds bs hl
    exact (hV.2 p hp).2.2
theorem isB_seeD {s : Int} {dur : List Int} {ds : List (Int × List Int)} (hd : IsB dur) (hp : ∀ p ∈ ds, IsB p.2) : IsB (seeD s dur ds) := by
  unfold seeD
  cases hl : lastP s ds with
  | none => exact isB_take (isB_drop hd _) _
  | some bs =>
    obtain ⟨p, hpp, rfl⟩ := lastP_mem s ds bs hl
    exact hp p hpp
theorem fit_sec {p f l g : Int} {len : Nat} {ds : List (Int × List Int)} (h : fitD p f l len ds) (h1 : 0 ≤ g) (h2 : g < p) : pgSec p f l g = 2 + l + g * 8 ∧ 2 + l + g * 8 + 8 ≤ ((len / 512 : Nat) : Int) ∧ 0 ≤ 2 + l + g * 8 := by
  have hg := geo_good h.1
  have h3 := h.2.2
  unfold dskN at h3
  rw [if_pos h.1] at h3
  exact ⟨pgSec_yes h.1 h1 h2, by omega, by omega⟩
theorem pgB_length {p f l g : Int} {dur : List Int} {ds : List (Int × List Int)} (h : fitD p f l dur.length ds) (h1 : 0 ≤ g) (h2 : g < p) : (pgB (2 + l + g * 8) dur ds).length = 4096 := by
  obtain ⟨_, h3, h4⟩ := fit_sec h h1 h2
  exact joinS_length _ 8 (fun i hi => seeD_length h.2.1 (by omega) (by omega))
theorem isB_joinS {S : Nat → List Int} : ∀ k, (∀ i, i < k → IsB (S i)) → IsB (joinS S k)
  | 0, _ => fun x hx => by simp [joinS] at hx
  | k + 1, h => fun x hx => by
    rw [joinS_succ] at hx
    rcases List.mem_append.1 hx with hx | hx
    · exact isB_joinS k (fun i hi => h i (by omega)) x hx
    · exact h k (by omega) x hx

theorem pgSee_any (p f l g : Int) (dv pv : Value) (dur : List Int) (ps : List PW) (w : World) (hF : fitD p f l dur.length (dataP ps)) (h1 : 0 ≤ g) (h2 : g < p) (hv : RdD w dv pv dur ps) :
    Calls Try.prog 24 #[.agg #[dv, pv], .agg #[.int .i64 p, .int .i64 f, .int .i64 l], .int .i64 g] w fun e w' => ∃ a n c, e = .returned (.slice a n c) ∧ Own 0 5 .u8 w' (.slice a n c) (pgB (2 + l + g * 8) dur (dataP ps)) ∧ (∀ b, (Value.slice a n c).ownBlock = some b → w.heap.size ≤ b) ∧ Same w w' := by
  obtain ⟨f1, f2, f3⟩ := fit_sec hF h1 h2
  have hg := geo_good hF.1
  obtain ⟨F, hFF⟩ : ∃ F, 2 + l + g * 8 = F := ⟨_, rfl⟩
  have HSL : Hid (∀ k : Nat, k < 8 → (seeD (F + (k : Int)) dur (dataP ps)).length = 512) := fun k hk => seeD_length hF.2.1 (by omega) (by omega)
  have hdl : dur.length ≤ 524288 := by have := hF.2.1.1.2.2.1; have := hF.2.1.1.1; omega
  have HDL := hid hdl
  have HPS : Hid (∀ p ∈ ps, p.bs.length ≤ 1099511627776) := fun q hq => by
    have h := (hF.2.1.2 (q.sec, q.bs) (List.mem_map.2 ⟨q, hq, rfl⟩)).2.2
    dsimp only at h
    omega
  rw [hFF] at f1 f2 f3 ⊢
  have hF8 : F ≤ 1048576 := by omega
  have HV := hid hv
  have kS := fun wx => specPgSec_any p f l g wx
  rw [f1] at kS
  have HF2 : Hid (F + 8 ≤ ((dur.length / 512 : Nat) : Int)) := f2
  obtain ⟨a1, c1, rfl⟩ := hv.dur.form
  obtain ⟨a2, c2, rfl⟩ := hv.pend.form
  clear hv hF f1 hg hFF h1 h2 hdl f2
  obtain ⟨HK0, HA0, HG0⟩ := new2 w [.slice a1 dur.length c1, .slice a2 ps.length c2] 32 [.int .i64 p, .int .i64 f, .int .i64 l] 34
  generalize hn1 : dur.length = n1 at *
  generalize hn2 : ps.length = n2 at *
  have HN1 := hid hn1
  clear hn1 hn2
  go_enter Try.func24, Try.ntmps24
  go_wp2_with fail
  obtain ⟨w1, hw1⟩ : ∃ x, ((w.alloc (.cells #[.slice a1 n1 c1, .slice a2 n2 c2] 32)).alloc (.cells #[.int .i64 p, .int .i64 f, .int .i64 l] 34)).alloc (.cells #[] 5) = x := ⟨_, rfl⟩
  have HK1 := (show Hid (Same w w1) from by rw [← hw1]; exact HK0.out.alloc _)
  have HA1 := (show Hid (Blk w1 w.heap.size 32 [.slice a1 n1 c1, .slice a2 n2 c2]) from by rw [← hw1]; exact HA0.out.alloc _)
  have HG1 := (show Hid (Blk w1 (w.heap.size + 1) 34 [.int .i64 p, .int .i64 f, .int .i64 l]) from by rw [← hw1]; exact HG0.out.alloc _)
  have HO1 := (show Hid (Own 0 5 .u8 w1 (.slice (some ⟨w.heap.size + 1 + 1, 0, none⟩) 0 0) []) from by
    rw [← hw1]
    have h := World.ownsRow_made (base := 0) (e := 5) (size := 1) ((w.alloc (.cells #[.slice a1 n1 c1, .slice a2 n2 c2] 32)).alloc (.cells #[.int .i64 p, .int .i64 f, .int .i64 l] 34)) #[] 0 (Nat.zero_le _) (by simp) (by simp)
    rw [World.size_alloc, World.size_alloc] at h
    exact h)
  rw [hw1]
  clear hw1 HK0 HA0 HG0
  go_loopw [7, 8] (fun o i wr => ∃ (k : Nat) (aa : Option Addr) (na ca : Nat), k ≤ 8 ∧ o = .slice aa na ca ∧ i = .int .i64 (k : Int) ∧ Hid (Own 0 5 .u8 wr (.slice aa na ca) (joinS (fun i => seeD (F + (i : Int)) dur (dataP ps)) k)) ∧ Hid (∀ b, (Value.slice aa na ca).ownBlock = some b → w.heap.size + 1 < b) ∧
    Hid (Blk wr w.heap.size 32 [.slice a1 n1 c1, .slice a2 n2 c2]) ∧ Hid (Blk wr (w.heap.size + 1) 34 [.int .i64 p, .int .i64 f, .int .i64 l]) ∧ Hid (Same w wr)) (fun _ i _ => 8 - (intOf i).toNat)
  case atStart => exact ⟨0, _, _, _, Nat.zero_le _, rfl, rfl, HO1, fun b hb => by have : w.heap.size + 1 + 1 = b := (by simpa [Value.ownBlock] using hb); omega, HA1, HG1, HK1⟩
  case round =>
    obtain ⟨k, aa, na, ca, hk, rfl, rfl, HO, HFR, HA, HG, HK⟩ := hrel
    clear HO1 HA1 HG1 HK1
    by_cases hlt : k < 8
    case neg =>
      obtain rfl : k = 8 := by omega
      go_wp2
      go_ret
      exact ⟨_, _, _, rfl, HO.out, fun b hb => by have := HFR.out b hb; omega, HK.out⟩
    obtain ⟨e0, e1⟩ := HA.out.all2
    obtain ⟨e2, e3, e4⟩ := HG.out.all3
    have hla := HA.out.lt
    have hlg := HG.out.lt
    have q2 : IntKind.i64.wrap (F + (k : Int)) = F + (k : Int) := by rw [IntKind.wrap_i64]; omega
    have hS1 : Hid (0 ≤ F + (k : Int) ∧ F + (k : Int) ≤ 1048576 + 8) := ⟨by omega, by omega⟩
    have hjl := joinS_length (fun i => seeD (F + (i : Int)) dur (dataP ps)) k (fun i hi => HSL.out i (by omega))
    have HJL := hid hjl
    clear hjl
    go_wp2_with fail
    have hS : (fun wx : World => wx.cell? ⟨w.heap.size, 0, none⟩ = some (.slice a1 n1 c1) ∧ wx.cell? ⟨w.heap.size, 1, none⟩ = some (.slice a2 n2 c2) ∧ wx.cell? ⟨w.heap.size + 1, 0, none⟩ = some (.int .i64 p) ∧ wx.cell? ⟨w.heap.size + 1, 1, none⟩ = some (.int .i64 f) ∧ wx.cell? ⟨w.heap.size + 1, 2, none⟩ = some (.int .i64 l)) wr.drew := ⟨e0, e1, e2, e3, e4⟩
    refine wp_region_V (fun wx : World => wx.cell? ⟨w.heap.size, 0, none⟩ = some (.slice a1 n1 c1) ∧ wx.cell? ⟨w.heap.size, 1, none⟩ = some (.slice a2 n2 c2) ∧ wx.cell? ⟨w.heap.size + 1, 0, none⟩ = some (.int .i64 p) ∧ wx.cell? ⟨w.heap.size + 1, 1, none⟩ = some (.int .i64 f) ∧ wx.cell? ⟨w.heap.size + 1, 2, none⟩ = some (.int .i64 l)) 99 10 rfl (by kernel_rfl) ?_
    refine tk 0 14 hS ?_
    refine tk 1 15 hS ?_
    refine tk 2 16 hS ?_
    refine tk 3 17 hS ?_
    refine tk 5 19 hS ?_
    refine wpAnyV_one (i := 4) (by kernel_rfl) rfl (fun K hK => ?_)
    go_simp
    refine (kS _).mono ?_
    rintro e w3 ⟨rfl, hk3⟩
    have HK3 : Hid (Same wr w3) := (Kept.refl _ _).drew.trans hk3
    clear hk3
    have hS : (fun wx : World => wx.cell? ⟨w.heap.size, 0, none⟩ = some (.slice a1 n1 c1) ∧ wx.cell? ⟨w.heap.size, 1, none⟩ = some (.slice a2 n2 c2) ∧ wx.cell? ⟨w.heap.size + 1, 0, none⟩ = some (.int .i64 p) ∧ wx.cell? ⟨w.heap.size + 1, 1, none⟩ = some (.int .i64 f) ∧ wx.cell? ⟨w.heap.size + 1, 2, none⟩ = some (.int .i64 l)) w3 := ⟨HK3.out.cellOf e0 id, HK3.out.cellOf e1 id, HK3.out.cellOf e2 id, HK3.out.cellOf e3 id, HK3.out.cellOf e4 id⟩
    refine hK.out _ _ (fun _ => hS) ?_
    clear hK K
    try simp only [Act.put, sA, s0, sS]
    refine tk 6 20 hS ?_
    refine wpAnyV_one (i := 7) (by kernel_rfl) rfl (fun K hK => ?_)
    go_simp
    refine (l1See_any _ _ dur ps (F + (k : Int)) _ hS1.out.1 (by have := HF2.out; have := HDL.out; have := HN1.out; omega) (by have := HF2.out; have := HN1.out; omega) (by have := HDL.out; have := HN1.out; omega) HPS.out (HV.out.same (HK.out.trans HK3.out))).mono ?_
    rintro e w4 ⟨a4, n4, c4, rfl, ho4, hf4, hk4⟩
    have HK4 : Hid (Same wr w4) := HK3.out.trans hk4
    have HO4 := hid ho4
    have HF4 : Hid (∀ b, (Value.slice a4 n4 c4).ownBlock = some b → wr.heap.size ≤ b) := fun x hx => Nat.le_trans HK3.out.size (hf4 x hx)
    clear ho4 hf4 hk4
    have hS : (fun wx : World => wx.cell? ⟨w.heap.size, 0, none⟩ = some (.slice a1 n1 c1) ∧ wx.cell? ⟨w.heap.size, 1, none⟩ = some (.slice a2 n2 c2) ∧ wx.cell? ⟨w.heap.size + 1, 0, none⟩ = some (.int .i64 p) ∧ wx.cell? ⟨w.heap.size + 1, 1, none⟩ = some (.int .i64 f) ∧ wx.cell? ⟨w.heap.size + 1, 2, none⟩ = some (.int .i64 l)) w4 := ⟨HK4.out.cellOf e0 id, HK4.out.cellOf e1 id, HK4.out.cellOf e2 id, HK4.out.cellOf e3 id, HK4.out.cellOf e4 id⟩
    refine hK.out _ _ (fun _ => hS) ?_
    clear hK K
    try simp only [Act.put, sA, s0, sS]
    refine wpAnyV_one (i := 8) (by kernel_rfl) rfl (fun K hK => ?_)
    refine step_app (by rfl) (.tmp 14) (.tmp 21) (by rfl) (.slice aa na ca) (.slice a4 n4 c4) _ _ (by rfl) (by rfl) (HO.out.same HK4.out) HO4.out.rd (by rw [HJL.out, HSL.out k hlt]; omega) ?_
    intro a5 n5 c5 w5 hown5 hgr5
    rw [← joinS_succ (fun i => seeD (F + (i : Int)) dur (dataP ps)) k] at hown5
    have HO5 := hid hown5
    have HG5 := hid hgr5
    have hz4 := HK4.out.size
    have hna : ¬ (Value.slice aa na ca).ownBlock = some w.heap.size := fun e => by have := HFR.out _ e; omega
    have hng : ¬ (Value.slice aa na ca).ownBlock = some (w.heap.size + 1) := fun e => by have := HFR.out _ e; omega
    have HK5 := (show Hid (Kept (fun b => (Value.slice aa na ca).ownBlock = some b) wr w5) from (HK4.out.mono (fun _ _ e => e.elim)).trans HG5.out.kept)
    clear hown5 hgr5
    have hS : (fun wx : World => wx.cell? ⟨w.heap.size, 0, none⟩ = some (.slice a1 n1 c1) ∧ wx.cell? ⟨w.heap.size, 1, none⟩ = some (.slice a2 n2 c2) ∧ wx.cell? ⟨w.heap.size + 1, 0, none⟩ = some (.int .i64 p) ∧ wx.cell? ⟨w.heap.size + 1, 1, none⟩ = some (.int .i64 f) ∧ wx.cell? ⟨w.heap.size + 1, 2, none⟩ = some (.int .i64 l)) w5 := ⟨HK5.out.cellOf e0 hna, HK5.out.cellOf e1 hna, HK5.out.cellOf e2 hng, HK5.out.cellOf e3 hng, HK5.out.cellOf e4 hng⟩
    refine hK.out _ _ (fun _ => hS) ?_
    clear hK K
    try simp only [Act.put, sA, s0, sS]
    refine tk 9 7 hS ?_
    refine wpAnyV_done (by kernel_rfl) ?_
    go_wp2
    go_roundw
    case rel =>
      refine ⟨k + 1, a5, n5, c5, by omega, rfl, by go_num, HO5, fun b hb => ?_, HA.out.kept HK5.out hna, HG.out.kept HK5.out hng, HK.out.next HK5.out (fun i hi e => by have := HFR.out _ e; omega)⟩
      rcases HG5.out.own b hb with h | h
      · exact HFR.out b h
      · omega
    case measure => simp [intOf]; omega
end Go.Proofs.Ytednajibnjofmaa
