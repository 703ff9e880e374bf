import Derived.Test.YtfhdkbibcndmjaaG14
import Derived.Test.YtfhdkbibcndmjaaG13
import Derived.Test.YtfhdkbibcndmjaaG01
import Derived.Test.YtfhdkbibcndmjaaG02
import Derived.Test.YtfhdkbibcndmjaaG08
import Derived.Test.YtfhdkbibcndmjaaG00
import Derived.Test.YtfhdkbibcndmjaaRunI
import Derived.Test.YtfhdkbibcndmjaaG05
import Derived.Deep.AppendLies
import Derived.Laws.BytesArg
namespace Go.Proofs.Ytfhdkbibcndmjaa
set_option maxRecDepth 100000
set_option maxHeartbeats 8000000
open Go.RowKit
set_option linter.unusedVariables false
set_option linter.unusedSimpArgs false
structure OpI (w0 w wr : World) (B : Nat) (v : Value) (cs : List Int) (k : Nat) (size : Int) (D Z : Nat) (dv pv : Value) (dur : List Int) (ps : List PW) (a4 : Option Addr) (n4 c4 : Nat) (os : List EOp) : Prop where
  src : SrcR w0 wr B v cs k size
  box : Blk wr D 25 [dv, pv]
  res : Blk wr w.heap.size 25 [.slice none 0 0, .slice none 0 0]
  rd : RdD wr dv pv dur ps
  foot : ∀ b, footD dv pv ps b → w.heap.size < b ∧ b < Z ∧ ¬ b = B
  own : OwnR kOp 0 76 5 wr (.slice a4 n4 c4) os
  new : ∀ b, footR kOp (.slice a4 n4 c4) os b → Z ≤ b
  len : ∀ p ∈ os, p.bs.length ≤ 512
  same : Same w wr
  num : n4 = os.length
section
variable {w0 w wr wx : World} {B : Nat} {v : Value} {cs : List Int} {k k' : Nat} {size : Int} {D Z : Nat} {dv pv : Value} {dur : List Int} {ps : List PW} {a4 : Option Addr} {n4 c4 : Nat} {os : List EOp}
theorem OpI.on (h : OpI w0 w wr B v cs k size D Z dv pv dur ps a4 n4 c4 os) (hk : Same wr wx) : OpI w0 w wx B v cs k size D Z dv pv dur ps a4 n4 c4 os :=
  ⟨h.src.same hk, h.box.same hk, h.res.same hk, h.rd.same hk, h.foot, h.own.same hk, h.new, h.len, h.same.trans hk, h.num⟩
theorem OpI.draw (h : OpI w0 w wr B v cs k size D Z dv pv dur ps a4 n4 c4 os) (hB : w.heap.size < B) (hBD : B < D) (hZ : D < Z) (hs : SrcR w0 wx B v cs k' size) (hk : Kept (fun b => b = B) wr wx) : OpI w0 w wx B v cs k' size D Z dv pv dur ps a4 n4 c4 os :=
  ⟨hs, h.box.kept hk (fun e => by omega), h.res.kept hk (fun e => by omega), h.rd.kept hk (fun b hb e => (h.foot b hb).2.2 e), h.foot, h.own.kept hk (fun b hb e => by have h1 := h.new b hb; have e' : b = B := e; omega), h.new, h.len, h.same.next hk (fun i hi e => by omega), h.num⟩
theorem OpI.snoc {w3 : World} {kind sec : Int} {a5 : Option Addr} {n5 c5 : Nat} {bs : List Int} {g6 cap6 : Nat} (h : OpI w0 w wr B v cs k size D Z dv pv dur ps a4 n4 c4 os) (hw0 : w0.heap.size ≤ Z) (hB : w.heap.size < B) (hBD : B < D) (hZ : D < Z) (hZl : Z ≤ wr.heap.size)
    (hu : Own 0 5 .u8 wr (.slice a5 n5 c5) bs) (hul : bs.length ≤ 512) (huf : ∀ b, (Value.slice a5 n5 c5).ownBlock = some b → Z ≤ b ∧ ¬ footR kOp (.slice a4 n4 c4) os b)
    (hg : (wr.alloc (.cells #[.int .i64 kind, .int .i64 sec, .slice a5 n5 c5] 76)).grownBy w3 (Value.slice a4 n4 c4).ownBlock)
    (hown : w3.ownsRow 0 76 3 (.slice (some ⟨g6, 0, none⟩) (n4 + 1) cap6) (n4 + 1) (kOp.all os ++ [.int .i64 kind, .int .i64 sec, .slice a5 n5 c5])) (hat : (Value.slice a4 n4 c4).ownBlock = some g6 ∨ g6 = wr.heap.size + 1) :
    OpI w0 w w3 B v cs k size D Z dv pv dur ps (some ⟨g6, 0, none⟩) (n4 + 1) cap6 (os ++ [⟨kind, sec, .slice a5 n5 c5, bs⟩]) := by
  have hk3 : Kept (fun b => (Value.slice a4 n4 c4).ownBlock = some b) wr w3 := ((Kept.refl _ _).alloc _).trans (Kept.of_grown hg (fun k e => e))
  have hpn : ∀ b, (Value.slice a4 n4 c4).ownBlock = some b → Z ≤ b := fun b hb => h.new b (.inl hb)
  have hsn := OwnR.snoc (K := kOp) (⟨kind, sec, .slice a5 n5 c5, bs⟩ : EOp) (h.own.same ((Kept.refl (fun _ => False) _).alloc (.cells #[.int .i64 kind, .int .i64 sec, .slice a5 n5 c5] 76))) (hu.same ((Kept.refl (fun _ => False) _).alloc (.cells #[.int .i64 kind, .int .i64 sec, .slice a5 n5 c5] 76))) (fun b hb hf => (huf b hb).2 hf) hg hown h.num (by rw [World.size_alloc]; exact hat)
  refine ⟨h.src.on hk3 (fun e => by have := hpn _ e; omega) (fun i hi e => by have := hpn _ e; omega), h.box.kept hk3 (fun e => by have := hpn _ e; omega), h.res.kept hk3 (fun e => by have := hpn _ e; omega), h.rd.kept hk3 (fun b hb e => by have h1 := (h.foot b hb).2.1; have := hpn _ e; omega), h.foot, hsn, ?_, ?_, h.same.next hk3 (fun i hi e => by have h1 := hpn _ e; omega), by rw [List.length_append, List.length_singleton, h.num]⟩
  · intro b hb
    rcases footR_snoc (v := .slice a4 n4 c4) b hb with rfl | hb | hb
    · rcases hat with e | e
      · exact hpn _ e
      · omega
    · exact h.new b hb
    · exact (huf b hb).1
  · intro p hp
    rcases List.mem_append.1 hp with hp | hp
    · exact h.len p hp
    · rw [List.mem_singleton.1 hp]; exact hul
end
theorem OwnR.emptyAt (w : World) : OwnR kOp 0 76 5 (w.alloc (Obj.cells #[] 76)) (.slice (some ⟨w.heap.size, 0, none⟩) 0 0) [] :=
  ⟨⟨by simp [RowK.all], .inr ⟨w.heap.size, 0, #[], rfl, Nat.zero_le _, by unfold World.alloc; exact Array.getElem?_push_size, Nat.le_refl _, Nat.zero_le _, by simp [RowK.all]⟩⟩, fun _ h => by simp at h, fun _ h => by simp at h, List.Pairwise.nil⟩
theorem results_cell3 {fn : Func} {p u t : Tmp} {ty : TypeId} (h : fn.results = #[.cell p ty, .tmp u, .tmp t]) (tmps : Array Value) (P : Program) (w : World) :
    (results fn tmps).run P w =
      ((asAddr (tmps.getD p undef)).run P w).andThen fun a w₁ => ((loadVar ty a).run P w₁).andThen fun v w₂ => .ok (.tuple #[v, tmps.getD u undef, tmps.getD t undef]) w₂ := by
  simp only [results, h]
  simp [Sem.run_bind, Result.andThen]
def RoR (w w' : World) (e : Ending) : Prop :=
  ∃ (dv pv : Value) (dur : List Int) (ps : List PW) (g c : Nat) (os : List EOp) (lim : Int), e = .returned (.tuple #[.agg #[dv, pv], .slice (some ⟨g, 0, none⟩) os.length c, .int .i64 lim]) ∧ dur.length ≤ 2560 ∧ ps.length ≤ 7 ∧ (∀ p ∈ ps, p.bs.length ≤ 512) ∧ RdD w' dv pv dur ps ∧ os.length ≤ 7 ∧ os.length ≤ c ∧ (∀ p ∈ os, p.bs.length ≤ 512) ∧ RdR kOp w' (.slice (some ⟨g, 0, none⟩) os.length c) os ∧ Same w w'
theorem drawRun_any (v : Value) (cs : List Int) (w : World) (hb : IsB cs) (hn : cs.length ≤ 1048576) (hv : Rd .u8 w v cs) :
    Calls Try.prog 8 #[v] w fun e w' => RoR w w' e := by
  obtain ⟨i0, hi, hz0, hz1, hz2⟩ := info_parts Try.infoROp
  obtain ⟨va, vc, rfl⟩ := hv.form
  have HR0 := hid (Blk.newL w [.slice none 0 0, .slice none 0 0] 25)
  have HK0 := hid (sameA w [.slice none 0 0, .slice none 0 0] 25)
  have k0 := source_r (.slice va cs.length vc) cs _ hb hn (hv.same HK0.out)
  clear hv hb
  generalize cs.length = cn at k0
  go_enter Try.func8, Try.ntmps8
  go_wp2_with fail
  refine k0.mono ?_
  rintro e w1 ⟨B, size, rfl, hB, hs1, hk1⟩
  have HS1 := hid hs1
  have HK1 := hid (HK0.out.trans hk1)
  have HR1 := hid (HR0.out.same hk1)
  have hB0 : w.heap.size < B := by have := HR0.out.lt; omega
  have hBl := hs1.lt
  clear k0 hs1 hk1 HR0 HK0 hB
  go_wp2_with fail
  refine (drawDisk_k HS1.out (by omega)).mono ?_
  rintro e w2 ⟨dv, pv, dur, ps, k2, rfl, hd1, hd2, hd3, hrd, hft, hk2, hs2, hk2k⟩
  obtain ⟨da, dc, rfl⟩ := hrd.dur.form
  obtain ⟨pa, pc, rfl⟩ := hrd.pend.form
  have hBD : B < w2.heap.size := by have := hk2k.size; omega
  have hw12 : w1.heap.size ≤ w2.heap.size := hk2k.size
  obtain ⟨n, hn0⟩ : ∃ n, dur.length = n := ⟨_, rfl⟩
  obtain ⟨np, hnp⟩ : ∃ n, ps.length = n := ⟨_, rfl⟩
  rw [hn0, hnp] at hrd hft ⊢
  rw [hn0] at hd1
  rw [hnp] at hd2
  have HN0 := hid hn0
  have HNP := hid hnp
  have HI0 : Hid (OpI w1 w ((w2.alloc (.cells #[.slice da n dc, .slice pa np pc] 25)).alloc (.cells #[] 76)) B (.slice va cn vc) cs k2 size w2.heap.size (w2.heap.size + 1) (.slice da n dc) (.slice pa np pc) dur ps (some ⟨w2.heap.size + 1, 0, none⟩) 0 0 []) := by
    have hs := ((Kept.refl (fun _ => False) w2).alloc (.cells #[.slice da n dc, .slice pa np pc] 25)).alloc (.cells #[] 76)
    have he := OwnR.emptyAt (w2.alloc (.cells #[.slice da n dc, .slice pa np pc] 25))
    rw [World.size_alloc] at he
    exact ⟨hs2.same hs, (Blk.new w2 #[.slice da n dc, .slice pa np pc] _).alloc _, (HR1.out.kept hk2k (fun e => by omega)).same hs, hrd.same hs, fun b hb => by
      have h1 := (hft b hb).1
      have h2 := (hft b hb).2
      exact ⟨by have := HR1.out.lt; omega, by omega, by omega⟩, he, fun b hb => by
      rcases hb with hb | ⟨p, hp, _⟩
      · have e : w2.heap.size + 1 = b := (by simpa [Value.ownBlock] using hb)
        omega
      · simp at hp, fun p hp => by simp at hp, (HK1.out.next hk2k (fun i hi e => by omega)).trans hs, rfl⟩
  have hZ0 : w2.heap.size + 1 ≤ ((w2.alloc (.cells #[.slice da n dc, .slice pa np pc] 25)).alloc (.cells #[] 76)).heap.size := by simp
  obtain ⟨D, hD⟩ : ∃ D, w2.heap.size = D := ⟨_, rfl⟩
  have HD := hid hD
  clear hn0 hnp hrd hft hs2 hk2k HS1 HK1 HR1 hD
  go_wp2_with fail
  generalize (w2.alloc (.cells #[.slice da n dc, .slice pa np pc] 25)).alloc (.cells #[] 76) = w3 at HI0 hZ0 ⊢
  rw [HD.out] at HI0 hZ0 hBD hw12 ⊢
  clear HD
  refine (next_k 8 HI0.out.src (by omega) (by constructor <;> decide)).mono ?_
  rintro e w4 ⟨q, rfl, hd, hs4, hk4⟩
  obtain ⟨hq1, hq2⟩ := hd.2 (by decide)
  have HI4 := hid (HI0.out.draw hB0 hBD (Nat.lt_succ_self _) hs4 hk4)
  have hZ4 : D + 1 ≤ w4.heap.size := by have := hk4.size; omega
  obtain ⟨Q, rfl⟩ : ∃ Q : Nat, q = (Q : Int) := ⟨q.toNat, by omega⟩
  clear hd hs4 hk4 HI0 hZ0
  go_wp2_with fail
  go_loopw [7, 8] (fun o i wr => ∃ (m k3 g4 n4 c4 : Nat) (os : List EOp), m ≤ Q ∧ i = .int .i64 (m : Int) ∧ o = .slice (some ⟨g4, 0, none⟩) n4 c4 ∧ n4 + m = Q ∧ k3 ≤ k2 + 1 + 5 * (Q - m) ∧ D + 1 ≤ wr.heap.size ∧ Hid (OpI w1 w wr B (.slice va cn vc) cs k3 size D (D + 1) (.slice da n dc) (.slice pa np pc) dur ps (some ⟨g4, 0, none⟩) n4 c4 os)) (fun _ i _ => (intOf i).toNat)
  case atStart => exact ⟨Q, k2 + 1, _, 0, 0, [], Nat.le_refl _, rfl, rfl, by omega, by omega, hZ4, HI4⟩
  case round =>
    obtain ⟨m, k3, g4, n4, c4, os, hm, rfl, rfl, hnm, hk3, hZr, HI⟩ := hrel
    obtain ⟨d0, d1⟩ := HI.out.box.all2
    cases m with
    | succ m =>
      have hn4 : n4 ≤ 7 := by omega
      go_wp2_with fail
      refine (l1Sectors_any da n dc pa np pc _ (by unfold maxLen; omega)).mono ?_
      rintro e w5 ⟨rfl, hw5⟩
      have hk5 : Same wr w5 := by rw [hw5]; exact (Kept.refl _ _).alloc _
      have HI5 := hid (HI.out.on hk5)
      have hZ5 : D + 1 ≤ w5.heap.size := by have := hk5.size; omega
      clear hw5 hk5 d0 d1 HI
      obtain ⟨S, hS⟩ : ∃ S, n / 512 = S := ⟨_, rfl⟩
      have hS5 : S ≤ 1024 := by omega
      rw [hS]
      clear hS
      go_wp2_with fail
      refine (drawOp_k S HI5.out.src (by omega) hS5).mono ?_
      rintro e w6 ⟨kind, sec, a5, n5, c5, bs, k6, rfl, hbl, ho6, hf6, hk6, hs6, hk6k⟩
      have HI6 := hid (HI5.out.draw hB0 hBD (Nat.lt_succ_self _) hs6 hk6k)
      have hZ6 : D + 1 ≤ w6.heap.size := by have := hk6k.size; omega
      have HO6 := hid ho6
      have HF6 := (show Hid (∀ b, (Value.slice a5 n5 c5).ownBlock = some b → D + 1 ≤ b ∧ ¬ footR kOp (.slice (some ⟨g4, 0, none⟩) n4 c4) os b) from fun b hb => ⟨by have := hf6 b hb; omega, fun hf => by have h1 := hf6 b hb; have h2 := (HI5.out.own.lt b hf).2; omega⟩)
      have HKO := (show Hid ((w6.alloc (.cells #[.int .i64 kind, .int .i64 sec, .slice a5 n5 c5] 76)).ownsRow 0 76 3 (.slice (some ⟨g4, 0, none⟩) n4 c4) n4 (kOp.all os)) from by have h := (HI6.out.own.same ((Kept.refl (fun _ => False) _).alloc (.cells #[.int .i64 kind, .int .i64 sec, .slice a5 n5 c5] 76))).row; rw [← HI6.out.num] at h; exact h)
      have HN6 := hid (Blk.newL w6 [.int .i64 kind, .int .i64 sec, .slice a5 n5 c5] 76)
      clear ho6 hf6 hs6 hk6k HI5
      go_wp2_with (at_builtin; go_loud (refine wpList_append_lies _ rfl (.tmp 20) (.tmp 25) 26 rfl 0 76 i0 _ 3 40 Try.underlying26 hi hz0 hz1 hz2 rfl (by omega) (.slice (some ⟨g4, 0, none⟩) n4 c4) n4 (kOp.all os) rfl (by exact HKO.out) ⟨w6.heap.size, 0, none⟩ 1 1 [.int .i64 kind, .int .i64 sec, .slice a5 n5 c5] rfl rfl (World.news_of_block (cs := #[.int .i64 kind, .int .i64 sec, .slice a5 n5 c5]) (t := 76) (fr := (0, 0)) (by exact HN6.out)) (by simp [Value.oneCell']) (by omega) (by unfold maxLen; omega) (by omega) (Nat.zero_le _) (w6.heap.size + 1) (by simp) ?_); intro g7 cap7 w7 hown7 hgrow7 hat7 hlt7; have HI7 := hid (HI6.out.snoc (by omega) hB0 hBD (Nat.lt_succ_self _) hZ6 HO6.out hbl HF6.out hgrow7 hown7 hat7); have hZ7 : D + 1 ≤ w7.heap.size := (by have := hgrow7.size; rw [World.size_alloc] at this; omega); clear hown7 hgrow7 hat7 hlt7)
      go_roundw
      case rel => exact ⟨m, k6, g7, n4 + 1, cap7, _, by omega, by go_num, rfl, by omega, by omega, hZ7, HI7⟩
      case measure => simp [intOf]
    | zero =>
      go_wp2_with fail
      refine wp_region_V (fun wx : World => wx.cell? ⟨D, 0, none⟩ = some (.slice da n dc) ∧ wx.cell? ⟨D, 1, none⟩ = some (.slice pa np pc)) 99 8 rfl (by kernel_rfl) ?_
      generalize hwd : World.drew wr = v0
      have hk0 : Same wr v0 := by rw [← hwd]; exact (Kept.refl _ _).drew
      clear hwd
      have HA0 := hid (HI.out.on hk0)
      clear hk0 d0 d1
      have hS : (fun wx : World => wx.cell? ⟨D, 0, none⟩ = some (.slice da n dc) ∧ wx.cell? ⟨D, 1, none⟩ = some (.slice pa np pc)) v0 := ⟨HA0.out.box.cell 0, HA0.out.box.cell 1⟩
      refine tk 0 27 hS ?_
      refine tk 1 28 hS ?_
      refine tk 2 29 hS ?_
      refine wpAnyV_one (i := 3) (by kernel_rfl) rfl (fun K hK => ?_)
      go_simp
      refine (next_k 11 HA0.out.src (by omega) (by constructor <;> decide)).mono ?_
      rintro e v1 ⟨lm, rfl, hd, hs1, hk1⟩
      obtain ⟨hl1, hl2⟩ := hd.2 (by decide)
      have HA1 := hid (HA0.out.draw hB0 hBD (Nat.lt_succ_self _) hs1 hk1)
      have hS : (fun wx : World => wx.cell? ⟨D, 0, none⟩ = some (.slice da n dc) ∧ wx.cell? ⟨D, 1, none⟩ = some (.slice pa np pc)) v1 := ⟨HA1.out.box.cell 0, HA1.out.box.cell 1⟩
      clear hs1 hk1 hd
      go_wp2_with fail
      refine hK.out _ _ (fun _ => hS) ?_
      clear hK K
      try simp only [Act.put, sA, s0, sS]
      have hwr : IntKind.i64.wrap (lm - 1) = lm - 1 := by rw [IntKind.wrap_i64]; omega
      refine tkV 4 31 (.int .i64 (lm - 1)) hS ?_
      obtain ⟨r0, r1⟩ := HA1.out.res.all2
      have fr := HA1.out.res.frozen
      have lr := HA1.out.res.lt
      have hkr : Kept (fun b => b = w.heap.size) v1 ((v1.setCell ⟨w.heap.size, 0, none⟩ (.slice da n dc)).setCell ⟨w.heap.size, 1, none⟩ (.slice pa np pc)) := ((Kept.refl (fun b => b = w.heap.size) v1).setCell (p := ⟨w.heap.size, 0, none⟩) (.inr rfl) _).setCell (p := ⟨w.heap.size, 1, none⟩) (.inr rfl) _
      have hrb := (HA1.out.res.stored 0 (.slice da n dc)).stored 1 (.slice pa np pc)
      have hbx := HA1.out.box.kept hkr (fun e => by omega)
      refine wpAnyV_one (i := 5) (by kernel_rfl) rfl (fun K hK => ?_)
      go_simp
      have hS : (fun wx : World => wx.cell? ⟨D, 0, none⟩ = some (.slice da n dc) ∧ wx.cell? ⟨D, 1, none⟩ = some (.slice pa np pc)) ((v1.setCell ⟨w.heap.size, 0, none⟩ (.slice da n dc)).setCell ⟨w.heap.size, 1, none⟩ (.slice pa np pc)) := ⟨hbx.cell 0, hbx.cell 1⟩
      refine hK.out _ _ (fun _ => hS) ?_
      clear hK K
      try simp only [Act.put, sA, s0, sS]
      generalize ((v1.setCell ⟨w.heap.size, 0, none⟩ (.slice da n dc)).setCell ⟨w.heap.size, 1, none⟩ (.slice pa np pc)) = v2 at hkr hrb hbx hS ⊢
      refine tk 6 3 hS ?_
      refine tk 7 4 hS ?_
      refine wpAnyV_done (by kernel_rfl) ?_
      clear hS r0 r1 fr lr
      have z0 : v2.cell? ⟨w.heap.size, 0, none⟩ = some (.slice da n dc) := hrb.cell 0
      have z1 : v2.cell? ⟨w.heap.size, 1, none⟩ = some (.slice pa np pc) := hrb.cell 1
      have HKR := hid hkr
      clear hkr hrb hbx
      go_wp2_with fail
      (try simp only [Exit.inBlock, Exit.then])
      have hnum := HA1.out.num
      refine bodyPost_ret (v := .tuple #[.agg #[.slice da n dc, .slice pa np pc], .slice (some ⟨g4, 0, none⟩) n4 c4, .int .i64 (lm - 1)]) ?_ rfl ?_
      · rw [results_cell3 rfl]
        go_simp
      have hown := HA1.out.own
      have hnew := HA1.out.new
      subst hnum
      refine ⟨_, _, dur, ps, g4, c4, os, lm - 1, rfl, by rw [HN0.out]; exact hd1, by rw [HNP.out]; exact hd2, hd3, HA1.out.rd.kept HKR.out (fun b hb e => by have := (HA1.out.foot b hb).1; have e' : b = w.heap.size := e; omega), by omega, ?_, HA1.out.len, hown.rd.kept HKR.out (fun b hb e => by have := hnew b hb; have e' : b = w.heap.size := e; omega), HA1.out.same.next HKR.out (fun i hi e => by omega)⟩
      rcases hown.form with ⟨h1, h2⟩ | ⟨g, cap, h1, _, _, h3, _⟩
      · rw [h2]; simp
      · injection h1 with _ _ h1; omega
end Go.Proofs.Ytfhdkbibcndmjaa

namespace Go.Proofs.Ytfhdkbibcndmjaa
set_option maxRecDepth 100000
set_option maxHeartbeats 2000000
open Go.RowKit
set_option linter.unusedVariables false
def AtR (n r : Int) : Prop := (n ≤ 1 → r = 0) ∧ (1 < n → 0 ≤ r ∧ r < n)
theorem lwAt_any (v : Value) (cs : List Int) (k : Nat) (n : Int) (w : World) (hb : IsB cs) (hfew : cs.length ≤ 1048576) (hk : k ≤ 1048576) (hn : IsI n) (hv : Rd .u8 w v cs) :
    Calls Try.prog 12 #[v, .int .i64 k, .int .i64 n] w fun e w' => ∃ r, e = .returned (.int .i64 r) ∧ AtR n r ∧ Same w w' := by
  obtain ⟨a, c, rfl⟩ := hv.form
  obtain ⟨hn1, hn2⟩ := hn
  by_cases h1 : n ≤ 1
  · go_enter Try.func12, Try.ntmps12
    go_wp2
    go_ret
    exact ⟨0, rfl, ⟨fun _ => rfl, fun h => by omega⟩, Kept.refl _ _⟩
  · by_cases h2 : cs.length = 0
    · have e0 : ((cs.length : Nat) : Int) = 0 := by omega
      rw [h2]
      go_enter Try.func12, Try.ntmps12
      go_wp2
      go_ret
      exact ⟨_, rfl, ⟨fun h => by omega, fun h => ⟨Int.emod_nonneg _ (by omega), Int.emod_lt_of_pos _ (by omega)⟩⟩, Kept.refl _ _⟩
    · obtain ⟨b, off, rfl, hc⟩ : ∃ b off, a = some ⟨b, off, none⟩ ∧ ∀ i, i < cs.length → w.cell? ⟨b, off + i, none⟩ = some (.int .u8 (cs.getD i 0)) := by
        rcases hv.2 with ⟨hnil, _⟩ | ⟨b, off, c', h, _, hc⟩
        · rw [hnil] at h2
          simp at h2
        · cases h
          exact ⟨b, off, rfl, hc⟩
      have q1 := hc (k % cs.length) (Nat.mod_lt _ (by omega))
      have q2 := hc ((k + 1) % cs.length) (Nat.mod_lt _ (by omega))
      have x1 := hb.at (k % cs.length) (Nat.mod_lt _ (by omega))
      have x2 := hb.at ((k + 1) % cs.length) (Nat.mod_lt _ (by omega))
      have m1 : (k : Int) % (cs.length : Int) = ((k % cs.length : Nat) : Int) := by simp
      have m2 : ((k : Int) + 1) % (cs.length : Int) = (((k + 1) % cs.length : Nat) : Int) := by simp
      have l1 := Nat.mod_lt k (y := cs.length) (by omega)
      have l2 := Nat.mod_lt (k + 1) (y := cs.length) (by omega)
      have d1 : (k : Int) / (cs.length : Int) = ((k / cs.length : Nat) : Int) := by simp
      have d2 : k / cs.length ≤ k := Nat.div_le_self _ _
      clear hc hv hb
      generalize cs.getD (k % cs.length) 0 = x at *
      generalize cs.getD ((k + 1) % cs.length) 0 = y at *
      generalize k % cs.length = i1 at *
      generalize (k + 1) % cs.length = i2 at *
      generalize k / cs.length = j1 at *
      generalize hl : cs.length = len at *
      have hl0 : (0 : Int) < (len : Int) := by omega
      have hl1 : ¬ (len : Int) = 0 := by omega
      have l1' : (i1 : Int) < (len : Int) := by omega
      have l2' : (i2 : Int) < (len : Int) := by omega
      by_cases h3 : 200 < n
      · go_enter Try.func12, Try.ntmps12
        go_wp2
        go_quiet (fail)
        go_wp2
        go_ret
        exact ⟨_, rfl, ⟨fun h => by omega, fun h => ⟨Int.emod_nonneg _ (by omega), Int.emod_lt_of_pos _ (by omega)⟩⟩, (Kept.refl _ _).drewN _⟩
      · go_enter Try.func12, Try.ntmps12
        go_wp2
        go_quiet (fail)
        go_wp2
        go_ret
        exact ⟨_, rfl, ⟨fun h => by omega, fun h => ⟨Int.emod_nonneg _ (by omega), Int.emod_lt_of_pos _ (by omega)⟩⟩, (Kept.refl _ _).drewN _⟩
end Go.Proofs.Ytfhdkbibcndmjaa

namespace Go.Proofs.Ytfhdkbibcndmjaa
open Go.RowKit
set_option linter.unusedVariables false
set_option linter.unusedSimpArgs false
structure Grew (w : World) (v : Value) (w' : World) (v' : Value) : Prop where
  kept : Kept (fun b => v.ownBlock = some b) w w'
  own : ∀ b, v'.ownBlock = some b → v.ownBlock = some b ∨ w.heap.size ≤ b
theorem Grew.trans {w w1 w2 : World} {v v1 v2 : Value} (h : Grew w v w1 v1) (k : Grew w1 v1 w2 v2) : Grew w v w2 v2 := by
  refine ⟨h.kept.next k.kept (fun i hi e => (h.own i e).resolve_right (by omega)), fun b hb => ?_⟩
  rcases k.own b hb with h1 | h1
  · exact h.own b h1
  · have := h.kept.size
    exact .inr (by omega)
theorem Grew.of_same {w w' : World} {v : Value} (h : Same w w') : Grew w v w' v := ⟨h.mono (fun _ _ e => absurd e id), fun b hb => .inl hb⟩
theorem Grew.refl (w : World) (v : Value) : Grew w v w v := Grew.of_same (Kept.refl _ _)
theorem Grew.size {w w' : World} {v v' : Value} (h : Grew w v w' v') : w.heap.size ≤ w'.heap.size := h.kept.size
theorem Grew.same {w0 w w' : World} {v v' : Value} (h : Grew w v w' v') (h0 : Same w0 w) (hv : ∀ b, v.ownBlock = some b → w0.heap.size ≤ b) : Same w0 w' :=
  h0.next h.kept (fun i hi e => by have := hv i e; omega)
end Go.Proofs.Ytfhdkbibcndmjaa

namespace Go.Proofs.Ytfhdkbibcndmjaa
open Go.RowKit
set_option maxRecDepth 100000
set_option linter.unusedVariables false
set_option linter.unusedSimpArgs false
theorem news_ofZ {w : World} {b off : Nat} {bs : List Int} (hc : ∀ i, i < bs.length → w.cell? ⟨b, off + i, none⟩ = some (.int .i64 (bs.getD i 0))) (j : Nat) (u : Value) (h : (vals .i64 bs)[j]? = some u) : w.cell? ((⟨b, off, none⟩ : Addr).add j) = some u := by
  have hj : j < bs.length := by have := (List.getElem?_eq_some_iff.1 h).1; rwa [vals_length] at this
  rw [vals_at _ _ _ hj] at h
  have e : (⟨b, off, none⟩ : Addr).add j = ⟨b, off + j, none⟩ := by
    unfold Addr.add
    split
    · next h => subst h; rfl
    · rfl
  rw [e, hc j hj]
  exact h
theorem run_appZ {ty : TypeId} {w : World} {v x : Value} {bs ys : List Int} (ho : Own 0 2 .i64 w v bs) (hx : Rd .i64 w x ys) (hl : bs.length + ys.length ≤ 1099511627776) :
    ∃ a n c w', (Builtin.append_ #[35, 35] ty #[v, x]).run Try.prog w = .ok (.slice a n c) w' ∧ Own 0 2 .i64 w' (.slice a n c) (bs ++ ys) ∧ Grew w v w' (.slice a n c) := by
  obtain ⟨i0, hi, hz0, hz1, hz2⟩ := info_parts Try.infoI64
  have some_case : ∀ (ad : Addr) (c : Nat), (∀ j u, (vals .i64 ys)[j]? = some u → w.cell? (ad.add j) = some u) → ∃ a n c' w', (Builtin.append_ #[35, 35] ty #[v, .slice (some ad) ys.length c]).run Try.prog w = .ok (.slice a n c') w' ∧ Own 0 2 .i64 w' (.slice a n c') (bs ++ ys) ∧ Grew w v w' (.slice a n c') := fun ad c hn => by
    obtain ⟨v', w', hr, h2, h3, _, h5⟩ := run_append_own_at (P := Try.prog) w 0 35 ty 2 i0 (.int .i64 0) 1 8 Try.underlying35 hi hz0 hz1 hz2 rfl (by decide) v bs.length (vals .i64 bs) ho ad ys.length c (vals .i64 ys) (by simp [vals_length]) hn vals_one (by unfold maxLen; omega) (by omega) (Nat.zero_le _)
    have h2' : Own 0 2 .i64 w' v' (bs ++ ys) := by unfold Own; simpa [vals] using h2
    obtain ⟨a, n, c', rfl⟩ := slice_of_own h2'
    refine ⟨a, n, c', w', hr, h2', Kept.of_grown h3 (fun k e => e), fun b hb => ?_⟩
    rcases h5 with h5 | h5
    · exact .inl (by rw [← h5]; exact hb)
    · rw [h5] at hb
      exact .inr (by have := Option.some.inj hb; omega)
  rcases hx.2 with ⟨rfl, a, c, rfl, hac⟩ | ⟨b, off, c, rfl, _, hc⟩
  · cases a with
    | none =>
      obtain rfl : c = 0 := hac rfl
      have hr := run_append_owned_none (P := Try.prog) (w := w) 0 35 ty 2 i0 1 Try.underlying35 hi v bs.length (vals .i64 bs) ho
      obtain ⟨a, n, c', rfl⟩ := slice_of_own ho
      exact ⟨a, n, c', w, hr, by rw [List.append_nil]; exact ho, Grew.refl _ _⟩
    | some ad => exact some_case ad c (fun j u h => by simp [vals] at h)
  · exact some_case ⟨b, off, none⟩ c (news_ofZ hc)
theorem wp_appZ {w : World} {o : Oper} {a : Act} {K : Act → World → Prop} {Q : Exit → Act → World → Prop} (s x : Operand)
    (ho : o.op = .call { callee := .builtin .append, args := #[s, x], argTypes := #[35, 35] })
    (v xv : Value) (bs ys : List Int) (hs : a.eval s = v) (hx : a.eval x = xv) (hown : Own 0 2 .i64 w v bs) (hrd : Rd .i64 w xv ys) (hl : bs.length + ys.length ≤ 1099511627776)
    (h : ∀ a' n' c' w', Own 0 2 .i64 w' (.slice a' n' c') (bs ++ ys) → Grew w v w' (.slice a' n' c') → K (a.put o.dst (.slice a' n' c')) w') : o.wp Try.prog a w K Q := by
  obtain ⟨a', n', c', w', hr, h2, h3⟩ := run_appZ (ty := o.type) hown hrd hl
  unfold Oper.wp execOp
  simp only [ho, resolve, invoke, builtin, Sem.run_bind, Sem.run_pure, Result.andThen_ok, List.map_toArray, List.map_cons, List.map_nil, hs, hx, hr]
  exact h a' n' c' w' h2 h3
theorem wpList_appZ {w : World} {ops : Array Oper} {rest : List Oper} {o : Oper} {a : Act} {Q : Exit → Act → World → Prop} (hgd : o.guard = none) (s x : Operand)
    (ho : o.op = .call { callee := .builtin .append, args := #[s, x], argTypes := #[35, 35] })
    (v xv : Value) (bs ys : List Int) (hs : a.eval s = v) (hx : a.eval x = xv) (hown : Own 0 2 .i64 w v bs) (hrd : Rd .i64 w xv ys) (hl : bs.length + ys.length ≤ 1099511627776)
    (h : ∀ a' n' c' w', Own 0 2 .i64 w' (.slice a' n' c') (bs ++ ys) → Grew w v w' (.slice a' n' c') → wpList Try.prog ops Q rest (a.put o.dst (.slice a' n' c')) w') : wpList Try.prog ops Q (o :: rest) a w :=
  wpList_plain hgd fun _ hK => wp_appZ s x ho v xv bs ys hs hx hown hrd hl fun a' n' c' w' h2 h3 => hK _ _ (h a' n' c' w' h2 h3)
theorem rd_oneZ (w : World) (x : Int) : Rd .i64 (w.alloc (.cells #[.int .i64 x] 2)) (.slice (some ⟨w.heap.size, 0, none⟩) 1 1) [x] := by
  have h := Blk.newL w [.int .i64 x] 2
  refine ⟨by simp [maxLen], .inr ⟨w.heap.size, 0, 1, rfl, Nat.le_refl _, fun i hi => ?_⟩⟩
  obtain rfl : i = 0 := by simpa using hi
  exact h.c0
def LenE (w w' : World) (bs : List Int) (e : Ending) : Prop := ∃ a n c, e = .returned (.slice a n c) ∧ Own 0 2 .i64 w' (.slice a n c) bs ∧ (∀ b, (Value.slice a n c).ownBlock = some b → w.heap.size ≤ b) ∧ Same w w'
theorem LenE.of {w w' : World} {bs : List Int} {e : Ending} (h : LenE w w' bs e) : ∃ a c, e = .returned (.slice a bs.length c) ∧ (∀ b, (Value.slice a bs.length c).ownBlock = some b → w.heap.size ≤ b) ∧ Own 0 2 .i64 w' (.slice a bs.length c) bs ∧ Same w w' := by
  obtain ⟨a, n, c, rfl, ho, hf, hk⟩ := h
  obtain rfl : n = bs.length := by
    rcases ho.form with ⟨h, h'⟩ | ⟨g', cap, h, _⟩
    · cases h; rw [h']; rfl
    · cases h; rfl
  exact ⟨a, c, rfl, hf, ho, hk⟩
end Go.Proofs.Ytfhdkbibcndmjaa

namespace Go.Proofs.Ytfhdkbibcndmjaa
set_option maxRecDepth 100000
set_option maxHeartbeats 2000000
open Go.RowKit
set_option linter.unusedVariables false
set_option linter.unusedSimpArgs false
theorem conv_any {w : World} {v : Value} {bs : List Int} (h : Rd .u8 w v bs) : (convert 22 9 v).run Try.prog w = .ok (.string (strOfNums bs)) w := by
  rcases h.2 with ⟨rfl, a, c, rfl, _⟩ | ⟨b, off, c, rfl, _, hc⟩
  · rw [run_convert_bytes_string w 22 9 5 _ 0 c (by kernel_rfl) (by kernel_rfl) (by kernel_rfl)]
    cases a <;> simp [Conv.bytesToString, loadCells]
    all_goals rfl
  · exact run_convert_bytes_arg w 22 5 (by kernel_rfl) (by kernel_rfl) b off bs.length c bs rfl hc 9 (by kernel_rfl)
end Go.Proofs.Ytfhdkbibcndmjaa

namespace Go.Proofs.Ytfhdkbibcndmjaa
set_option maxRecDepth 100000
set_option maxHeartbeats 8000000
open Go.RowKit
set_option linter.unusedVariables false
set_option linter.unusedSimpArgs false
theorem sameB_any (va vb : Value) (xs : List Int) (w : World) (hra : Rd .u8 w va xs) (hrb : Rd .u8 w vb xs) :
    Calls Try.prog 17 #[va, vb] w fun e w' => e = .returned (.bool true) ∧ Same w w' := by
  have h1 := conv_any hra
  have h2 := conv_any hrb
  clear hra hrb
  generalize strOfNums xs = s at *
  go_enter Try.func17, Try.ntmps17
  go_wp2
  go_ret
  exact ⟨rfl, Kept.refl _ _⟩
end Go.Proofs.Ytfhdkbibcndmjaa

namespace Go.Proofs.Ytfhdkbibcndmjaa
set_option maxRecDepth 100000
set_option maxHeartbeats 8000000
open Go.RowKit
set_option linter.unusedVariables false
set_option linter.unusedSimpArgs false
theorem emptyAtZ (w : World) : Own 0 2 .i64 (w.alloc (Obj.cells #[] 2)) (.slice (some ⟨w.heap.size, 0, none⟩) 0 0) [] :=
  ⟨by simp [vals], .inr ⟨w.heap.size, 0, #[], rfl, Nat.zero_le _, by unfold World.alloc; exact Array.getElem?_push_size, Nat.le_refl _, Nat.zero_le _, by simp [vals]⟩⟩
def KpR (w w' : World) (e : Ending) : Prop := ∃ (a : Option Addr) (n c : Nat) (ks : List Int), e = .returned (.slice a n c) ∧ n = ks.length ∧ ks.length = 60 ∧ Own 0 2 .i64 w' (.slice a n c) ks ∧ (∀ b, (Value.slice a n c).ownBlock = some b → w.heap.size ≤ b) ∧ Same w w'
theorem own_n {e : TypeId} {k : IntKind} {w : World} {a : Option Addr} {n c : Nat} {bs : List Int} (h : Own 0 e k w (.slice a n c) bs) : n = bs.length := by
  rcases h.form with ⟨h, h'⟩ | ⟨g', cap, h, _⟩
  · cases h; rw [h']; rfl
  · cases h; rfl
theorem keep_any (v : Value) (cs : List Int) (k : Nat) (w : World) (hb : IsB cs) (hfew : cs.length ≤ 1048576) (hk : k ≤ 1000) (hv : Rd .u8 w v cs) :
    Calls Try.prog 14 #[v, .int .i64 (k : Int)] w fun e w' => KpR w w' e := by
  have kA := fun (j : Nat) (hj : j ≤ 2000) (n : Int) (hn : IsI n) wx (hx : Same w wx) => lwAt_any v cs j n wx hb hfew (by omega) hn (hv.same hx)
  obtain ⟨va, vc, rfl⟩ := hv.form
  generalize cs.length = cn at kA
  clear hv hb hfew
  have HO0 := hid (emptyAtZ w)
  have HK0 := (show Hid (Same w (w.alloc (Obj.cells #[] 2))) from (Kept.refl _ _).alloc _)
  go_enter Try.func14, Try.ntmps14
  go_wp2_with fail
  refine (kA k (by omega) 5 (by constructor <;> decide) _ HK0.out).mono ?_
  rintro e w1 ⟨ln, rfl, _, hk1⟩
  have HK1 := hid (HK0.out.trans hk1)
  have HO1 := hid (HO0.out.same hk1)
  clear hk1 HK0 HO0
  go_wp2_with fail
  go_loopw [5, 7] (fun o i wr => ∃ (j : Nat) (a : Option Addr) (n c : Nat) (ks : List Int), j ≤ 60 ∧ i = .int .i64 (j : Int) ∧ o = .slice a n c ∧ ks.length = j ∧ Hid (Own 0 2 .i64 wr (.slice a n c) ks) ∧ Hid (∀ b, (Value.slice a n c).ownBlock = some b → w.heap.size ≤ b) ∧ Hid (Same w wr)) (fun _ i _ => 60 - (intOf i).toNat)
  case atStart => exact ⟨0, _, _, _, [], Nat.zero_le _, rfl, rfl, rfl, HO1, fun b hb => by have e : w.heap.size = b := (by simpa [Value.ownBlock] using hb); omega, HK1⟩
  case round =>
    obtain ⟨j, a, n, c, ks, hj, rfl, rfl, hkl, HO, HF, HK⟩ := hrel
    by_cases hlt : j < 60
    case neg =>
      go_wp2
      go_ret
      exact ⟨a, n, c, ks, rfl, own_n HO.out, by omega, HO.out, HF.out, HK.out⟩
    have hwj : IntKind.i64.wrap ((k : Int) + (j : Int)) = ((k + j : Nat) : Int) := by rw [IntKind.wrap_i64]; omega
    have k1 := kA (k + j) (by omega) 2 (by constructor <;> decide) _ HK.out
    have k5 := fun wx hx => kA (k + j) (by omega) 5 (by constructor <;> decide) wx hx
    generalize k + j = kj at hwj k1 k5
    have HKL := hid hkl
    clear hkl
    go_wp2_with fail
    refine k1.mono ?_
    rintro e w2 ⟨r, rfl, _, hk2⟩
    have HK2 := hid (HK.out.trans hk2)
    have HO2 := hid (HO.out.same hk2)
    clear hk2 k1
    by_cases h0 : ln = 0
    · subst h0
      have HOA := hid (HO2.out.same ((Kept.refl (fun _ => False) _).alloc (.cells #[.int .i64 1] 2)))
      go_wp2_with (at_builtin; refine wpList_appZ rfl (.tmp 36) (.tmp 38) rfl (.slice a n c) _ ks [1] rfl rfl HOA.out (rd_oneZ w2 1) (by have := HKL.out; simp; omega) ?_; intro a6 n6 c6 w6 ho6 hg6; have HO6 := hid ho6; have HG6 := hid hg6; clear ho6 hg6)
      go_roundw
      case rel => exact ⟨j + 1, a6, n6, c6, _, by omega, by go_num, rfl, by have := HKL.out; simp; omega, HO6, fun b hb => by rcases HG6.out.2 b hb with h | h; exact HF.out b h; rw [World.size_alloc] at h; have := HK2.out.size; omega, (HK2.out.alloc _).next HG6.out.1 (fun i hi e => by have := HF.out i e; omega)⟩
      case measure => simp [intOf]; omega
    have e0 : (ln == 0) = false := by simp [h0]
    by_cases h1 : ln = 1
    · subst h1
      go_wp2_with fail
      refine (k5 _ HK2.out).mono ?_
      rintro e w3 ⟨r5, rfl, _, hk3⟩
      have HK3 := hid (HK2.out.trans hk3)
      have HO3 := hid (HO2.out.same hk3)
      clear hk3 k5 HK2 HO2
      by_cases hr : 0 < r5
      · have HOA := hid (HO3.out.same ((Kept.refl (fun _ => False) _).alloc (.cells #[.int .i64 1] 2)))
        go_wp2_with (at_builtin; refine wpList_appZ rfl (.tmp 36) (.tmp 38) rfl (.slice a n c) _ ks [1] rfl rfl HOA.out (rd_oneZ w3 1) (by have := HKL.out; simp; omega) ?_; intro a6 n6 c6 w6 ho6 hg6; have HO6 := hid ho6; have HG6 := hid hg6; clear ho6 hg6)
        go_roundw
        case rel => exact ⟨j + 1, a6, n6, c6, _, by omega, by go_num, rfl, by have := HKL.out; simp; omega, HO6, fun b hb => by rcases HG6.out.2 b hb with h | h; exact HF.out b h; rw [World.size_alloc] at h; have := HK3.out.size; omega, (HK3.out.alloc _).next HG6.out.1 (fun i hi e => by have := HF.out i e; omega)⟩
        case measure => simp [intOf]; omega
      · have HOA := hid (HO3.out.same ((Kept.refl (fun _ => False) _).alloc (.cells #[.int .i64 r] 2)))
        go_wp2_with (at_builtin; refine wpList_appZ rfl (.tmp 36) (.tmp 38) rfl (.slice a n c) _ ks [r] rfl rfl HOA.out (rd_oneZ w3 r) (by have := HKL.out; simp; omega) ?_; intro a6 n6 c6 w6 ho6 hg6; have HO6 := hid ho6; have HG6 := hid hg6; clear ho6 hg6)
        go_roundw
        case rel => exact ⟨j + 1, a6, n6, c6, _, by omega, by go_num, rfl, by have := HKL.out; simp; omega, HO6, fun b hb => by rcases HG6.out.2 b hb with h | h; exact HF.out b h; rw [World.size_alloc] at h; have := HK3.out.size; omega, (HK3.out.alloc _).next HG6.out.1 (fun i hi e => by have := HF.out i e; omega)⟩
        case measure => simp [intOf]; omega
    have e1 : (ln == 1) = false := by simp [h1]
    by_cases h2 : ln = 2
    · subst h2
      have HOA := hid (HO2.out.same ((Kept.refl (fun _ => False) _).alloc (.cells #[.int .i64 0] 2)))
      go_wp2_with (at_builtin; refine wpList_appZ rfl (.tmp 36) (.tmp 38) rfl (.slice a n c) _ ks [0] rfl rfl HOA.out (rd_oneZ w2 0) (by have := HKL.out; simp; omega) ?_; intro a6 n6 c6 w6 ho6 hg6; have HO6 := hid ho6; have HG6 := hid hg6; clear ho6 hg6)
      go_roundw
      case rel => exact ⟨j + 1, a6, n6, c6, _, by omega, by go_num, rfl, by have := HKL.out; simp; omega, HO6, fun b hb => by rcases HG6.out.2 b hb with h | h; exact HF.out b h; rw [World.size_alloc] at h; have := HK2.out.size; omega, (HK2.out.alloc _).next HG6.out.1 (fun i hi e => by have := HF.out i e; omega)⟩
      case measure => simp [intOf]; omega
    have e2 : (ln == 2) = false := by simp [h2]
    have HOA := hid (HO2.out.same ((Kept.refl (fun _ => False) _).alloc (.cells #[.int .i64 r] 2)))
    go_wp2_with (at_builtin; refine wpList_appZ rfl (.tmp 36) (.tmp 38) rfl (.slice a n c) _ ks [r] rfl rfl HOA.out (rd_oneZ w2 r) (by have := HKL.out; simp; omega) ?_; intro a6 n6 c6 w6 ho6 hg6; have HO6 := hid ho6; have HG6 := hid hg6; clear ho6 hg6)
    go_roundw
    case rel => exact ⟨j + 1, a6, n6, c6, _, by omega, by go_num, rfl, by have := HKL.out; simp; omega, HO6, fun b hb => by rcases HG6.out.2 b hb with h | h; exact HF.out b h; rw [World.size_alloc] at h; have := HK2.out.size; omega, (HK2.out.alloc _).next HG6.out.1 (fun i hi e => by have := HF.out i e; omega)⟩
    case measure => simp [intOf]; omega
end Go.Proofs.Ytfhdkbibcndmjaa

namespace Go.Proofs.Ytfhdkbibcndmjaa
set_option maxRecDepth 100000
set_option maxHeartbeats 8000000
open Go.RowKit
set_option linter.unusedVariables false
set_option linter.unusedSimpArgs false
theorem sameD_any (dv1 pv1 dv2 pv2 : Value) (dur : List Int) (ps qs : List PW) (w : World) (hq : dataP ps = dataP qs) (h1 : RdD w dv1 pv1 dur ps) (h2 : RdD w dv2 pv2 dur qs) :
    Calls Try.prog 13 #[.agg #[dv1, pv1], .agg #[dv2, pv2]] w fun e w' => e = .returned (.bool true) ∧ Same w w' := by
  have hlq : ps.length = qs.length := by have := congrArg List.length hq; rwa [dataP_length, dataP_length] at this
  obtain ⟨da1, dc1, rfl⟩ := h1.dur.form
  obtain ⟨da2, dc2, rfl⟩ := h2.dur.form
  obtain ⟨pa1, pc1, rfl⟩ := h1.pend.form
  obtain ⟨pa2, pc2, rfl⟩ := h2.pend.form
  have hml := h1.pend.len
  unfold maxLen at hml
  have H1 := hid h1
  have H2 := hid h2
  have HQ := hid hq
  obtain ⟨np, hnp⟩ : ∃ n, ps.length = n := ⟨_, rfl⟩
  rw [hnp] at hlq hml H1 ⊢
  rw [← hlq] at H2 ⊢
  have HNP := hid hnp
  have HNQ := (show Hid (qs.length = np) from hlq.symm)
  obtain ⟨n, hn⟩ : ∃ n, dur.length = n := ⟨_, rfl⟩
  rw [hn] at H1 H2 ⊢
  clear h1 h2 hq hlq hnp hn
  have HB0 := hid (Blk.newA w [.slice da1 n dc1, .slice pa1 np pc1] 25 [.slice da2 n dc2, .slice pa2 np pc2] 25)
  have HB1 := hid (Blk.newB w [.slice da1 n dc1, .slice pa1 np pc1] 25 [.slice da2 n dc2, .slice pa2 np pc2] 25)
  have HK0 := (show Hid (Same w ((w.alloc (.cells #[.slice da1 n dc1, .slice pa1 np pc1] 25)).alloc (.cells #[.slice da2 n dc2, .slice pa2 np pc2] 25))) from ((Kept.refl _ _).alloc _).alloc _)
  have kB := sameB_any _ _ dur _ (H1.out.dur.same HK0.out) (H2.out.dur.same HK0.out)
  go_enter Try.func13, Try.ntmps13
  go_wp2_with fail
  refine kB.mono ?_
  rintro e w1 ⟨rfl, hk1⟩
  have HK1 := hid (HK0.out.trans hk1)
  have HB01 := hid (HB0.out.same hk1)
  have HB11 := hid (HB1.out.same hk1)
  clear hk1 kB HB0 HB1 HK0
  go_wp2_with fail
  go_loopw [5] (fun i wr => ∃ (j : Nat), j ≤ np ∧ i = .int .i64 (j : Int) ∧ Hid (Same w wr) ∧ Hid (Blk wr w.heap.size 25 [.slice da1 n dc1, .slice pa1 np pc1]) ∧ Hid (Blk wr (w.heap.size + 1) 25 [.slice da2 n dc2, .slice pa2 np pc2])) (fun i _ => np - (intOf i).toNat)
  case atStart => exact ⟨0, Nat.zero_le _, rfl, HK1, HB01, HB11⟩
  case round =>
    obtain ⟨j, hj, rfl, HK, HA, HB⟩ := hrel
    obtain ⟨d0, d1⟩ := HA.out.all2
    by_cases hlt : j < np
    case neg =>
      go_wp2
      go_ret
      exact ⟨rfl, HK.out⟩
    have hp1 : j < ps.length := by rw [HNP.out]; exact hlt
    have hp2 : j < qs.length := by rw [HNQ.out]; exact hlt
    obtain ⟨b1, o1, e1, hc1⟩ : ∃ b off, pa1 = some ⟨b, off, none⟩ ∧ ∀ i (h : i < ps.length), w.cell? ⟨b, off + i * 2, none⟩ = some (.int .i64 ps[i].sec) ∧ w.cell? ⟨b, off + i * 2 + 1, none⟩ = some ps[i].v := by
      rcases H1.out.pend.row with ⟨h, _⟩ | ⟨b, off, c, h, hc⟩
      · rw [h] at hp1; simp at hp1
      · injection h with h _ _; exact ⟨b, off, h, hc⟩
    obtain ⟨b2, o2, e2, hc2⟩ : ∃ b off, pa2 = some ⟨b, off, none⟩ ∧ ∀ i (h : i < qs.length), w.cell? ⟨b, off + i * 2, none⟩ = some (.int .i64 qs[i].sec) ∧ w.cell? ⟨b, off + i * 2 + 1, none⟩ = some qs[i].v := by
      rcases H2.out.pend.row with ⟨h, _⟩ | ⟨b, off, c, h, hc⟩
      · rw [h] at hp2; simp at hp2
      · injection h with h _ _; exact ⟨b, off, h, hc⟩
    subst e1 e2
    have hd : (ps[j].sec, ps[j].bs) = (qs[j].sec, qs[j].bs) := by
      have h := congrArg (fun l => l[j]?) HQ.out
      simpa [dataP, hp1, hp2] using h
    simp only [Prod.mk.injEq] at hd
    have q1 := HK.out.cellOf (hc1 j hp1).1 id
    have q2 := HK.out.cellOf (hc1 j hp1).2 id
    have q3 := HK.out.cellOf (hc2 j hp2).1 id
    have q4 := HK.out.cellOf (hc2 j hp2).2 id
    rw [← hd.1] at q3
    have kC := fun wx (hx : Same wr wx) => sameB_any ps[j].v qs[j].v ps[j].bs wx (((H1.out.pend.data _ (List.getElem_mem hp1)).same HK.out).same hx) (by have h := ((H2.out.pend.data _ (List.getElem_mem hp2)).same HK.out).same hx; rw [← hd.2] at h; exact h)
    generalize ps[j].sec = s at q1 q3
    obtain ⟨v1, hv1⟩ : ∃ x, ps[j].v = x := ⟨_, rfl⟩
    obtain ⟨v2, hv2⟩ : ∃ x, qs[j].v = x := ⟨_, rfl⟩
    rw [hv1] at q2 kC
    rw [hv2] at q4 kC
    clear hc1 hc2 hd hv1 hv2 hp1 hp2
    go_wp2_with fail
    have hS : (fun wx : World => wx.cell? ⟨w.heap.size, 1, none⟩ = some (.slice (some ⟨b1, o1, none⟩) np pc1) ∧ wx.cell? ⟨w.heap.size + 1, 1, none⟩ = some (.slice (some ⟨b2, o2, none⟩) np pc2) ∧ wx.cell? ⟨b1, o1 + j * 2, none⟩ = some (.int .i64 s) ∧ wx.cell? ⟨b1, o1 + j * 2 + 1, none⟩ = some v1 ∧ wx.cell? ⟨b2, o2 + j * 2, none⟩ = some (.int .i64 s) ∧ wx.cell? ⟨b2, o2 + j * 2 + 1, none⟩ = some v2) wr.drew := ⟨HA.out.cell 1, HB.out.cell 1, q1, q2, q3, q4⟩
    refine wp_region_V (fun wx : World => wx.cell? ⟨w.heap.size, 1, none⟩ = some (.slice (some ⟨b1, o1, none⟩) np pc1) ∧ wx.cell? ⟨w.heap.size + 1, 1, none⟩ = some (.slice (some ⟨b2, o2, none⟩) np pc2) ∧ wx.cell? ⟨b1, o1 + j * 2, none⟩ = some (.int .i64 s) ∧ wx.cell? ⟨b1, o1 + j * 2 + 1, none⟩ = some v1 ∧ wx.cell? ⟨b2, o2 + j * 2, none⟩ = some (.int .i64 s) ∧ wx.cell? ⟨b2, o2 + j * 2 + 1, none⟩ = some v2) 99 29 rfl (by kernel_rfl) ?_
    refine tk 0 28 hS ?_
    refine tk 1 29 hS ?_
    refine tk 2 30 hS ?_
    refine tk 3 31 hS ?_
    refine tk 4 32 hS ?_
    refine tk 5 33 hS ?_
    refine tk 6 34 hS ?_
    refine tk 7 35 hS ?_
    refine tk 8 36 hS ?_
    refine tk 9 37 hS ?_
    refine tk 10 38 hS ?_
    refine tk 11 39 hS ?_
    refine tkV 12 40 (.bool false) hS ?_
    refine tk 13 41 hS ?_
    refine tk 14 42 hS ?_
    refine tk 15 43 hS ?_
    refine tk 16 44 hS ?_
    refine tk 17 45 hS ?_
    refine tk 18 46 hS ?_
    refine tk 19 47 hS ?_
    refine tk 20 48 hS ?_
    refine tk 21 49 hS ?_
    refine tk 22 50 hS ?_
    refine tk 23 51 hS ?_
    refine tk 24 52 hS ?_
    refine tk 25 53 hS ?_
    refine wpAnyV_one (i := 26) (by kernel_rfl) rfl (fun K hK => ?_)
    go_simp
    refine (kC _ (Kept.refl _ _).drew).mono ?_
    rintro e w2 ⟨rfl, hk2⟩
    have hk2' : Same wr w2 := (Kept.refl _ _).drew.trans hk2
    have hS : (fun wx : World => wx.cell? ⟨w.heap.size, 1, none⟩ = some (.slice (some ⟨b1, o1, none⟩) np pc1) ∧ wx.cell? ⟨w.heap.size + 1, 1, none⟩ = some (.slice (some ⟨b2, o2, none⟩) np pc2) ∧ wx.cell? ⟨b1, o1 + j * 2, none⟩ = some (.int .i64 s) ∧ wx.cell? ⟨b1, o1 + j * 2 + 1, none⟩ = some v1 ∧ wx.cell? ⟨b2, o2 + j * 2, none⟩ = some (.int .i64 s) ∧ wx.cell? ⟨b2, o2 + j * 2 + 1, none⟩ = some v2) w2 := ⟨hk2.cellOf hS.1 id, hk2.cellOf hS.2.1 id, hk2.cellOf hS.2.2.1 id, hk2.cellOf hS.2.2.2.1 id, hk2.cellOf hS.2.2.2.2.1 id, hk2.cellOf hS.2.2.2.2.2 id⟩
    have HK2 := hid (HK.out.trans hk2')
    have HA2 := hid (HA.out.same hk2')
    have HB2 := hid (HB.out.same hk2')
    go_wp2_with fail
    refine hK.out _ _ (fun _ => hS) ?_
    clear hK K hk2 hk2' kC
    try simp only [Act.put, sA, s0, sS]
    refine tk 27 55 hS ?_
    refine tk 28 56 hS ?_
    refine wpAnyV_done (by kernel_rfl) ?_
    clear hS d0 d1 q1 q2 q3 q4
    go_wp2_with fail
    go_roundw
    case rel => exact ⟨j + 1, by omega, by go_num, HK2, HA2, HB2⟩
    case measure => simp [intOf]; omega
end Go.Proofs.Ytfhdkbibcndmjaa

namespace Go.Proofs.Ytfhdkbibcndmjaa
set_option maxRecDepth 100000
set_option maxHeartbeats 8000000
open Go.RowKit
set_option linter.unusedVariables false
set_option linter.unusedSimpArgs false
theorem RdR.takeO {w : World} {g c K : Nat} {os : List EOp} (h : RdR kOp w (.slice (some ⟨g, 0, none⟩) os.length c) os) (hK : K ≤ os.length) : RdR kOp w (.slice (some ⟨g, 0, none⟩) K c) (os.take K) := by
  have hl : (os.take K).length = K := by rw [List.length_take]; omega
  refine ⟨by rw [hl]; exact Nat.le_trans hK h.max, ?_, fun p hp => h.data p (List.mem_of_mem_take hp)⟩
  rcases h.row with ⟨h1, _⟩ | ⟨b, off, c', e, hc⟩
  · subst h1
    obtain rfl : K = 0 := by simpa using hK
    exact .inl ⟨rfl, _, _, rfl⟩
  · injection e with e1 _ e2
    injection e1 with e1
    cases e1
    subst e2
    refine .inr ⟨g, 0, c, by rw [hl], fun j i hj hi => ?_⟩
    rw [hc j i (by omega) hi, List.getElem_take]
theorem RdR.dropO {w : World} {g c K : Nat} {os : List EOp} (h : RdR kOp w (.slice (some ⟨g, 0, none⟩) os.length c) os) (hK : K ≤ os.length) : RdR kOp w (.slice (some ⟨g, K * 3, none⟩) (os.length - K) (c - K)) (os.drop K) := by
  have hl : (os.drop K).length = os.length - K := List.length_drop
  refine ⟨by rw [hl]; have := h.max; omega, ?_, fun p hp => h.data p (List.mem_of_mem_drop hp)⟩
  rcases h.row with ⟨h1, _⟩ | ⟨b, off, c', e, hc⟩
  · subst h1
    exact .inl ⟨by simp, some ⟨g, K * 3, none⟩, c - K, by simp⟩
  · injection e with e1 _ e2
    injection e1 with e1
    cases e1
    subst e2
    refine .inr ⟨g, K * 3, c - K, by rw [hl], fun j i hj hi => ?_⟩
    have h1 := hc (K + j) i (by omega) hi
    rw [List.getElem_drop, ← h1]
    congr 2
    show K * 3 + (j * 3 + i) = 0 + ((K + j) * 3 + i)
    omega
theorem RdR.nilO (w : World) (g c : Nat) : RdR kOp w (.slice (some ⟨g, 0, none⟩) 0 c) [] := ⟨Nat.zero_le _, .inl ⟨rfl, _, _, rfl⟩, fun p hp => by simp at hp⟩
def RunAns (w w' : World) (e : Ending) (b : Bool) (u : Int) (r : List Int) (ds : List (Int × List Int)) : Prop :=
  ∃ (xd xp : Value) (qs : List PW), e = .returned (.agg #[.bool b, .int .i64 u, xd, xp]) ∧ dataP qs = ds ∧ RdD w' xd xp r qs ∧ (∀ b, footD xd xp qs b → w.heap.size ≤ b ∧ b < w'.heap.size) ∧ Same w w'
theorem runAns_any (dv pv : Value) (dur : List Int) (ps : List PW) (bo off co : Nat) (os : List EOp) (n : Nat) (limit : Int) (w : World) (hd : dur.length ≤ 1099511627776) (hn : ps.length ≤ 1073741824) (hs : ∀ p ∈ ps, p.bs.length ≤ 1099511627776) (hv : RdD w dv pv dur ps) (hval : Valid dur.length (dataP ps)) (hno : n = os.length) (hc : os.length ≤ co) (ho : RdR kOp w (.slice (some ⟨bo, off, none⟩) n co) os) :
    Calls Try.prog 11 #[.agg #[dv, pv], .slice (some ⟨bo, off, none⟩) n co, .int .i64 limit] w fun e w' => RunAns w w' e (allO limit os.length) (usedO limit os.length) (runD dur (dataP ps) ((datOpS os).take (usedO limit os.length))).1 (runD dur (dataP ps) ((datOpS os).take (usedO limit os.length))).2 := by
  subst hno
  refine (implRunOps_any dv pv dur ps (.slice (some ⟨bo, off, none⟩) os.length co) os limit w hd hn hs hv ⟨bo, off, co, rfl, hc⟩ ho).mono ?_
  rintro e w' ⟨a, n, c, a', n', c', r, qs, rfl, hr, hf, ho', hk⟩
  rw [datOpS_length] at *
  have h := hr.yes hval
  rw [datOpS_length] at h
  refine ⟨.slice a n c, .slice a' n' c', qs, rfl, (congrArg Prod.snd h), ?_, fun b hb => ⟨hf b hb, (ho'.lt b hb).2⟩, hk⟩
  rw [← congrArg Prod.fst h]
  exact ho'.rd
def ORes (w0 w' : World) (b : Bool) (u : Int) (r : List Int) (ds : List (Int × List Int)) (v : Value) : Prop :=
  ∃ (X : Nat) (xd xp : Value) (qs : List PW), v = .pointer (some ⟨X, 0, none⟩) ∧ w0.heap.size ≤ X ∧ Blk w' X 31 [.bool b, .int .i64 u, xd, xp] ∧ dataP qs = ds ∧ RdD w' xd xp r qs ∧ Same w0 w'
theorem RunAns.box {w0 w' : World} {b : Bool} {u : Int} {r : List Int} {ds : List (Int × List Int)} {xd xp : Value} {qs : List PW} {X : Nat} (hb : Blk w' X 31 [.bool false, .int .i64 0, .slice none 0 0, .slice none 0 0]) (hX : w0.heap.size ≤ X) (hq : dataP qs = ds) (hr : RdD w' xd xp r qs) (hf : ∀ b, footD xd xp qs b → ¬ b = X) (hk : Same w0 w') :
    ORes w0 ((((w'.setCell ⟨X, 0, none⟩ (.bool b)).setCell ⟨X, 1, none⟩ (.int .i64 u)).setCell ⟨X, 2, none⟩ xd).setCell ⟨X, 3, none⟩ xp) b u r ds (.pointer (some ⟨X, 0, none⟩)) := by
  have hkr : Kept (fun b => b = X) w' ((((w'.setCell ⟨X, 0, none⟩ (.bool b)).setCell ⟨X, 1, none⟩ (.int .i64 u)).setCell ⟨X, 2, none⟩ xd).setCell ⟨X, 3, none⟩ xp) := ((((Kept.refl (fun b => b = X) w').setCell (p := ⟨X, 0, none⟩) (.inr rfl) _).setCell (p := ⟨X, 1, none⟩) (.inr rfl) _).setCell (p := ⟨X, 2, none⟩) (.inr rfl) _).setCell (p := ⟨X, 3, none⟩) (.inr rfl) _
  exact ⟨X, xd, xp, qs, rfl, hX, (((hb.stored 0 _).stored 1 _).stored 2 _).stored 3 _, hq, hr.kept hkr (fun b hb e => hf b hb e), hk.next hkr (fun i hi e => by omega)⟩
theorem ORes.new {w0 w' : World} {b : Bool} {u : Int} {r : List Int} {ds : List (Int × List Int)} {xd xp : Value} {qs : List PW} (hq : dataP qs = ds) (hr : RdD w' xd xp r qs) (hk : Same w0 w') : ORes w0 (w'.alloc (.cells #[.bool b, .int .i64 u, xd, xp] 31)) b u r ds (.pointer (some ⟨w'.heap.size, 0, none⟩)) :=
  ⟨w'.heap.size, xd, xp, qs, rfl, hk.size, Blk.new w' #[.bool b, .int .i64 u, xd, xp] 31, hq, hr.same ((Kept.refl _ _).alloc _), hk.alloc _⟩
theorem valid_bs {len : Nat} {ds : List (Int × List Int)} {qs : List PW} (hv : Valid len ds) (hq : dataP qs = ds) : ∀ p ∈ qs, p.bs.length ≤ 1099511627776 := fun p hp => by
  subst hq
  have h : (p.sec, p.bs) ∈ dataP qs := List.mem_map.2 ⟨p, hp, rfl⟩
  have := (hv.2 _ h).2.2
  simp only at this
  omega
theorem ans_yes {P : Prop} {r0 dur r : List Int} {ds : List (Int × List Int)} {qs : List PW} (hP : P) (h : Ans P r0 [] dur ds r (dataP qs)) : r = r0 ∧ qs = [] := by
  rcases h with ⟨_, h1, h2⟩ | ⟨h, _⟩
  · exact ⟨h1, List.map_eq_nil_iff.1 h2⟩
  · exact absurd hP h
def SetAns (w w' : World) (e : Ending) (r : List Int) : Prop := ∃ (a a' : Option Addr) (c c' : Nat), e = .returned (.agg #[.slice a r.length c, .slice a' 0 c']) ∧ Rd .u8 w' (.slice a r.length c) r ∧ Same w w'
theorem setAns_of {w w' : World} {a a' : Option Addr} {n n' c c' : Nat} {r : List Int} {tw tb : TypeId} (ho : OwnD 0 tw tb w' (.slice a n c) (.slice a' n' c') r []) (hk : Same w w') : SetAns w w' (.returned (.agg #[.slice a n c, .slice a' n' c'])) r := by
  have h := ho.rd
  obtain ⟨x, y, e1⟩ := h.dur.form
  obtain ⟨x', y', e2⟩ := h.pend.form
  injection e1 with _ e1 _
  injection e2 with _ e2 _
  have e2' : n' = 0 := e2
  subst e1 e2'
  exact ⟨a, a', c, c', rfl, h.dur, hk⟩
theorem crashAns_any (dv pv : Value) (dur : List Int) (ps : List PW) (kv : Value) (ks : List Int) (ds : List (Int × List Int)) (w : World) (hd : dur.length ≤ 1099511627776) (hn : ps.length ≤ 1073741824) (hv : RdD w dv pv dur ps) (hkl : ks.length ≤ 1099511627776) (hkv : Rd .i64 w kv ks) (hq : dataP ps = ds) (hval : Valid dur.length ds) :
    Calls Try.prog 15 #[.agg #[dv, pv], kv] w fun e w' => SetAns w w' e (settleN (keepS ks) dur ds ds.length) := by
  refine (implCrash_any dv pv dur ps kv ks w hd hn (valid_bs hval hq) hv hkl hkv).mono ?_
  subst hq
  rintro e w' ⟨a, n, c, a', n', c', r, qs, rfl, hr, _, ho, hk⟩
  obtain ⟨rfl, rfl⟩ := ans_yes hval hr
  exact setAns_of ho hk
theorem syncAns_any (dv pv : Value) (dur : List Int) (ps : List PW) (ds : List (Int × List Int)) (w : World) (hd : dur.length ≤ 1099511627776) (hn : ps.length ≤ 1073741824) (hv : RdD w dv pv dur ps) (hq : dataP ps = ds) (hval : Valid dur.length ds) :
    Calls Try.prog 16 #[.agg #[dv, pv]] w fun e w' => SetAns w w' e (settleN (fun _ => true) dur ds ds.length) := by
  refine (implSync_any dv pv dur ps w hd hn (valid_bs hval hq) hv).mono ?_
  subst hq
  rintro e w' ⟨a, n, c, a', n', c', r, qs, rfl, hr, _, ho, hk⟩
  obtain ⟨rfl, rfl⟩ := ans_yes hval hr
  exact setAns_of ho hk
def DRes (w0 w' : World) (r : List Int) (v : Value) : Prop := ∃ (X : Nat) (a a' : Option Addr) (c c' : Nat), v = .pointer (some ⟨X, 0, none⟩) ∧ Blk w' X 25 [.slice a r.length c, .slice a' 0 c'] ∧ Rd .u8 w' (.slice a r.length c) r ∧ Same w0 w'
theorem DRes.new {w0 w' : World} {r : List Int} {a a' : Option Addr} {c c' : Nat} (hr : Rd .u8 w' (.slice a r.length c) r) (hk : Same w0 w') : DRes w0 (w'.alloc (.cells #[.slice a r.length c, .slice a' 0 c'] 25)) r (.pointer (some ⟨w'.heap.size, 0, none⟩)) :=
  ⟨w'.heap.size, a, a', c, c', rfl, Blk.new w' #[.slice a r.length c, .slice a' 0 c'] 25, hr.same ((Kept.refl _ _).alloc _), hk.alloc _⟩
theorem usedO_neg (n : Nat) : usedO (-1) n = n := by unfold usedO; rw [if_neg (by omega)]
theorem allO_neg (n : Nat) : allO (-1) n = true := by unfold allO; rw [usedO_neg]; simp
theorem usedO_at (K n : Nat) (h : K ≤ n) : usedO (K : Int) n = K := by
  unfold usedO
  split
  · omega
  · omega
theorem allO_at (K n : Nat) (h : K ≤ n) : allO (K : Int) n = decide (K = n) := by unfold allO; rw [usedO_at _ _ h]
theorem Rd.opened {k : IntKind} {w : World} {a : Option Addr} {n c : Nat} {bs : List Int} (h : Rd k w (.slice a n c) bs) (hn : bs.length = n) (h0 : 0 < n) : ∃ b off, a = some ⟨b, off, none⟩ ∧ n ≤ c ∧ ∀ i, i < bs.length → w.cell? ⟨b, off + i, none⟩ = some (.int k (bs.getD i 0)) := by
  rcases h.2 with ⟨rfl, _⟩ | ⟨b, off, c', e, hl, hc⟩
  · simp at hn; omega
  · injection e with e1 e2 e3
    subst e3
    exact ⟨b, off, e1, by omega, hc⟩
theorem lastN_hit {sel : Nat → Bool} {s : Int} {ds : List (Int × List Int)} {t : Nat} {bs : List Int} (h : ds.getD t (0, []) = (s, bs)) (hs : sel t = true) : lastN sel s ds (t + 1) = some bs := by
  unfold lastN
  rw [h, if_pos ⟨rfl, hs⟩]
theorem lastN_miss {sel : Nat → Bool} {s x : Int} {ds : List (Int × List Int)} {t : Nat} {bs : List Int} (h : ds.getD t (0, []) = (x, bs)) (hs : ¬ (x = s ∧ sel t = true)) : lastN sel s ds (t + 1) = lastN sel s ds t := by
  rw [lastN, h, if_neg hs]
theorem datOpS_take (os : List EOp) (K : Nat) : datOpS (os.take K) = (datOpS os).take K := by simp [datOpS, List.map_take]
theorem datOpS_drop (os : List EOp) (K : Nat) : datOpS (os.drop K) = (datOpS os).drop K := by simp [datOpS, List.map_drop]
end Go.Proofs.Ytfhdkbibcndmjaa
