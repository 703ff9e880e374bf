import Derived.Test.YtbiagmnkdihmiaaG11
import Derived.Test.YtbiagmnkdihmiaaG07
import Derived.Test.YtbiagmnkdihmiaaG05
import Derived.Test.YtbiagmnkdihmiaaG08
import Derived.Test.YtbiagmnkdihmiaaG04
import Derived.Test.YtbiagmnkdihmiaaG00
import Derived.Test.YtbiagmnkdihmiaaProg
import Derived.Deep.CutBlock
import Derived.Deep.DeepCutAuto
import Derived.Laws.BytesArg
import Derived.WalkLawsBesides
import Derived.Deep.QuietTactic
import Derived.BigQuiet
import Derived.Deep.LoopGhost
namespace Go.Proofs.Ytbiagmnkdihmiaa
set_option maxRecDepth 100000
set_option maxHeartbeats 8000000
open Go.RowKit
set_option linter.unusedVariables false
set_option linter.unusedSimpArgs false
theorem maybe_k {w0 w : World} {B : Nat} {v : Value} {cs : List Int} {k : Nat} {size : Int} (h : SrcR w0 w B v cs k size) (hk : k ≤ 1073700000) :
    Calls Try.prog 46 #[.pointer (some ⟨B, 0, none⟩)] w fun e w' => BnR (fun b => b = B) w0 w w' e B v cs (k + 500) size := by
  have hBw := h.lt
  have hw0 := h.kept.size
  have HS := hid h
  clear h
  go_enter Try.func46, Try.ntmps46
  go_wp2_with fail
  refine (next_k 16 HS.out (by omega) (by constructor <;> decide)).mono ?_
  rintro e w1 ⟨n, rfl, hd, hs1, hk1⟩
  obtain ⟨hn1, hn2⟩ := hd.2 (by decide)
  have HS1 := hid hs1
  have HK1 := hid hk1
  clear hd hs1 hk1 HS
  go_wp2_with fail
  refine (pg_k n hn1 hn2 HS1.out (by omega)).mono ?_
  rintro e w2 ⟨g, c, bs, k2, rfl, hl, hbb, ho, hgB, hk2, hs2, hgw, hkk2⟩
  have hz1 := HK1.out.size
  have HO := (show Hid (Own 0 5 .u8 w2 (.slice (some ⟨g, 0, none⟩) 4096 c) bs) from ho.mono (fun _ _ => Nat.zero_le _))
  have HS2 := hid hs2
  have HK2 := hid (HK1.out.trans hkk2)
  have HL := hid hl
  have HBB := hid hbb
  clear ho hs2 hkk2 HK1 HS1 hl hbb
  go_wp2_with fail
  refine (chance_k 5 HS2.out (by omega) (by constructor <;> decide)).mono ?_
  rintro e w3 ⟨b, rfl, hs3, hk3⟩
  have HO3 := hid (HO.out.kept hk3 (fun b hb e => by have e1 : g = b := (by simpa [Value.ownBlock] using hb); omega))
  have HS3 := hid hs3
  have HK3 := hid (HK2.out.trans hk3)
  clear hs3 hk3 HO HS2 HK2
  cases b
  · go_wp2
    go_ret
    exact bn_of HO3.out HL.out HBB.out hgB (by omega) (by omega) HS3.out HK3.out
  · go_wp2_with fail
    refine (bend_k g c bs HS3.out (by omega) hgB (by omega) HL.out HBB.out HO3.out).mono ?_
    rintro e w4 ⟨b4, off4, n4, c4, bs4, k4, rfl, hl4, hn4, hb4, hr4, hk4, hs4, hkk4⟩
    have HE := (show Hid (BnR (fun b => b = B) w0 w w4 (.returned (.slice (some ⟨b4, off4, none⟩) n4 c4)) B v cs (k + 500) size) from ⟨b4, off4, n4, c4, bs4, k4, rfl, hl4, hn4, hb4, hr4, by omega, hs4, HK3.out.next hkk4 (fun i hi e => by rcases e with e | e; exact e; omega)⟩)
    clear hl4 hb4 hr4 hs4 hkk4
    go_wp2
    go_ret
    exact HE.out
def DsR (w w' : World) (e : Ending) : Prop :=
  ∃ (b off n c : Nat) (bs : List Int) (s : Int) (u : Bool) (a : Option Addr) (cd : Nat) (d : List Int) (lsn : Int), e = .returned (.tuple #[.slice (some ⟨b, off, none⟩) n c, .int .i64 s, .agg #[.bool u, .slice a d.length cd], .int .i64 lsn]) ∧ bs.length = n ∧ n ≤ 4096 ∧ IsB bs ∧ Rd .u8 w' (.slice (some ⟨b, off, none⟩) n c) bs ∧
    d.length ≤ 1001 ∧ IsB d ∧ Rd .u8 w' (.slice a d.length cd) d ∧ (-1 ≤ s ∧ s ≤ 32) ∧ (-1 ≤ lsn ∧ lsn ≤ 1099511627777) ∧ Same w w'
def RdF (F : Nat → Prop) (w : World) (v : Value) (bs : List Int) : Prop := ∀ w', Kept F w w' → Rd .u8 w' v bs
theorem RdF.on {F : Nat → Prop} {w w' : World} {v : Value} {bs : List Int} (h : RdF F w v bs) (hk : Kept F w w') : RdF F w' v bs := fun w2 h2 => h w2 (hk.trans h2)
theorem Own.rdF {b0 : Nat} {e : TypeId} {F : Nat → Prop} {w : World} {v : Value} {bs : List Int} (h : Own b0 e .u8 w v bs) (hB : ∀ b, v.ownBlock = some b → ¬ F b) : RdF F w v bs := fun w' hk => (h.kept hk hB).rd
structure Pl (w w0 : World) (B X X0 : Nat) : Prop where
  b1 : w.heap.size ≤ B
  b2 : B < w0.heap.size
  x1 : w.heap.size ≤ X0
  x2 : X0 < w0.heap.size
  xb : ¬ B = X0
  x : w0.heap.size ≤ X
structure DsI (w w0 wr : World) (B : Nat) (v : Value) (cs : List Int) (k : Nat) (size : Int) (pv : Value) (bs : List Int) (X X0 : Nat) (u : Bool) (a : Option Addr) (dn cd : Nat) (d : List Int) : Prop where
  src : SrcR w0 wr B v cs k size
  page : RdF (fun b => b = X ∨ b < w0.heap.size) wr pv bs
  box : Blk wr X 33 [.bool u, .slice a dn cd]
  res : Blk wr X0 33 [.bool false, .slice none 0 0]
  dat : RdF (fun b => b = X ∨ b < w0.heap.size) wr (.slice a dn cd) d
  len : d.length = dn ∧ dn ≤ 1001
  isB : IsB d
  kept : Same w wr
section
variable {w w0 wr wx : World} {B : Nat} {v : Value} {cs : List Int} {k k' : Nat} {size : Int} {pv : Value} {bs : List Int} {X X0 : Nat} {u : Bool} {a : Option Addr} {dn cd : Nat} {d : List Int}
theorem DsI.draw (h : DsI w w0 wr B v cs k size pv bs X X0 u a dn cd d) (hp : Pl w w0 B X X0) (hs : SrcR w0 wx B v cs k' size) (hk : Kept (fun b => b = B) wr wx) : DsI w w0 wx B v cs k' size pv bs X X0 u a dn cd d :=
  ⟨hs, h.page.on (hk.mono (fun b _ e => .inr (by have h1 := hp.b2; have e' : b = B := e; omega))), h.box.kept hk (fun e => by have h1 := hp.b2; have h2 := hp.x; omega), h.res.kept hk (fun e => hp.xb e.symm), h.dat.on (hk.mono (fun b _ e => .inr (by have h1 := hp.b2; have e' : b = B := e; omega))), h.len, h.isB, h.kept.next hk (fun i hi e => by have h1 := hp.b1; have e' : i = B := e; omega)⟩
theorem DsI.same (h : DsI w w0 wr B v cs k size pv bs X X0 u a dn cd d) (hk : Same wr wx) : DsI w w0 wx B v cs k size pv bs X X0 u a dn cd d :=
  ⟨h.src.same hk, h.page.on (hk.mono (fun b _ e => e.elim)), h.box.same hk, h.res.same hk, h.dat.on (hk.mono (fun b _ e => e.elim)), h.len, h.isB, h.kept.trans hk⟩
theorem DsI.used (h : DsI w w0 wr B v cs k size pv bs X X0 u a dn cd d) (hp : Pl w w0 B X X0) (u' : Bool) : DsI w w0 (wr.setCell ⟨X, 0, none⟩ (.bool u')) B v cs k size pv bs X X0 u' a dn cd d := by
  have hk : Kept (fun b => b = X) wr (wr.setCell ⟨X, 0, none⟩ (.bool u')) := (Kept.refl (fun b => b = X) wr).setCell (p := ⟨X, 0, none⟩) (.inr rfl) _
  have h1 := hp.x; have h2 := hp.b2; have h3 := hp.x2; have h4 := hp.x1
  exact ⟨h.src.on hk (fun e => by omega) (fun i hi e => by omega), h.page.on (hk.mono (fun _ _ e => .inl e)), h.box.stored 0 (.bool u'), h.res.kept hk (fun e => by omega), h.dat.on (hk.mono (fun _ _ e => .inl e)), h.len, h.isB, h.kept.next hk (fun i hi e => by have e' : i = X := e; omega)⟩
theorem DsI.data {g N : Nat} {d' : List Int} (h : DsI w w0 wr B v cs k size pv bs X X0 u a dn cd d) (hp : Pl w w0 B X X0) (hl : d'.length = N) (hN : N ≤ 1001) (hb : IsB d') (ho : Own w0.heap.size 5 .u8 wr (.slice (some ⟨g, 0, none⟩) N N) d') (hg : ¬ g = X) : DsI w w0 (wr.setCell ⟨X, 1, none⟩ (.slice (some ⟨g, 0, none⟩) N N)) B v cs k size pv bs X X0 u (some ⟨g, 0, none⟩) N N d' := by
  have hk : Kept (fun b => b = X) wr (wr.setCell ⟨X, 1, none⟩ (.slice (some ⟨g, 0, none⟩) N N)) := (Kept.refl (fun b => b = X) wr).setCell (p := ⟨X, 1, none⟩) (.inr rfl) _
  have h1 := hp.x; have h2 := hp.b2; have h3 := hp.x2; have h4 := hp.x1
  have hd : RdF (fun b => b = X ∨ b < w0.heap.size) wr (.slice (some ⟨g, 0, none⟩) N N) d' := ho.rdF (fun b hb e => by have e1 : g = b := (by simpa [Value.ownBlock] using hb); have := (ho.lt b hb).1; omega)
  exact ⟨h.src.on hk (fun e => by omega) (fun i hi e => by omega), h.page.on (hk.mono (fun _ _ e => .inl e)), h.box.stored 1 _, h.res.kept hk (fun e => by omega), hd.on (hk.mono (fun _ _ e => .inl e)), ⟨hl, hN⟩, hb, h.kept.next hk (fun i hi e => by have e' : i = X := e; omega)⟩
end
theorem results_c4 {fn : Func} {p q r t : Tmp} {ty : TypeId} (h : fn.results = #[.tmp p, .tmp q, .cell r ty, .tmp t]) (tmps : Array Value) (P : Program) (w : World) :
    (results fn tmps).run P w =
      ((asAddr (tmps.getD r undef)).run P w).andThen fun a w₁ => ((loadVar ty a).run P w₁).andThen fun v w₂ => .ok (.tuple #[tmps.getD p undef, tmps.getD q undef, v, tmps.getD t undef]) w₂ := by
  simp only [results, h]
  simp [Sem.run_bind, Result.andThen]
theorem drawSet_any (v : Value) (cs : List Int) (w : World) (hb : IsB cs) (hn : cs.length ≤ 1048576) (hv : Rd .u8 w v cs) :
    Calls Try.prog 21 #[v] w fun e w' => DsR w w' e := by
  have b0 := Blk.new w #[.bool false, .slice none 0 0] 33
  have hk0 : Same w (w.alloc (.cells #[.bool false, .slice none 0 0] 33)) := (Kept.refl _ _).alloc _
  have k1 := source_r v cs _ hb hn (hv.same hk0)
  clear hv hb hn
  go_enter Try.func21, Try.ntmps21
  go_wp2_with fail
  obtain ⟨X0, hX⟩ : ∃ X, w.heap.size = X := ⟨_, rfl⟩
  rw [hX] at b0 ⊢
  generalize w.alloc (.cells #[.bool false, .slice none 0 0] 33) = w1 at *
  have HB0 := hid b0
  have HK0 := hid hk0
  have hl0 := b0.lt
  clear b0 hk0
  refine k1.mono ?_
  rintro e w0 ⟨B, size, rfl, hB, hs, hk⟩
  have HS0 := hid hs
  have HR0 := hid (HB0.out.same hk)
  have HK0 := hid (HK0.out.trans hk)
  have hB2 := hs.lt
  have hz0 := hk.size
  clear hs hk k1 HB0
  go_wp2_with fail
  refine (maybe_k HS0.out (by omega)).mono ?_
  rintro e w2 ⟨b, off, n, c, bs, k2, rfl, hl, hn, hbb, hrd, hk2, hs2, hkk2⟩
  have HS2 := hid hs2
  have HP2 := hid hrd
  have HK2 := hid hkk2
  have HL := hid hl
  have HBB := hid hbb
  have hz2 := hkk2.size
  clear hl hbb hrd hs2 hkk2 HS0
  go_wp2_with fail
  refine (next_k 8 HS2.out (by omega) (by constructor <;> decide)).mono ?_
  rintro e w3 ⟨s, rfl, hd, hs3, hk3⟩
  obtain ⟨hss1, hss2⟩ := hd.2 (by decide)
  have HS3 := hid hs3
  have HP3 := hid (HP2.out.draw hk3)
  have HK3 := hid (HK2.out.trans hk3)
  have hz3 := hk3.size
  clear hd hs3 hk3 HS2 HP2 HK2
  go_wp2_with fail
  refine (rec_k HS3.out (by omega)).mono ?_
  rintro e w4 ⟨u, ra, rc, d, k4, rfl, hdl, hdb, hdr, hk4, hs4, hkk4⟩
  have hz4 := hkk4.size
  obtain ⟨dn, hdn⟩ : ∃ n, d.length = n := ⟨_, rfl⟩
  rw [hdn] at hdr ⊢
  have hp : Pl w w0 B w4.heap.size X0 := ⟨by omega, hB2, by omega, by omega, by omega, by omega⟩
  have hk5 : Same w4 (w4.alloc (.cells #[.bool u, .slice ra dn rc] 33)) := (Kept.refl _ _).alloc _
  have HI := (show Hid (DsI w w0 (w4.alloc (.cells #[.bool u, .slice ra dn rc] 33)) B v cs k4 size (.slice (some ⟨b, off, none⟩) n c) bs w4.heap.size X0 u ra dn rc d) from ⟨hs4.same hk5, fun wy hy => (HP3.out.draw hkk4) wy ((hk5.mono (fun _ _ e => e.elim)).trans (hy.mono (fun i _ e => by rcases e with e | e; exact .inr (.inl (by omega)); exact .inr (.inr e)))), Blk.new _ _ _, ((HR0.out.kept HK3.out (fun e => by omega)).kept hkk4 (fun e => by omega)).same hk5, fun wy hy => hdr wy ((hk5.mono (fun _ _ e => e.elim)).trans (hy.mono (fun i _ e => by rcases e with e | e; exact .inr (.inl (by omega)); exact .inr (.inr e)))), ⟨hdn, by omega⟩, hdb, ((HK0.out.next (HK3.out.trans hkk4) (fun i hi e => by have e' : i = B := e; omega)).trans hk5)⟩)
  have hdn' : dn ≤ 1001 := by omega
  clear hdl hdb hdr hs4 hkk4 hk5 HS3 HP3 HK3 HR0 HK0 hdn
  obtain ⟨X, hX4⟩ : ∃ X, w4.heap.size = X := ⟨_, rfl⟩
  go_wp2_with fail
  rw [hX4] at HI hp
  try rw [hX4]
  generalize w4.alloc (.cells #[.bool u, .slice ra dn rc] 33) = w5 at *
  clear hX4
  refine (next_k 100000 HI.out.src (by omega) (by constructor <;> decide)).mono ?_
  rintro e w6 ⟨l, rfl, hd, hs6, hk6⟩
  obtain ⟨hl1, hl2⟩ := hd.2 (by decide)
  have HI6 := hid (HI.out.draw hp hs6 hk6)
  clear hd hs6 hk6 HI
  go_wp2_with fail
  refine (next_k 20 HI6.out.src (by omega) (by constructor <;> decide)).mono ?_
  rintro e w7 ⟨z, rfl, hd, hs7, hk7⟩
  have HI7 := hid (HI6.out.draw hp hs7 hk7)
  clear hd hs7 hk7 HI6
  go_upto_block 0 with fail
  go_cut [8, 10] (fun sv lv wx => ∃ (s l : Int) (u : Bool) (a : Option Addr) (dn cd k' : Nat) (d : List Int), sv = .int .i64 s ∧ lv = .int .i64 l ∧ -1 ≤ s ∧ s ≤ 32 ∧ -1 ≤ l ∧ l ≤ 1099511627777 ∧ Hid (DsI w w0 wx B v cs k' size (.slice (some ⟨b, off, none⟩) n c) bs X X0 u a dn cd d))
  case first =>
    by_cases z0 : z = 0
    · subst z0
      go_wp2_with fail
      refine (next_k 2 HI7.out.src (by omega) (by constructor <;> decide)).mono ?_
      rintro e w8 ⟨r, rfl, hd, hs', hk'⟩
      obtain ⟨hr1, hr2⟩ := hd.2 (by decide)
      have HI8 := hid (HI7.out.draw hp hs' hk')
      clear hd hs' hk' HI7
      have q1 : IntKind.i64.wrap (32 - r) = 32 - r := by rw [IntKind.wrap_i64]; omega
      go_wp2_with fail
      go_meet
      case rel => exact ⟨32 - r, 512 + l, _, _, _, _, _, _, rfl, rfl, by omega, by omega, by omega, by omega, HI8⟩
    have e0 : (z == 0) = false := by simp [z0]
    by_cases z1 : z = 1
    · subst z1
      go_wp2_with fail
      go_meet
      case rel => exact ⟨-1, 512 + l, _, _, _, _, _, _, rfl, rfl, by omega, by omega, by omega, by omega, HI7⟩
    have e1 : (z == 1) = false := by simp [z1]
    by_cases z2 : z = 2
    · subst z2
      go_wp2_with fail
      refine (fill_k 1001 HI7.out.src (by omega) (by omega)).mono ?_
      rintro e w8 ⟨g, d2, rfl, hbl, hbb2, ho, hgB, hs', hgw, hk'⟩
      have hgX : ¬ g = X := fun e => by have := HI7.out.box.lt; omega
      have HI8 := hid (HI7.out.draw hp hs' hk')
      have HO := hid ho
      have HB2 := hid hbb2
      clear ho hs' hk' HI7 hbb2 hgw
      obtain ⟨x0, x1⟩ := HI8.out.box.all2
      have fx := HI8.out.box.frozen
      have HE := hid (HI8.out.data hp hbl (by omega) HB2.out HO.out hgX)
      clear HI8 HO
      go_wp2_with fail
      go_meet
      case rel => exact ⟨s, 512 + l, _, _, _, _, _, _, rfl, rfl, by omega, by omega, by omega, by omega, HE⟩
    have e2 : (z == 2) = false := by simp [z2]
    by_cases z3 : z = 3
    · subst z3
      obtain ⟨x0, x1⟩ := HI7.out.box.all2
      have fx := HI7.out.box.frozen
      have HE := hid (HI7.out.used hp false)
      clear HI7
      go_wp2_with fail
      go_meet
      case rel => exact ⟨s, 512 + l, _, _, _, _, _, _, rfl, rfl, by omega, by omega, by omega, by omega, HE⟩
    have e3 : (z == 3) = false := by simp [z3]
    by_cases z4 : z = 4
    · subst z4
      go_wp2_with fail
      refine (next_k 2 HI7.out.src (by omega) (by constructor <;> decide)).mono ?_
      rintro e w8 ⟨r, rfl, hd, hs', hk'⟩
      obtain ⟨hr1, hr2⟩ := hd.2 (by decide)
      have HI8 := hid (HI7.out.draw hp hs' hk')
      clear hd hs' hk' HI7
      have q1 : IntKind.i64.wrap (1099511627776 + r) = 1099511627776 + r := by rw [IntKind.wrap_i64]; omega
      go_wp2_with fail
      go_meet
      case rel => exact ⟨s, 1099511627776 + r, _, _, _, _, _, _, rfl, rfl, by omega, by omega, by omega, by omega, HI8⟩
    have e4 : (z == 4) = false := by simp [z4]
    by_cases z5 : z = 5
    · subst z5
      go_wp2_with fail
      go_meet
      case rel => exact ⟨s, -1, _, _, _, _, _, _, rfl, rfl, by omega, by omega, by omega, by omega, HI7⟩
    have e5 : (z == 5) = false := by simp [z5]
    by_cases z6 : z = 6
    · subst z6
      by_cases hn4 : n = 4096
      · have HL4 := hid (HL.out.trans hn4)
        have hn16 := numAt_in bs HBB.out 16 2 (by decide) (by decide) (by rw [HL4.out]; decide)
        have kL := l3Bottom_any b off c bs w7 HBB.out HL4.out (by have h := HI7.out.page w7 (Kept.refl _ _); rw [hn4] at h; exact h)
        subst hn4
        go_wp2_with fail
        refine kL.mono ?_
        rintro e w8 ⟨rfl, hk8⟩
        have HI8 := hid (HI7.out.same hk8)
        clear hk8 HI7 kL
        obtain ⟨nb, hnb⟩ : ∃ x, numAt bs 16 2 = x := ⟨_, rfl⟩
        rw [hnb] at hn16 ⊢
        have p16 : (256 : Int) ^ 2 = 65536 := by decide
        rw [p16] at hn16
        clear hnb p16
        have q0 : IntKind.i64.wrap (nb - 148) = nb - 148 := by rw [IntKind.wrap_i64]; omega
        go_wp2_with fail
        refine (next_k 2 HI8.out.src (by omega) (by constructor <;> decide)).mono ?_
        rintro e w9 ⟨r, rfl, hd, hs', hk'⟩
        obtain ⟨hr1, hr2⟩ := hd.2 (by decide)
        have HI9 := hid (HI8.out.draw hp hs' hk')
        clear hd hs' hk' HI8
        obtain ⟨m, hm⟩ : ∃ m, nb - 148 + r = m := ⟨_, rfl⟩
        have q1 : IntKind.i64.wrap (nb - 148 + r) = m := by rw [IntKind.wrap_i64]; omega
        clear hm
        by_cases hm1 : 0 ≤ m
        · by_cases hm2 : m ≤ 1000
          · obtain ⟨N, rfl⟩ : ∃ N : Nat, m = (N : Int) := ⟨m.toNat, by omega⟩
            obtain ⟨x0, x1⟩ := HI9.out.box.all2
            have fx := HI9.out.box.frozen
            have HU := hid (HI9.out.used hp true)
            clear HI9
            go_upto_region 26 with fail
            generalize w9.setCell ⟨X, 0, none⟩ (.bool true) = w10 at HU ⊢
            clear x0 x1 fx
            go_wp2_with fail
            refine (fill_k N HU.out.src (by omega) (by omega)).mono ?_
            rintro e w11 ⟨g, d2, rfl, hbl, hbb2, ho, hgB, hs', hgw, hk'⟩
            have hgX : ¬ g = X := fun e => by have := HU.out.box.lt; omega
            have HV := hid (HU.out.draw hp hs' hk')
            have HO := hid ho
            have HB2 := hid hbb2
            clear ho hs' hk' HU hbb2 hgw
            obtain ⟨x0, x1⟩ := HV.out.box.all2
            have fx := HV.out.box.frozen
            have HE := hid (HV.out.data hp hbl (by omega) HB2.out HO.out hgX)
            clear HV HO
            go_wp2_with fail
            go_meet
            case rel => exact ⟨s, 512 + l, _, _, _, _, _, _, rfl, rfl, by omega, by omega, by omega, by omega, HE⟩
          · have hm3 : ¬ m ≤ 1000 := hm2
            go_wp2_with fail
            go_meet
            case rel => exact ⟨s, 512 + l, _, _, _, _, _, _, rfl, rfl, by omega, by omega, by omega, by omega, HI9⟩
        · have hm3 : ¬ 0 ≤ m := hm1
          go_wp2_with fail
          go_meet
          case rel => exact ⟨s, 512 + l, _, _, _, _, _, _, rfl, rfl, by omega, by omega, by omega, by omega, HI9⟩
      · have hn5 : ¬ (n : Int) = 4096 := by omega
        go_wp2_with fail
        go_meet
        case rel => exact ⟨s, 512 + l, _, _, _, _, _, _, rfl, rfl, by omega, by omega, by omega, by omega, HI7⟩
    have e6 : (z == 6) = false := by simp [z6]
    by_cases z7 : z = 7
    · subst z7
      by_cases hn4 : n = 4096
      · have HL4 := hid (HL.out.trans hn4)
        have hn16 := numAt_in bs HBB.out 16 2 (by decide) (by decide) (by rw [HL4.out]; decide)
        have kL := l3Bottom_any b off c bs w7 HBB.out HL4.out (by have h := HI7.out.page w7 (Kept.refl _ _); rw [hn4] at h; exact h)
        subst hn4
        go_wp2_with fail
        refine kL.mono ?_
        rintro e w8 ⟨rfl, hk8⟩
        have HI8 := hid (HI7.out.same hk8)
        clear hk8 HI7 kL
        obtain ⟨nb, hnb⟩ : ∃ x, numAt bs 16 2 = x := ⟨_, rfl⟩
        rw [hnb] at hn16 ⊢
        have p16 : (256 : Int) ^ 2 = 65536 := by decide
        rw [p16] at hn16
        clear hnb p16
        have q0 : IntKind.i64.wrap (nb - 148) = nb - 148 := by rw [IntKind.wrap_i64]; omega
        go_wp2_with fail
        refine (next_k 2 HI8.out.src (by omega) (by constructor <;> decide)).mono ?_
        rintro e w9 ⟨r, rfl, hd, hs', hk'⟩
        obtain ⟨hr1, hr2⟩ := hd.2 (by decide)
        have HI9 := hid (HI8.out.draw hp hs' hk')
        clear hd hs' hk' HI8
        obtain ⟨m, hm⟩ : ∃ m, nb - 148 + r = m := ⟨_, rfl⟩
        have q1 : IntKind.i64.wrap (nb - 148 + r) = m := by rw [IntKind.wrap_i64]; omega
        clear hm
        by_cases hm1 : 0 ≤ m
        · by_cases hm2 : m ≤ 1000
          · obtain ⟨N, rfl⟩ : ∃ N : Nat, m = (N : Int) := ⟨m.toNat, by omega⟩
            obtain ⟨x0, x1⟩ := HI9.out.box.all2
            have fx := HI9.out.box.frozen
            have HU := hid (HI9.out.used hp true)
            clear HI9
            go_upto_region 26 with fail
            generalize w9.setCell ⟨X, 0, none⟩ (.bool true) = w10 at HU ⊢
            clear x0 x1 fx
            go_wp2_with fail
            refine (fill_k N HU.out.src (by omega) (by omega)).mono ?_
            rintro e w11 ⟨g, d2, rfl, hbl, hbb2, ho, hgB, hs', hgw, hk'⟩
            have hgX : ¬ g = X := fun e => by have := HU.out.box.lt; omega
            have HV := hid (HU.out.draw hp hs' hk')
            have HO := hid ho
            have HB2 := hid hbb2
            clear ho hs' hk' HU hbb2 hgw
            obtain ⟨x0, x1⟩ := HV.out.box.all2
            have fx := HV.out.box.frozen
            have HE := hid (HV.out.data hp hbl (by omega) HB2.out HO.out hgX)
            clear HV HO
            go_wp2_with fail
            go_meet
            case rel => exact ⟨s, 512 + l, _, _, _, _, _, _, rfl, rfl, by omega, by omega, by omega, by omega, HE⟩
          · have hm3 : ¬ m ≤ 1000 := hm2
            go_wp2_with fail
            go_meet
            case rel => exact ⟨s, 512 + l, _, _, _, _, _, _, rfl, rfl, by omega, by omega, by omega, by omega, HI9⟩
        · have hm3 : ¬ 0 ≤ m := hm1
          go_wp2_with fail
          go_meet
          case rel => exact ⟨s, 512 + l, _, _, _, _, _, _, rfl, rfl, by omega, by omega, by omega, by omega, HI9⟩
      · have hn5 : ¬ (n : Int) = 4096 := by omega
        go_wp2_with fail
        go_meet
        case rel => exact ⟨s, 512 + l, _, _, _, _, _, _, rfl, rfl, by omega, by omega, by omega, by omega, HI7⟩
    have e7 : (z == 7) = false := by simp [z7]
    by_cases z8 : z = 8
    · subst z8
      by_cases hn4 : n = 4096
      · have HL4 := hid (HL.out.trans hn4)
        have hn16 := numAt_in bs HBB.out 16 2 (by decide) (by decide) (by rw [HL4.out]; decide)
        have kL := l3Bottom_any b off c bs w7 HBB.out HL4.out (by have h := HI7.out.page w7 (Kept.refl _ _); rw [hn4] at h; exact h)
        subst hn4
        go_wp2_with fail
        refine kL.mono ?_
        rintro e w8 ⟨rfl, hk8⟩
        have HI8 := hid (HI7.out.same hk8)
        clear hk8 HI7 kL
        obtain ⟨nb, hnb⟩ : ∃ x, numAt bs 16 2 = x := ⟨_, rfl⟩
        rw [hnb] at hn16 ⊢
        have p16 : (256 : Int) ^ 2 = 65536 := by decide
        rw [p16] at hn16
        clear hnb p16
        have q0 : IntKind.i64.wrap (nb - 148) = nb - 148 := by rw [IntKind.wrap_i64]; omega
        go_wp2_with fail
        refine (next_k 2 HI8.out.src (by omega) (by constructor <;> decide)).mono ?_
        rintro e w9 ⟨r, rfl, hd, hs', hk'⟩
        obtain ⟨hr1, hr2⟩ := hd.2 (by decide)
        have HI9 := hid (HI8.out.draw hp hs' hk')
        clear hd hs' hk' HI8
        obtain ⟨m, hm⟩ : ∃ m, nb - 148 + r = m := ⟨_, rfl⟩
        have q1 : IntKind.i64.wrap (nb - 148 + r) = m := by rw [IntKind.wrap_i64]; omega
        clear hm
        by_cases hm1 : 0 ≤ m
        · by_cases hm2 : m ≤ 1000
          · obtain ⟨N, rfl⟩ : ∃ N : Nat, m = (N : Int) := ⟨m.toNat, by omega⟩
            obtain ⟨x0, x1⟩ := HI9.out.box.all2
            have fx := HI9.out.box.frozen
            have HU := hid (HI9.out.used hp true)
            clear HI9
            go_upto_region 26 with fail
            generalize w9.setCell ⟨X, 0, none⟩ (.bool true) = w10 at HU ⊢
            clear x0 x1 fx
            go_wp2_with fail
            refine (fill_k N HU.out.src (by omega) (by omega)).mono ?_
            rintro e w11 ⟨g, d2, rfl, hbl, hbb2, ho, hgB, hs', hgw, hk'⟩
            have hgX : ¬ g = X := fun e => by have := HU.out.box.lt; omega
            have HV := hid (HU.out.draw hp hs' hk')
            have HO := hid ho
            have HB2 := hid hbb2
            clear ho hs' hk' HU hbb2 hgw
            obtain ⟨x0, x1⟩ := HV.out.box.all2
            have fx := HV.out.box.frozen
            have HE := hid (HV.out.data hp hbl (by omega) HB2.out HO.out hgX)
            clear HV HO
            go_wp2_with fail
            go_meet
            case rel => exact ⟨s, 512 + l, _, _, _, _, _, _, rfl, rfl, by omega, by omega, by omega, by omega, HE⟩
          · have hm3 : ¬ m ≤ 1000 := hm2
            go_wp2_with fail
            go_meet
            case rel => exact ⟨s, 512 + l, _, _, _, _, _, _, rfl, rfl, by omega, by omega, by omega, by omega, HI9⟩
        · have hm3 : ¬ 0 ≤ m := hm1
          go_wp2_with fail
          go_meet
          case rel => exact ⟨s, 512 + l, _, _, _, _, _, _, rfl, rfl, by omega, by omega, by omega, by omega, HI9⟩
      · have hn5 : ¬ (n : Int) = 4096 := by omega
        go_wp2_with fail
        go_meet
        case rel => exact ⟨s, 512 + l, _, _, _, _, _, _, rfl, rfl, by omega, by omega, by omega, by omega, HI7⟩
    have e8 : (z == 8) = false := by simp [z8]
    go_wp2_with fail
    go_meet
    case rel => exact ⟨s, 512 + l, _, _, _, _, _, _, rfl, rfl, by omega, by omega, by omega, by omega, HI7⟩
  case rest =>
    obtain ⟨w8, rfl⟩ : ∃ x, x = wc := ⟨wc, rfl⟩
    obtain ⟨s, l, u, a, dn, cd, k', d, rfl, rfl, hs1, hs2, hl1, hl2, HI⟩ := hcut
    clear HI7
    have hS : (fun wx : World => wx.cell? ⟨X, 0, none⟩ = some (.bool u) ∧ wx.cell? ⟨X, 1, none⟩ = some (.slice a dn cd)) w8.drew := ⟨(HI.out.same (Kept.refl _ _).drew).box.cell 0, (HI.out.same (Kept.refl _ _).drew).box.cell 1⟩
    go_wp2_with fail
    refine wp_region_V (fun wx : World => wx.cell? ⟨X, 0, none⟩ = some (.bool u) ∧ wx.cell? ⟨X, 1, none⟩ = some (.slice a dn cd)) 99 8 rfl (by kernel_rfl) ?_
    have HIv := hid (HI.out.same (Kept.refl _ _).drew)
    generalize w8.drew = v1 at HIv hS ⊢
    refine tk 0 71 hS ?_
    refine tk 1 72 hS ?_
    refine tk 2 73 hS ?_
    refine tk 3 74 hS ?_
    refine tk 4 2 hS ?_
    refine tk 5 3 hS ?_
    obtain ⟨r0, r1⟩ := HIv.out.res.all2
    have fr := HIv.out.res.frozen
    have lr := HIv.out.res.lt
    have hkr : Kept (fun b => b = X0) v1 ((v1.setCell ⟨X0, 0, none⟩ (.bool u)).setCell ⟨X0, 1, none⟩ (.slice a dn cd)) := ((Kept.refl (fun b => b = X0) v1).setCell (p := ⟨X0, 0, none⟩) (.inr rfl) _).setCell (p := ⟨X0, 1, none⟩) (.inr rfl) _
    have hrb := (HIv.out.res.stored 0 (.bool u)).stored 1 (.slice a dn cd)
    have hbx := HIv.out.box.kept hkr (fun e => by have h1 := hp.x; have h2 := hp.x2; omega)
    refine wpAnyV_one (i := 6) (by kernel_rfl) rfl (fun K hK => ?_)
    go_simp
    have hS : (fun wx : World => wx.cell? ⟨X, 0, none⟩ = some (.bool u) ∧ wx.cell? ⟨X, 1, none⟩ = some (.slice a dn cd)) ((v1.setCell ⟨X0, 0, none⟩ (.bool u)).setCell ⟨X0, 1, none⟩ (.slice a dn cd)) := ⟨hbx.cell 0, hbx.cell 1⟩
    refine hK.out _ _ (fun _ => hS) ?_
    clear hK K
    try simp only [Act.put, sA, s0, sS]
    generalize ((v1.setCell ⟨X0, 0, none⟩ (.bool u)).setCell ⟨X0, 1, none⟩ (.slice a dn cd)) = v2 at hkr hrb hbx hS ⊢
    refine tk 7 5 hS ?_
    refine wpAnyV_done (by kernel_rfl) ?_
    clear hS r0 r1 fr lr
    have z0 : v2.cell? ⟨X0, 0, none⟩ = some (.bool u) := hrb.cell 0
    have z1 : v2.cell? ⟨X0, 1, none⟩ = some (.slice a dn cd) := hrb.cell 1
    have HKR := hid hkr
    clear hkr hrb hbx
    go_wp2_with fail
    (try simp only [Exit.inBlock, Exit.then])
    refine bodyPost_ret (v := .tuple #[.slice (some ⟨b, off, none⟩) n c, .int .i64 s, .agg #[.bool u, .slice a dn cd], .int .i64 l]) ?_ rfl ?_
    · rw [results_c4 rfl]
      go_simp
    have hF : Kept (fun b => b = X ∨ b < w0.heap.size) v1 v2 := HKR.out.mono (fun i _ e => .inr (by have h1 := hp.x2; have e' : i = X0 := e; omega))
    obtain ⟨e1, e2⟩ := HIv.out.len
    exact ⟨b, off, n, c, bs, s, u, a, cd, d, l, by rw [e1], HL.out, hn, HBB.out, HIv.out.page _ hF, by omega, HIv.out.isB, by rw [e1]; exact HIv.out.dat _ hF, by omega, by omega, HIv.out.kept.next HKR.out (fun i hi e => by have h1 := hp.x1; have e' : i = X0 := e; omega)⟩
end Go.Proofs.Ytbiagmnkdihmiaa

namespace Go.Proofs.Ytbiagmnkdihmiaa
set_option maxRecDepth 100000
set_option maxHeartbeats 8000000
open Go.RowKit
set_option linter.unusedVariables false
set_option linter.unusedSimpArgs false
theorem cSl_num {sl : List Int} (h : SlOK sl) (hs : ∀ x ∈ sl, 0 ≤ x ∧ x ≤ 9223372036854775807) : ∀ k, k ≤ 32 → ∀ x ∈ cSl sl k, 0 ≤ x ∧ x ≤ 9223372036854775807
  | 0, _ => hs
  | k + 1, hk => by
    rw [cSl]
    split
    · exact cSl_num h hs k (by omega)
    · intro x hx
      rcases List.mem_or_eq_of_mem_set hx with hx | rfl
      · exact cSl_num h hs k (by omega) x hx
      · have := h.bot (k + 1) hk
        omega
theorem num3_own {raw : List Int} (hB : IsB raw) (hok : ownOK raw = true) : (0 ≤ numAt raw 4 8 ∧ numAt raw 4 8 ≤ 9223372036854775807) ∧ (0 ≤ numAt raw 12 4 ∧ numAt raw 12 4 ≤ 9223372036854775807) ∧ (∀ x ∈ slotsOf raw, 0 ≤ x ∧ x ≤ 9223372036854775807) := by
  have hl := ownOK_len hok
  have h1 := isLSN_spec (own_enc hok).2
  have h2 := numAt_in raw hB 12 4 (by decide) (by decide) (by omega)
  exact ⟨h1, by omega, fun x hx => by have := slotsOf_small raw hB hl x hx; omega⟩
theorem implComp_any (v : Value) (raw : List Int) (w : World) (hB : IsB raw) (hn : raw.length ≤ 1099511627776) (hv : Rd .u8 w v raw) :
    Calls Try.prog 8 #[v] w fun e w' => ∃ a c, e = .returned (.slice a (pageCompact raw).length c) ∧ (∀ b, (Value.slice a (pageCompact raw).length c).ownBlock = some b → w.heap.size ≤ b) ∧ Own 0 50 .u8 w' (.slice a (pageCompact raw).length c) (pageCompact raw) ∧ Same w w' := by
  cases hok : ownOK raw with
  | false =>
    have kW := wellFormed_no v raw w hB hn hv hok
    rw [show pageCompact raw = [] from if_neg (by rw [hok]; simp)]
    clear hv hB hok
    go_enter Try.func8, Try.ntmps8
    go_wp2_with fail
    refine kW.mono ?_
    rintro e w1 ⟨rfl, hk1⟩
    have HK1 := hid hk1
    clear hk1
    go_wp2
    go_ret
    exact ⟨_, _, rfl, fun b hb => by simp [Value.ownBlock] at hb, Own.nil _ _ _ _, HK1.out⟩
  | true =>
    have kW := wellFormed_yes v raw w hB hn hv hok
    have hsl := slOK_of hB hok
    obtain ⟨n1, n2, n3⟩ := num3_own hB hok
    have hl := ownOK_len hok
    have hpc : pageCompact raw = compB raw := if_pos hok
    have hpl := compB_length hB hok
    have kC := fun P wx (h : SP wx P (raw.take 4) (numAt raw 4 8) (numAt raw 12 4) (numAt raw 16 2) (slotsOf raw) raw) => compact_any P (raw.take 4) (numAt raw 4 8) (numAt raw 12 4) (numAt raw 16 2) (slotsOf raw) raw wx h hsl
    have hb32 := hsl.bot 32 (Nat.le_refl _)
    have kE := fun P wx (h : SP wx P (raw.take 4) (numAt raw 4 8) (numAt raw 12 4) (cBot (slotsOf raw) 32) (cSl (slotsOf raw) 32) (cBody raw (slotsOf raw) 32)) => encode_any P (raw.take 4) (numAt raw 4 8) (numAt raw 12 4) (cBot (slotsOf raw) 32) (cSl (slotsOf raw) 32) (cBody raw (slotsOf raw) 32) wx h ⟨n1, n2, by omega, cSl_num hsl n3 32 (Nat.le_refl _)⟩
    rw [show encB (raw.take 4) (numAt raw 4 8) (numAt raw 12 4) (cBot (slotsOf raw) 32) (cSl (slotsOf raw) 32) (cBody raw (slotsOf raw) 32) = compB raw from rfl] at kE
    have kL := fun wx => list_any (compB raw) wx hpl
    obtain ⟨cs, hcs⟩ : ∃ cs : Array Value, (vals .u8 (compB raw)).toArray = cs := ⟨_, rfl⟩
    have HCS := hid hcs
    have HPL := hid hpl
    rw [hcs] at kE kL
    rw [hpc, hpl]
    clear hv hB hok hsl n1 n2 n3 hl hb32 hcs hpl hpc
    go_enter Try.func8, Try.ntmps8
    go_wp2_with fail
    refine kW.mono ?_
    rintro e w1 ⟨P, rfl, hP, hsp, hk1⟩
    have HK1 := hid hk1
    have HSP := hid hsp
    have hz1 := HK1.out.size
    clear hk1 hsp kW
    go_wp2_with fail
    refine (kC P _ HSP.out).mono ?_
    rintro e w2 ⟨rfl, hsp2, hk2⟩
    have HK2 := hid (HK1.out.next hk2 (fun i hi e => by omega))
    have HSP2 := hid hsp2
    clear hsp2 hk2 kC HSP
    go_wp2_with fail
    refine (kE P _ HSP2.out).mono ?_
    rintro e w3 ⟨rfl, hk3⟩
    have HK3 := hid (HK2.out.trans hk3)
    clear hk3 kE HSP2
    go_wp2_with fail
    refine (kL _).mono ?_
    rintro e w4 ⟨rfl, hb4, hk4⟩
    have HK4 := hid (HK3.out.trans hk4)
    have HZ := HK3.out.size
    have HO4 := (show Hid (Own 0 50 .u8 w4 (.slice (some ⟨w3.heap.size, 0, none⟩) 4096 4096) (compB raw)) from by have h := Blk.own hb4 (by rw [HPL.out]; unfold maxLen; omega); rw [HPL.out] at h; exact h)
    clear hk4 hb4 kL
    go_wp2
    go_ret
    exact ⟨_, _, rfl, fun b hb => by have h : w3.heap.size = b := (by simpa [Value.ownBlock] using hb); omega, HO4.out, HK4.out⟩
end Go.Proofs.Ytbiagmnkdihmiaa

namespace Go.Proofs.Ytbiagmnkdihmiaa
set_option maxRecDepth 100000
set_option maxHeartbeats 8000000
open Go.RowKit
set_option linter.unusedVariables false
set_option linter.unusedSimpArgs false
def ChR (w w' : World) (P : Nat) (x : Int) (ys : List Int) (e : Ending) : Prop := e = .returned (.int .i64 x) ∧ Kept (fun b => b = P) w w' ∧ ((x = 0 ∧ PgAt w' P ys ∧ ownOK ys = true ∧ IsB ys) ∨ (¬ x = 0 ∧ ys = []))
theorem ChR.no {w w' : World} (P : Nat) (x : Int) (hx : ¬ x = 0) (h : Same w w') : ChR w w' P x [] (.returned (.int .i64 x)) := ⟨rfl, h.mono (fun _ _ e => e.elim), .inr ⟨hx, rfl⟩⟩
theorem change_any (P : Nat) (E : List Int) (s : Int) (u : Bool) (ta : Option Addr) (tc : Nat) (d : List Int) (lsn : Int) (w w0 : World) (hB : IsB E) (hok : ownOK E = true) (hp : PgAt w P E) (hdn : d.length ≤ 1099511627776) (hd0 : Rd .u8 w0 (.slice ta d.length tc) d) (hP0 : w0.heap.size ≤ P) (hd : Rd .u8 w (.slice ta d.length tc) d) (hdB : IsB d) :
    Calls Try.prog 44 #[.pointer (some ⟨P, 0, none⟩), .int .i64 s, .agg #[.bool u, .slice ta d.length tc], .int .i64 lsn] w fun e w' => ChR w w' P (pageSet E s u d lsn).1 (pageSet E s u d lsn).2 e := by
  obtain ⟨n, hn0⟩ : ∃ n, d.length = n := ⟨_, rfl⟩
  have HN := hid hn0
  rw [hn0] at hd hd0 hdn ⊢
  obtain ⟨r, hr, hsp0⟩ := hp
  have hPl := hsp0.blk.lt
  have k0 := (Kept.refl (fun _ => False) w).alloc (.cells #[.bool u, .slice ta n tc] 33)
  have br := Blk.new w #[.bool u, .slice ta n tc] 33
  have HB1 := (show Hid (∀ wx, Same (w.alloc (.cells #[.bool u, .slice ta n tc] 33)) wx → Same w wx ∧ (wx.cell? ⟨w.heap.size, 0, none⟩ = some (.bool u) ∧ wx.cell? ⟨w.heap.size, 1, none⟩ = some (.slice ta n tc))) from fun wx h => ⟨k0.trans h, ⟨(br.same h).cell 0, (br.same h).cell 1⟩⟩)
  have HC0 := HB1.out _ (Kept.refl _ _)
  have HSP0 := (show Hid (SP w P (E.take 4) (numAt E 4 8) (numAt E 12 4) (numAt E 16 2) (slotsOf E) r) from hsp0)
  have HD0 := hid hd
  have HDO := hid hd0
  have hl := ownOK_len hok
  have HR := hid hr
  have HRL := hid hsp0.l3
  obtain ⟨_, r0, r1⟩ := HC0
  clear k0 br hn0 hsp0 hr hd hd0
  have kS := fun wx => isSlot_any s wx
  have kL := fun wx => isLSN_any lsn wx
  have kF := fun wx => fits_slot_any u ta n tc wx hdn
  cases hs0 : (decide (0 ≤ s) && decide (s < 32)) with
  | false =>
    rw [hs0] at kS
    rw [show pageSet E s u d lsn = (1, []) from by unfold pageSet setBad; rw [if_pos (by simp at hs0; simp; omega)]]
    clear hB hl hok
    go_enter Try.func44, Try.ntmps44
    go_wp2_with (first
          | (go_at_call 52; refine (kS _).mono ?_; rintro e w2 ⟨rfl, hk2⟩; obtain ⟨hs2, ⟨r0, r1⟩⟩ := HB1.out w2 hk2))
    go_ret
    exact ChR.no P 1 (by omega) hs2
  | true =>
  rw [hs0] at kS
  cases hl0 : isLSN lsn with
  | false =>
    rw [hl0] at kL
    rw [show pageSet E s u d lsn = (1, []) from by unfold pageSet setBad; rw [if_pos (by simp [isLSN] at hl0; simp; omega)]]
    clear hB hl hok
    go_enter Try.func44, Try.ntmps44
    go_wp2_with (first
          | (go_at_call 52; refine (kS _).mono ?_; rintro e w2 ⟨rfl, hk2⟩; obtain ⟨hs2, ⟨r0, r1⟩⟩ := HB1.out w2 hk2)
          | (go_at_call 61; refine (kL _).mono ?_; rintro e w3 ⟨rfl, hk3x⟩; have hk3 := hk2.trans hk3x; obtain ⟨hs3, ⟨r0, r1⟩⟩ := HB1.out w3 hk3))
    go_ret
    exact ChR.no P 1 (by omega) hs3
  | true =>
  rw [hl0] at kL
  cases hf0 : (decide (n ≤ 1000) && (u || decide (n = 0))) with
  | false =>
    rw [hf0] at kF
    rw [show pageSet E s u d lsn = (1, []) from by unfold pageSet setBad; rw [HN.out, if_pos (by cases u <;> simp at hf0 <;> simp <;> omega)]]
    clear hB hl hok
    go_enter Try.func44, Try.ntmps44
    go_wp2_with (first
          | (go_at_call 52; refine (kS _).mono ?_; rintro e w2 ⟨rfl, hk2⟩; obtain ⟨hs2, ⟨r0, r1⟩⟩ := HB1.out w2 hk2)
          | (go_at_call 61; refine (kL _).mono ?_; rintro e w3 ⟨rfl, hk3x⟩; have hk3 := hk2.trans hk3x; obtain ⟨hs3, ⟨r0, r1⟩⟩ := HB1.out w3 hk3)
          | (go_at_call 62; refine (kF _).mono ?_; rintro e w4 ⟨rfl, hk4x⟩; have hk4 := hk3.trans hk4x; obtain ⟨hs4, ⟨r0, r1⟩⟩ := HB1.out w4 hk4))
    go_ret
    exact ChR.no P 1 (by omega) hs4
  | true =>
  rw [hf0] at kF
  obtain ⟨k, rfl⟩ : ∃ k : Nat, s = k := ⟨s.toNat, by simp at hs0; omega⟩
  have hk32 : k < 32 := by simp at hs0; omega
  have hn1 : n ≤ 1000 := by simp at hf0; omega
  have hsl := slOK_of hB hok
  have hsm := slotsOf_small E hB hl
  have hbad : setBad E k u d lsn = false := by unfold setBad; rw [hok, HN.out]; simp [isLSN] at hl0; cases u <;> simp at hf0 ⊢ <;> omega
  have HPS := (show Hid (pageSet E k u d lsn = if 3948 < usedN (slotsOf E) 32 - (slotsOf E).getD (2 * k + 1) 0 + (n : Int) then (2, []) else (0, setB E k u d lsn)) from by
    show pageSet E k u d lsn = _
    unfold pageSet
    rw [hbad, if_neg (by simp), Int.toNat_natCast]
    by_cases hf : setFull E k d
    · rw [if_pos hf, if_pos (by unfold setFull at hf; rw [HN.out] at hf; exact hf)]
    · rw [if_neg hf, if_neg (by unfold setFull at hf; rw [HN.out] at hf; exact hf)])
  have HS := (show Hid (∀ wx, SP wx P (E.take 4) (numAt E 4 8) (numAt E 12 4) (numAt E 16 2) (slotsOf E) r → wx.cell? ⟨P, 7 + k * 2 + 1, none⟩ = some (.int .i64 ((slotsOf E).getD (2 * k + 1) 0))) from fun wx h => by rw [Nat.mul_comm, Nat.add_assoc]; exact h.slAt (2 * k + 1) (by omega))
  have kT := fun wx (h : SP wx P (E.take 4) (numAt E 4 8) (numAt E 12 4) (numAt E 16 2) (slotsOf E) r) => total_any P _ _ _ _ _ _ wx h hsm
  have hu := hsl.room 32 (Nat.le_refl _)
  have hx := hsm.at (2 * k + 1)
  have HU0 := (show Hid (usedN (sl0 (slotsOf E) k) 32 = usedN (slotsOf E) 32 - (slotsOf E).getD (2 * k + 1) 0) from by show usedN (sl0 (slotsOf E) k) 32 = _; rw [usedN_zero, if_pos hk32])
  have hu0 := (hsl.zero k).room 32 (Nat.le_refl _)
  rw [HU0.out] at hu0
  obtain ⟨U, hU⟩ : ∃ U, usedN (slotsOf E) 32 = U := ⟨_, rfl⟩
  obtain ⟨X, hX⟩ : ∃ X, (slotsOf E).getD (2 * k + 1) 0 = X := ⟨_, rfl⟩
  rw [hU, hX] at HU0 hu0 HPS
  rw [hU] at hu kT
  rw [hX] at hx HS
  have q1 : IntKind.i64.wrap (U - X) = U - X := by rw [IntKind.wrap_i64]; omega
  have q2 : IntKind.i64.wrap (U - X + n) = U - X + n := by rw [IntKind.wrap_i64]; omega
  have hk32i : (k : Int) < 32 := by omega
  go_enter Try.func44, Try.ntmps44
  go_wp2_with (first
    | (go_at_call 52; refine (kS _).mono ?_; rintro e w2 ⟨rfl, hk2⟩; obtain ⟨hs2, ⟨r0, r1⟩⟩ := HB1.out w2 hk2)
    | (go_at_call 61; refine (kL _).mono ?_; rintro e w3 ⟨rfl, hk3x⟩; have hk3 := hk2.trans hk3x; obtain ⟨hs3, ⟨r0, r1⟩⟩ := HB1.out w3 hk3)
    | (go_at_call 62; refine (kF _).mono ?_; rintro e w4 ⟨rfl, hk4x⟩; have hk4 := hk3.trans hk4x; obtain ⟨hs4, ⟨r0, r1⟩⟩ := HB1.out w4 hk4))
  have HSP4 := hid (HSP0.out.same hs4)
  have HK4 := hid hk4
  have X4 := HS.out w4 HSP4.out
  have hS : (fun wx : World => wx.cell? ⟨P, 7 + k * 2 + 1, none⟩ = some (.int .i64 X) ∧ wx.cell? ⟨w.heap.size, 1, none⟩ = some (.slice ta n tc)) w4.drew := ⟨X4, r1⟩
  refine wp_region_V (fun wx : World => wx.cell? ⟨P, 7 + k * 2 + 1, none⟩ = some (.int .i64 X) ∧ wx.cell? ⟨w.heap.size, 1, none⟩ = some (.slice ta n tc)) 99 15 rfl (by kernel_rfl) ?_
  refine tk 0 22 hS ?_
  refine tk 2 24 hS ?_
  refine tk 3 25 hS ?_
  refine tk 4 26 hS ?_
  refine tk 5 27 hS ?_
  refine tkV 6 28 (.pointer (some ⟨P, 7 + k * 2, none⟩)) hS ?_
  refine tk 7 29 hS ?_
  refine tk 8 30 hS ?_
  refine tk 10 32 hS ?_
  refine tk 11 33 hS ?_
  refine tk 12 34 hS ?_
  refine wpAnyV_one (i := 1) (by kernel_rfl) rfl (fun K hK => ?_)
  go_simp
  refine (kT _ (HSP4.out.same (Kept.refl _ _).drew)).mono ?_
  rintro e w5 ⟨rfl, hk5x⟩
  have hk5 := HK4.out.trans ((Kept.refl _ _).drew.trans hk5x)
  have HSP5 := hid (HSP4.out.same ((Kept.refl _ _).drew.trans hk5x))
  have X5 := HS.out w5 HSP5.out
  clear r0 r1
  obtain ⟨hs5, ⟨r0, r1⟩⟩ := HB1.out w5 hk5
  have hS : (fun wx : World => wx.cell? ⟨P, 7 + k * 2 + 1, none⟩ = some (.int .i64 X) ∧ wx.cell? ⟨w.heap.size, 1, none⟩ = some (.slice ta n tc)) w5 := ⟨X5, r1⟩
  refine hK.out _ _ (fun _ => hS) ?_
  clear hK K
  try simp only [Act.put, sA, s0, sS]
  refine tkV 9 31 (.int .i64 (U - X)) hS ?_
  refine tkV 13 35 (.int .i64 (U - X + n)) hS ?_
  by_cases hfull : 3948 < U - X + (n : Int)
  · refine tkV 14 36 (.bool true) hS ?_
    refine wpAnyV_done (by kernel_rfl) ?_
    go_wp2
    go_ret
    rw [HPS.out, if_pos hfull]
    exact ChR.no P 2 (by omega) hs5
  · have HF := (show Hid (¬ 3948 < U - X + (n : Int)) from hfull)
    refine tkV 14 36 (.bool false) hS ?_
    refine wpAnyV_done (by kernel_rfl) ?_
    have hroom : 148 ≤ cBot (sl0 (slotsOf E) k) 32 - (d.length : Int) := by unfold cBot; rw [HU0.out, HN.out]; omega
    have hpt := ownOK_parts hok
    have HD5 := hid (HD0.out.same hs5)
    have kSet := setSP_any P (E.take 4) (numAt E 4 8) (numAt E 12 4) (numAt E 16 2) (slotsOf E) r k u ta tc d w5 HSP5.out hsl hk32 ⟨hpt.1, hpt.2.1⟩ (by rw [HN.out]; exact hn1) hroom (by rw [HN.out]; exact HD5.out) (fun w' hk => by rw [HN.out]; exact Rd.keptOld HDO.out HD5.out hP0 hk)
    rw [HN.out] at kSet
    have HOK := hid (setB_ok hB hok k hk32 u d hdB lsn hl0 (by rw [HN.out]; exact hn1) hroom)
    have HS5 := hid hs5
    clear hroom hpt kS kL kF kT hB hsl hsm hu hx hu0 hok hk5 hk5x hk4 hk4x hk3 hk3x hk2 hs2 hs3 hs4
    go_wp2_with fail
    refine kSet.mono ?_
    rintro e w6 ⟨rfl, hset, hk6⟩
    obtain ⟨b', sl', r', e1, e2, e3, e4, e5⟩ := HOK.out
    obtain ⟨r2, er2, hsp6⟩ := e5 _ _ _ _ HR.out HRL.out hset
    have HSP6 := hid hsp6
    have HK6 := (show Hid (Kept (fun b => b = P) w w6) from (HS5.out.mono (fun _ _ e => e.elim)).trans hk6)
    have l0 := HSP6.out.num3.1
    have lf := HSP6.out.blk.frozen 4
    have HE := hid (PgAt.of e2 er2 (HSP6.out.setLsn lsn))
    have HE1 := hid e1
    have HE2 := hid (And.intro e3 e4)
    clear hset hk6 kSet r0 r1 hsp6 e1 e2 e3 e4 e5 er2
    have HK7 := (show Hid (Kept (fun b => b = P) w (w6.setCell ⟨P, 4, none⟩ (.int .i64 lsn))) from HK6.out.setCell (p := ⟨P, 4, none⟩) (.inr rfl) _)
    go_wp2
    go_ret
    rw [HPS.out, if_neg (by have := HF.out; omega)]
    exact ⟨rfl, HK7.out, .inl ⟨rfl, by rw [HE1.out]; exact HE.out, HE2.out⟩⟩
theorem implSet_any (v : Value) (raw : List Int) (s : Int) (u : Bool) (ta : Option Addr) (tc : Nat) (d : List Int) (lsn : Int) (w : World) (hB : IsB raw) (hn : raw.length ≤ 1099511627776) (hv : Rd .u8 w v raw) (hdn : d.length ≤ 1099511627776) (hd : Rd .u8 w (.slice ta d.length tc) d) (hdB : IsB d) :
    Calls Try.prog 15 #[v, .int .i64 s, .agg #[.bool u, .slice ta d.length tc], .int .i64 lsn] w fun e w' => SetAns 50 w w' e (pageSet raw s u d lsn).1 (pageSet raw s u d lsn).2 := by
  obtain ⟨n, hn0⟩ : ∃ n, d.length = n := ⟨_, rfl⟩
  have HN := hid hn0
  have kC := fun P wx (h : PgAt wx P raw) (h0 : ownOK raw = true) (hP : w.heap.size ≤ P) (hs : Same w wx) => change_any P raw s u ta tc d lsn wx w hB h0 h hdn hd hP (hd.same hs) hdB
  rw [hn0] at hd hdn kC ⊢
  have k0 := (((Kept.refl (fun _ => False) w).alloc (.cells #[.bool u, .slice ta n tc] 33)).alloc (.cells #[.int .i64 0, .slice none 0 0] 31))
  have hr0 := hv.same k0
  have br := (Blk.new w #[.bool u, .slice ta n tc] 33).same ((Kept.refl (fun _ => False) _).alloc (.cells #[.int .i64 0, .slice none 0 0] 31))
  have ba := Blk.new (w.alloc (.cells #[.bool u, .slice ta n tc] 33)) #[.int .i64 0, .slice none 0 0] 31
  rw [show (w.alloc (.cells #[.bool u, .slice ta n tc] 33)).heap.size = w.heap.size + 1 from by simp] at ba
  have HB1 := (show Hid (∀ wx, Same ((w.alloc (.cells #[.bool u, .slice ta n tc] 33)).alloc (.cells #[.int .i64 0, .slice none 0 0] 31)) wx → Same w wx ∧ (wx.cell? ⟨w.heap.size, 0, none⟩ = some (.bool u) ∧ wx.cell? ⟨w.heap.size, 1, none⟩ = some (.slice ta n tc)) ∧ wx.cell? ⟨w.heap.size + 1, 0, none⟩ = some (.int .i64 0) ∧ wx.cell? ⟨w.heap.size + 1, 1, none⟩ = some (.slice none 0 0) ∧ wx.frozen? ⟨w.heap.size + 1, 0, none⟩ = false ∧ wx.frozen? ⟨w.heap.size + 1, 1, none⟩ = false) from fun wx h => ⟨k0.trans h, ⟨(br.same h).cell 0, (br.same h).cell 1⟩, (ba.same h).cell 0, (ba.same h).cell 1, (ba.same h).frozen 0, (ba.same h).frozen 1⟩)
  have HST := (show Hid (∀ wx x y, Same w wx → Same w ((wx.setCell ⟨w.heap.size + 1, 0, none⟩ x).setCell ⟨w.heap.size + 1, 1, none⟩ y)) from fun wx x y h => (h.setCell (p := ⟨w.heap.size + 1, 0, none⟩) (.inl (Nat.le_succ _)) x).setCell (p := ⟨w.heap.size + 1, 1, none⟩) (.inl (Nat.le_succ _)) y)
  clear k0 br ba hn0
  cases hok : ownOK raw with
  | false =>
    have h := wellFormed_no v raw _ hB hn hr0 hok
    rw [show pageSet raw s u d lsn = (1, []) from by unfold pageSet setBad; rw [hok]; rfl]
    clear hv hB hr0 hd kC
    go_enter Try.func15, Try.ntmps15
    go_wp2_with (first
          | (go_at_call 36; refine h.mono ?_; rintro e w1 ⟨rfl, hk1⟩; obtain ⟨hs1, ⟨r0, r1⟩, c0, c1, f0, f1⟩ := HB1.out w1 hk1))
    refine bodyPost_ret (v := .agg #[.int .i64 1, .slice none 0 0]) (by simp [results, Try.results15, go_sem, c0, c1]) rfl (SetAns.none 1 (HST.out _ _ _ hs1))
  | true =>
    have h := wellFormed_yes v raw _ hB hn hr0 hok
    have kC := fun P wx h hP hs => kC P wx h hok hP hs
    obtain ⟨X, hX⟩ : ∃ X, pageSet raw s u d lsn = X := ⟨_, rfl⟩
    rw [hX] at kC ⊢
    obtain ⟨x, ys⟩ := X
    dsimp only at kC ⊢
    clear hv hB hr0 hd hX
    go_enter Try.func15, Try.ntmps15
    go_wp2_with (go_at_call 36; refine h.mono ?_; rintro e w1 ⟨P, rfl, hP, hsp, hk1⟩; obtain ⟨hs1, ⟨r0, r1⟩, c0, c1, f0, f1⟩ := HB1.out w1 hk1)
    have hPz : w.heap.size + 2 ≤ P := by simpa using hP
    refine (kC P w1 ⟨raw, rfl, hsp⟩ (by omega) hs1).mono ?_
    rintro e w2 ⟨rfl, hk2, hx⟩
    have hk3 := hk1.next hk2 (fun i hi e => by simp at hi; omega)
    clear r0 r1 c0 c1 f0 f1
    obtain ⟨hs2, ⟨r0, r1⟩, c0, c1, f0, f1⟩ := HB1.out w2 hk3
    have HK3 := hid hk3
    have HS2 := hid hs2
    clear hk3 hk2 hs2 hk1 hs1 h kC hsp
    rcases hx with ⟨rfl, hpg, hok2, hB2⟩ | ⟨hx0, rfl⟩
    · obtain ⟨r2, hsp2, he2⟩ := hpg.enc hok2
      obtain ⟨n1, n2, n3⟩ := num3_own hB2 hok2
      have hpt := ownOK_parts hok2
      have hl2 := ownOK_len hok2
      have kE := encode_any P _ _ _ _ _ _ w2 hsp2 ⟨n1, n2, by omega, n3⟩
      rw [he2] at kE
      have kLs := fun wx => list_any ys wx hl2
      obtain ⟨cs, hcs⟩ : ∃ cs : Array Value, (vals .u8 ys).toArray = cs := ⟨_, rfl⟩
      rw [hcs] at kE kLs
      have HL := hid hl2
      clear hcs hpg hok2 hB2 n1 n2 n3 hpt hl2 hsp2 he2
      go_wp2_with fail
      refine kE.mono ?_
      rintro e w8 ⟨rfl, hk8⟩
      have HK8 := hid (HK3.out.trans hk8)
      clear hk8 kE
      go_wp2_with fail
      refine (kLs _).mono ?_
      rintro e w9 ⟨rfl, hb9, hk9⟩
      have hk9s := HK8.out.trans hk9
      have HO9 := (show Hid (Own 0 50 .u8 w9 (.slice (some ⟨w8.heap.size, 0, none⟩) 4096 4096) ys) from by have h := Blk.own hb9 (by rw [HL.out]; unfold maxLen; omega); rw [HL.out] at h; exact h)
      clear r0 r1 c0 c1 f0 f1
      obtain ⟨hs9, ⟨r0, r1⟩, c0, c1, f0, f1⟩ := HB1.out w9 hk9s
      have HS9 := hid hs9
      clear hk9 hb9 kLs hk9s r0 r1 hs9
      go_wp2
      have hz8 : w.heap.size + 2 ≤ w8.heap.size := by have := HK8.out.size; simpa using this
      have hko : Kept (fun b => b = w.heap.size + 1) w9 ((w9.setCell ⟨w.heap.size + 1, 0, none⟩ (.int .i64 0)).setCell ⟨w.heap.size + 1, 1, none⟩ (.slice (some ⟨w8.heap.size, 0, none⟩) 4096 4096)) := ((Kept.refl (fun b => b = w.heap.size + 1) w9).setCell (p := ⟨w.heap.size + 1, 0, none⟩) (.inr rfl) _).setCell (p := ⟨w.heap.size + 1, 1, none⟩) (.inr rfl) _
      refine bodyPost_ret (v := .agg #[.int .i64 0, .slice (some ⟨w8.heap.size, 0, none⟩) 4096 4096]) (by simp [results, Try.results15, go_sem, c0, c1]) rfl ?_
      refine ⟨some ⟨w8.heap.size, 0, none⟩, 4096, by simp only [HL.out], fun b hb => ?_, ?_, HST.out _ _ _ HS9.out⟩
      · have h : w8.heap.size = b := (by simpa [Value.ownBlock] using hb)
        omega
      · simp only [HL.out]
        exact HO9.out.kept hko (fun b hb e => by have h : w8.heap.size = b := (by simpa [Value.ownBlock] using hb); omega)
    · have hx1 : (x == 0) = false := by simpa using hx0
      go_wp2
      refine bodyPost_ret (v := .agg #[.int .i64 x, .slice none 0 0]) (by simp [results, Try.results15, go_sem, c0, c1]) rfl (SetAns.none x (HST.out _ _ _ HS2.out))
end Go.Proofs.Ytbiagmnkdihmiaa

namespace Go.Proofs.Ytbiagmnkdihmiaa
set_option maxRecDepth 100000
set_option maxHeartbeats 4000000
open Go.RowKit
set_option linter.unusedVariables false
set_option linter.unusedSimpArgs false
theorem implFault_any (v : Value) (raw : List Int) (number : Int) (w : World) (hB : IsB raw) (hn : raw.length ≤ 1099511627776) (hv : Rd .u8 w v raw) :
    Calls Try.prog 26 #[v, .int .i64 number] w fun e w' => e = .returned (.int .i64 (pageFault raw number)) ∧ Same w w' := by
  obtain ⟨a, c, rfl⟩ := hv.form
  by_cases hl : raw.length = 4096
  · have hR : pageFault raw number = faultP (raw.take 4) (numAt raw 4 8) (numAt raw 12 4) (numAt raw 16 2) (slotsOf raw) raw number := by unfold pageFault; rw [if_neg (by simp [hl])]
    obtain ⟨b, off, rfl, hc⟩ := rd_some hv (by omega)
    have hrg := rd_range hv (by omega)
    have hI : (Try.prog.info? 50).map (·.size) = some (vals .u8 raw).length := by rw [vals_length, hl]; exact page_info
    have hT := takeApart_any raw w hB hl
    have hn12 := numAt_in raw hB 12 4 (by decide) (by decide) (by omega)
    have hn16 := numAt_in raw hB 16 2 (by decide) (by decide) (by omega)
    have hF := fun P wx (h : SP wx P (raw.take 4) (numAt raw 4 8) (numAt raw 12 4) (numAt raw 16 2) (slotsOf raw) raw) => fault_any P (raw.take 4) (numAt raw 4 8) (numAt raw 12 4) (numAt raw 16 2) (slotsOf raw) raw number wx h (slotsOf_small raw hB hl) ⟨hn12.1, by omega⟩ ⟨hn16.1, by omega⟩
    rw [hR, hl]
    obtain ⟨F, hFe⟩ : ∃ F, faultP (raw.take 4) (numAt raw 4 8) (numAt raw 12 4) (numAt raw 16 2) (slotsOf raw) raw number = F := ⟨_, rfl⟩
    rw [hFe] at hF ⊢
    obtain ⟨cs, hcs⟩ : ∃ cs : List Value, vals .u8 raw = cs := ⟨_, rfl⟩
    rw [hcs] at hT hrg hI
    have harr := run_arrayP
    clear hcs hv hB hn hR hl hFe hn12 hn16
    go_enter Try.func26, Try.ntmps26
    go_wp2_with (first
      | (go_at_call 56; refine hT.mono ?_; rintro e w1 ⟨P, rfl, hP, hsp, hk1⟩)
      | (go_at_call 57; refine (hF P _ hsp).mono ?_; rintro e w2 ⟨rfl, hk2⟩)
      | (refine wpList_load_mid rfl 50 _ rfl b off rfl cs _ hrg Try.underlying50 rfl hI ?_))
    go_ret
    exact ⟨rfl, hk1.trans hk2⟩
  · have hR : pageFault raw number = 1 := by unfold pageFault; rw [if_pos hl]
    rw [hR]
    have hl' : ¬ (raw.length : Int) = 4096 := by omega
    clear hv hB
    go_enter Try.func26, Try.ntmps26
    go_wp2
    go_ret
    exact ⟨rfl, Kept.refl _ _⟩
end Go.Proofs.Ytbiagmnkdihmiaa

namespace Go.Proofs.Ytbiagmnkdihmiaa
set_option maxRecDepth 100000
set_option maxHeartbeats 2000000
open Go.RowKit
set_option linter.unusedVariables false
set_option linter.unusedSimpArgs false
theorem conv_any {w : World} {v : Value} {bs : List Int} (h : Rd .u8 w v bs) : (convert 22 9 v).run Try.prog w = .ok (.string (strOfNums bs)) w := by
  rcases h.2 with ⟨rfl, a, c, rfl, _⟩ | ⟨b, off, c, rfl, _, hc⟩
  · rw [run_convert_bytes_string w 22 9 5 _ 0 c (by kernel_rfl) (by kernel_rfl) (by kernel_rfl)]
    cases a <;> simp [Conv.bytesToString, loadCells]
    all_goals rfl
  · exact run_convert_bytes_arg w 22 5 (by kernel_rfl) (by kernel_rfl) b off bs.length c bs rfl hc 9 (by kernel_rfl)
end Go.Proofs.Ytbiagmnkdihmiaa

namespace Go.Proofs.Ytbiagmnkdihmiaa
set_option maxRecDepth 100000
set_option maxHeartbeats 8000000
open Go.RowKit
set_option linter.unusedVariables false
set_option linter.unusedSimpArgs false
theorem sameB_any (va vb : Value) (xs : List Int) (w : World) (hra : Rd .u8 w va xs) (hrb : Rd .u8 w vb xs) :
    Calls Try.prog 59 #[va, vb] w fun e w' => e = .returned (.bool true) ∧ Same w w' := by
  have h1 := conv_any hra
  have h2 := conv_any hrb
  clear hra hrb
  generalize strOfNums xs = s at *
  go_enter Try.func59, Try.ntmps59
  go_wp2
  go_ret
  exact ⟨rfl, Kept.refl _ _⟩
end Go.Proofs.Ytbiagmnkdihmiaa

namespace Go.Proofs.Ytbiagmnkdihmiaa
set_option maxRecDepth 100000
set_option maxHeartbeats 8000000
open Go.RowKit
set_option linter.unusedVariables false
set_option linter.unusedSimpArgs false
def GetAns (w w' : World) (e : Ending) (D : Bool × List Int) : Prop := ∃ (a : Option Addr) (c : Nat), e = .returned (.agg #[.bool D.1, .slice a D.2.length c]) ∧ Rd .u8 w' (.slice a D.2.length c) D.2 ∧ Same w w'
theorem getAns_any (v : Value) (raw : List Int) (s : Int) (D : Bool × List Int) (w : World) (hB : IsB raw) (hn : raw.length ≤ 1099511627776) (hv : Rd .u8 w v raw) (hD : pageGet raw s = D) :
    Calls Try.prog 25 #[v, .int .i64 s] w fun e w' => GetAns w w' e D := by
  refine (implPageGet_any v raw s w hB hn hv).mono ?_
  rintro e w' ⟨⟨u, ⟨te, a, c, d⟩⟩, rfl, hd, _, ho, hk⟩
  subst hD
  have h := StPageRecord.own_rd ho
  have e1 : pageGet raw s = (u, d) := hd.symm
  rw [e1]
  exact ⟨a, c, rfl, h, hk⟩
theorem sameRec_any (u : Bool) (a a' : Option Addr) (n c c' : Nat) (d : List Int) (w : World) (h1 : Rd .u8 w (.slice a n c) d) (h2 : Rd .u8 w (.slice a' n c') d) :
    Calls Try.prog 30 #[.agg #[.bool u, .slice a n c], .agg #[.bool u, .slice a' n c']] w fun e w' => e = .returned (.bool true) ∧ Same w w' := by
  have hk : Same w ((w.alloc (.cells #[.bool u, .slice a n c] 33)).alloc (.cells #[.bool u, .slice a' n c'] 33)) := ((Kept.refl _ _).alloc _).alloc _
  have k1 := sameB_any _ _ d _ (h1.same hk) (h2.same hk)
  have HK := hid hk
  clear h1 h2 hk
  have eu : (u == u) = true := by simp
  go_enter Try.func30, Try.ntmps30
  go_wp2_with fail
  refine k1.mono ?_
  rintro e w1 ⟨rfl, hk1⟩
  have HK1 := hid (HK.out.trans hk1)
  clear hk1 k1
  go_wp2
  go_ret
  exact ⟨rfl, HK1.out⟩
structure FpI (w wr : World) (pv : Value) (bs : List Int) (R X : Nat) (u : Bool) (a : Option Addr) (dn cd : Nat) (d : List Int) (x : Int) (ya : Option Addr) (yn yc : Nat) (ys : List Int) : Prop where
  page : Rd .u8 wr pv bs
  rbox : Blk wr R 33 [.bool u, .slice a dn cd]
  dat : Rd .u8 wr (.slice a dn cd) d
  xbox : Blk wr X 31 [.int .i64 x, .slice ya yn yc]
  ydat : Rd .u8 wr (.slice ya yn yc) ys
  kept : Same w wr
theorem FpI.same {w wr wx : World} {pv : Value} {bs : List Int} {R X : Nat} {u : Bool} {a : Option Addr} {dn cd : Nat} {d : List Int} {x : Int} {ya : Option Addr} {yn yc : Nat} {ys : List Int} (h : FpI w wr pv bs R X u a dn cd d x ya yn yc ys) (hk : Same wr wx) : FpI w wx pv bs R X u a dn cd d x ya yn yc ys :=
  ⟨h.page.same hk, h.rbox.same hk, h.dat.same hk, h.xbox.same hk, h.ydat.same hk, h.kept.trans hk⟩
theorem rd_page {w : World} {b off c : Nat} {bs : List Int} (h : Rd .u8 w (.slice (some ⟨b, off, none⟩) 4096 c) bs) (hl : bs.length = 4096) : 4096 ≤ c ∧ ∀ i, i < bs.length → w.cell? ⟨b, off + i, none⟩ = some (.int .u8 (bs.getD i 0)) := by
  rcases h.2 with ⟨rfl, _⟩ | ⟨b', off', c', e, hc, hx⟩
  · simp at hl
  · injection e with e1 e2 e3
    injection e1 with e1
    injection e1 with e4 e5
    subst e3 e4 e5
    exact ⟨by omega, hx⟩
theorem bad_len {bs : List Int} (h : ¬ bs.length = 4096) : ownOK bs = false := by
  unfold ownOK
  have e : (bs.length == 4096) = false := by simp [h]
  rw [e]
  rfl
theorem bad_own {bs : List Int} (h : ownOK bs = false) (s : Int) (u : Bool) (d : List Int) (lsn : Int) : setBad bs s u d lsn = true := by unfold setBad; rw [h]; rfl
theorem set_bad {bs : List Int} {s : Int} {u : Bool} {d : List Int} {lsn : Int} (h : setBad bs s u d lsn = true) : pageSet bs s u d lsn = (1, []) := by unfold pageSet; rw [if_pos h]
theorem fault_own {bs : List Int} (hl : bs.length = 4096) : (pageFault bs (numAt bs 12 4) == 0) = ownOK bs := by
  unfold ownOK
  rw [hl]
  simp
theorem setBad_false {bs : List Int} {s : Int} {u : Bool} {d : List Int} {lsn : Int} (h : setBad bs s u d lsn = false) : ownOK bs = true ∧ 0 ≤ s ∧ s < 32 ∧ 0 ≤ lsn ∧ lsn ≤ 1099511627776 ∧ d.length ≤ 1000 ∧ (u = true ∨ d.length = 0) := by
  simp [setBad] at h
  obtain ⟨hok, g1, g2, g3, g4, g5, g6⟩ := h
  refine ⟨hok, by omega, by omega, by omega, by omega, by omega, ?_⟩
  cases u with
  | true => exact .inl rfl
  | false => exact .inr (by have := g6 rfl; simp [this])
theorem setBad_true {bs : List Int} {s : Int} {u : Bool} {d : List Int} {lsn : Int} (h1 : ownOK bs = true) (h2 : 0 ≤ s) (h3 : s < 32) (h4 : 0 ≤ lsn) (h5 : lsn ≤ 1099511627776) (h6 : d.length ≤ 1000) (h7 : u = true ∨ d.length = 0) : setBad bs s u d lsn = false := by
  simp [setBad, h1]
  refine ⟨h2, h3, h4, h5, h6, fun hu => ?_⟩
  rcases h7 with h | h
  · rw [h] at hu; cases hu
  · exact List.length_eq_zero_iff.1 h
def XC (bs : List Int) (s : Nat) (u : Bool) (d : List Int) (lsn left x : Int) (ys : List Int) : Prop := (x = 2 ∧ 3948 < left) ∨ (x = 0 ∧ left ≤ 3948 ∧ Made bs ys lsn left (fun k => if k = s then (u, d) else pageGet bs (k : Int)))
theorem xc_of {bs : List Int} (hB : IsB bs) {s : Int} {u : Bool} {d : List Int} (hd : IsB d) {lsn : Int} (h : setBad bs s u d lsn = false) : ∃ x ys, pageSet bs s u d lsn = (x, ys) ∧ XC bs s.toNat u d lsn (pageUsed bs - ((pageGet bs s).2.length : Int) + d.length) x ys := by
  obtain ⟨hok, g1, g2, _⟩ := setBad_false h
  have hlen := get_length hB hok s.toNat (by omega)
  rw [show ((s.toNat : Nat) : Int) = s from by omega] at hlen
  have hus : pageUsed bs = usedN (slotsOf bs) 32 := by unfold pageUsed; rw [if_pos hok]
  rw [hlen, hus]
  rcases set_cases ⟨hok, hB⟩ s u d hd lsn with ⟨_, e⟩ | ⟨_, h2, e⟩ | ⟨_, h2, e, hm⟩
  · rw [h] at e; cases e
  · exact ⟨2, [], e, .inl ⟨rfl, h2⟩⟩
  · exact ⟨0, _, e, .inr ⟨rfl, by unfold setFull at h2; omega, hm⟩⟩
end Go.Proofs.Ytbiagmnkdihmiaa
