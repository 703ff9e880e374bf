import Derived.Test.YteacihpankkhkaaG03
import Derived.Test.YteacihpankkhkaaG00
import Derived.WalkKit
import Derived.OrdersHeld
import Derived.Deep.RegionHeld3
import Derived.Deep.AppendLies
import Derived.Laws.CopyOwn
namespace Go.Proofs.Yteacihpankkhkaa
set_option maxRecDepth 100000
set_option maxHeartbeats 4000000
set_option linter.unusedSimpArgs false
open Go Go.RowKit
section
variable {P : Program} {ops : Array Oper} {Q : Exit → Act → World → Prop} {md : Region.Mode} {S : World → Prop} {s : Nat}
def wpAnyV (P : Program) (md : Region.Mode) (ops : Array Oper) (Q : Exit → Act → World → Prop) (S : World → Prop) (s : Nat) : Nat → Array Bool → Act → World → Prop
 | 0, listed, a, w => Region.ready md ops listed = [] ∧ Q .normal a w
 | fuel + 1, listed, a, w =>
  (Region.ready md ops listed = [] → Q .normal a w) ∧
  ∀ i ∈ Region.ready md ops listed, wpOp P ops Q i (fun a' w' => (i ≠ s → S w') ∧ wpAnyV P md ops Q S s fuel (listed.setIfInBounds i true) a' w') a w
theorem wpAny_of_V : ∀ (fuel : Nat) (listed : Array Bool) (a : Act) (w : World), wpAnyV P md ops Q S s fuel listed a w → wpAny P md ops Q fuel listed a w
 | 0, _, _, _, h => h
 | fuel + 1, _, _, _, h => ⟨h.1, fun i hi => wpOp_mono (fun a' w' h' => wpAny_of_V fuel _ a' w' h'.2) (h.2 i hi)⟩
def waits (md : Region.Mode) (ops : Array Oper) (s i : Nat) : Bool :=
 match ops[s]? with
 | some o => o.after.any fun e => Region.binds md e && e.on == i
 | none => true
theorem waits_spec {i : Nat} (h : waits md ops s i = true) {os : Oper} (ho : ops[s]? = some os) (hn : ∀ e ∈ os.after, Region.binds md e = true → e.on ≠ i) : False := by
 unfold waits at h
 rw [ho] at h
 obtain ⟨e, he, hb⟩ := Array.any_eq_true'.1 h
 simp only [Bool.and_eq_true, beq_iff_eq] at hb
 exact hn e he hb.1 hb.2
theorem ready_apart {listed : Array Bool} {i j : Nat} (hi : i ∈ Region.ready md ops listed) (hj : j ∈ Region.ready md ops listed) {oj : Oper} (hoj : ops[j]? = some oj) :
  ∀ e ∈ oj.after, Region.binds md e = true → e.on ≠ i := by
 rintro e he hb rfl
 obtain ⟨_, o, ho, hall⟩ := mem_ready.1 hj
 obtain rfl : o = oj := by rw [hoj] at ho; exact (Option.some.inj ho).symm
 have hyes := hall e he hb
 have hno := (mem_ready.1 hi).1
 by_cases hl : e.on < listed.size <;> simp_all
def Loose (md : Region.Mode) (ops : Array Oper) (i : Nat) (oi : Oper) (listed : Array Bool) : Prop :=
 ∀ j oj, ops[j]? = some oj → j ≠ i → listed.getD j true = false → (∀ e ∈ oj.after, Region.binds md e = true → e.on ≠ i) → oi.apart ops oj = true
theorem Loose.on {i j : Nat} {oi : Oper} {listed : Array Bool} (h : Loose md ops i oi listed) (hj : listed.getD j true = false) : Loose md ops i oi (listed.setIfInBounds j true) := fun k ok hk hki hun hno =>
 h k ok hk hki (if e : j = k then e ▸ hj else (getD_set_ne true e) ▸ hun) hno
theorem wpAnyV_first {i : Nat} {oi : Oper} {v : Value} (hi : ops[i]? = some oi) (hsel : ∀ (j : Nat) (o : Oper) cs b, ops[j]? = some o → o.op ≠ .select cs b) (hs : waits md ops s i = true)
  (hQ : ∀ c a w, Q (.panic c) (a.put oi.dst v) w → Q (.panic c) a w) (fuel : Nat) : ∀ (listed : Array Bool) (a : Act) (w : World), Loose md ops i oi listed → i ∈ Region.ready md ops listed → YieldsIf P ops S oi v a → S w →
   wpAnyV P md ops Q S s fuel (listed.setIfInBounds i true) (a.put oi.dst v) w → wpAnyV P md ops Q S s (fuel + 1) listed a w := by
 induction fuel with
 | zero =>
  intro listed a w _ hr hy hS H
  constructor
  ·intro h0; simp [h0] at hr
  ·intro j hj
   by_cases e : j = i
   ·exact e ▸ hy.wpOp hi hS ⟨fun _ => hS, H⟩
   ·have := ready_mono hj e
    simp [H.1] at this
 | succ fuel ih =>
  intro listed a w hl hr hy hS H
  constructor
  ·intro h0; simp [h0] at hr
  ·intro j hj
   by_cases e : j = i
   ·exact e ▸ hy.wpOp hi hS ⟨fun _ => hS, H⟩
   ·obtain ⟨hun, oj, hoj, _⟩ := mem_ready.1 hj
    have hap := ready_apart hr hj hoj
    have hjs : j ≠ s := fun es => waits_spec hs (es ▸ hoj) hap
    refine wpOp_mono ?_ (wpOp_putIf hoj (hl j oj hoj e hun hap) (fun cs b => hsel i oi cs b hi) (fun cs b => hsel j oj cs b hoj) hQ hy (H.2 j (ready_mono hj e)))
    rintro a' w' ⟨hy', hS', hw'⟩
    exact ⟨hS', ih _ a' w' (hl.on hun) (ready_mono hr (Ne.symm e)) hy' (hS' hjs) (by rw [Array.setIfInBounds_comm _ _ e]; exact hw')⟩
theorem wpAnyV_take {i : Nat} {oi : Oper} {v : Value} {fuel : Nat} {listed : Array Bool} {a : Act} {w : World} (d : Option Tmp) (hi : ops[i]? = some oi) (hd : oi.dst = d)
  (hsl : Region.noSelect ops = true) (hf : Region.free md ops listed i = true) (hr : (Region.ready md ops listed).contains i = true) (hs : waits md ops s i = true)
  (hQ : ∀ c a w, Q (.panic c) (a.put d v) w → Q (.panic c) a w) (hy : YieldsIf P ops S oi v a) (hS : S w)
  (h : wpAnyV P md ops Q S s fuel (listed.setIfInBounds i true) (a.put d v) w) : wpAnyV P md ops Q S s (fuel + 1) listed a w := by
 subst hd
 exact wpAnyV_first hi (Region.noSelect_spec hsl) hs hQ fuel listed a w (Region.free_spec hi hf) (by simpa using hr) hy hS h
theorem sA {α : Type} {l : List α} {i : Nat} {a : α} : l.toArray.setIfInBounds i a = (l.set i a).toArray := List.setIfInBounds_toArray ..
theorem s0 {α : Type} {x : α} {xs : List α} {a : α} : (x :: xs).set 0 a = a :: xs := List.set_cons_zero
theorem sS {α : Type} {x : α} {xs : List α} {i : Nat} {a : α} : (x :: xs).set (i + 1) a = x :: xs.set i a := List.set_cons_succ
theorem tk (i d : Nat) {oi : Oper} {v : Value} {fuel : Nat} {listed : Array Bool} {a a' : Act} {w : World} (hS : S w)
  (h : wpAnyV P md ops Q S s fuel (listed.setIfInBounds i true) a' w) (hi : ops[i]? = some oi := by rfl) (hg : Region.wanted oi (yielded ops a.tmps) = true := by rfl) (hd : oi.dst = some d := by rfl)
  (hy : ∀ w, S w → (execOp a.eval oi).run P w = .ok (.value v) w := by intro w hSw; (try dsimp (config := { zetaDelta := true }) only at hSw); go_simp; (try with_reducible rfl))
  (hsl : Region.noSelect ops = true := by kernel_rfl) (hf : Region.free md ops listed i = true := by kernel_rfl) (hr : (Region.ready md ops listed).contains i = true := by kernel_rfl) (hs : waits md ops s i = true := by kernel_rfl)
  (hQ : ∀ c a w, Q (.panic c) (a.put (some d) v) w → Q (.panic c) a w := by exact fun _ _ _ h => h)
  (ha : a.put (some d) v = a' := by first | (simp only [Act.put, sA, s0, sS]; done) | (simp only [Act.put, sA, s0, sS]; rfl) | rfl) : wpAnyV P md ops Q S s (fuel + 1) listed a w :=
 wpAnyV_take (some d) hi hd hsl hf hr hs hQ (Or.inl ⟨hg, hy⟩) hS (ha ▸ h)
theorem wpAnyV_one {i : Nat} {o : Oper} {fuel : Nat} {listed : Array Bool} {a : Act} {w : World} (hr : Region.ready md ops listed = [i]) (ho : ops[i]? = some o)
  (h : ∀ K' : Act → World → Prop, Shut (∀ a w, (i ≠ s → S w) → wpAnyV P md ops Q S s fuel (listed.setIfInBounds i true) a w → K' a w) → if Region.wanted o (yielded ops a.tmps) = true then Oper.wp P o a w K' Q else K' (a.put o.dst undef) w) :
  wpAnyV P md ops Q S s (fuel + 1) listed a w := by
 constructor
 ·intro h0; simp [hr] at h0
 ·intro j hj
  rw [hr] at hj
  obtain rfl : j = i := by simpa using hj
  exact wpOp_step ho (fun K' hK => h K' (fun a w hS hW => hK a w ⟨hS, hW⟩))
theorem wpAnyV_two {i j : Nat} {o o' : Oper} {fuel : Nat} {listed : Array Bool} {a : Act} {w : World} (hr : Region.ready md ops listed = [i, j]) (ho : ops[i]? = some o) (ho' : ops[j]? = some o')
  (h : ∀ K' : Act → World → Prop, Shut (∀ a w, (i ≠ s → S w) → wpAnyV P md ops Q S s fuel (listed.setIfInBounds i true) a w → K' a w) → if Region.wanted o (yielded ops a.tmps) = true then Oper.wp P o a w K' Q else K' (a.put o.dst undef) w)
  (h' : ∀ K' : Act → World → Prop, Shut (∀ a w, (j ≠ s → S w) → wpAnyV P md ops Q S s fuel (listed.setIfInBounds j true) a w → K' a w) → if Region.wanted o' (yielded ops a.tmps) = true then Oper.wp P o' a w K' Q else K' (a.put o'.dst undef) w) :
  wpAnyV P md ops Q S s (fuel + 1) listed a w := by
 constructor
 ·intro h0; simp [hr] at h0
 ·intro k hk
  rw [hr] at hk
  simp only [List.mem_cons, List.not_mem_nil, or_false] at hk
  rcases hk with rfl | rfl
  ·exact wpOp_step ho (fun K' hK => h K' (fun a w hS hW => hK a w ⟨hS, hW⟩))
  ·exact wpOp_step ho' (fun K' hK => h' K' (fun a w hS hW => hK a w ⟨hS, hW⟩))
theorem wpAnyV_done {fuel : Nat} {listed : Array Bool} {a : Act} {w : World} (hr : Region.ready md ops listed = []) (h : Q .normal a w) : wpAnyV P md ops Q S s fuel listed a w := by
 cases fuel with
 | zero => exact ⟨hr, h⟩
 | succ n => exact ⟨fun _ => h, by rw [hr]; simp⟩
theorem wp_region_V {id : Nat} {a : Act} {w : World} (S : World → Prop) (s n : Nat) (hn : ops.size = n) (hm : P.follows .mixedOrders = true) (h : wpAnyV P .any ops Q S s n (Array.replicate n false) a w.drew) : (Code.region id ops true).wp P Q a w := by
 subst hn
 exact wp_region_any hm (wpAny_of_V _ _ _ _ h)
end
theorem copyDisk_any (dv pv : Value) (dur : List Int) (ps : List PW) (w : World) (hd : dur.length ≤ 1099511627776) (hn : ps.length ≤ 1073741824) (hs : ∀ p ∈ ps, p.bs.length ≤ 1099511627776) (hv : RdD w dv pv dur ps) :
  Calls Try.prog 34 #[.agg #[dv, pv]] w fun e w' => ∃ a n c a' n' c' qs, e = .returned (.agg #[.slice a n c, .slice a' n' c']) ∧ dataP qs = dataP ps ∧
   (∀ b, footD (.slice a n c) (.slice a' n' c') qs b → w.heap.size ≤ b) ∧ OwnD 0 45 5 w' (.slice a n c) (.slice a' n' c') dur qs ∧ Same w w' := by
 obtain ⟨a1, c1, rfl⟩ := hv.dur.form
 obtain ⟨a2, c2, e2⟩ := hv.pend.form
 obtain ⟨i0, hi, hz0, hz1, hz2⟩ := info_parts Try.infoSW
 have HP : Hid (RdP w pv ps) := hv.pend
 have HR : Hid (Rd .u8 w (.slice a1 dur.length c1) dur) := hv.dur
 have HS : Hid (∀ p ∈ ps, p.bs.length ≤ 1099511627776) := hs
 subst e2
 clear hv hs
 go_enter Try.func34, Try.ntmps34
 go_wp2_with fail
 refine (l1Copy_any _ dur _ hd (HR.out.same (((Kept.refl _ _).alloc _).alloc _))).mono ?_
 rintro e w1 ⟨a, n, c, rfl, ho, hf, hk⟩
 simp only [World.size_alloc] at hf
 have b0 := ((FBox.new w (.slice a1 dur.length c1) (.slice a2 ps.length c2) 30).next _).same hk
 have b1 := (FBox.new (w.alloc (.cells #[.slice a1 dur.length c1, .slice a2 ps.length c2] 30)) (.slice none 0 0) (.slice none 0 0) 30).same hk
 simp only [World.size_alloc] at b1
 have HB0 : Hid (FBox w1 w.heap.size (.slice a1 dur.length c1) (.slice a2 ps.length c2)) := b0
 have HB1 : Hid (FBox w1 (w.heap.size + 1) (.slice none 0 0) (.slice none 0 0)) := b1
 have HO := (show Hid (Own 0 5 .u8 w1 (.slice a n c) dur) from ho)
 have HF : Hid (∀ b, (Value.slice a n c).ownBlock = some b → w.heap.size + 1 < b ∧ b < w1.heap.size) := fun b hb => ⟨by have := hf b hb; omega, (ho.lt b hb).2⟩
 have HK : Hid (Same w w1) := (((Kept.refl _ _).alloc _).alloc _).trans hk
 have hz1' : w.heap.size + 1 < w1.heap.size := b1.lt
 clear ho hf hk b0 b1
 go_wp2
 have hw1 : w.heap.size < w1.heap.size := by omega
 go_loopw [4] (fun i wr => ∃ (k : Nat) (aa : Option Addr) (na ca : Nat) (qs : List PW), k ≤ ps.length ∧ i = .int .i64 k ∧ Hid (qs.length = k) ∧ Hid (dataP qs = dataP (ps.take k)) ∧ Hid (FBox wr w1.heap.size (.slice a n c) (.slice aa na ca)) ∧
   Hid (∀ b, footP (.slice aa na ca) qs b → w1.heap.size < b) ∧ Hid (OwnP 0 45 5 wr (.slice aa na ca) qs) ∧ Hid (Same w1 wr)) (fun i _ => ps.length - (intOf i).toNat)
 case atStart => exact ⟨0, none, 0, 0, [], Nat.zero_le _, rfl, rfl, rfl, FBox.new _ _ _ _, fun b hb => absurd hb (footP_nil b), OwnP.nil _ _ _ _, (Kept.refl _ _).alloc _⟩
 case round =>
  obtain ⟨k, aa, na, ca, qs, hk, rfl, HQL, HQ, HX, HFP, HOP, HKr⟩ := hrel
  obtain ⟨o1, o2, _, _⟩ := HB0.out.same HKr.out
  by_cases hlt : k < ps.length
  ·obtain ⟨b, off, rfl, hc⟩ : ∃ b off, a2 = some ⟨b, off, none⟩ ∧ ∀ i (h : i < ps.length), w.cell? ⟨b, off + i * 2, none⟩ = some (.int .i64 ps[i].sec) ∧ w.cell? ⟨b, off + i * 2 + 1, none⟩ = some ps[i].v := by
    rcases HP.out.row with ⟨rfl, _⟩ | ⟨b, off, c, e, hc⟩
    ·simp at hlt
    ·simp only [Value.slice.injEq, true_and] at e
     obtain ⟨rfl, rfl⟩ := e
     exact ⟨b, off, rfl, hc⟩
   obtain ⟨a3, c3, ev⟩ := (HP.out.data _ (List.getElem_mem hlt)).form
   have hrd := (HP.out.data _ (List.getElem_mem hlt)).same (HK.out.trans HKr.out)
   have hm1 := HS.out _ (List.getElem_mem hlt)
   have q1 := (HK.out.trans HKr.out).cellOf (hc k hlt).1 id
   have q2 := (HK.out.trans HKr.out).cellOf (hc k hlt).2 id
   rw [ev] at q2 hrd
   have HRD := (show Hid (Rd .u8 wr (.slice a3 ps[k].bs.length c3) ps[k].bs) from hrd)
   have HM1 : Hid (ps[k].bs.length ≤ 1099511627776) := hm1
   have hbw : b < w.heap.size := World.block_lt_of_cell? w _ (hc k hlt).1
   clear ev hrd hc hm1
   obtain ⟨x1, x2, x3, x4⟩ := HX.out
   have hki : (k : Int) < (ps.length : Int) := by omega
   have hk0 : (0 : Int) ≤ (k : Int) := by omega
   have HKO : Hid (∀ wx, Same wr wx → ∀ o, (wx.alloc o).ownsRow 0 45 2 (.slice aa na ca) k (pwCells qs)) := fun wx hx o => by have h := ((HOP.out.same hx).same ((Kept.refl _ _).alloc o)).row; rwa [HQL.out] at h
   go_wp2_with fail
   have hS : (fun w' => w'.cell? ⟨w1.heap.size, 1, none⟩ = some (.slice aa na ca) ∧ w'.cell? ⟨w.heap.size, 1, none⟩ = some (.slice (some ⟨b, off, none⟩) ps.length c2) ∧ w'.cell? ⟨b, off + k * 2, none⟩ = some (.int .i64 ps[k].sec) ∧ w'.cell? ⟨b, off + k * 2 + 1, none⟩ = some (.slice a3 ps[k].bs.length c3) ∧ w'.frozen? ⟨w1.heap.size, 1, none⟩ = false) wr.drew := by go_keep
   refine wp_region_V (fun w' => w'.cell? ⟨w1.heap.size, 1, none⟩ = some (.slice aa na ca) ∧ w'.cell? ⟨w.heap.size, 1, none⟩ = some (.slice (some ⟨b, off, none⟩) ps.length c2) ∧ w'.cell? ⟨b, off + k * 2, none⟩ = some (.int .i64 ps[k].sec) ∧ w'.cell? ⟨b, off + k * 2 + 1, none⟩ = some (.slice a3 ps[k].bs.length c3) ∧ w'.frozen? ⟨w1.heap.size, 1, none⟩ = false) 19 20 rfl (by kernel_rfl) ?_
   refine tk 0 16 hS ?_
   refine tk 1 17 hS ?_
   refine tk 2 18 hS ?_
   refine tk 3 19 hS ?_
   refine tk 4 20 hS ?_
   refine tk 5 21 hS ?_
   refine tk 6 22 hS ?_
   refine tk 7 23 hS ?_
   refine tk 8 24 hS ?_
   refine tk 9 25 hS ?_
   refine tk 10 26 hS ?_
   refine tk 11 27 hS ?_
   refine tk 12 28 hS ?_
   refine tk 13 29 hS ?_
   refine wpAnyV_one (i := 14) (by kernel_rfl) rfl (fun K hK => ?_)
   go_simp
   refine (l1Copy_any _ ps[k].bs _ HM1.out (by exact HRD.out.same (Kept.refl _ _).drew)).mono ?_
   rintro e w2 ⟨a4, n4, c4, rfl, ho4, hf4, hk4⟩
   have HK4 : Hid (Same wr w2) := (Kept.refl _ _).drew.trans hk4
   have HO4 := (show Hid (Own 0 5 .u8 w2 (.slice a4 n4 c4) ps[k].bs) from ho4)
   have HF4 : Hid (∀ b, (Value.slice a4 n4 c4).ownBlock = some b → wr.heap.size ≤ b) := hf4
   have y1 := HK4.out.cellOf x2 id
   have y2 := HK4.out.cellOf o2 id
   have y3 := HK4.out.cellOf q1 id
   have y4 := HK4.out.cellOf q2 id
   have y5 := (HX.out.same HK4.out).2.2.2
   have y6 : ∀ o, (w2.alloc o).frozen? ⟨w1.heap.size, 1, none⟩ = false := fun o => ((HX.out.same HK4.out).next o).2.2.2
   have z1 := World.block_lt_of_cell? w2 _ y1
   have z2 := World.block_lt_of_cell? w2 _ y2
   have z3 := World.block_lt_of_cell? w2 _ y3
   clear ho4 hf4 hk4
   go_wp2_with fail
   have hS2 : (fun w' => w'.cell? ⟨w1.heap.size, 1, none⟩ = some (.slice aa na ca) ∧ w'.cell? ⟨w.heap.size, 1, none⟩ = some (.slice (some ⟨b, off, none⟩) ps.length c2) ∧ w'.cell? ⟨b, off + k * 2, none⟩ = some (.int .i64 ps[k].sec) ∧ w'.cell? ⟨b, off + k * 2 + 1, none⟩ = some (.slice a3 ps[k].bs.length c3) ∧ w'.frozen? ⟨w1.heap.size, 1, none⟩ = false) w2 := by go_keep
   refine hK.out _ _ (fun _ => hS2) ?_
   clear hK K
   try simp only [Act.put, sA, s0, sS]
   refine tk 15 31 hS2 ?_
   refine wpAnyV_one (i := 16) (by kernel_rfl) rfl (fun K hK => ?_)
   go_simp
   have hS3 : (fun w' => w'.cell? ⟨w1.heap.size, 1, none⟩ = some (.slice aa na ca) ∧ w'.cell? ⟨w.heap.size, 1, none⟩ = some (.slice (some ⟨b, off, none⟩) ps.length c2) ∧ w'.cell? ⟨b, off + k * 2, none⟩ = some (.int .i64 ps[k].sec) ∧ w'.cell? ⟨b, off + k * 2 + 1, none⟩ = some (.slice a3 ps[k].bs.length c3) ∧ w'.frozen? ⟨w1.heap.size, 1, none⟩ = false) (w2.alloc (.cells #[.int .i64 ps[k].sec, .slice a4 n4 c4] 45)) := by go_keep
   refine hK.out _ _ (fun _ => hS3) ?_
   clear hK K
   try simp only [Act.put, sA, s0, sS]
   refine wpAnyV_one (i := 17) (by kernel_rfl) rfl (fun K hK => ?_)
   refine step_append_lies _ (by rfl) (.tmp 17) (.tmp 32) 28 (by rfl) 0 45 i0 _ 2 32 Try.underlying28 hi hz0 hz1 hz2 rfl (by omega) (.slice aa na ca) k (pwCells qs) (by rfl) (by exact HKO.out w2 HK4.out _) ⟨w2.heap.size, 0, none⟩ 1 1 [.int .i64 ps[k].sec, .slice a4 n4 c4] (by rfl) (by rfl) (World.news_of_block (cs := #[.int .i64 ps[k].sec, .slice a4 n4 c4]) (t := 45) (fr := (0, 0)) (heap_alloc_new w2 _)) (by simp [Value.oneCell']) (by omega) (by unfold maxLen; omega) (by omega) (Nat.zero_le _) (w2.heap.size + 1) (by simp) ?_
   intro g5 cap5 w3 hown5 hgrow5 hat5 hlt5
   have hk5 : Kept (fun b => (Value.slice aa na ca).ownBlock = some b) w2 w3 := ((Kept.refl _ _).alloc _).trans (Kept.of_grown hgrow5 (fun k e => e))
   have n1 : ¬ (Value.slice aa na ca).ownBlock = some w1.heap.size := (fun e => absurd (HFP.out _ (.inl e)) (by omega))
   have n2 : ¬ (Value.slice aa na ca).ownBlock = some w.heap.size := (fun e => absurd (HFP.out _ (.inl e)) (by omega))
   have n3 : ¬ (Value.slice aa na ca).ownBlock = some b := (fun e => absurd (HFP.out _ (.inl e)) (by omega))
   have y11 := hk5.cellOf y1 n1
   have y12 := hk5.cellOf y2 n2
   have y13 := hk5.cellOf y3 n3
   have y14 := hk5.cellOf y4 n3
   have y15 := ((HX.out.same HK4.out).kept hk5 n1).2.2.2
   have HOWN5 := (show Hid (w3.ownsRow 0 45 2 (.slice (some ⟨g5, 0, none⟩) (k + 1) cap5) (k + 1) (pwCells qs ++ [.int .i64 ps[k].sec, .slice a4 n4 c4])) from hown5)
   have HG5 := (show Hid ((w2.alloc (.cells #[.int .i64 ps[k].sec, .slice a4 n4 c4] 45)).grownBy w3 (Value.slice aa na ca).ownBlock) from hgrow5)
   have HAT5 : Hid ((Value.slice aa na ca).ownBlock = some g5 ∨ g5 = w2.heap.size + 1) := hat5
   have HK5 := (show Hid (Kept (fun b => (Value.slice aa na ca).ownBlock = some b) w2 w3) from hk5)
   clear hown5 hgrow5 hat5 hk5 n1 n2 n3 y1 y2 y3 y4 y5 y6
   have hS4 : (fun w' => w'.cell? ⟨w1.heap.size, 1, none⟩ = some (.slice aa na ca) ∧ w'.cell? ⟨w.heap.size, 1, none⟩ = some (.slice (some ⟨b, off, none⟩) ps.length c2) ∧ w'.cell? ⟨b, off + k * 2, none⟩ = some (.int .i64 ps[k].sec) ∧ w'.cell? ⟨b, off + k * 2 + 1, none⟩ = some (.slice a3 ps[k].bs.length c3) ∧ w'.frozen? ⟨w1.heap.size, 1, none⟩ = false) w3 := by go_keep
   refine hK.out _ _ (fun _ => hS4) ?_
   clear hK K
   try simp only [Act.put, sA, s0, sS]
   refine tk 18 34 hS4 ?_
   refine wpAnyV_one (i := 19) (by kernel_rfl) rfl (fun K hK => ?_)
   go_simp
   refine hK.out _ _ (fun h => absurd rfl h) ?_
   clear hK K
   refine wpAnyV_done (by kernel_rfl) ?_
   try simp only [Act.put, sA, s0, sS]
   have el : w2.heap.size + 1 = (w2.alloc (.cells #[.int .i64 ps[k].sec, .slice a4 n4 c4] 45)).heap.size := by simp
   have hrl : w1.heap.size < wr.heap.size := HX.out.lt
   have h2l : wr.heap.size ≤ w2.heap.size := HK4.out.size
   have hsnoc := OwnP.snoc (sec := ps[k].sec) (bs := ps[k].bs) ((HOP.out.same HK4.out).same ((Kept.refl _ _).alloc _)) (HO4.out.same ((Kept.refl _ _).alloc _)) (fun b hb hf => by have h1 := HF4.out b hb; have h2 := (HOP.out.lt b hf).2; omega) HG5.out HOWN5.out HQL.out.symm (by rw [← el]; exact HAT5.out)
   have HN : Hid (∀ b, footP (.slice (some ⟨g5, 0, none⟩) (k + 1) cap5) (qs ++ [⟨ps[k].sec, .slice a4 n4 c4, ps[k].bs⟩]) b → w1.heap.size < b) := fun b hb => by
    rcases footP_snoc (v := .slice aa na ca) b hb with rfl | hb | hb
    ·rcases HAT5.out with h | h
     ·exact HFP.out _ (.inl h)
     ·omega
    ·exact HFP.out b hb
    ·have := HF4.out b hb; omega
   have HO6 := (show Hid (OwnP 0 45 5 (w3.setCell ⟨w1.heap.size, 1, none⟩ (.slice (some ⟨g5, 0, none⟩) (k + 1) cap5)) (.slice (some ⟨g5, 0, none⟩) (k + 1) cap5) (qs ++ [⟨ps[k].sec, .slice a4 n4 c4, ps[k].bs⟩])) from
    hsnoc.kept (Kept.setCell (Kept.refl (fun b => b = w1.heap.size) w3) (p := ⟨w1.heap.size, 1, none⟩) (.inr rfl) _) (fun b hb e => by have := HN.out b hb; omega))
   have hrow : ¬ (Value.slice aa na ca).ownBlock = some w1.heap.size := fun e => by have := HFP.out _ (.inl e); omega
   have HX6 : Hid (FBox (w3.setCell ⟨w1.heap.size, 1, none⟩ (.slice (some ⟨g5, 0, none⟩) (k + 1) cap5)) w1.heap.size (.slice a n c) (.slice (some ⟨g5, 0, none⟩) (k + 1) cap5)) := ((HX.out.same HK4.out).kept HK5.out hrow).set1 _
   have HK6 : Hid (Same w1 (w3.setCell ⟨w1.heap.size, 1, none⟩ (.slice (some ⟨g5, 0, none⟩) (k + 1) cap5))) :=
    Kept.setCell ((HKr.out.trans HK4.out).next HK5.out (fun b hb e => by have := HFP.out _ (.inl e); omega)) (p := ⟨w1.heap.size, 1, none⟩) (.inl (Nat.le_refl _)) _
   clear hsnoc hrow el
   go_wp2
   go_roundw
   case rel =>
    refine ⟨k + 1, some ⟨g5, 0, none⟩, k + 1, cap5, qs ++ [⟨ps[k].sec, .slice a4 n4 c4, ps[k].bs⟩], by omega, by go_num, ?_, ?_, HX6, HN, HO6, HK6⟩
    ·have := HQL.out; simp [Hid, this]
    ·have h1 := HQ.out
     unfold Hid
     rw [List.take_succ_eq_append_getElem hlt]
     simp only [dataP, List.map_append] at h1 ⊢
     rw [h1]; rfl
   case measure => simp [intOf]; omega
  ·obtain ⟨x1, x2, _, _⟩ := HX.out
   obtain ⟨p1, p2, p3, p4⟩ := HB1.out.same HKr.out
   have hrl : w1.heap.size < wr.heap.size := HX.out.lt
   go_wp2
   obtain rfl : k = ps.length := by omega
   have hq := HQ.out
   rw [List.take_length] at hq
   have hfr : ∀ b, footD (.slice a n c) (.slice aa na ca) qs b → w.heap.size + 1 < b := fun b hb => by
    rcases hb with hb | hb
    ·exact (HF.out b hb).1
    ·have := HFP.out b hb; omega
   refine bodyPost_ret (v := .agg #[.slice a n c, .slice aa na ca]) (by simp [results, Try.results34, go_sem, p1, p2]) rfl ⟨a, n, c, aa, na, ca, qs, rfl, hq, fun b hb => by have := hfr b hb; omega, ?_, ?_⟩
   ·refine OwnD.kept (R := fun b => b = w.heap.size + 1) ⟨HO.out.same HKr.out, HOP.out, fun b hb e => by have h1 := HFP.out b hb; have h2 := (HF.out b e).2; omega⟩ ?_ (fun b hb e => by have := hfr b hb; omega)
    exact Kept.setTwo (Kept.refl (fun b => b = w.heap.size + 1) _) (.inr rfl) _ _
   ·exact (HK.out.trans HKr.out).setTwo (.inl (by simp)) _ _
theorem cloneDisk_any (dv pv : Value) (dur : List Int) (ps : List PW) (w : World) (hd : dur.length ≤ 1099511627776) (hn : ps.length ≤ 1073741824) (hs : ∀ p ∈ ps, p.bs.length ≤ 1099511627776) (hv : RdD w dv pv dur ps) :
  Calls Try.prog 36 #[.agg #[dv, pv]] w fun e w' => ∃ a n c a' n' c' qs, e = .returned (.agg #[.slice a n c, .slice a' n' c']) ∧ dataP qs = dataP ps ∧
   (∀ b, footD (.slice a n c) (.slice a' n' c') qs b → w.heap.size ≤ b) ∧ OwnD 0 45 5 w' (.slice a n c) (.slice a' n' c') dur qs ∧ Same w w' := by
 obtain ⟨a1, c1, rfl⟩ := hv.dur.form
 obtain ⟨a2, c2, e2⟩ := hv.pend.form
 obtain ⟨i0, hi, hz0, hz1, hz2⟩ := info_parts Try.infoSW
 have HP : Hid (RdP w pv ps) := hv.pend
 have HR : Hid (Rd .u8 w (.slice a1 dur.length c1) dur) := hv.dur
 have HS : Hid (∀ p ∈ ps, p.bs.length ≤ 1099511627776) := hs
 subst e2
 clear hv hs
 go_enter Try.func36, Try.ntmps36
 go_wp2_with fail
 refine (clone_any _ dur _ hd (HR.out.same (((Kept.refl _ _).alloc _).alloc _))).mono ?_
 rintro e w1 ⟨a, n, c, rfl, ho, hf, hk⟩
 simp only [World.size_alloc] at hf
 have b0 := ((FBox.new w (.slice a1 dur.length c1) (.slice a2 ps.length c2) 30).next _).same hk
 have b1 := (FBox.new (w.alloc (.cells #[.slice a1 dur.length c1, .slice a2 ps.length c2] 30)) (.slice none 0 0) (.slice none 0 0) 30).same hk
 simp only [World.size_alloc] at b1
 have HB0 : Hid (FBox w1 w.heap.size (.slice a1 dur.length c1) (.slice a2 ps.length c2)) := b0
 have HB1 : Hid (FBox w1 (w.heap.size + 1) (.slice none 0 0) (.slice none 0 0)) := b1
 have HO := (show Hid (Own 0 5 .u8 w1 (.slice a n c) dur) from ho)
 have HF : Hid (∀ b, (Value.slice a n c).ownBlock = some b → w.heap.size + 1 < b ∧ b < w1.heap.size) := fun b hb => ⟨by have := hf b hb; omega, (ho.lt b hb).2⟩
 have HK : Hid (Same w w1) := (((Kept.refl _ _).alloc _).alloc _).trans hk
 have hz1' : w.heap.size + 1 < w1.heap.size := b1.lt
 clear ho hf hk b0 b1
 obtain ⟨i1, i2, _, _⟩ := HB0.out
 have hwl := HB0.out.lt
 go_wp2
 clear i1 i2
 have hw1 : w.heap.size < w1.heap.size := by omega
 go_loopw [13] (fun i wr => ∃ (k : Nat) (aa : Option Addr) (na ca : Nat) (qs : List PW), k ≤ ps.length ∧ i = .int .i64 k ∧ Hid (qs.length = k) ∧ Hid (dataP qs = dataP (ps.take k)) ∧ Hid (FBox wr w1.heap.size (.slice a n c) (.slice aa na ca)) ∧
   Hid (∀ b, footP (.slice aa na ca) qs b → w1.heap.size < b) ∧ Hid (OwnP 0 45 5 wr (.slice aa na ca) qs) ∧ Hid (Same w1 wr)) (fun i _ => ps.length - (intOf i).toNat)
 case atStart => exact ⟨0, none, 0, 0, [], Nat.zero_le _, rfl, rfl, rfl, FBox.new _ _ _ _, fun b hb => absurd hb (footP_nil b), OwnP.nil _ _ _ _, (Kept.refl _ _).alloc _⟩
 case round =>
  obtain ⟨k, aa, na, ca, qs, hk, rfl, HQL, HQ, HX, HFP, HOP, HKr⟩ := hrel
  obtain ⟨o1, o2, _, _⟩ := HB0.out.same HKr.out
  by_cases hlt : k < ps.length
  ·obtain ⟨b, off, rfl, hc⟩ : ∃ b off, a2 = some ⟨b, off, none⟩ ∧ ∀ i (h : i < ps.length), w.cell? ⟨b, off + i * 2, none⟩ = some (.int .i64 ps[i].sec) ∧ w.cell? ⟨b, off + i * 2 + 1, none⟩ = some ps[i].v := by
    rcases HP.out.row with ⟨rfl, _⟩ | ⟨b, off, c, e, hc⟩
    ·simp at hlt
    ·simp only [Value.slice.injEq, true_and] at e
     obtain ⟨rfl, rfl⟩ := e
     exact ⟨b, off, rfl, hc⟩
   obtain ⟨a3, c3, ev⟩ := (HP.out.data _ (List.getElem_mem hlt)).form
   have hrd := (HP.out.data _ (List.getElem_mem hlt)).same (HK.out.trans HKr.out)
   have hm1 := HS.out _ (List.getElem_mem hlt)
   have q1 := (HK.out.trans HKr.out).cellOf (hc k hlt).1 id
   have q2 := (HK.out.trans HKr.out).cellOf (hc k hlt).2 id
   rw [ev] at q2 hrd
   have HRD := (show Hid (Rd .u8 wr (.slice a3 ps[k].bs.length c3) ps[k].bs) from hrd)
   have HM1 : Hid (ps[k].bs.length ≤ 1099511627776) := hm1
   have hbw : b < w.heap.size := World.block_lt_of_cell? w _ (hc k hlt).1
   clear ev hrd hc hm1
   obtain ⟨x1, x2, x3, x4⟩ := HX.out
   have hki : (k : Int) < (ps.length : Int) := by omega
   have hk0 : (0 : Int) ≤ (k : Int) := by omega
   have HKO : Hid (∀ wx, Same wr wx → ∀ o, (wx.alloc o).ownsRow 0 45 2 (.slice aa na ca) k (pwCells qs)) := fun wx hx o => by have h := ((HOP.out.same hx).same ((Kept.refl _ _).alloc o)).row; rwa [HQL.out] at h
   have hrl0 : w1.heap.size < wr.heap.size := HX.out.lt
   have HXa := (show Hid (FBox (wr.alloc (.cells #[.int .i64 ps[k].sec, .slice a3 ps[k].bs.length c3] 45)) w1.heap.size (.slice a n c) (.slice aa na ca)) from HX.out.next _)
   have HKa := (show Hid (Same wr (wr.alloc (.cells #[.int .i64 ps[k].sec, .slice a3 ps[k].bs.length c3] 45))) from (Kept.refl _ _).alloc _)
   have HBa := (show Hid (FBox (wr.alloc (.cells #[.int .i64 ps[k].sec, .slice a3 ps[k].bs.length c3] 45)) wr.heap.size (.int .i64 ps[k].sec) (.slice a3 ps[k].bs.length c3)) from FBox.new _ _ _ _)
   have xx := HXa.out.2.2.2
   go_wp2_with fail
   have hS : (fun w' => w'.cell? ⟨w1.heap.size, 1, none⟩ = some (.slice aa na ca) ∧ w'.cell? ⟨wr.heap.size, 0, none⟩ = some (.int .i64 ps[k].sec) ∧ w'.cell? ⟨wr.heap.size, 1, none⟩ = some (.slice a3 ps[k].bs.length c3) ∧ w'.frozen? ⟨w1.heap.size, 1, none⟩ = false) (wr.alloc (.cells #[.int .i64 ps[k].sec, .slice a3 ps[k].bs.length c3] 45)).drew := by go_keep
   refine wp_region_V (fun w' => w'.cell? ⟨w1.heap.size, 1, none⟩ = some (.slice aa na ca) ∧ w'.cell? ⟨wr.heap.size, 0, none⟩ = some (.int .i64 ps[k].sec) ∧ w'.cell? ⟨wr.heap.size, 1, none⟩ = some (.slice a3 ps[k].bs.length c3) ∧ w'.frozen? ⟨w1.heap.size, 1, none⟩ = false) 11 12 rfl (by kernel_rfl) ?_
   refine tk 0 17 hS ?_
   refine tk 1 18 hS ?_
   refine tk 2 19 hS ?_
   refine tk 3 20 hS ?_
   refine tk 4 21 hS ?_
   refine tk 5 22 hS ?_
   refine wpAnyV_one (i := 6) (by kernel_rfl) rfl (fun K hK => ?_)
   go_simp
   refine (clone_any _ ps[k].bs _ HM1.out (by exact (HRD.out.same HKa.out).same (Kept.refl _ _).drew)).mono ?_
   rintro e w2 ⟨a4, n4, c4, rfl, ho4, hf4, hk4⟩
   have HKb := (show Hid (Same (wr.alloc (.cells #[.int .i64 ps[k].sec, .slice a3 ps[k].bs.length c3] 45)) w2) from (Kept.refl _ _).drew.trans hk4)
   have HK4 : Hid (Same wr w2) := HKa.out.trans HKb.out
   have HO4 := (show Hid (Own 0 5 .u8 w2 (.slice a4 n4 c4) ps[k].bs) from ho4)
   have HF4 : Hid (∀ b, (Value.slice a4 n4 c4).ownBlock = some b → wr.heap.size ≤ b) := fun b hb => (by have h1 := hf4 b hb; simp at h1; omega)
   obtain ⟨_, y1, _, y5⟩ := HX.out.same HK4.out
   obtain ⟨y2, y3, _, _⟩ := HBa.out.same HKb.out
   have y6 : ∀ o, (w2.alloc o).frozen? ⟨w1.heap.size, 1, none⟩ = false := fun o => ((HX.out.same HK4.out).next o).2.2.2
   have z1 := World.block_lt_of_cell? w2 _ y1
   have z2 := World.block_lt_of_cell? w2 _ y2
   clear ho4 hf4 hk4
   go_wp2_with fail
   have hS2 : (fun w' => w'.cell? ⟨w1.heap.size, 1, none⟩ = some (.slice aa na ca) ∧ w'.cell? ⟨wr.heap.size, 0, none⟩ = some (.int .i64 ps[k].sec) ∧ w'.cell? ⟨wr.heap.size, 1, none⟩ = some (.slice a3 ps[k].bs.length c3) ∧ w'.frozen? ⟨w1.heap.size, 1, none⟩ = false) w2 := by go_keep
   refine hK.out _ _ (fun _ => hS2) ?_
   clear hK K
   try simp only [Act.put, sA, s0, sS]
   refine tk 7 24 hS2 ?_
   refine wpAnyV_one (i := 8) (by kernel_rfl) rfl (fun K hK => ?_)
   go_simp
   have hS3 : (fun w' => w'.cell? ⟨w1.heap.size, 1, none⟩ = some (.slice aa na ca) ∧ w'.cell? ⟨wr.heap.size, 0, none⟩ = some (.int .i64 ps[k].sec) ∧ w'.cell? ⟨wr.heap.size, 1, none⟩ = some (.slice a3 ps[k].bs.length c3) ∧ w'.frozen? ⟨w1.heap.size, 1, none⟩ = false) (w2.alloc (.cells #[.int .i64 ps[k].sec, .slice a4 n4 c4] 45)) := by go_keep
   refine hK.out _ _ (fun _ => hS3) ?_
   clear hK K
   try simp only [Act.put, sA, s0, sS]
   refine wpAnyV_one (i := 9) (by kernel_rfl) rfl (fun K hK => ?_)
   refine step_append_lies _ (by rfl) (.tmp 18) (.tmp 25) 28 (by rfl) 0 45 i0 _ 2 32 Try.underlying28 hi hz0 hz1 hz2 rfl (by omega) (.slice aa na ca) k (pwCells qs) (by rfl) (by exact HKO.out w2 HK4.out _) ⟨w2.heap.size, 0, none⟩ 1 1 [.int .i64 ps[k].sec, .slice a4 n4 c4] (by rfl) (by rfl) (World.news_of_block (cs := #[.int .i64 ps[k].sec, .slice a4 n4 c4]) (t := 45) (fr := (0, 0)) (heap_alloc_new w2 _)) (by simp [Value.oneCell']) (by omega) (by unfold maxLen; omega) (by omega) (Nat.zero_le _) (w2.heap.size + 1) (by simp) ?_
   intro g5 cap5 w3 hown5 hgrow5 hat5 hlt5
   have hk5 : Kept (fun b => (Value.slice aa na ca).ownBlock = some b) w2 w3 := ((Kept.refl _ _).alloc _).trans (Kept.of_grown hgrow5 (fun k e => e))
   have n1 : ¬ (Value.slice aa na ca).ownBlock = some w1.heap.size := (fun e => absurd (HFP.out _ (.inl e)) (by omega))
   have n2 : ¬ (Value.slice aa na ca).ownBlock = some wr.heap.size := (fun e => absurd (HOP.out.lt _ (.inl e)).2 (by omega))
   have y11 := hk5.cellOf y1 n1
   have y12 := hk5.cellOf y2 n2
   have y13 := hk5.cellOf y3 n2
   have y15 := ((HX.out.same HK4.out).kept hk5 n1).2.2.2
   have HOWN5 := (show Hid (w3.ownsRow 0 45 2 (.slice (some ⟨g5, 0, none⟩) (k + 1) cap5) (k + 1) (pwCells qs ++ [.int .i64 ps[k].sec, .slice a4 n4 c4])) from hown5)
   have HG5 := (show Hid ((w2.alloc (.cells #[.int .i64 ps[k].sec, .slice a4 n4 c4] 45)).grownBy w3 (Value.slice aa na ca).ownBlock) from hgrow5)
   have HAT5 : Hid ((Value.slice aa na ca).ownBlock = some g5 ∨ g5 = w2.heap.size + 1) := hat5
   have HK5 := (show Hid (Kept (fun b => (Value.slice aa na ca).ownBlock = some b) w2 w3) from hk5)
   clear hown5 hgrow5 hat5 hk5 n1 n2 y1 y2 y3 y5 y6
   have hS4 : (fun w' => w'.cell? ⟨w1.heap.size, 1, none⟩ = some (.slice aa na ca) ∧ w'.cell? ⟨wr.heap.size, 0, none⟩ = some (.int .i64 ps[k].sec) ∧ w'.cell? ⟨wr.heap.size, 1, none⟩ = some (.slice a3 ps[k].bs.length c3) ∧ w'.frozen? ⟨w1.heap.size, 1, none⟩ = false) w3 := by go_keep
   refine hK.out _ _ (fun _ => hS4) ?_
   clear hK K
   try simp only [Act.put, sA, s0, sS]
   refine tk 10 27 hS4 ?_
   refine wpAnyV_one (i := 11) (by kernel_rfl) rfl (fun K hK => ?_)
   go_simp
   refine hK.out _ _ (fun h => absurd rfl h) ?_
   clear hK K
   refine wpAnyV_done (by kernel_rfl) ?_
   try simp only [Act.put, sA, s0, sS]
   have el : w2.heap.size + 1 = (w2.alloc (.cells #[.int .i64 ps[k].sec, .slice a4 n4 c4] 45)).heap.size := by simp
   have hrl : w1.heap.size < wr.heap.size := HX.out.lt
   have h2l : wr.heap.size ≤ w2.heap.size := HK4.out.size
   have hsnoc := OwnP.snoc (sec := ps[k].sec) (bs := ps[k].bs) ((HOP.out.same HK4.out).same ((Kept.refl _ _).alloc _)) (HO4.out.same ((Kept.refl _ _).alloc _)) (fun b hb hf => by have h1 := HF4.out b hb; have h2 := (HOP.out.lt b hf).2; omega) HG5.out HOWN5.out HQL.out.symm (by rw [← el]; exact HAT5.out)
   have HN : Hid (∀ b, footP (.slice (some ⟨g5, 0, none⟩) (k + 1) cap5) (qs ++ [⟨ps[k].sec, .slice a4 n4 c4, ps[k].bs⟩]) b → w1.heap.size < b) := fun b hb => by
    rcases footP_snoc (v := .slice aa na ca) b hb with rfl | hb | hb
    ·rcases HAT5.out with h | h
     ·exact HFP.out _ (.inl h)
     ·omega
    ·exact HFP.out b hb
    ·have := HF4.out b hb; omega
   have HO6 := (show Hid (OwnP 0 45 5 (w3.setCell ⟨w1.heap.size, 1, none⟩ (.slice (some ⟨g5, 0, none⟩) (k + 1) cap5)) (.slice (some ⟨g5, 0, none⟩) (k + 1) cap5) (qs ++ [⟨ps[k].sec, .slice a4 n4 c4, ps[k].bs⟩])) from
    hsnoc.kept (Kept.setCell (Kept.refl (fun b => b = w1.heap.size) w3) (p := ⟨w1.heap.size, 1, none⟩) (.inr rfl) _) (fun b hb e => by have := HN.out b hb; omega))
   have hrow : ¬ (Value.slice aa na ca).ownBlock = some w1.heap.size := fun e => by have := HFP.out _ (.inl e); omega
   have HX6 : Hid (FBox (w3.setCell ⟨w1.heap.size, 1, none⟩ (.slice (some ⟨g5, 0, none⟩) (k + 1) cap5)) w1.heap.size (.slice a n c) (.slice (some ⟨g5, 0, none⟩) (k + 1) cap5)) := ((HX.out.same HK4.out).kept HK5.out hrow).set1 _
   have HK6 : Hid (Same w1 (w3.setCell ⟨w1.heap.size, 1, none⟩ (.slice (some ⟨g5, 0, none⟩) (k + 1) cap5))) :=
    Kept.setCell ((HKr.out.trans HK4.out).next HK5.out (fun b hb e => by have := HFP.out _ (.inl e); omega)) (p := ⟨w1.heap.size, 1, none⟩) (.inl (Nat.le_refl _)) _
   clear hsnoc hrow el
   go_wp2
   go_roundw
   case rel =>
    refine ⟨k + 1, some ⟨g5, 0, none⟩, k + 1, cap5, qs ++ [⟨ps[k].sec, .slice a4 n4 c4, ps[k].bs⟩], by omega, by go_num, ?_, ?_, HX6, HN, HO6, HK6⟩
    ·have := HQL.out; simp [Hid, this]
    ·have h1 := HQ.out
     unfold Hid
     rw [List.take_succ_eq_append_getElem hlt]
     simp only [dataP, List.map_append] at h1 ⊢
     rw [h1]; rfl
   case measure => simp [intOf]; omega
  ·obtain ⟨x1, x2, _, _⟩ := HX.out
   obtain ⟨p1, p2, p3, p4⟩ := HB1.out.same HKr.out
   have hrl : w1.heap.size < wr.heap.size := HX.out.lt
   go_wp2
   obtain rfl : k = ps.length := by omega
   have hq := HQ.out
   rw [List.take_length] at hq
   have hfr : ∀ b, footD (.slice a n c) (.slice aa na ca) qs b → w.heap.size + 1 < b := fun b hb => by
    rcases hb with hb | hb
    ·exact (HF.out b hb).1
    ·have := HFP.out b hb; omega
   refine bodyPost_ret (v := .agg #[.slice a n c, .slice aa na ca]) (by simp [results, Try.results36, go_sem, p1, p2]) rfl ⟨a, n, c, aa, na, ca, qs, rfl, hq, fun b hb => by have := hfr b hb; omega, ?_, ?_⟩
   ·refine OwnD.kept (R := fun b => b = w.heap.size + 1) ⟨HO.out.same HKr.out, HOP.out, fun b hb e => by have h1 := HFP.out b hb; have h2 := (HF.out b e).2; omega⟩ ?_ (fun b hb e => by have := hfr b hb; omega)
    exact Kept.setTwo (Kept.refl (fun b => b = w.heap.size + 1) _) (.inr rfl) _ _
   ·exact (HK.out.trans HKr.out).setTwo (.inl (by simp)) _ _
def putAt (dur : List Int) (lo : Nat) (bs : List Int) : List Int := dur.take lo ++ (bs ++ dur.drop (lo + bs.length))
theorem putAt_length (dur : List Int) (lo : Nat) (bs : List Int) (h : lo + bs.length ≤ dur.length) : (putAt dur lo bs).length = dur.length := by simp [putAt]; omega
def settleN (sel : Nat → Bool) (dur : List Int) (ds : List (Int × List Int)) : Nat → List Int
 | 0 => dur
 | k + 1 => if sel k then putAt (settleN sel dur ds k) ((ds.getD k (0, [])).1.toNat * 512) (ds.getD k (0, [])).2 else settleN sel dur ds k
theorem settleN_length (sel : Nat → Bool) (dur : List Int) (ds : List (Int × List Int)) (hv : Valid dur.length ds) (k : Nat) (hk : k ≤ ds.length) : (settleN sel dur ds k).length = dur.length := by
 induction k with
 | zero => rfl
 | succ k ih =>
  have ihk := ih (by omega)
  unfold settleN
  split
  ·have hm : ds.getD k (0, []) ∈ ds := by simp [List.getD, show k < ds.length from by omega]
   obtain ⟨h1, h2, h3⟩ := hv.2 _ hm
   have h4 := hv.1
   rw [putAt_length _ _ _ (by rw [ihk, h3]; have := hv.1.1; omega)]
   exact ihk
  ·exact ihk
theorem take_splice {α : Type} (L X : List α) (lo n : Nat) (h : lo + X.length ≤ n) (hn : n ≤ L.length) :
  (L.take lo ++ (X ++ L.drop (lo + X.length))).take n = (L.take n).take lo ++ (X ++ (L.take n).drop (lo + X.length)) := by
 have h1 : (L.take lo).length = lo := by rw [List.length_take]; omega
 rw [List.take_append, List.take_append, h1, List.take_of_length_le (by omega), List.take_of_length_le (l := X) (by omega), List.take_take, Nat.min_eq_left (by omega), List.drop_take]
 congr 3
 omega
section
variable {P : Program} {ops : Array Oper} {o : Oper} {a : Act} {w : World} {K : Act → World → Prop} {Q : Exit → Act → World → Prop} {E : Prop}
theorem step_copy_own {base : Nat} {tb : TypeId} (hgd : o.guard = none) (d s : Operand) (T : TypeId) (ho : o.op = .call { callee := .builtin .copy, args := #[d, s], argTypes := #[T, T] })
  (hu : P.underlying T = some (.slice tb)) (hsz : (P.info? tb).map (·.size) = some 1) (g lo n cap dc b off c : Nat) (dur bs : List Int)
  (hown : Own base tb .u8 w (.slice (some ⟨g, 0, none⟩) n cap) dur) (hnd : n = dur.length) (hd : a.eval d = .slice (some ⟨g, lo, none⟩) (n - lo) dc) (hs : a.eval s = .slice (some ⟨b, off, none⟩) bs.length c)
  (hsrc : ∀ i, i < bs.length → w.cell? ⟨b, off + i, none⟩ = some (.int .u8 (bs.getD i 0))) (hfit : lo + bs.length ≤ dur.length)
  (h : ∀ w', Own base tb .u8 w' (.slice (some ⟨g, 0, none⟩) n cap) (putAt dur lo bs) → w.grownBy w' (some g) → K (a.put o.dst (goInt bs.length)) w') :
  if Region.wanted o (yielded ops a.tmps) = true then Oper.wp P o a w K Q else E := by
 have hw : Region.wanted o (yielded ops a.tmps) = true := by simp [Region.wanted, hgd]
 rw [if_pos hw]
 subst hnd
 obtain ⟨hlen, hrow⟩ := hown
 rcases hrow with ⟨h', _⟩ | ⟨g', cap', cur, h', hb, hg, hnc, hcm, hcs, htake⟩
 ·simp at h'
 ·simp only [Value.slice.injEq, Option.some.injEq, Addr.mk.injEq, and_true, true_and] at h'
  obtain ⟨rfl, rfl⟩ := h'
  simp only [Nat.mul_one] at hcs htake
  have hvl : (vals .u8 bs).length = bs.length := vals_length _ _
  have hrun := run_copy_row (P := P) w T T o.type tb g lo (dur.length - lo) dc ⟨b, off, none⟩ bs.length c cur tb (vals .u8 bs) hu hsz hg (by rw [hvl]; exact (Nat.min_eq_left (by omega)).symm) (news_of hsrc) (by rw [hvl]; omega) vals_one
  unfold Oper.wp
  simp [execOp, ho, resolve, invoke, builtin, hd, hs, hrun, Result.andThen]
  rw [hvl]
  refine h _ ⟨by rw [vals_length]; omega, .inr ⟨g, cap, _, by rw [putAt_length _ _ _ hfit], hb, setRow_heap w g _ _ tb _ hg, by rw [putAt_length _ _ _ hfit]; exact hnc, hcm, ?_, ?_⟩⟩ ⟨rfl, rfl, rfl, by simp [World.setRow], fun k _ hk => setRow_other w g k _ (fun e => hk (by rw [e]))⟩
  ·simp [hvl]; omega
  ·have e : vals .u8 (putAt dur lo bs) = (vals .u8 dur).take lo ++ (vals .u8 bs ++ (vals .u8 dur).drop (lo + bs.length)) := by simp [vals, putAt]
   rw [e, putAt_length _ _ _ hfit, ← htake]
   have h := take_splice cur.toList (vals .u8 bs) lo dur.length (by rw [hvl]; exact hfit) (by have h9 : cur.toList.length = cap := (Array.length_toList).trans hcs; rw [h9]; exact hnc)
   rw [hvl] at h
   simpa using h
end
theorem l1Settle_all (dv pv : Value) (dur : List Int) (ps : List PW) (w : World) (hd : dur.length ≤ 1099511627776) (hv : RdD w dv pv dur ps) (hval : Valid dur.length (dataP ps)) :
  Calls Try.prog 35 #[.agg #[dv, pv], .bool true, .slice none 0 0] w fun e w' => ∃ a n c, e = .returned (.agg #[.slice a n c, .slice none 0 0]) ∧
   (∀ b, (Value.slice a n c).ownBlock = some b → w.heap.size ≤ b) ∧ Own 0 5 .u8 w' (.slice a n c) (settleN (fun _ => true) dur (dataP ps) ps.length) ∧ Same w w' := by
 obtain ⟨sel, hsel⟩ : ∃ sel : Nat → Bool, sel = fun _ => true := ⟨_, rfl⟩
 rw [← hsel]
 have HSEL : Hid (sel = fun _ => true) := hsel
 clear hsel
 have hsz1 : (Try.prog.info? 5).map (·.size) = some 1 := by kernel_rfl
 obtain ⟨a1, c1, rfl⟩ := hv.dur.form
 obtain ⟨a2, c2, e2⟩ := hv.pend.form
 have HP : Hid (RdP w pv ps) := hv.pend
 have HR : Hid (Rd .u8 w (.slice a1 dur.length c1) dur) := hv.dur
 have HV : Hid (Valid dur.length (dataP ps)) := hval
 subst e2
 have hpl : ps.length ≤ 8192 := by have := hval.1.2.2.2; rwa [dataP_length] at this
 have hdl : 512 ≤ dur.length := by have := hval.1.2.1; omega
 clear hv hval
 go_enter Try.func35, Try.ntmps35
 go_wp2_with fail
 refine (l1Copy_any _ dur _ hd (HR.out.same (((Kept.refl _ _).alloc _).alloc _))).mono ?_
 rintro e w1 ⟨a, n, c, rfl, ho, hf, hk⟩
 simp only [World.size_alloc] at hf
 obtain ⟨g, cap, e3, _, hgw, hcap, _⟩ : ∃ g cap, Value.slice a n c = .slice (some ⟨g, 0, none⟩) dur.length cap ∧ 0 ≤ g ∧ g < w1.heap.size ∧ dur.length ≤ cap ∧ cap ≤ maxLen := by
  rcases ho.form with ⟨_, h⟩ | h
  ·simp [h] at hdl
  ·exact h
 simp only [Value.slice.injEq] at e3
 obtain ⟨rfl, rfl, rfl⟩ := e3
 have hgf : w.heap.size + 1 < g := by have := hf g rfl; omega
 have b0 := ((FBox.new w (.slice a1 dur.length c1) (.slice a2 ps.length c2) 30).next _).same hk
 have b1 := (FBox.new (w.alloc (.cells #[.slice a1 dur.length c1, .slice a2 ps.length c2] 30)) (.slice none 0 0) (.slice none 0 0) 30).same hk
 simp only [World.size_alloc] at b1
 have HB0 : Hid (FBox w1 w.heap.size (.slice a1 dur.length c1) (.slice a2 ps.length c2)) := b0
 have HB1 : Hid (FBox w1 (w.heap.size + 1) (.slice none 0 0) (.slice none 0 0)) := b1
 have HO := (show Hid (Own 0 5 .u8 w1 (.slice (some ⟨g, 0, none⟩) dur.length c) dur) from ho)
 have HK : Hid (Same w w1) := (((Kept.refl _ _).alloc _).alloc _).trans hk
 have hz1' : w.heap.size + 1 < w1.heap.size := b1.lt
 clear ho hf hk b0 b1
 obtain ⟨cap, rfl⟩ : ∃ cap, cap = c := ⟨_, rfl⟩
 go_wp2
 go_loopw [8] (fun i wr => ∃ (k : Nat), k ≤ ps.length ∧ i = .int .i64 k ∧ Hid (FBox wr w1.heap.size (.slice (some ⟨g, 0, none⟩) dur.length cap) (.slice none 0 0)) ∧
   Hid (Own 0 5 .u8 wr (.slice (some ⟨g, 0, none⟩) dur.length cap) (settleN sel dur (dataP ps) k)) ∧ Hid (Kept (fun b => b = g) w1 wr)) (fun i _ => ps.length - (intOf i).toNat)
 case atStart => exact ⟨0, Nat.zero_le _, rfl, FBox.new _ _ _ _, HO.out.same ((Kept.refl _ _).alloc _), (Kept.refl _ _).alloc _⟩
 case round =>
  obtain ⟨k, hk, rfl, HX, HOr, HKr⟩ := hrel
  obtain ⟨o1, o2, _, _⟩ := HB0.out.kept HKr.out (by omega)
  by_cases hlt : k < ps.length
  ·obtain ⟨b, off, rfl, hc⟩ : ∃ b off, a2 = some ⟨b, off, none⟩ ∧ ∀ i (h : i < ps.length), w.cell? ⟨b, off + i * 2, none⟩ = some (.int .i64 ps[i].sec) ∧ w.cell? ⟨b, off + i * 2 + 1, none⟩ = some ps[i].v := by
    rcases HP.out.row with ⟨rfl, _⟩ | ⟨b, off, c, e, hc⟩
    ·simp at hlt
    ·simp only [Value.slice.injEq, true_and] at e
     obtain ⟨rfl, rfl⟩ := e
     exact ⟨b, off, rfl, hc⟩
   obtain ⟨v1, v2, v3⟩ := HV.out.2 (ps[k].sec, ps[k].bs) (List.mem_map.2 ⟨ps[k], List.getElem_mem hlt, rfl⟩)
   simp only at v1 v2 v3
   obtain ⟨b3, o3, c3, ev, hsrc⟩ : ∃ b3 o3 c3, ps[k].v = .slice (some ⟨b3, o3, none⟩) ps[k].bs.length c3 ∧ ∀ i, i < ps[k].bs.length → w.cell? ⟨b3, o3 + i, none⟩ = some (.int .u8 (ps[k].bs.getD i 0)) := by
    rcases (HP.out.data _ (List.getElem_mem hlt)).2 with ⟨h, _⟩ | ⟨b3, o3, c3, h, _, hc⟩
    ·simp [h] at v3
    ·exact ⟨b3, o3, c3, h, hc⟩
   have hbw : b < w.heap.size := World.block_lt_of_cell? w _ (hc k hlt).1
   have hkw : Kept (fun b => b = g) w wr := (HK.out.mono (fun _ _ h => h.elim)).trans HKr.out
   have q1 := hkw.cellOf (hc k hlt).1 (by show ¬ b = g; omega)
   have q2 := hkw.cellOf (hc k hlt).2 (by show ¬ b = g; omega)
   rw [ev] at q2
   obtain ⟨sn, hsn⟩ : ∃ sn : Nat, ps[k].sec = sn := ⟨ps[k].sec.toNat, by omega⟩
   rw [hsn] at q1 v2
   have hgd : (dataP ps).getD k (0, []) = ((sn : Int), ps[k].bs) := by simp [dataP, List.getD, hlt, hsn]
   have hb3 : ∀ i, i < ps[k].bs.length → b3 < w.heap.size := fun i hi => World.block_lt_of_cell? w _ (hsrc i hi)
   have HSRC : Hid (∀ i, i < ps[k].bs.length → wr.drew.cell? ⟨b3, o3 + i, none⟩ = some (.int .u8 (ps[k].bs.getD i 0))) := fun i hi => hkw.drew.cellOf (hsrc i hi) (by have := hb3 i hi; show ¬ b3 = g; omega)
   have HLN : Hid ((settleN sel dur (dataP ps) k).length = dur.length) := settleN_length _ _ _ HV.out _ (by rw [dataP_length]; omega)
   have hs1 : (sn + 1) * 512 ≤ dur.length := by have := HV.out.1.1; omega
   have HFIT : Hid (sn * 512 + ps[k].bs.length ≤ (settleN sel dur (dataP ps) k).length) := by rw [HLN.out, v3]; unfold Hid; omega
   have HST : Hid (settleN sel dur (dataP ps) (k + 1) = putAt (settleN sel dur (dataP ps) k) (sn * 512) ps[k].bs) := by
    unfold Hid
    rw [settleN, HSEL.out, if_pos rfl, hgd]
    simp
   have HKW : Hid (Kept (fun b => b = g) w wr) := hkw
   have hsm : (sn : Int) ≤ 1024 := by have := HV.out.1.2.2.1; omega
   have e1 : ((sn : Int) * 512).toNat = sn * 512 := by omega
   have e2 : (sn : Int) * 512 ≤ (dur.length : Int) := by omega
   have e3 : (sn : Int) * 512 ≤ (cap : Int) := by omega
   have e4 : (dur.length : Int) ≤ (cap : Int) := by omega
   have e5 : IntKind.i64.wrap ((sn : Int) * 512) = (sn : Int) * 512 := by rw [IntKind.wrap_i64]; omega
   have e6 : ¬ cap = sn * 512 := by omega
   have e7 : (0 : Int) ≤ (sn : Int) * 512 := by omega
   clear ev hc hsrc hb3 hgd hsn hkw v1 v2 v3
   have hki : (k : Int) < (ps.length : Int) := by omega
   have hk0 : (0 : Int) ≤ (k : Int) := by omega
   obtain ⟨x1, x2, x3, x4⟩ := HX.out
   go_wp2_with fail
   have hS : (fun w' => w'.cell? ⟨w1.heap.size, 0, none⟩ = some (.slice (some ⟨g, 0, none⟩) dur.length cap) ∧ w'.cell? ⟨w.heap.size, 1, none⟩ = some (.slice (some ⟨b, off, none⟩) ps.length c2) ∧ w'.cell? ⟨b, off + k * 2, none⟩ = some (.int .i64 (sn : Int)) ∧ w'.cell? ⟨b, off + k * 2 + 1, none⟩ = some (.slice (some ⟨b3, o3, none⟩) ps[k].bs.length c3)) wr.drew := by go_keep
   refine wp_region_V (fun w' => w'.cell? ⟨w1.heap.size, 0, none⟩ = some (.slice (some ⟨g, 0, none⟩) dur.length cap) ∧ w'.cell? ⟨w.heap.size, 1, none⟩ = some (.slice (some ⟨b, off, none⟩) ps.length c2) ∧ w'.cell? ⟨b, off + k * 2, none⟩ = some (.int .i64 (sn : Int)) ∧ w'.cell? ⟨b, off + k * 2 + 1, none⟩ = some (.slice (some ⟨b3, o3, none⟩) ps[k].bs.length c3)) 99 17 rfl (by kernel_rfl) ?_
   refine tk 0 34 hS ?_
   refine tk 1 35 hS ?_
   refine tk 2 36 hS ?_
   refine tk 3 37 hS ?_
   refine tk 4 38 hS ?_
   refine tk 5 39 hS ?_
   refine tk 6 40 hS ?_
   refine tk 7 41 hS ?_
   refine tk 8 42 hS ?_
   refine tk 9 43 hS ?_
   refine tk 10 44 hS ?_
   refine tk 11 45 hS ?_
   refine tk 12 46 hS ?_
   refine tk 13 47 hS ?_
   refine tk 14 48 hS ?_
   refine tk 15 49 hS ?_
   refine wpAnyV_one (i := 16) (by kernel_rfl) rfl (fun K hK => ?_)
   refine step_copy_own (by rfl) (.tmp 43) (.tmp 49) 22 (by rfl) Try.underlying22 hsz1 g (sn * 512) dur.length cap (cap - sn * 512) b3 o3 c3 (settleN sel dur (dataP ps) k) ps[k].bs (by exact HOr.out.same (Kept.refl _ _).drew) HLN.out.symm (by rfl) (by rfl) (by exact fun i hi => HSRC.out i hi) HFIT.out ?_
   intro w3 ho3 hg3
   have HO3 := (show Hid (Own 0 5 .u8 w3 _ _) from ho3)
   have HG3 := (show Hid (Kept (fun b => b = g) wr w3) from (Kept.refl _ _).drew.trans (Kept.of_grown hg3 (fun k e => (Option.some.inj e).symm)))
   clear ho3 hg3
   have HX3 : Hid (FBox w3 w1.heap.size (.slice (some ⟨g, 0, none⟩) dur.length cap) (.slice none 0 0)) := HX.out.kept HG3.out (by show ¬ w1.heap.size = g; omega)
   have y1 := HX3.out.1
   have y2 := HG3.out.cellOf o2 (by show ¬ w.heap.size = g; omega)
   have y3 := HG3.out.cellOf q1 (by show ¬ b = g; omega)
   have y4 := HG3.out.cellOf q2 (by show ¬ b = g; omega)
   refine hK.out _ _ (fun _ => by go_keep) ?_
   clear hK K
   refine wpAnyV_done (by kernel_rfl) ?_
   try simp only [Act.put, sA, s0, sS]
   rw [← HST.out] at HO3
   have HK3 : Hid (Kept (fun b => b = g) w1 w3) := HKr.out.trans HG3.out
   clear hS x1 x2 x3 x4 q1 q2 o1 o2 y1 y2 y3 y4
   go_wp2
   go_roundw
   case rel => exact ⟨k + 1, by omega, by go_num, HX3, HO3, HK3⟩
   case measure => simp [intOf]; omega
  ·obtain ⟨x1, x2, _, _⟩ := HX.out
   obtain ⟨p1, p2, p3, p4⟩ := HB1.out.kept HKr.out (by omega)
   have hrl : w1.heap.size < wr.heap.size := HX.out.lt
   go_wp2
   obtain rfl : k = ps.length := by omega
   refine bodyPost_ret (v := .agg #[.slice (some ⟨g, 0, none⟩) dur.length cap, .slice none 0 0]) (by simp [results, Try.results35, go_sem, p1, p2]) rfl ⟨some ⟨g, 0, none⟩, dur.length, cap, rfl, fun b hb => by simp [Value.ownBlock] at hb; omega, ?_, ?_⟩
   ·refine HOr.out.kept (R := fun b => b = w.heap.size + 1) ?_ (fun b hb e => by simp [Value.ownBlock] at hb; omega)
    exact Kept.setTwo (Kept.refl (fun b => b = w.heap.size + 1) _) (.inr rfl) _ _
   ·exact Kept.setTwo (HK.out.next HKr.out (fun b hb e => by have e' : b = g := e; omega)) (.inl (by simp)) _ _
def Blk (w : World) (B : Nat) (e : TypeId) (xs : List Value) : Prop := w.heap[B]? = some (.cells xs.toArray e (0, 0))
theorem Blk.lt {w : World} {B : Nat} {e : TypeId} {xs : List Value} (h : Blk w B e xs) : B < w.heap.size := (Array.getElem?_eq_some_iff.1 h).1
theorem Blk.cell {w : World} {B : Nat} {e : TypeId} {xs : List Value} (h : Blk w B e xs) (j : Nat) : w.cell? ⟨B, j, none⟩ = xs[j]? := by
 unfold Blk at h
 simp [World.cell?, h]
theorem Blk.frozen {w : World} {B : Nat} {e : TypeId} {xs : List Value} (h : Blk w B e xs) (j : Nat) : w.frozen? ⟨B, j, none⟩ = false := by
 unfold Blk at h
 simp [World.frozen?, h]
theorem Blk.kept {R : Nat → Prop} {w w' : World} {B : Nat} {e : TypeId} {xs : List Value} (h : Blk w B e xs) (hk : Kept R w w') (hr : ¬ R B) : Blk w' B e xs := hk.heap h hr
theorem Blk.same {w w' : World} {B : Nat} {e : TypeId} {xs : List Value} (h : Blk w B e xs) (hk : Same w w') : Blk w' B e xs := hk.heap h id
theorem Blk.new (w : World) (xs : Array Value) (e : TypeId) : Blk (w.alloc (.cells xs e)) w.heap.size e xs.toList := by
 unfold Blk World.alloc
 rw [Array.toArray_toList]
 exact Array.getElem?_push_size
theorem Blk.c0 {w : World} {B : Nat} {e : TypeId} {v0 : Value} {t : List Value} (h : Blk w B e (v0 :: t)) : w.cell? ⟨B, 0, none⟩ = some v0 := h.cell 0
theorem Blk.c1 {w : World} {B : Nat} {e : TypeId} {v0 v1 : Value} {t : List Value} (h : Blk w B e (v0 :: v1 :: t)) : w.cell? ⟨B, 1, none⟩ = some v1 := h.cell 1
theorem Blk.c2 {w : World} {B : Nat} {e : TypeId} {v0 v1 v2 : Value} {t : List Value} (h : Blk w B e (v0 :: v1 :: v2 :: t)) : w.cell? ⟨B, 2, none⟩ = some v2 := h.cell 2
theorem Blk.c3 {w : World} {B : Nat} {e : TypeId} {v0 v1 v2 v3 : Value} {t : List Value} (h : Blk w B e (v0 :: v1 :: v2 :: v3 :: t)) : w.cell? ⟨B, 3, none⟩ = some v3 := h.cell 3
theorem Blk.c4 {w : World} {B : Nat} {e : TypeId} {v0 v1 v2 v3 v4 : Value} {t : List Value} (h : Blk w B e (v0 :: v1 :: v2 :: v3 :: v4 :: t)) : w.cell? ⟨B, 4, none⟩ = some v4 := h.cell 4
theorem Blk.c5 {w : World} {B : Nat} {e : TypeId} {v0 v1 v2 v3 v4 v5 : Value} {t : List Value} (h : Blk w B e (v0 :: v1 :: v2 :: v3 :: v4 :: v5 :: t)) : w.cell? ⟨B, 5, none⟩ = some v5 := h.cell 5
theorem Blk.c14 {w : World} {B : Nat} {e : TypeId} {v0 v1 v2 v3 v4 v5 v6 v7 v8 v9 v10 v11 v12 v13 v14 : Value} {t : List Value} (h : Blk w B e (v0 :: v1 :: v2 :: v3 :: v4 :: v5 :: v6 :: v7 :: v8 :: v9 :: v10 :: v11 :: v12 :: v13 :: v14 :: t)) : w.cell? ⟨B, 14, none⟩ = some v14 := h.cell 14
theorem Blk.drew {w : World} {B : Nat} {e : TypeId} {xs : List Value} (h : Blk w B e xs) : Blk w.drew B e xs := h
theorem Blk.alloc {w : World} {B : Nat} {e : TypeId} {xs : List Value} (h : Blk w B e xs) (o : Obj) : Blk (w.alloc o) B e xs := by
 have := Below.heap_alloc w o B h.lt
 unfold Blk
 rw [this]
 exact h
theorem Blk.stored {w : World} {B : Nat} {e : TypeId} {xs : List Value} (h : Blk w B e xs) (j : Nat) (v : Value) : Blk (w.setCell ⟨B, j, none⟩ v) B e (xs.set j v) := by
 unfold Blk at h ⊢
 have hl := (Array.getElem?_eq_some_iff.1 h).1
 have hg := (Array.getElem?_eq_some_iff.1 h).2
 simp [World.setCell, hl, Array.getElem_modify, hg]
theorem Blk.other {w : World} {B : Nat} {e : TypeId} {xs : List Value} (h : Blk w B e xs) {p : Addr} (hp : p.block ≠ B) (v : Value) : Blk (w.setCell p v) B e xs := by
 unfold Blk
 rw [Below.heap_setCell _ _ _ _ (fun e => hp e.symm)]
 exact h
theorem Blk.own {w : World} {g : Nat} {e : TypeId} {k : IntKind} {bs : List Int} (h : Blk w g e (vals k bs)) (hm : bs.length ≤ maxLen) : Own 0 e k w (.slice (some ⟨g, 0, none⟩) bs.length bs.length) bs :=
 ⟨by simp [vals], .inr ⟨g, bs.length, (vals k bs).toArray, rfl, Nat.zero_le _, h, Nat.le_refl _, hm, by simp [vals], by simp only [Nat.mul_one]; exact List.take_of_length_le (by simp [vals])⟩⟩
def lay (xs : List Value) (o : Nat) (vs : List Value) : List Value := xs.take o ++ (vs ++ xs.drop (o + vs.length))
theorem lay_cons (xs : List Value) (o : Nat) (v : Value) (vs : List Value) (h : o + (vs.length + 1) ≤ xs.length) : lay (xs.set o v) (o + 1) vs = lay xs o (v :: vs) := by
 have hlt : o < xs.length := by omega
 apply List.ext_getElem?
 intro j
 unfold lay
 simp only [List.getElem?_append, List.length_take, List.length_set, List.getElem?_take, List.getElem?_drop, List.length_cons]
 by_cases h1 : j < o
 ·rw [if_pos (by omega), if_pos (by omega), if_pos (by omega), if_pos h1, List.getElem?_set_ne (by omega)]
 ·by_cases h2 : j = o
  ·subst h2
   rw [if_pos (by omega), if_pos (by omega), if_neg (by omega), if_pos (by omega)]
   have e : j - min j xs.length = 0 := by omega
   simp [hlt, e]
  ·by_cases h3 : j < o + 1 + vs.length
   ·rw [if_neg (by omega), if_pos (by omega), if_neg (by omega), if_pos (by omega)]
    have e : j - min o xs.length = (j - min (o + 1) xs.length) + 1 := by omega
    rw [e, List.getElem?_cons_succ]
   ·rw [if_neg (by omega), if_neg (by omega), if_neg (by omega), if_neg (by omega), List.getElem?_set_ne (by omega)]
    congr 1
    omega
end Go.Proofs.Yteacihpankkhkaa
