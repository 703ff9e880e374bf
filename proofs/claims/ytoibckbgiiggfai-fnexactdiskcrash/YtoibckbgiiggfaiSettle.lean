/-
  spec.l1Settle: pending writes become durable.
-/
import Derived.Test.YtoibckbgiiggfaiCopyDisk
import Derived.Laws.CopyOwn
namespace Go.Proofs.Ytoibckbgiiggfai
open Go.RowKit
set_option linter.unusedSimpArgs false

/-- bs laid over dur from place lo on. -/
def putAt (dur : List Int) (lo : Nat) (bs : List Int) : List Int := dur.take lo ++ (bs ++ dur.drop (lo + bs.length))
theorem putAt_length (dur : List Int) (lo : Nat) (bs : List Int) (h : lo + bs.length ≤ dur.length) : (putAt dur lo bs).length = dur.length := by simp [putAt]; omega
/-- The first k writes that are chosen become durable. -/
def settleN (sel : Nat → Bool) (dur : List Int) (ds : List (Int × List Int)) : Nat → List Int
  | 0 => dur
  | k + 1 => if sel k then putAt (settleN sel dur ds k) ((ds.getD k (0, [])).1.toNat * 512) (ds.getD k (0, [])).2 else settleN sel dur ds k
theorem settleN_length (sel : Nat → Bool) (dur : List Int) (ds : List (Int × List Int)) (hv : Valid dur.length ds) (k : Nat) (hk : k ≤ ds.length) : (settleN sel dur ds k).length = dur.length := by
  induction k with
  | zero => rfl
  | succ k ih =>
    have ihk := ih (by omega)
    unfold settleN
    split
    · have hm : ds.getD k (0, []) ∈ ds := by simp [List.getD, show k < ds.length from by omega]
      obtain ⟨h1, h2, h3⟩ := hv.2 _ hm
      have h4 := hv.1
      rw [putAt_length _ _ _ (by rw [ihk, h3]; have := hv.1.1; omega)]
      exact ihk
    · exact ihk

theorem take_splice {α : Type} (L X : List α) (lo n : Nat) (h : lo + X.length ≤ n) (hn : n ≤ L.length) :
    (L.take lo ++ (X ++ L.drop (lo + X.length))).take n = (L.take n).take lo ++ (X ++ (L.take n).drop (lo + X.length)) := by
  have h1 : (L.take lo).length = lo := by rw [List.length_take]; omega
  rw [List.take_append, List.take_append, h1, List.take_of_length_le (by omega), List.take_of_length_le (l := X) (by omega), List.take_take, Nat.min_eq_left (by omega), List.drop_take]
  congr 3
  omega

section
variable {P : Program} {ops : Array Oper} {o : Oper} {a : Act} {w : World} {K : Act → World → Prop} {Q : Exit → Act → World → Prop} {E : Prop}
/-- 'copy(row[lo:], src)' into an owned row, as one step of a region. -/
theorem step_copy_own {base : Nat} {tb : TypeId} (hgd : o.guard = none) (d s : Operand) (T : TypeId) (ho : o.op = .call { callee := .builtin .copy, args := #[d, s], argTypes := #[T, T] })
    (hu : P.underlying T = some (.slice tb)) (hsz : (P.info? tb).map (·.size) = some 1) (g lo n cap dc b off c : Nat) (dur bs : List Int)
    (hown : Own base tb .u8 w (.slice (some ⟨g, 0, none⟩) n cap) dur) (hnd : n = dur.length) (hd : a.eval d = .slice (some ⟨g, lo, none⟩) (n - lo) dc) (hs : a.eval s = .slice (some ⟨b, off, none⟩) bs.length c)
    (hsrc : ∀ i, i < bs.length → w.cell? ⟨b, off + i, none⟩ = some (.int .u8 (bs.getD i 0))) (hfit : lo + bs.length ≤ dur.length)
    (h : ∀ w', Own base tb .u8 w' (.slice (some ⟨g, 0, none⟩) n cap) (putAt dur lo bs) → w.grownBy w' (some g) → K (a.put o.dst (goInt bs.length)) w') :
    if Region.wanted o (yielded ops a.tmps) = true then Oper.wp P o a w K Q else E := by
  have hw : Region.wanted o (yielded ops a.tmps) = true := by simp [Region.wanted, hgd]
  rw [if_pos hw]
  subst hnd
  obtain ⟨hlen, hrow⟩ := hown
  rcases hrow with ⟨h', _⟩ | ⟨g', cap', cur, h', hb, hg, hnc, hcm, hcs, htake⟩
  · simp at h'
  · simp only [Value.slice.injEq, Option.some.injEq, Addr.mk.injEq, and_true, true_and] at h'
    obtain ⟨rfl, rfl⟩ := h'
    simp only [Nat.mul_one] at hcs htake
    have hvl : (vals .u8 bs).length = bs.length := vals_length _ _
    have hrun := run_copy_row (P := P) w T T o.type tb g lo (dur.length - lo) dc ⟨b, off, none⟩ bs.length c cur tb (vals .u8 bs) hu hsz hg (by rw [hvl]; exact (Nat.min_eq_left (by omega)).symm) (news_of hsrc) (by rw [hvl]; omega) vals_one
    unfold Oper.wp
    simp [execOp, ho, resolve, invoke, builtin, hd, hs, hrun, Result.andThen]
    rw [hvl]
    refine h _ ⟨by rw [vals_length]; omega, .inr ⟨g, cap, _, by rw [putAt_length _ _ _ hfit], hb, setRow_heap w g _ _ tb _ hg, by rw [putAt_length _ _ _ hfit]; exact hnc, hcm, ?_, ?_⟩⟩ ⟨rfl, rfl, rfl, by simp [World.setRow], fun k _ hk => setRow_other w g k _ (fun e => hk (by rw [e]))⟩
    · simp [hvl]; omega
    · have e : vals .u8 (putAt dur lo bs) = (vals .u8 dur).take lo ++ (vals .u8 bs ++ (vals .u8 dur).drop (lo + bs.length)) := by simp [vals, putAt]
      rw [e, putAt_length _ _ _ hfit, ← htake]
      have h := take_splice cur.toList (vals .u8 bs) lo dur.length (by rw [hvl]; exact hfit) (by have h9 : cur.toList.length = cap := (Array.length_toList).trans hcs; rw [h9]; exact hnc)
      rw [hvl] at h
      simpa using h
end

set_option maxRecDepth 100000 in
set_option maxHeartbeats 4000000 in
theorem l1Settle_all (dv pv : Value) (dur : List Int) (ps : List PW) (w : World) (hd : dur.length ≤ 1099511627776) (hv : RdD w dv pv dur ps) (hval : Valid dur.length (dataP ps)) :
    Calls Try.prog 55 #[.agg #[dv, pv], .bool true, .slice none 0 0] w fun e w' => ∃ a n c, e = .returned (.agg #[.slice a n c, .slice none 0 0]) ∧
      (∀ b, (Value.slice a n c).ownBlock = some b → w.heap.size ≤ b) ∧ Own 0 5 .u8 w' (.slice a n c) (settleN (fun _ => true) dur (dataP ps) ps.length) ∧ Same w w' := by
  obtain ⟨sel, hsel⟩ : ∃ sel : Nat → Bool, sel = fun _ => true := ⟨_, rfl⟩
  rw [← hsel]
  have HSEL : Hid (sel = fun _ => true) := hsel
  clear hsel
  have hsz1 : (Try.prog.info? 5).map (·.size) = some 1 := by kernel_rfl
  obtain ⟨a1, c1, rfl⟩ := hv.dur.form
  obtain ⟨a2, c2, e2⟩ := hv.pend.form
  have HP : Hid (RdP w pv ps) := hv.pend
  have HR : Hid (Rd .u8 w (.slice a1 dur.length c1) dur) := hv.dur
  have HV : Hid (Valid dur.length (dataP ps)) := hval
  subst e2
  have hpl : ps.length ≤ 8192 := by have := hval.1.2.2.2; rwa [dataP_length] at this
  have hdl : 512 ≤ dur.length := by have := hval.1.2.1; omega
  clear hv hval
  go_enter Try.func55, Try.ntmps55
  go_wp2_with fail
  refine (l1Copy_any _ dur _ hd (HR.out.same (((Kept.refl _ _).alloc _).alloc _))).mono ?_
  rintro e w1 ⟨a, n, c, rfl, ho, hf, hk⟩
  simp only [World.size_alloc] at hf
  obtain ⟨g, cap, e3, _, hgw, hcap, _⟩ : ∃ g cap, Value.slice a n c = .slice (some ⟨g, 0, none⟩) dur.length cap ∧ 0 ≤ g ∧ g < w1.heap.size ∧ dur.length ≤ cap ∧ cap ≤ maxLen := by
    rcases ho.form with ⟨_, h⟩ | h
    · simp [h] at hdl
    · exact h
  simp only [Value.slice.injEq] at e3
  obtain ⟨rfl, rfl, rfl⟩ := e3
  have hgf : w.heap.size + 1 < g := by have := hf g rfl; omega
  have b0 := ((FBox.new w (.slice a1 dur.length c1) (.slice a2 ps.length c2) 30).next _).same hk
  have b1 := (FBox.new (w.alloc (.cells #[.slice a1 dur.length c1, .slice a2 ps.length c2] 30)) (.slice none 0 0) (.slice none 0 0) 30).same hk
  simp only [World.size_alloc] at b1
  have HB0 : Hid (FBox w1 w.heap.size (.slice a1 dur.length c1) (.slice a2 ps.length c2)) := b0
  have HB1 : Hid (FBox w1 (w.heap.size + 1) (.slice none 0 0) (.slice none 0 0)) := b1
  have HO := (show Hid (Own 0 5 .u8 w1 (.slice (some ⟨g, 0, none⟩) dur.length c) dur) from ho)
  have HK : Hid (Same w w1) := (((Kept.refl _ _).alloc _).alloc _).trans hk
  have hz1' : w.heap.size + 1 < w1.heap.size := b1.lt
  clear ho hf hk b0 b1
  obtain ⟨cap, rfl⟩ : ∃ cap, cap = c := ⟨_, rfl⟩
  go_wp2
  go_loopw [8] (fun i wr => ∃ (k : Nat), k ≤ ps.length ∧ i = .int .i64 k ∧ Hid (FBox wr w1.heap.size (.slice (some ⟨g, 0, none⟩) dur.length cap) (.slice none 0 0)) ∧
      Hid (Own 0 5 .u8 wr (.slice (some ⟨g, 0, none⟩) dur.length cap) (settleN sel dur (dataP ps) k)) ∧ Hid (Kept (fun b => b = g) w1 wr)) (fun i _ => ps.length - (intOf i).toNat)
  case atStart => exact ⟨0, Nat.zero_le _, rfl, FBox.new _ _ _ _, HO.out.same ((Kept.refl _ _).alloc _), (Kept.refl _ _).alloc _⟩
  case round =>
    obtain ⟨k, hk, rfl, HX, HOr, HKr⟩ := hrel
    obtain ⟨o1, o2, _, _⟩ := HB0.out.kept HKr.out (by omega)
    by_cases hlt : k < ps.length
    · obtain ⟨b, off, rfl, hc⟩ : ∃ b off, a2 = some ⟨b, off, none⟩ ∧ ∀ i (h : i < ps.length), w.cell? ⟨b, off + i * 2, none⟩ = some (.int .i64 ps[i].sec) ∧ w.cell? ⟨b, off + i * 2 + 1, none⟩ = some ps[i].v := by
        rcases HP.out.row with ⟨rfl, _⟩ | ⟨b, off, c, e, hc⟩
        · simp at hlt
        · simp only [Value.slice.injEq, true_and] at e
          obtain ⟨rfl, rfl⟩ := e
          exact ⟨b, off, rfl, hc⟩
      obtain ⟨v1, v2, v3⟩ := HV.out.2 (ps[k].sec, ps[k].bs) (List.mem_map.2 ⟨ps[k], List.getElem_mem hlt, rfl⟩)
      simp only at v1 v2 v3
      obtain ⟨b3, o3, c3, ev, hsrc⟩ : ∃ b3 o3 c3, ps[k].v = .slice (some ⟨b3, o3, none⟩) ps[k].bs.length c3 ∧ ∀ i, i < ps[k].bs.length → w.cell? ⟨b3, o3 + i, none⟩ = some (.int .u8 (ps[k].bs.getD i 0)) := by
        rcases (HP.out.data _ (List.getElem_mem hlt)).2 with ⟨h, _⟩ | ⟨b3, o3, c3, h, _, hc⟩
        · simp [h] at v3
        · exact ⟨b3, o3, c3, h, hc⟩
      have hbw : b < w.heap.size := World.block_lt_of_cell? w _ (hc k hlt).1
      have hkw : Kept (fun b => b = g) w wr := (HK.out.mono (fun _ _ h => h.elim)).trans HKr.out
      have q1 := hkw.cellOf (hc k hlt).1 (by show ¬ b = g; omega)
      have q2 := hkw.cellOf (hc k hlt).2 (by show ¬ b = g; omega)
      rw [ev] at q2
      obtain ⟨sn, hsn⟩ : ∃ sn : Nat, ps[k].sec = sn := ⟨ps[k].sec.toNat, by omega⟩
      rw [hsn] at q1 v2
      have hgd : (dataP ps).getD k (0, []) = ((sn : Int), ps[k].bs) := by simp [dataP, List.getD, hlt, hsn]
      have hb3 : ∀ i, i < ps[k].bs.length → b3 < w.heap.size := fun i hi => World.block_lt_of_cell? w _ (hsrc i hi)
      have HSRC : Hid (∀ i, i < ps[k].bs.length → wr.drew.cell? ⟨b3, o3 + i, none⟩ = some (.int .u8 (ps[k].bs.getD i 0))) := fun i hi => hkw.drew.cellOf (hsrc i hi) (by have := hb3 i hi; show ¬ b3 = g; omega)
      have HLN : Hid ((settleN sel dur (dataP ps) k).length = dur.length) := settleN_length _ _ _ HV.out _ (by rw [dataP_length]; omega)
      have hs1 : (sn + 1) * 512 ≤ dur.length := by have := HV.out.1.1; omega
      have HFIT : Hid (sn * 512 + ps[k].bs.length ≤ (settleN sel dur (dataP ps) k).length) := by rw [HLN.out, v3]; unfold Hid; omega
      have HST : Hid (settleN sel dur (dataP ps) (k + 1) = putAt (settleN sel dur (dataP ps) k) (sn * 512) ps[k].bs) := by
        unfold Hid
        rw [settleN, HSEL.out, if_pos rfl, hgd]
        simp
      have HKW : Hid (Kept (fun b => b = g) w wr) := hkw
      have hsm : (sn : Int) ≤ 1024 := by have := HV.out.1.2.2.1; omega
      have e1 : ((sn : Int) * 512).toNat = sn * 512 := by omega
      have e2 : (sn : Int) * 512 ≤ (dur.length : Int) := by omega
      have e3 : (sn : Int) * 512 ≤ (cap : Int) := by omega
      have e4 : (dur.length : Int) ≤ (cap : Int) := by omega
      have e5 : IntKind.i64.wrap ((sn : Int) * 512) = (sn : Int) * 512 := by rw [IntKind.wrap_i64]; omega
      have e6 : ¬ cap = sn * 512 := by omega
      have e7 : (0 : Int) ≤ (sn : Int) * 512 := by omega
      clear ev hc hsrc hb3 hgd hsn hkw v1 v2 v3
      have hki : (k : Int) < (ps.length : Int) := by omega
      have hk0 : (0 : Int) ≤ (k : Int) := by omega
      obtain ⟨x1, x2, x3, x4⟩ := HX.out
      go_wp2_with fail
      have hS : (fun w' => w'.cell? ⟨w1.heap.size, 0, none⟩ = some (.slice (some ⟨g, 0, none⟩) dur.length cap) ∧ w'.cell? ⟨w.heap.size, 1, none⟩ = some (.slice (some ⟨b, off, none⟩) ps.length c2) ∧ w'.cell? ⟨b, off + k * 2, none⟩ = some (.int .i64 (sn : Int)) ∧ w'.cell? ⟨b, off + k * 2 + 1, none⟩ = some (.slice (some ⟨b3, o3, none⟩) ps[k].bs.length c3)) wr.drew := by go_keep
      refine wp_region_V (fun w' => w'.cell? ⟨w1.heap.size, 0, none⟩ = some (.slice (some ⟨g, 0, none⟩) dur.length cap) ∧ w'.cell? ⟨w.heap.size, 1, none⟩ = some (.slice (some ⟨b, off, none⟩) ps.length c2) ∧ w'.cell? ⟨b, off + k * 2, none⟩ = some (.int .i64 (sn : Int)) ∧ w'.cell? ⟨b, off + k * 2 + 1, none⟩ = some (.slice (some ⟨b3, o3, none⟩) ps[k].bs.length c3)) 99 17 rfl (by kernel_rfl) ?_
      refine wpAnyV_take (i := 0) (v := ?v0) (some 34) rfl rfl (by kernel_rfl) (by kernel_rfl) (by kernel_rfl) (by kernel_rfl) (fun _ _ _ h => h) (Or.inl ⟨by rfl, ?hy0⟩) hS ?_
      case hy0 => (intro w hSw; (try dsimp only at hSw); go_simp; (try with_reducible rfl))
      try simp only [Act.put, List.setIfInBounds_toArray, List.set_cons_zero, List.set_cons_succ]
      refine wpAnyV_take (i := 1) (v := ?v1) (some 35) rfl rfl (by kernel_rfl) (by kernel_rfl) (by kernel_rfl) (by kernel_rfl) (fun _ _ _ h => h) (Or.inl ⟨by rfl, ?hy1⟩) hS ?_
      case hy1 => (intro w hSw; (try dsimp only at hSw); go_simp; (try with_reducible rfl))
      try simp only [Act.put, List.setIfInBounds_toArray, List.set_cons_zero, List.set_cons_succ]
      refine wpAnyV_take (i := 2) (v := ?v2) (some 36) rfl rfl (by kernel_rfl) (by kernel_rfl) (by kernel_rfl) (by kernel_rfl) (fun _ _ _ h => h) (Or.inl ⟨by rfl, ?hy2⟩) hS ?_
      case hy2 => (intro w hSw; (try dsimp only at hSw); go_simp; (try with_reducible rfl))
      try simp only [Act.put, List.setIfInBounds_toArray, List.set_cons_zero, List.set_cons_succ]
      refine wpAnyV_take (i := 3) (v := ?v3) (some 37) rfl rfl (by kernel_rfl) (by kernel_rfl) (by kernel_rfl) (by kernel_rfl) (fun _ _ _ h => h) (Or.inl ⟨by rfl, ?hy3⟩) hS ?_
      case hy3 => (intro w hSw; (try dsimp only at hSw); go_simp; (try with_reducible rfl))
      try simp only [Act.put, List.setIfInBounds_toArray, List.set_cons_zero, List.set_cons_succ]
      refine wpAnyV_take (i := 4) (v := ?v4) (some 38) rfl rfl (by kernel_rfl) (by kernel_rfl) (by kernel_rfl) (by kernel_rfl) (fun _ _ _ h => h) (Or.inl ⟨by rfl, ?hy4⟩) hS ?_
      case hy4 => (intro w hSw; (try dsimp only at hSw); go_simp; (try with_reducible rfl))
      try simp only [Act.put, List.setIfInBounds_toArray, List.set_cons_zero, List.set_cons_succ]
      refine wpAnyV_take (i := 5) (v := ?v5) (some 39) rfl rfl (by kernel_rfl) (by kernel_rfl) (by kernel_rfl) (by kernel_rfl) (fun _ _ _ h => h) (Or.inl ⟨by rfl, ?hy5⟩) hS ?_
      case hy5 => (intro w hSw; (try dsimp only at hSw); go_simp; (try with_reducible rfl))
      try simp only [Act.put, List.setIfInBounds_toArray, List.set_cons_zero, List.set_cons_succ]
      refine wpAnyV_take (i := 6) (v := ?v6) (some 40) rfl rfl (by kernel_rfl) (by kernel_rfl) (by kernel_rfl) (by kernel_rfl) (fun _ _ _ h => h) (Or.inl ⟨by rfl, ?hy6⟩) hS ?_
      case hy6 => (intro w hSw; (try dsimp only at hSw); go_simp; (try with_reducible rfl))
      try simp only [Act.put, List.setIfInBounds_toArray, List.set_cons_zero, List.set_cons_succ]
      refine wpAnyV_take (i := 7) (v := ?v7) (some 41) rfl rfl (by kernel_rfl) (by kernel_rfl) (by kernel_rfl) (by kernel_rfl) (fun _ _ _ h => h) (Or.inl ⟨by rfl, ?hy7⟩) hS ?_
      case hy7 => (intro w hSw; (try dsimp only at hSw); go_simp; (try with_reducible rfl))
      try simp only [Act.put, List.setIfInBounds_toArray, List.set_cons_zero, List.set_cons_succ]
      refine wpAnyV_take (i := 8) (v := ?v8) (some 42) rfl rfl (by kernel_rfl) (by kernel_rfl) (by kernel_rfl) (by kernel_rfl) (fun _ _ _ h => h) (Or.inl ⟨by rfl, ?hy8⟩) hS ?_
      case hy8 => (intro w hSw; (try dsimp only at hSw); go_simp; (try with_reducible rfl))
      try simp only [Act.put, List.setIfInBounds_toArray, List.set_cons_zero, List.set_cons_succ]
      refine wpAnyV_take (i := 9) (v := ?v9) (some 43) rfl rfl (by kernel_rfl) (by kernel_rfl) (by kernel_rfl) (by kernel_rfl) (fun _ _ _ h => h) (Or.inl ⟨by rfl, ?hy9⟩) hS ?_
      case hy9 => (intro w hSw; (try dsimp only at hSw); go_simp; (try with_reducible rfl))
      try simp only [Act.put, List.setIfInBounds_toArray, List.set_cons_zero, List.set_cons_succ]
      refine wpAnyV_take (i := 10) (v := ?v10) (some 44) rfl rfl (by kernel_rfl) (by kernel_rfl) (by kernel_rfl) (by kernel_rfl) (fun _ _ _ h => h) (Or.inl ⟨by rfl, ?hy10⟩) hS ?_
      case hy10 => (intro w hSw; (try dsimp only at hSw); go_simp; (try with_reducible rfl))
      try simp only [Act.put, List.setIfInBounds_toArray, List.set_cons_zero, List.set_cons_succ]
      refine wpAnyV_take (i := 11) (v := ?v11) (some 45) rfl rfl (by kernel_rfl) (by kernel_rfl) (by kernel_rfl) (by kernel_rfl) (fun _ _ _ h => h) (Or.inl ⟨by rfl, ?hy11⟩) hS ?_
      case hy11 => (intro w hSw; (try dsimp only at hSw); go_simp; (try with_reducible rfl))
      try simp only [Act.put, List.setIfInBounds_toArray, List.set_cons_zero, List.set_cons_succ]
      refine wpAnyV_take (i := 12) (v := ?v12) (some 46) rfl rfl (by kernel_rfl) (by kernel_rfl) (by kernel_rfl) (by kernel_rfl) (fun _ _ _ h => h) (Or.inl ⟨by rfl, ?hy12⟩) hS ?_
      case hy12 => (intro w hSw; (try dsimp only at hSw); go_simp; (try with_reducible rfl))
      try simp only [Act.put, List.setIfInBounds_toArray, List.set_cons_zero, List.set_cons_succ]
      refine wpAnyV_take (i := 13) (v := ?v13) (some 47) rfl rfl (by kernel_rfl) (by kernel_rfl) (by kernel_rfl) (by kernel_rfl) (fun _ _ _ h => h) (Or.inl ⟨by rfl, ?hy13⟩) hS ?_
      case hy13 => (intro w hSw; (try dsimp only at hSw); go_simp; (try with_reducible rfl))
      try simp only [Act.put, List.setIfInBounds_toArray, List.set_cons_zero, List.set_cons_succ]
      refine wpAnyV_take (i := 14) (v := ?v14) (some 48) rfl rfl (by kernel_rfl) (by kernel_rfl) (by kernel_rfl) (by kernel_rfl) (fun _ _ _ h => h) (Or.inl ⟨by rfl, ?hy14⟩) hS ?_
      case hy14 => (intro w hSw; (try dsimp only at hSw); go_simp; (try with_reducible rfl))
      try simp only [Act.put, List.setIfInBounds_toArray, List.set_cons_zero, List.set_cons_succ]
      refine wpAnyV_take (i := 15) (v := ?v15) (some 49) rfl rfl (by kernel_rfl) (by kernel_rfl) (by kernel_rfl) (by kernel_rfl) (fun _ _ _ h => h) (Or.inl ⟨by rfl, ?hy15⟩) hS ?_
      case hy15 => (intro w hSw; (try dsimp only at hSw); go_simp; (try with_reducible rfl))
      try simp only [Act.put, List.setIfInBounds_toArray, List.set_cons_zero, List.set_cons_succ]
      refine wpAnyV_one (i := 16) (by kernel_rfl) rfl (fun K hK => ?_)
      refine step_copy_own (by rfl) (.tmp 43) (.tmp 49) 22 (by rfl) Try.underlying22 hsz1 g (sn * 512) dur.length cap (cap - sn * 512) b3 o3 c3 (settleN sel dur (dataP ps) k) ps[k].bs (by exact HOr.out.same (Kept.refl _ _).drew) HLN.out.symm (by rfl) (by rfl) (by exact fun i hi => HSRC.out i hi) HFIT.out ?_
      intro w3 ho3 hg3
      have HO3 := (show Hid (Own 0 5 .u8 w3 _ _) from ho3)
      have HG3 := (show Hid (Kept (fun b => b = g) wr w3) from (Kept.refl _ _).drew.trans (Kept.of_grown hg3 (fun k e => (Option.some.inj e).symm)))
      clear ho3 hg3
      have HX3 : Hid (FBox w3 w1.heap.size (.slice (some ⟨g, 0, none⟩) dur.length cap) (.slice none 0 0)) := HX.out.kept HG3.out (by show ¬ w1.heap.size = g; omega)
      have y1 := HX3.out.1
      have y2 := HG3.out.cellOf o2 (by show ¬ w.heap.size = g; omega)
      have y3 := HG3.out.cellOf q1 (by show ¬ b = g; omega)
      have y4 := HG3.out.cellOf q2 (by show ¬ b = g; omega)
      refine hK.out _ _ (fun _ => by go_keep) ?_
      clear hK K
      refine wpAnyV_done (by kernel_rfl) ?_
      try simp only [Act.put, List.setIfInBounds_toArray, List.set_cons_zero, List.set_cons_succ]
      rw [← HST.out] at HO3
      have HK3 : Hid (Kept (fun b => b = g) w1 w3) := HKr.out.trans HG3.out
      clear hS x1 x2 x3 x4 q1 q2 o1 o2 y1 y2 y3 y4
      go_wp2
      go_roundw
      case rel => exact ⟨k + 1, by omega, by go_num, HX3, HO3, HK3⟩
      case measure => simp [intOf]; omega
    · obtain ⟨x1, x2, _, _⟩ := HX.out
      obtain ⟨p1, p2, p3, p4⟩ := HB1.out.kept HKr.out (by omega)
      have hrl : w1.heap.size < wr.heap.size := HX.out.lt
      go_wp2
      obtain rfl : k = ps.length := by omega
      refine bodyPost_ret (v := .agg #[.slice (some ⟨g, 0, none⟩) dur.length cap, .slice none 0 0]) (by simp [results, Try.results55, go_sem, p1, p2]) rfl ⟨some ⟨g, 0, none⟩, dur.length, cap, rfl, fun b hb => by simp [Value.ownBlock] at hb; omega, ?_, ?_⟩
      · refine HOr.out.kept (R := fun b => b = w.heap.size + 1) ?_ (fun b hb e => by simp [Value.ownBlock] at hb; omega)
        exact Kept.setTwo (Kept.refl (fun b => b = w.heap.size + 1) _) (.inr rfl) _ _
      · exact Kept.setTwo (HK.out.next HKr.out (fun b hb e => by have e' : b = g := e; omega)) (.inl (by simp)) _ _
end Go.Proofs.Ytoibckbgiiggfai
