import Derived.Test.YteacihpankkhkaaG06
import Derived.Lib.AppendZerosOnto
namespace Go.Proofs.Yteacihpankkhkaa
set_option maxRecDepth 100000
set_option maxHeartbeats 8000000
set_option linter.unusedSimpArgs false
open Go.RowKit
theorem zero93 : ∀ w, (zeroValue 66).run Try.prog w = .ok (.agg zeros93) w := by
 obtain ⟨i0, hi, hz0, hz1, hz2⟩ := info_parts Try.info93
 intro w
 simp [zeroValue, typeInfo, hi, hz0]
theorem sync_any (B : Nat) (dv pv : Value) (dur : List Int) (ds : List (Int × List Int)) (w : World) (hp : Plat w B dv pv dur ds) (hval : Valid dur.length ds) :
  Calls Try.prog 38 #[.pointer (some ⟨B, 0, none⟩)] w fun e w' => e = .returned (.tuple #[]) ∧ Plat w' B dv (.slice none 0 0) (settleN (fun _ => true) dur ds ds.length) [] ∧ Kept (fun b => b = B ∨ dv.ownBlock = some b) w w' := by
 obtain ⟨gd, cd, rfl⟩ : ∃ gd cd, dv = .slice (some ⟨gd, 0, none⟩) (dur.length / 512) cd := by
  rcases hp.dur.2 with ⟨_, h⟩ | ⟨g, cap, _, h, _⟩
  ·have := hval.1.2.1; omega
  ·exact ⟨g, cap, h⟩
 obtain ⟨aq, cq, rfl⟩ : ∃ aq cq, pv = .slice aq ds.length cq := by
  rcases hp.pend.2 with ⟨rfl, h⟩ | ⟨g, cap, _, h, _⟩
  ·exact ⟨none, 0, by rw [h]⟩
  ·exact ⟨_, _, h⟩
 have HP : Hid (Plat w B (.slice (some ⟨gd, 0, none⟩) (dur.length / 512) cd) (.slice aq ds.length cq) dur ds) := hp
 have HV : Hid (Valid dur.length ds) := hval
 have hdl : ds.length ≤ 8192 := hval.1.2.2.2
 have hdn : dur.length / 512 ≤ 1024 := hval.1.2.2.1
 obtain ⟨n, hn⟩ : ∃ n, dur.length / 512 = n := ⟨_, rfl⟩
 rw [hn] at HP hdn ⊢
 have HN : Hid (dur.length = n * 512) := by have := hval.1.1; unfold Hid; omega
 have hbd : gd ≠ B := fun e => HP.out.a1 (by rw [e]; rfl)
 clear hp hval hn
 have hz93 := zero93
 obtain ⟨p1, p2, p3, p4⟩ := HP.out.box
 go_enter Try.func38, Try.ntmps38
 go_wp2
 go_loopw [9] (fun i wr => ∃ (k : Nat), k ≤ ds.length ∧ i = .int .i64 k ∧ Hid (wr.ownsRow 0 64 512 (.slice (some ⟨gd, 0, none⟩) n cd) n (vals .u8 (settleN (fun _ => true) dur ds k))) ∧ Hid (Kept (fun b => b = gd) w wr)) (fun i _ => ds.length - (intOf i).toNat)
 case atStart => exact ⟨0, Nat.zero_le _, rfl, (by have h := HP.out.dur; rw [show dur.length / 512 = n from by have := HN.out; omega] at h; exact h), Kept.refl _ _⟩
 case round =>
  obtain ⟨k, hk, rfl, HRr, HKr⟩ := hrel
  by_cases hlt : k < ds.length
  ·obtain ⟨gq, rfl⟩ : ∃ gq, aq = some ⟨gq, 0, none⟩ := by
    rcases HP.out.pend.2 with ⟨h, h0⟩ | ⟨g, cap, _, h, _⟩
    ·omega
    ·simp only [Value.slice.injEq] at h; exact ⟨g, h.1⟩
   have hgq : gq ≠ gd := fun e => HP.out.a3 gd rfl (by rw [e]; rfl)
   obtain ⟨v1, v2, v3⟩ := HV.out.2 ds[k] (List.getElem_mem hlt)
   have hpr := HKr.out.owns HP.out.pend (fun b hb => by have e : b = gq := (Option.some.inj hb).symm; show ¬ b = gd; omega)
   have hplen : (penCells ds).length = ds.length * 513 := penCells_length ds (fun p hp => (HV.out.2 p hp).2.2)
   have hrange : wr.rangeAt gq (k * 513) (Value.int .i64 ds[k].1 :: vals .u8 ds[k].2) := by
    have h := owns_range hpr (k * 513) 513 (by rw [hplen]; omega)
    rw [penCells_at ds (fun p hp => (HV.out.2 p hp).2.2) k hlt] at h
    have e : (Value.int .i64 ds[k].1 :: (vals .u8 ds[k].2 ++ penCells (ds.drop (k + 1)))).take 513 = Value.int .i64 ds[k].1 :: vals .u8 ds[k].2 := by
     rw [List.take_succ_cons, List.take_append_of_le_length (by rw [vals_length, v3]; exact Nat.le_refl _), List.take_of_length_le (by rw [vals_length, v3]; exact Nat.le_refl _)]
    rw [e] at h
    exact h
   have HRG := (show Hid (wr.rangeAt gq (k * 513) (Value.int .i64 ds[k].1 :: vals .u8 ds[k].2)) from hrange)
   have hcl : (vals .u8 ds[k].2).length = 512 := by rw [vals_length]; exact v3
   have HCL : Hid ((Value.int .i64 ds[k].1 :: vals .u8 ds[k].2).length = 513) := by unfold Hid; rw [List.length_cons, hcl]
   have HI93 : Hid ((Try.prog.info? 66).map (·.size) = some (Value.int .i64 ds[k].1 :: vals .u8 ds[k].2).length) := by
    obtain ⟨i0, hi, hz0, hz1, hz2⟩ := info_parts Try.info93
    unfold Hid; rw [HCL.out, hi]; simp [hz1]
   obtain ⟨cs, hcs⟩ : ∃ cs, cs = Value.int .i64 ds[k].1 :: vals .u8 ds[k].2 := ⟨_, rfl⟩
   rw [← hcs] at HRG HCL HI93
   have HCS : Hid (cs = Value.int .i64 ds[k].1 :: vals .u8 ds[k].2) := hcs
   have HONE : Hid (∀ u ∈ cs, u.oneCell' = true) := fun u hu => by
    rw [hcs] at hu
    rcases List.mem_cons.1 hu with rfl | hu
    ·rfl
    ·exact vals_one u hu
   have hzs : zeros93.size = 513 := by kernel_rfl
   have HTH : Hid ((wr.alloc (.cells zeros93 66)).there wr.heap.size 0 cs.toArray.size) := fun j hj => by
    rw [List.size_toArray, HCL.out] at hj
    refine ⟨?_, ?_⟩
    ·rw [cell_of_row _ wr.heap.size (0 + j) zeros93 66 (0, 0) (heap_alloc_new wr _)]
     simp [hzs, hj]
    ·exact frozen_of_row _ _ _ zeros93 66 (heap_alloc_new wr _)
   have HI93' : Hid ((Try.prog.info? 66).map (·.size) = some cs.toArray.size) := by rw [List.size_toArray]; exact HI93
   obtain ⟨wb, hwb⟩ : ∃ wb, wb = (wr.alloc (.cells zeros93 66)).setCells wr.heap.size 0 cs := ⟨_, rfl⟩
   have HRB : Hid (wb.rangeAt wr.heap.size 0 cs) := by rw [hwb]; exact World.rangeAt_setCells_same _ _ _ _ (by have h := HTH.out; rwa [List.size_toArray] at h)
   have HKB : Hid (Same wr wb) := by
    obtain ⟨_, hgr⟩ := owns_setCellsP (base := 0) (e := 66) (size := 513) (g := wr.heap.size) (n := 1) (cap := 1) cs 0 (wr.alloc (.cells zeros93 66)) zeros93.toList (World.ownsRow_lit wr zeros93 1 (Nat.zero_le _) (by unfold maxLen; omega) (by rw [hzs])) (by rw [HCL.out, Array.length_toList, hzs]; exact Nat.le_refl _)
    rw [hwb]
    exact ((Kept.refl _ _).alloc _).grown hgr (fun k e => .inl (by have : wr.heap.size = k := Option.some.inj e; omega))
   have HWB : Hid (wb = (wr.alloc (.cells zeros93 66)).setCells wr.heap.size 0 cs) := hwb
   clear hcs hwb
   have hki : (k : Int) < (ds.length : Int) := by omega
   have hk0 : (0 : Int) ≤ (k : Int) := by omega
   clear hpr hplen hrange p1 p2 p3 p4
   have hst : ∀ k, k ≤ ds.length → (settleN (fun _ => true) dur ds k).length = dur.length := fun k hk => settleN_length _ _ _ HV.out k hk
   obtain ⟨sn, hsn⟩ : ∃ sn : Nat, ds[k].1 = sn := ⟨ds[k].1.toNat, by omega⟩
   have hnn := HN.out
   have hsn1 : sn < n := by have := v2; omega
   have x1 := ((HP.out.box.kept HKr.out (by show ¬ B = gd; omega)).same HKB.out).1
   have x2 := ((HP.out.box.kept HKr.out (by show ¬ B = gd; omega)).same HKB.out).2.1
   have y1 : wb.cell? ⟨wr.heap.size, 0, none⟩ = some (.int .i64 (sn : Int)) := by have h := HRB.out 0 (.int .i64 ds[k].1) (by rw [HCS.out]; rfl); rw [hsn] at h; exact h
   have RG : Hid (wb.drew.rangeAt wr.heap.size 1 (vals .u8 ds[k].2)) := fun j v hj => by
    have h := HRB.out (j + 1) v (by rw [HCS.out, List.getElem?_cons_succ]; exact hj)
    show wb.cell? _ = _
    rw [← h]
    congr 2
    omega
   have HI91 : Hid ((Try.prog.info? 64).map (·.size) = some (vals .u8 ds[k].2).length) := by
    obtain ⟨j0, hj, hy0, hy1, hy2⟩ := info_parts Try.info91
    unfold Hid; rw [hcl, hj]; simp [hy1]
   have HID : Hid ((Try.prog.info? 64).map (·.size) = some (vals .u8 ds[k].2).toArray.size) := by rw [List.size_toArray]; exact HI91
   have HOD := (show Hid (wb.drew.ownsRow 0 64 512 (.slice (some ⟨gd, 0, none⟩) n cd) n (vals .u8 (settleN (fun _ => true) dur ds k))) from (HKB.out.owns HRr.out (fun _ _ => id)).drew)
   have HFD : Hid (sn * 512 + 512 ≤ (vals .u8 (settleN (fun _ => true) dur ds k)).length) := by unfold Hid; rw [vals_length, hst k (by omega)]; omega
   have HTD : Hid (wb.drew.there gd (sn * 512) (vals .u8 ds[k].2).toArray.size) := by rw [List.size_toArray, hcl]; exact owns_there HOD.out (sn * 512) 512 HFD.out
   have HST : Hid (vals .u8 (settleN (fun _ => true) dur ds (k + 1)) = lay (vals .u8 (settleN (fun _ => true) dur ds k)) (sn * 512) (vals .u8 ds[k].2)) := by
    unfold Hid
    have e : ds.getD k (0, []) = ds[k] := by simp [List.getD, hlt]
    rw [settleN, if_pos rfl, e, hsn, Int.toNat_natCast]
    simp [vals, putAt, lay]
   have g1 : (sn : Int) < (n : Int) := by omega
   have g2 : (0 : Int) ≤ (sn : Int) := by omega
   have HSN : Hid (ds[k].1 = sn) := hsn
   have HCL2 : Hid ((vals .u8 ds[k].2).length = 512) := hcl
   clear hst hnn hsn v1 v2 v3 hcl hzs
   go_wp2_with (first | (refine wpList_load_mid rfl 66 _ rfl gq (k * 513) rfl cs _ HRG.out Try.underlying66 rfl HI93.out ?_) | (refine wpList_store_mid rfl 66 _ _ rfl wr.heap.size 0 cs.toArray rfl rfl HTH.out HI93'.out (all_oneCell_toArray HONE.out) ?_; rw [List.toList_toArray, ← HWB.out]))
   have hS : (fun w' => w'.cell? ⟨B, 0, none⟩ = some (.slice (some ⟨gd, 0, none⟩) n cd) ∧ w'.cell? ⟨wr.heap.size, 0, none⟩ = some (.int .i64 (sn : Int)) ∧ w'.rangeAt wr.heap.size 1 (vals .u8 ds[k].2)) wb.drew := by exact ⟨x1, y1, RG.out⟩
   refine wp_region_V (fun w' => w'.cell? ⟨B, 0, none⟩ = some (.slice (some ⟨gd, 0, none⟩) n cd) ∧ w'.cell? ⟨wr.heap.size, 0, none⟩ = some (.int .i64 (sn : Int)) ∧ w'.rangeAt wr.heap.size 1 (vals .u8 ds[k].2)) 9 10 rfl (by kernel_rfl) ?_
   refine tk 0 13 hS ?_
   refine tk 1 14 hS ?_
   refine tk 2 15 hS ?_
   refine tk 3 16 hS ?_
   refine tk 4 17 hS ?_
   refine tk 5 18 hS ?_
   refine tk 6 19 hS ?_
   refine wpAnyV_take (i := 7) (v := .agg (vals .u8 ds[k].2).toArray) (some 20) rfl rfl (by kernel_rfl) (by kernel_rfl) (by kernel_rfl) (by kernel_rfl) (fun _ _ _ h => h) (yieldsIf_load_mid (by rfl) _ _ rfl _ _ rfl _ _ (fun w hSw => by (try dsimp (config := { zetaDelta := true }) only at hSw); exact hSw.2.2) Try.underlying64 rfl HI91.out) hS ?_
   try simp only [Act.put, sA, s0, sS]
   refine tk 8 21 hS ?_
   refine wpAnyV_one (i := 9) (by kernel_rfl) rfl (fun K hK => ?_)
   rw [if_pos (by rfl)]
   refine wp_store_mid _ _ _ rfl gd (sn * 512) (vals .u8 ds[k].2).toArray rfl rfl HTD.out HID.out (all_oneCell_toArray (fun v hv => vals_one v hv)) ?_
   simp only [List.getElem_toArray, List.getElem_cons_succ, List.getElem_cons_zero, List.toList_toArray]
   refine hK.out _ _ (fun h => absurd rfl h) ?_
   clear hK K
   refine wpAnyV_done (by kernel_rfl) ?_
   try simp only [Act.put, sA, s0, sS]
   obtain ⟨q1, q2⟩ := owns_setCellsP (vals .u8 ds[k].2) (sn * 512) wb.drew _ HOD.out (by rw [HCL2.out]; exact HFD.out)
   rw [← HST.out] at q1
   have HR2 := (show Hid (World.ownsRow _ 0 64 512 (.slice (some ⟨gd, 0, none⟩) n cd) n (vals .u8 (settleN (fun _ => true) dur ds (k + 1)))) from q1)
   have HK2 := (show Hid (Kept (fun b => b = gd) w _) from (HKr.out.trans ((HKB.out.mono (fun _ _ h => h.elim)).drew)).trans (Kept.of_grown q2 (fun k e => (Option.some.inj e).symm)))
   generalize wb.drew.setCells gd (sn * 512) (vals .u8 ds[k].2) = wn at *
   clear q1 q2 hS x1 x2 y1
   go_wp2
   go_roundw
   case rel => exact ⟨k + 1, by omega, by go_num, HR2, HK2⟩
   case measure => simp [intOf]; omega
  ·obtain rfl : k = ds.length := by omega
   have HX := (show Hid (FBox wr B (.slice (some ⟨gd, 0, none⟩) n cd) (.slice aq ds.length cq)) from HP.out.box.kept HKr.out (by show ¬ B = gd; omega))
   clear p1 p2 p3 p4
   obtain ⟨p1, p2, p3, p4⟩ := HX.out
   go_wp2
   go_end0
   have hl := settleN_length (fun _ => true) dur ds HV.out ds.length (Nat.le_refl _)
   have hk2 : Kept (fun b => b = B) wr (wr.setCell ⟨B, 1, none⟩ (.slice none 0 0)) := Kept.setCell (Kept.refl (fun b => b = B) wr) (p := ⟨B, 1, none⟩) (.inr rfl) _
   refine ⟨rfl, ⟨HX.out.set1 _, ?_, World.ownsRow_nil _ _ _ _, HP.out.a1, by simp [Value.ownBlock], fun b _ hb => by simp [Value.ownBlock] at hb⟩, ?_⟩
   ·rw [hl, show dur.length / 512 = n from by have := HN.out; omega]
    exact hk2.owns HRr.out (fun b hb => by have e : b = gd := (Option.some.inj hb).symm; show ¬ b = B; omega)
   ·exact (HKr.out.mono (fun b _ e => .inr (by rw [e]; rfl))).trans (hk2.mono (fun b _ e => .inl e))
section
variable {P : Program} {ops : Array Oper} {rest : List Oper} {o : Oper} {a : Act} {Q : Exit → Act → World → Prop}
theorem wpList_grow_nil (w : World) (hgd : o.guard = none) (s x : Operand) (t tn : TypeId) (ho : o.op = .call { callee := .builtin .append, args := #[s, x], argTypes := #[t, tn] })
  (e : TypeId) (i : TypeInfo) (z : Value) (size : Nat) (kn : IntKind) (ht : P.underlying t = some (.slice e)) (htn : P.underlying tn = some (.int kn)) (hi : P.info? e = some i) (hz : i.zero = some z) (hsz : i.size = size) (hzs : z.cells.size = size) (h1 : 0 < size)
  (k : IntKind) (n : Nat) (hs : a.eval s = .slice none 0 0) (hx : a.eval x = .int k n) (h0 : 0 < n) (h63 : n ≤ maxLen) (h48 : n * i.bytes ≤ 281474976710656)
  (h : ∀ cap w', n ≤ cap → cap ≤ maxLen → w'.ownsRow 0 e size (.slice (some ⟨w.heap.size, 0, none⟩) 0 cap) 0 [] → w.grownBy w' none → wpList P ops Q rest (a.put o.dst (.slice (some ⟨w.heap.size, 0, none⟩) n cap)) w') :
  wpList P ops Q (o :: rest) a w := by
 refine wpList_plain hgd fun K hK => ?_
 have hrun := Lib.run_append_nil_zeros (P := P) w t tn o.type e i z k kn ht htn hi hz n h0 (by omega) (by unfold maxLen at h63; omega) h48
 unfold Oper.wp
 simp [execOp, ho, resolve, invoke, builtin, hs, hx, hrun, Result.andThen]
 refine hK _ _ (h _ _ (grownCap_ge w n 0 e) (grownCap_le_maxLen w n 0 e h63) ⟨by simp, .inr ⟨w.heap.size, grownCap w n 0 e, _, rfl, Nat.zero_le _, heap_alloc_new w.drew _, Nat.zero_le _, grownCap_le_maxLen w n 0 e h63, ?_, by simp⟩⟩ ⟨rfl, rfl, rfl, by simp, fun k hk _ => Below.heap_alloc w.drew _ k hk⟩)
 have hc := grownCap_ge w n 0 e
 rw [Array.size_append, size_zeroCells, size_zeroCells, hzs, ← Nat.add_mul]
 congr 1
 omega
end
theorem growB_any (n : Nat) (w : World) (hn : n ≤ 1099511627776) :
  Calls Try.prog 44 #[.slice none 0 0, .int .i64 n] w fun e w' => ∃ a c, e = .returned (.slice a 0 c) ∧ w'.ownsRow 0 5 1 (.slice a 0 c) 0 [] ∧ (∀ b, (Value.slice a 0 c).ownBlock = some b → w.heap.size ≤ b) ∧ Same w w' := by
 by_cases h : n = 0
 ·subst h
  go_enter Try.func44, Try.ntmps44
  go_wp2
  go_ret
  exact ⟨none, 0, rfl, World.ownsRow_nil _ _ _ _, fun b hb => by simp [Value.ownBlock] at hb, Kept.refl _ _⟩
 ·have h1 : (0 : Int) < (n : Int) := by omega
  go_enter Try.func44, Try.ntmps44
  obtain ⟨i0, hi, hz0, hz1, hz2⟩ := info_parts Try.infoByte'
  go_wp2_with (at_builtin; refine wpList_grow_nil _ rfl (.tmp 20) (.tmp 21) 22 3 rfl 5 i0 (.int .u8 0) 1 .i64 Try.underlying22 Try.underlying3 hi hz0 hz1 rfl (by omega) .i64 n rfl rfl (by omega) (by unfold maxLen; omega) (by rw [hz2]; omega) ?_; intro cap w1 hc1 hc2 ho hg; have HO := (show Hid (w1.ownsRow 0 5 1 (.slice (some ⟨w.heap.size, 0, none⟩) 0 cap) 0 []) from ho); have HG := (show Hid (Same w w1) from Kept.of_grown hg (fun k e => by cases e)); clear ho hg)
  go_ret
  exact ⟨_, _, rfl, HO.out, fun b hb => by simp [Value.ownBlock] at hb; omega, HG.out⟩
theorem growP_any (n : Nat) (w : World) (hn : n ≤ 1073741824) :
  Calls Try.prog 45 #[.slice none 0 0, .int .i64 n] w fun e w' => ∃ a c, e = .returned (.slice a 0 c) ∧ w'.ownsRow 0 45 2 (.slice a 0 c) 0 [] ∧ (∀ b, (Value.slice a 0 c).ownBlock = some b → w.heap.size ≤ b) ∧ Same w w' := by
 by_cases h : n = 0
 ·subst h
  go_enter Try.func45, Try.ntmps45
  go_wp2
  go_ret
  exact ⟨none, 0, rfl, World.ownsRow_nil _ _ _ _, fun b hb => by simp [Value.ownBlock] at hb, Kept.refl _ _⟩
 ·have h1 : (0 : Int) < (n : Int) := by omega
  go_enter Try.func45, Try.ntmps45
  obtain ⟨i0, hi, hz0, hz1, hz2⟩ := info_parts Try.infoSW
  go_wp2_with (at_builtin; refine wpList_grow_nil _ rfl (.tmp 20) (.tmp 21) 28 3 rfl 45 i0 (.agg #[.int .i64 0, .slice none 0 0]) 2 .i64 Try.underlying28 Try.underlying3 hi hz0 hz1 rfl (by omega) .i64 n rfl rfl (by omega) (by unfold maxLen; omega) (by rw [hz2]; omega) ?_; intro cap w1 hc1 hc2 ho hg; have HO := (show Hid (w1.ownsRow 0 45 2 (.slice (some ⟨w.heap.size, 0, none⟩) 0 cap) 0 []) from ho); have HG := (show Hid (Same w w1) from Kept.of_grown hg (fun k e => by cases e)); clear ho hg)
  go_ret
  exact ⟨_, _, rfl, HO.out, fun b hb => by simp [Value.ownBlock] at hb; omega, HG.out⟩
theorem disk_any (B : Nat) (dv pv : Value) (dur : List Int) (ds : List (Int × List Int)) (w : World) (hp : Plat w B dv pv dur ds) (hval : Valid dur.length ds) :
  Calls Try.prog 39 #[.pointer (some ⟨B, 0, none⟩)] w fun e w' => ∃ a n c a' n' c' qs, e = .returned (.agg #[.slice a n c, .slice a' n' c']) ∧ dataP qs = ds ∧
   (∀ b, footD (.slice a n c) (.slice a' n' c') qs b → w.heap.size ≤ b) ∧ OwnD 0 45 5 w' (.slice a n c) (.slice a' n' c') dur qs ∧ Same w w' := by
 obtain ⟨gd, cd, rfl⟩ : ∃ gd cd, dv = .slice (some ⟨gd, 0, none⟩) (dur.length / 512) cd := by
  rcases hp.dur.2 with ⟨_, h⟩ | ⟨g, cap, _, h, _⟩
  ·have := hval.1.2.1; omega
  ·exact ⟨g, cap, h⟩
 obtain ⟨aq, cq, rfl⟩ : ∃ aq cq, pv = .slice aq ds.length cq := by
  rcases hp.pend.2 with ⟨rfl, h⟩ | ⟨g, cap, _, h, _⟩
  ·exact ⟨none, 0, by rw [h]⟩
  ·exact ⟨_, _, h⟩
 have HP : Hid (Plat w B (.slice (some ⟨gd, 0, none⟩) (dur.length / 512) cd) (.slice aq ds.length cq) dur ds) := hp
 have HV : Hid (Valid dur.length ds) := hval
 have hdl : ds.length ≤ 8192 := hval.1.2.2.2
 have hdn : dur.length / 512 ≤ 1024 := hval.1.2.2.1
 obtain ⟨n, hn⟩ : ∃ n, dur.length / 512 = n := ⟨_, rfl⟩
 rw [hn] at HP hdn
 have HN : Hid (dur.length = n * 512) := by have := hval.1.1; unfold Hid; omega
 have hBw : B < w.heap.size := HP.out.box.lt
 have hgw : gd < w.heap.size := (World.ownsRow.lt HP.out.dur gd rfl).2
 clear hp hval hn
 go_enter Try.func39, Try.ntmps39
 go_wp2_with fail
 go_cut [3] (fun v wc => ∃ (B3 cB cP : Nat) (aB aP : Option Addr), v = .pointer (some ⟨B3, 0, none⟩) ∧ Hid (FBox wc B3 (.slice aB 0 cB) (.slice aP 0 cP)) ∧ Hid (w.heap.size < B3 ∧ (∀ b, (Value.slice aB 0 cB).ownBlock = some b → w.heap.size < b ∧ b ≠ B3) ∧ (∀ b, (Value.slice aP 0 cP).ownBlock = some b → w.heap.size < b ∧ b ≠ B3) ∧ Apart (.slice aB 0 cB) (.slice aP 0 cP)) ∧
   Hid (wc.ownsRow 0 5 1 (.slice aB 0 cB) 0 []) ∧ Hid (wc.ownsRow 0 45 2 (.slice aP 0 cP) 0 []) ∧ Hid (FBox wc w.heap.size (.slice none 0 0) (.slice none 0 0)) ∧ Hid (Same w wc))
 case first =>
  have HB2 := (show Hid (FBox (w.alloc (.cells #[.slice none 0 0, .slice none 0 0] 30)) w.heap.size (.slice none 0 0) (.slice none 0 0)) from FBox.new _ _ _ _)
  have hwp : IntKind.i64.wrap ((n : Int) * 512) = (n : Int) * 512 := by rw [IntKind.wrap_i64]; omega
  have hnc : ((n * 512 : Nat) : Int) = (n : Int) * 512 := by omega
  have HNC : Hid (((n * 512 : Nat) : Int) = (n : Int) * 512) := hnc
  obtain ⟨p1, p2, _, _⟩ := HP.out.box.same ((Kept.refl _ _).alloc (.cells #[.slice none 0 0, .slice none 0 0] 30))
  clear hnc
  have hS : (fun w' => w'.cell? ⟨B, 0, none⟩ = some (.slice (some ⟨gd, 0, none⟩) n cd) ∧ w'.cell? ⟨B, 1, none⟩ = some (.slice aq ds.length cq)) (w.alloc (.cells #[.slice none 0 0, .slice none 0 0] 30)).drew := by go_keep
  refine wp_region_V (fun w' => w'.cell? ⟨B, 0, none⟩ = some (.slice (some ⟨gd, 0, none⟩) n cd) ∧ w'.cell? ⟨B, 1, none⟩ = some (.slice aq ds.length cq)) 99 16 rfl (by kernel_rfl) ?_
  refine tk 0 7 hS ?_
  refine tk 1 8 hS ?_
  refine tk 2 9 hS ?_
  refine tk 3 10 hS ?_
  refine tk 4 11 hS ?_
  refine tk 5 12 hS ?_
  refine tk 7 14 hS ?_
  refine tk 8 15 hS ?_
  refine tk 9 16 hS ?_
  refine tk 10 17 hS ?_
  refine tk 11 18 hS ?_
  refine wpAnyV_two (i := 6) (j := 14) (by kernel_rfl) rfl rfl (fun K hK => ?_) (fun K hK => ?_)
  ·go_simp
   have hgB := growB_any (n * 512) (w.alloc (.cells #[.slice none 0 0, .slice none 0 0] 30)).drew (by omega)
   rw [HNC.out] at hgB
   refine hgB.mono ?_
   clear hgB
   rintro e wx ⟨aB, cB, rfl, hoB, hfB, hkB⟩
   have HOB := (show Hid (wx.ownsRow 0 5 1 (.slice aB 0 cB) 0 []) from hoB)
   have HFB := (show Hid (∀ b, (Value.slice aB 0 cB).ownBlock = some b → (w.alloc (.cells #[.slice none 0 0, .slice none 0 0] 30)).drew.heap.size ≤ b ∧ b < wx.heap.size) from fun b hb => ⟨hfB b hb, (World.ownsRow.lt hoB b hb).2⟩)
   have HGwx := (show Hid (Same (w.alloc (.cells #[.slice none 0 0, .slice none 0 0] 30)).drew wx) from hkB)
   have HKwx := (show Hid (Same w wx) from (((Kept.refl (fun _ => False) w).alloc (.cells #[.slice none 0 0, .slice none 0 0] 30)).drew).trans hkB)
   clear hoB hfB hkB
   obtain ⟨ywx1, ywx2, _, _⟩ := HP.out.box.same HKwx.out
   go_wp2_with fail
   have hSwx : (fun w' => w'.cell? ⟨B, 0, none⟩ = some (.slice (some ⟨gd, 0, none⟩) n cd) ∧ w'.cell? ⟨B, 1, none⟩ = some (.slice aq ds.length cq)) wx := by go_keep
   refine hK.out _ _ (fun _ => hSwx) ?_
   clear hK K
   try simp only [Act.put, sA, s0, sS]
   refine wpAnyV_two (i := 12) (j := 14) (by kernel_rfl) rfl rfl (fun K hK => ?_) (fun K hK => ?_)
   ·go_simp
    refine (growP_any ds.length _ (by omega)).mono ?_
    rintro e wy ⟨aP, cP, rfl, hoP, hfP, hkP⟩
    have HOP := (show Hid (wy.ownsRow 0 45 2 (.slice aP 0 cP) 0 []) from hoP)
    have HFP := (show Hid (∀ b, (Value.slice aP 0 cP).ownBlock = some b → wx.heap.size ≤ b ∧ b < wy.heap.size) from fun b hb => ⟨hfP b hb, (World.ownsRow.lt hoP b hb).2⟩)
    have HGwy := (show Hid (Same wx wy) from hkP)
    have HKwy := hid (HKwx.out.trans hkP)
    clear hoP hfP hkP
    obtain ⟨ywy1, ywy2, _, _⟩ := HP.out.box.same HKwy.out
    go_wp2_with fail
    have hSwy : (fun w' => w'.cell? ⟨B, 0, none⟩ = some (.slice (some ⟨gd, 0, none⟩) n cd) ∧ w'.cell? ⟨B, 1, none⟩ = some (.slice aq ds.length cq)) wy := by go_keep
    refine hK.out _ _ (fun _ => hSwy) ?_
    clear hK K
    try simp only [Act.put, sA, s0, sS]
    refine tk 13 20 hSwy ?_
    refine wpAnyV_one (i := 14) (by kernel_rfl) rfl (fun K hK => ?_)
    go_simp
    obtain ⟨wz, hwz⟩ : ∃ wz, wz = (wy.alloc (.cells #[.slice none 0 0, .slice none 0 0] 30)) := ⟨_, rfl⟩
    rw [← hwz]
    have HGwz := (show Hid (Same wy wz) from (by rw [hwz]; exact (Kept.refl _ _).alloc _))
    have HXwz := (show Hid (FBox wz wy.heap.size (.slice none 0 0) (.slice none 0 0)) from (by rw [hwz]; exact FBox.new _ _ _ _))
    have hswz : wz.heap.size = wy.heap.size + 1 := by rw [hwz]; simp
    clear hwz
    have HKwz := hid (HKwy.out.trans HGwz.out)
    obtain ⟨ywz1, ywz2, _, _⟩ := HP.out.box.same HKwz.out
    have hSwz : (fun w' => w'.cell? ⟨B, 0, none⟩ = some (.slice (some ⟨gd, 0, none⟩) n cd) ∧ w'.cell? ⟨B, 1, none⟩ = some (.slice aq ds.length cq)) wz := by go_keep
    refine hK.out _ _ (fun _ => hSwz) ?_
    clear hK K
    try simp only [Act.put, sA, s0, sS]
    have HXL := (show Hid (FBox wz wy.heap.size (.slice none 0 0) (.slice none 0 0)) from (by have h := HXwz.out.same (Kept.refl (fun _ => False) wz); unfold Hid; simpa using h))
    obtain ⟨x1, x2, x3, x4⟩ := HXL.out
    refine wpAnyV_one (i := 15) (by kernel_rfl) rfl (fun K hK => ?_)
    go_simp
    have hk2 : Kept (fun b => b = wy.heap.size) wz ((wz.setCell ⟨wy.heap.size, 0, none⟩ (.slice aB 0 cB)).setCell ⟨wy.heap.size, 1, none⟩ (.slice aP 0 cP)) := Kept.setTwo (Kept.refl (fun b => b = wy.heap.size) _) (.inr rfl) _ _
    have s1 := HKwx.out.size
    have s2 := HGwy.out.size
    have s3 := HGwz.out.size
    have s4 := HXwz.out.lt
    have s0 : w.heap.size + 1 ≤ wx.heap.size := by have h := HGwx.out.size; simpa using h
    have hSz : (fun w' => w'.cell? ⟨B, 0, none⟩ = some (.slice (some ⟨gd, 0, none⟩) n cd) ∧ w'.cell? ⟨B, 1, none⟩ = some (.slice aq ds.length cq)) ((wz.setCell ⟨wy.heap.size, 0, none⟩ (.slice aB 0 cB)).setCell ⟨wy.heap.size, 1, none⟩ (.slice aP 0 cP)) := ⟨hk2.cellOf ywz1 (by show ¬ B = wy.heap.size; omega), hk2.cellOf ywz2 (by show ¬ B = wy.heap.size; omega)⟩
    refine hK.out _ _ (fun _ => hSz) ?_
    clear hK K
    try simp only [Act.put, sA, s0, sS]
    refine wpAnyV_done (by kernel_rfl) ?_
    go_wp2_with fail
    go_meet
    case rel =>
     have e0 : (w.alloc (.cells #[.slice none 0 0, .slice none 0 0] 30)).drew.heap.size = w.heap.size + 1 := by simp
     have fB := fun b (hb : (Value.slice aB 0 cB).ownBlock = some b) => HFB.out b hb
     have fP := fun b (hb : (Value.slice aP 0 cP).ownBlock = some b) => HFP.out b hb
     refine ⟨wy.heap.size, cB, cP, aB, aP, rfl, (HXL.out.set0 _).set1 _, ⟨by omega, fun b hb => ⟨by have := fB b hb; omega, by have := fB b hb; omega⟩, fun b hb => ⟨by have := fP b hb; omega, by have := fP b hb; omega⟩, fun b hb hb' => by have h1 := fB b hb; have h2 := fP b hb'; omega⟩, hk2.owns ((((Kept.refl (fun _ => False) wx).trans HGwy.out).trans HGwz.out).owns HOB.out (fun _ _ => id)) (fun b hb => by have := fB b hb; show ¬ b = wy.heap.size; omega), hk2.owns (((Kept.refl (fun _ => False) wy).trans HGwz.out).owns HOP.out (fun _ _ => id)) (fun b hb => by have := fP b hb; show ¬ b = wy.heap.size; omega), (HB2.out.same ((Kept.refl (fun _ => False) (w.alloc (.cells #[.slice none 0 0, .slice none 0 0] 30))).drew.trans (HGwx.out.trans (HGwy.out.trans HGwz.out)))).kept hk2 (by show ¬ w.heap.size = wy.heap.size; omega), HKwz.out.next hk2 (fun b hb e => by have e' : b = wy.heap.size := e; omega)⟩
   ·go_simp
    obtain ⟨wy, hwy⟩ : ∃ wy, wy = (wx.alloc (.cells #[.slice none 0 0, .slice none 0 0] 30)) := ⟨_, rfl⟩
    rw [← hwy]
    have HGwy := (show Hid (Same wx wy) from (by rw [hwy]; exact (Kept.refl _ _).alloc _))
    have HXwy := (show Hid (FBox wy wx.heap.size (.slice none 0 0) (.slice none 0 0)) from (by rw [hwy]; exact FBox.new _ _ _ _))
    have hswy : wy.heap.size = wx.heap.size + 1 := by rw [hwy]; simp
    clear hwy
    have HKwy := hid (HKwx.out.trans HGwy.out)
    obtain ⟨ywy1, ywy2, _, _⟩ := HP.out.box.same HKwy.out
    have hSwy : (fun w' => w'.cell? ⟨B, 0, none⟩ = some (.slice (some ⟨gd, 0, none⟩) n cd) ∧ w'.cell? ⟨B, 1, none⟩ = some (.slice aq ds.length cq)) wy := by go_keep
    refine hK.out _ _ (fun _ => hSwy) ?_
    clear hK K
    try simp only [Act.put, sA, s0, sS]
    refine wpAnyV_one (i := 12) (by kernel_rfl) rfl (fun K hK => ?_)
    go_simp
    refine (growP_any ds.length _ (by omega)).mono ?_
    rintro e wz ⟨aP, cP, rfl, hoP, hfP, hkP⟩
    have HOP := (show Hid (wz.ownsRow 0 45 2 (.slice aP 0 cP) 0 []) from hoP)
    have HFP := (show Hid (∀ b, (Value.slice aP 0 cP).ownBlock = some b → wy.heap.size ≤ b ∧ b < wz.heap.size) from fun b hb => ⟨hfP b hb, (World.ownsRow.lt hoP b hb).2⟩)
    have HGwz := (show Hid (Same wy wz) from hkP)
    have HKwz := hid (HKwy.out.trans hkP)
    clear hoP hfP hkP
    obtain ⟨ywz1, ywz2, _, _⟩ := HP.out.box.same HKwz.out
    go_wp2_with fail
    have hSwz : (fun w' => w'.cell? ⟨B, 0, none⟩ = some (.slice (some ⟨gd, 0, none⟩) n cd) ∧ w'.cell? ⟨B, 1, none⟩ = some (.slice aq ds.length cq)) wz := by go_keep
    refine hK.out _ _ (fun _ => hSwz) ?_
    clear hK K
    try simp only [Act.put, sA, s0, sS]
    refine tk 13 20 hSwz ?_
    have HXL := (show Hid (FBox wz wx.heap.size (.slice none 0 0) (.slice none 0 0)) from (by have h := HXwy.out.same ((Kept.refl (fun _ => False) wy).trans HGwz.out); unfold Hid; simpa using h))
    obtain ⟨x1, x2, x3, x4⟩ := HXL.out
    refine wpAnyV_one (i := 15) (by kernel_rfl) rfl (fun K hK => ?_)
    go_simp
    have hk2 : Kept (fun b => b = wx.heap.size) wz ((wz.setCell ⟨wx.heap.size, 0, none⟩ (.slice aB 0 cB)).setCell ⟨wx.heap.size, 1, none⟩ (.slice aP 0 cP)) := Kept.setTwo (Kept.refl (fun b => b = wx.heap.size) _) (.inr rfl) _ _
    have s1 := HKwx.out.size
    have s2 := HGwy.out.size
    have s3 := HGwz.out.size
    have s4 := HXwy.out.lt
    have s0 : w.heap.size + 1 ≤ wx.heap.size := by have h := HGwx.out.size; simpa using h
    have hSz : (fun w' => w'.cell? ⟨B, 0, none⟩ = some (.slice (some ⟨gd, 0, none⟩) n cd) ∧ w'.cell? ⟨B, 1, none⟩ = some (.slice aq ds.length cq)) ((wz.setCell ⟨wx.heap.size, 0, none⟩ (.slice aB 0 cB)).setCell ⟨wx.heap.size, 1, none⟩ (.slice aP 0 cP)) := ⟨hk2.cellOf ywz1 (by show ¬ B = wx.heap.size; omega), hk2.cellOf ywz2 (by show ¬ B = wx.heap.size; omega)⟩
    refine hK.out _ _ (fun _ => hSz) ?_
    clear hK K
    try simp only [Act.put, sA, s0, sS]
    refine wpAnyV_done (by kernel_rfl) ?_
    go_wp2_with fail
    go_meet
    case rel =>
     have e0 : (w.alloc (.cells #[.slice none 0 0, .slice none 0 0] 30)).drew.heap.size = w.heap.size + 1 := by simp
     have fB := fun b (hb : (Value.slice aB 0 cB).ownBlock = some b) => HFB.out b hb
     have fP := fun b (hb : (Value.slice aP 0 cP).ownBlock = some b) => HFP.out b hb
     refine ⟨wx.heap.size, cB, cP, aB, aP, rfl, (HXL.out.set0 _).set1 _, ⟨by omega, fun b hb => ⟨by have := fB b hb; omega, by have := fB b hb; omega⟩, fun b hb => ⟨by have := fP b hb; omega, by have := fP b hb; omega⟩, fun b hb hb' => by have h1 := fB b hb; have h2 := fP b hb'; omega⟩, hk2.owns ((((Kept.refl (fun _ => False) wx).trans HGwy.out).trans HGwz.out).owns HOB.out (fun _ _ => id)) (fun b hb => by have := fB b hb; show ¬ b = wx.heap.size; omega), hk2.owns ((Kept.refl (fun _ => False) wz).owns HOP.out (fun _ _ => id)) (fun b hb => by have := fP b hb; show ¬ b = wx.heap.size; omega), (HB2.out.same ((Kept.refl (fun _ => False) (w.alloc (.cells #[.slice none 0 0, .slice none 0 0] 30))).drew.trans (HGwx.out.trans (HGwy.out.trans HGwz.out)))).kept hk2 (by show ¬ w.heap.size = wx.heap.size; omega), HKwz.out.next hk2 (fun b hb e => by have e' : b = wx.heap.size := e; omega)⟩
  ·go_simp
   obtain ⟨wx, hwx⟩ : ∃ wx, wx = ((w.alloc (.cells #[.slice none 0 0, .slice none 0 0] 30)).alloc (.cells #[.slice none 0 0, .slice none 0 0] 30)).drew := ⟨_, rfl⟩
   rw [← hwx]
   have HGwx := (show Hid (Same (w.alloc (.cells #[.slice none 0 0, .slice none 0 0] 30)).drew wx) from (by rw [hwx]; exact (Kept.refl _ _).alloc _))
   have HXwx := (show Hid (FBox wx (w.alloc (.cells #[.slice none 0 0, .slice none 0 0] 30)).drew.heap.size (.slice none 0 0) (.slice none 0 0)) from (by rw [hwx]; exact FBox.new _ _ _ _))
   have hswx : wx.heap.size = (w.alloc (.cells #[.slice none 0 0, .slice none 0 0] 30)).drew.heap.size + 1 := by rw [hwx]; simp
   clear hwx
   have HKwx := (show Hid (Same w wx) from (((Kept.refl (fun _ => False) w).alloc (.cells #[.slice none 0 0, .slice none 0 0] 30)).drew).trans HGwx.out)
   obtain ⟨ywx1, ywx2, _, _⟩ := HP.out.box.same HKwx.out
   have hSwx : (fun w' => w'.cell? ⟨B, 0, none⟩ = some (.slice (some ⟨gd, 0, none⟩) n cd) ∧ w'.cell? ⟨B, 1, none⟩ = some (.slice aq ds.length cq)) wx := by go_keep
   refine hK.out _ _ (fun _ => hSwx) ?_
   clear hK K
   try simp only [Act.put, sA, s0, sS]
   refine wpAnyV_one (i := 6) (by kernel_rfl) rfl (fun K hK => ?_)
   go_simp
   have hgB := growB_any (n * 512) wx (by omega)
   rw [HNC.out] at hgB
   refine hgB.mono ?_
   clear hgB
   rintro e wy ⟨aB, cB, rfl, hoB, hfB, hkB⟩
   have HOB := (show Hid (wy.ownsRow 0 5 1 (.slice aB 0 cB) 0 []) from hoB)
   have HFB := (show Hid (∀ b, (Value.slice aB 0 cB).ownBlock = some b → wx.heap.size ≤ b ∧ b < wy.heap.size) from fun b hb => ⟨hfB b hb, (World.ownsRow.lt hoB b hb).2⟩)
   have HGwy := (show Hid (Same wx wy) from hkB)
   have HKwy := hid (HKwx.out.trans hkB)
   clear hoB hfB hkB
   obtain ⟨ywy1, ywy2, _, _⟩ := HP.out.box.same HKwy.out
   go_wp2_with fail
   have hSwy : (fun w' => w'.cell? ⟨B, 0, none⟩ = some (.slice (some ⟨gd, 0, none⟩) n cd) ∧ w'.cell? ⟨B, 1, none⟩ = some (.slice aq ds.length cq)) wy := by go_keep
   refine hK.out _ _ (fun _ => hSwy) ?_
   clear hK K
   try simp only [Act.put, sA, s0, sS]
   refine wpAnyV_one (i := 12) (by kernel_rfl) rfl (fun K hK => ?_)
   go_simp
   refine (growP_any ds.length _ (by omega)).mono ?_
   rintro e wz ⟨aP, cP, rfl, hoP, hfP, hkP⟩
   have HOP := (show Hid (wz.ownsRow 0 45 2 (.slice aP 0 cP) 0 []) from hoP)
   have HFP := (show Hid (∀ b, (Value.slice aP 0 cP).ownBlock = some b → wy.heap.size ≤ b ∧ b < wz.heap.size) from fun b hb => ⟨hfP b hb, (World.ownsRow.lt hoP b hb).2⟩)
   have HGwz := (show Hid (Same wy wz) from hkP)
   have HKwz := hid (HKwy.out.trans hkP)
   clear hoP hfP hkP
   obtain ⟨ywz1, ywz2, _, _⟩ := HP.out.box.same HKwz.out
   go_wp2_with fail
   have hSwz : (fun w' => w'.cell? ⟨B, 0, none⟩ = some (.slice (some ⟨gd, 0, none⟩) n cd) ∧ w'.cell? ⟨B, 1, none⟩ = some (.slice aq ds.length cq)) wz := by go_keep
   refine hK.out _ _ (fun _ => hSwz) ?_
   clear hK K
   try simp only [Act.put, sA, s0, sS]
   refine tk 13 20 hSwz ?_
   have HXL := (show Hid (FBox wz (w.heap.size + 1) (.slice none 0 0) (.slice none 0 0)) from (by have h := HXwx.out.same (((Kept.refl (fun _ => False) wx).trans HGwy.out).trans HGwz.out); unfold Hid; simpa using h))
   obtain ⟨x1, x2, x3, x4⟩ := HXL.out
   refine wpAnyV_one (i := 15) (by kernel_rfl) rfl (fun K hK => ?_)
   go_simp
   have hk2 : Kept (fun b => b = (w.heap.size + 1)) wz ((wz.setCell ⟨(w.heap.size + 1), 0, none⟩ (.slice aB 0 cB)).setCell ⟨(w.heap.size + 1), 1, none⟩ (.slice aP 0 cP)) := Kept.setTwo (Kept.refl (fun b => b = (w.heap.size + 1)) _) (.inr rfl) _ _
   have s1 := HKwx.out.size
   have s2 := HGwy.out.size
   have s3 := HGwz.out.size
   have s4 := HXwx.out.lt
   have s0 : w.heap.size + 1 ≤ wx.heap.size := by have h := HGwx.out.size; simpa using h
   have hSz : (fun w' => w'.cell? ⟨B, 0, none⟩ = some (.slice (some ⟨gd, 0, none⟩) n cd) ∧ w'.cell? ⟨B, 1, none⟩ = some (.slice aq ds.length cq)) ((wz.setCell ⟨(w.heap.size + 1), 0, none⟩ (.slice aB 0 cB)).setCell ⟨(w.heap.size + 1), 1, none⟩ (.slice aP 0 cP)) := ⟨hk2.cellOf ywz1 (by show ¬ B = (w.heap.size + 1); omega), hk2.cellOf ywz2 (by show ¬ B = (w.heap.size + 1); omega)⟩
   refine hK.out _ _ (fun _ => hSz) ?_
   clear hK K
   try simp only [Act.put, sA, s0, sS]
   refine wpAnyV_done (by kernel_rfl) ?_
   go_wp2_with fail
   go_meet
   case rel =>
    have e0 : (w.alloc (.cells #[.slice none 0 0, .slice none 0 0] 30)).drew.heap.size = w.heap.size + 1 := by simp
    have fB := fun b (hb : (Value.slice aB 0 cB).ownBlock = some b) => HFB.out b hb
    have fP := fun b (hb : (Value.slice aP 0 cP).ownBlock = some b) => HFP.out b hb
    refine ⟨(w.heap.size + 1), cB, cP, aB, aP, rfl, (HXL.out.set0 _).set1 _, ⟨by omega, fun b hb => ⟨by have := fB b hb; omega, by have := fB b hb; omega⟩, fun b hb => ⟨by have := fP b hb; omega, by have := fP b hb; omega⟩, fun b hb hb' => by have h1 := fB b hb; have h2 := fP b hb'; omega⟩, hk2.owns (((Kept.refl (fun _ => False) wy).trans HGwz.out).owns HOB.out (fun _ _ => id)) (fun b hb => by have := fB b hb; show ¬ b = (w.heap.size + 1); omega), hk2.owns ((Kept.refl (fun _ => False) wz).owns HOP.out (fun _ _ => id)) (fun b hb => by have := fP b hb; show ¬ b = (w.heap.size + 1); omega), (HB2.out.same ((Kept.refl (fun _ => False) (w.alloc (.cells #[.slice none 0 0, .slice none 0 0] 30))).drew.trans (HGwx.out.trans (HGwy.out.trans HGwz.out)))).kept hk2 (by show ¬ w.heap.size = (w.heap.size + 1); omega), HKwz.out.next hk2 (fun b hb e => by have e' : b = (w.heap.size + 1) := e; omega)⟩
 case rest =>
  obtain ⟨B3, cB, cP, aB, aP, rfl, HX, HD, HOB, HOP, HB2, HK⟩ := hcut
  obtain ⟨d1, d2, d3, d4⟩ := HD.out
  obtain ⟨u1, u2, _, _⟩ := HP.out.box.same HK.out
  have D2 := (show Hid (∀ b, (Value.slice aB 0 cB).ownBlock = some b → w.heap.size < b ∧ b ≠ B3) from d2)
  have D3 := (show Hid (∀ b, (Value.slice aP 0 cP).ownBlock = some b → w.heap.size < b ∧ b ≠ B3) from d3)
  have D4 := (show Hid (Apart (.slice aB 0 cB) (.slice aP 0 cP)) from d4)
  obtain ⟨i0, hi, hz0, hz1, hz2⟩ := info_parts Try.infoByte'
  obtain ⟨j0, hj, hy0, hy1, hy2⟩ := info_parts Try.infoSW
  clear d2 d3 d4
  go_wp2
  clear u1 u2
  go_loopw [26] (fun i wr => ∃ (k : Nat) (aa : Option Addr) (ca : Nat), k ≤ n ∧ i = .int .i64 k ∧ Hid (FBox wr B3 (.slice aa (k * 512) ca) (.slice aP 0 cP)) ∧ Hid (∀ b, (Value.slice aa (k * 512) ca).ownBlock = some b → w.heap.size < b ∧ b ≠ B3 ∧ (Value.slice aP 0 cP).ownBlock ≠ some b) ∧
    Hid (wr.ownsRow 0 5 1 (.slice aa (k * 512) ca) (k * 512) (vals .u8 (dur.take (k * 512)))) ∧ Hid (wr.ownsRow 0 45 2 (.slice aP 0 cP) 0 []) ∧ Hid (FBox wr w.heap.size (.slice none 0 0) (.slice none 0 0)) ∧ Hid (Same w wr)) (fun i _ => n - (intOf i).toNat)
  case atStart => exact ⟨0, aB, cB, Nat.zero_le _, rfl, HX, fun b hb => ⟨(D2.out b hb).1, (D2.out b hb).2, D4.out b hb⟩, by simpa [vals] using HOB, HOP, HB2, HK⟩
  case round =>
   obtain ⟨k, aa, ca, hk, rfl, HX, HFA, HOr, HOPr, HB2r, HKr⟩ := hrel
   obtain ⟨x1, x2, x3, x4⟩ := HX.out
   by_cases hlt : k < n
   ·obtain ⟨u1, u2, _, _⟩ := HP.out.box.same HKr.out
    have hnn := HN.out
    have HCL : Hid ((vals .u8 ((dur.drop (k * 512)).take 512)).length = 512 * 1) := by unfold Hid; rw [vals_length, List.length_take, List.length_drop]; omega
    have HNW : Hid (∀ j u, (vals .u8 ((dur.drop (k * 512)).take 512))[j]? = some u → wr.drew.cell? ((⟨gd, k * 512, none⟩ : Addr).add j) = some u) := fun j u hju => by
     have hjl : j < 512 := by have := (List.getElem?_eq_some_iff.1 hju).1; have := HCL.out; omega
     have hod := HKr.out.owns HP.out.dur (fun _ _ => id)
     rw [show dur.length / 512 = n from by omega] at hod
     have h := World.ownsRow.cellAt hod (k * 512 + j) (by omega)
     rw [Addr.add_mid]
     show wr.cell? _ = _
     rw [h, ← hju]
     simp [vals, hjl]
    have hki : (k : Int) < (n : Int) := by omega
    have hk0 : (0 : Int) ≤ (k : Int) := by omega
    clear hnn
    go_wp2_with fail
    have hS : (fun w' => w'.cell? ⟨B3, 0, none⟩ = some (.slice aa (k * 512) ca) ∧ w'.cell? ⟨B, 0, none⟩ = some (.slice (some ⟨gd, 0, none⟩) n cd) ∧ w'.frozen? ⟨B3, 0, none⟩ = false) wr.drew := by exact ⟨x1, u1, x3⟩
    refine wp_region_V (fun w' => w'.cell? ⟨B3, 0, none⟩ = some (.slice aa (k * 512) ca) ∧ w'.cell? ⟨B, 0, none⟩ = some (.slice (some ⟨gd, 0, none⟩) n cd) ∧ w'.frozen? ⟨B3, 0, none⟩ = false) 11 12 rfl (by kernel_rfl) ?_
    refine tk 0 29 hS ?_
    refine tk 1 30 hS ?_
    refine tk 2 31 hS ?_
    refine tk 3 32 hS ?_
    refine tk 4 33 hS ?_
    refine tk 5 34 hS ?_
    refine tk 6 35 hS ?_
    refine tk 7 36 hS ?_
    refine tk 8 37 hS ?_
    refine wpAnyV_one (i := 9) (by kernel_rfl) rfl (fun K hK => ?_)
    refine step_append_lies _ (by rfl) (.tmp 30) (.tmp 37) 22 (by rfl) 0 5 i0 _ 1 1 Try.underlying22 hi hz0 hz1 hz2 rfl (by omega) (.slice aa (k * 512) ca) (k * 512) (vals .u8 (dur.take (k * 512))) (by rfl) (by exact HOr.out.drew) ⟨gd, k * 512, none⟩ 512 512 (vals .u8 ((dur.drop (k * 512)).take 512)) (by rfl) HCL.out (by exact HNW.out) vals_one (by omega) (by unfold maxLen; omega) (by omega) (Nat.zero_le _) wr.heap.size (by simp) ?_
    intro g5 cap5 w3 hown5 hgrow5 hat5 hlt5
    simp only [List.getElem_toArray, List.getElem_cons_succ, List.getElem_cons_zero]
    have hk5 : Kept (fun b => (Value.slice aa (k * 512) ca).ownBlock = some b) wr w3 := (Kept.refl _ _).drew.trans (Kept.of_grown hgrow5 (fun k e => e))
    have HK5 := (show Hid (Kept (fun b => (Value.slice aa (k * 512) ca).ownBlock = some b) wr w3) from hk5)
    have HOWN5 := (show Hid (w3.ownsRow 0 5 1 (.slice (some ⟨g5, 0, none⟩) (k * 512 + 512) cap5) (k * 512 + 512) (vals .u8 (dur.take (k * 512)) ++ vals .u8 ((dur.drop (k * 512)).take 512))) from hown5)
    have HAT5 := (show Hid ((Value.slice aa (k * 512) ca).ownBlock = some g5 ∨ g5 = wr.heap.size) from hat5)
    have nB3 : ¬ (Value.slice aa (k * 512) ca).ownBlock = some B3 := (fun e => (HFA.out B3 e).2.1 rfl)
    have nB : ¬ (Value.slice aa (k * 512) ca).ownBlock = some B := (fun e => absurd (HFA.out B e).1 (by omega))
    obtain ⟨y1, _, y3, _⟩ := HX.out.kept hk5 nB3
    obtain ⟨y2, _, _, _⟩ := (HP.out.box.same HKr.out).kept hk5 nB
    clear hown5 hgrow5 hat5 hk5
    have hS4 : (fun w' => w'.cell? ⟨B3, 0, none⟩ = some (.slice aa (k * 512) ca) ∧ w'.cell? ⟨B, 0, none⟩ = some (.slice (some ⟨gd, 0, none⟩) n cd) ∧ w'.frozen? ⟨B3, 0, none⟩ = false) w3 := by exact ⟨y1, y2, y3⟩
    refine hK.out _ _ (fun _ => hS4) ?_
    clear hK K
    try simp only [Act.put, sA, s0, sS]
    refine tk 10 39 hS4 ?_
    refine wpAnyV_one (i := 11) (by kernel_rfl) rfl (fun K hK => ?_)
    go_simp
    refine hK.out _ _ (fun h => absurd rfl h) ?_
    clear hK K
    refine wpAnyV_done (by kernel_rfl) ?_
    try simp only [Act.put, sA, s0, sS]
    have hB3l : B3 < wr.heap.size := HX.out.lt
    have hwl := HKr.out.size
    have hset : Kept (fun b => b = B3) w3 (w3.setCell ⟨B3, 0, none⟩ (.slice (some ⟨g5, 0, none⟩) (k * 512 + 512) cap5)) := Kept.setCell (Kept.refl (fun b => b = B3) w3) (p := ⟨B3, 0, none⟩) (.inr rfl) _
    have HFN := (show Hid (∀ b, (Value.slice (some ⟨g5, 0, none⟩) (k * 512 + 512) cap5).ownBlock = some b → w.heap.size < b ∧ b ≠ B3 ∧ (Value.slice aP 0 cP).ownBlock ≠ some b) from fun b hb => by
     obtain rfl : g5 = b := Option.some.inj hb
     rcases HAT5.out with h | h
     ·exact HFA.out g5 h
     ·exact ⟨by omega, by omega, fun e => by have := (World.ownsRow.lt HOPr.out g5 e).2; omega⟩)
    have HX3 := (show Hid (FBox (w3.setCell ⟨B3, 0, none⟩ (.slice (some ⟨g5, 0, none⟩) (k * 512 + 512) cap5)) B3 (.slice (some ⟨g5, 0, none⟩) (k * 512 + 512) cap5) (.slice aP 0 cP)) from (HX.out.kept HK5.out nB3).set0 _)
    have HO3 := (show Hid (World.ownsRow (w3.setCell ⟨B3, 0, none⟩ (.slice (some ⟨g5, 0, none⟩) (k * 512 + 512) cap5)) 0 5 1 (.slice (some ⟨g5, 0, none⟩) (k * 512 + 512) cap5) (k * 512 + 512) (vals .u8 (dur.take (k * 512 + 512)))) from (by
     have e : vals .u8 (dur.take (k * 512 + 512)) = vals .u8 (dur.take (k * 512)) ++ vals .u8 ((dur.drop (k * 512)).take 512) := by rw [List.take_add]; simp [vals]
     rw [e]
     exact hset.owns HOWN5.out (fun b hb => by obtain rfl : g5 = b := Option.some.inj hb; exact (HFN.out g5 rfl).2.1)))
    have HP3 := (show Hid (World.ownsRow (w3.setCell ⟨B3, 0, none⟩ (.slice (some ⟨g5, 0, none⟩) (k * 512 + 512) cap5)) 0 45 2 (.slice aP 0 cP) 0 []) from hset.owns (HK5.out.owns HOPr.out (fun b hb e => (HFA.out b e).2.2 hb)) (fun b hb => (D3.out b hb).2))
    have HB3 := (show Hid (FBox (w3.setCell ⟨B3, 0, none⟩ (.slice (some ⟨g5, 0, none⟩) (k * 512 + 512) cap5)) w.heap.size (.slice none 0 0) (.slice none 0 0)) from (HB2r.out.kept HK5.out (fun e => absurd (HFA.out _ e).1 (Nat.lt_irrefl _))).kept hset (by show ¬ w.heap.size = B3; omega))
    have HK3 := (show Hid (Same w (w3.setCell ⟨B3, 0, none⟩ (.slice (some ⟨g5, 0, none⟩) (k * 512 + 512) cap5))) from (HKr.out.next HK5.out (fun b hb e => absurd (HFA.out b e).1 (by omega))).next hset (fun b hb e => by have e' : b = B3 := e; omega))
    clear hset hS hS4 x1 x2 x3 x4 u1 u2 y1 y2 y3 hB3l hwl
    go_wp2
    go_roundw
    case rel => exact ⟨k + 1, some ⟨g5, 0, none⟩, cap5, by omega, by go_num, by rw [show (k + 1) * 512 = k * 512 + 512 from by omega]; exact HX3, by rw [show (k + 1) * 512 = k * 512 + 512 from by omega]; exact HFN, by rw [show (k + 1) * 512 = k * 512 + 512 from by omega]; exact HO3, HP3, HB3, HK3⟩
    case measure => simp [intOf]; omega
   ·obtain rfl : k = n := by omega
    obtain ⟨m, hm⟩ : ∃ m, k * 512 = m := ⟨_, rfl⟩
    have hml : m = dur.length := by have := HN.out; omega
    have HOD := (show Hid (wr.ownsRow 0 5 1 (.slice aa m ca) m (vals .u8 dur)) from (by have h := HOr.out; rw [hm, hml, List.take_length] at h; rw [hml]; exact h))
    have HFD := (show Hid (∀ b, (Value.slice aa m ca).ownBlock = some b → w.heap.size < b ∧ b ≠ B3 ∧ (Value.slice aP 0 cP).ownBlock ≠ some b) from (by have h := HFA.out; rw [hm] at h; exact h))
    have HXm := (show Hid (FBox wr B3 (.slice aa m ca) (.slice aP 0 cP)) from (by have h := HX.out; rw [hm] at h; exact h))
    have HML : Hid (m = dur.length) := hml
    obtain ⟨u1, u2, _, _⟩ := HP.out.box.same HKr.out
    obtain ⟨wo, rfl⟩ : ∃ wo : World, wo = wr := ⟨_, rfl⟩
    obtain ⟨ad, rfl⟩ : ∃ ad, ad = aa := ⟨_, rfl⟩
    obtain ⟨cad, rfl⟩ : ∃ cad, cad = ca := ⟨_, rfl⟩
    clear hm hml
    go_wp2
    clear x1 x2 x3 x4 u1 u2
    go_loopw [46] (fun i wr => ∃ (k : Nat) (aa : Option Addr) (ca : Nat) (qs : List PW), k ≤ ds.length ∧ i = .int .i64 k ∧ Hid (qs.length = k) ∧ Hid (dataP qs = ds.take k) ∧ Hid (FBox wr B3 (.slice ad m cad) (.slice aa k ca)) ∧ Hid (∀ b, footP (.slice aa k ca) qs b → w.heap.size < b ∧ b ≠ B3 ∧ (Value.slice ad m cad).ownBlock ≠ some b) ∧
      Hid (OwnP 0 45 5 wr (.slice aa k ca) qs) ∧ Hid (wr.ownsRow 0 5 1 (.slice ad m cad) m (vals .u8 dur)) ∧ Hid (FBox wr w.heap.size (.slice none 0 0) (.slice none 0 0)) ∧ Hid (Same w wr)) (fun i _ => ds.length - (intOf i).toNat)
    case atStart => exact ⟨0, aP, cP, [], Nat.zero_le _, rfl, rfl, rfl, HXm, fun b hb => by
     rcases hb with hb | ⟨p, hp, _⟩
     ·exact ⟨(D3.out b hb).1, (D3.out b hb).2, fun e => (HFD.out b e).2.2 hb⟩
     ·simp at hp, ⟨HOPr.out, fun p hp => by simp at hp, fun p hp => by simp at hp, List.Pairwise.nil⟩, HOD, HB2r, HKr⟩
    case round =>
     obtain ⟨k, aa, ca, qs, hk, rfl, HQL, HQ, HX, HFP, HOQ, HODr, HB2s, HKs⟩ := hrel
     obtain ⟨x1, x2, x3, x4⟩ := HX.out
     by_cases hlt : k < ds.length
     ·obtain ⟨gq, rfl⟩ : ∃ gq, aq = some ⟨gq, 0, none⟩ := by
       rcases HP.out.pend.2 with ⟨h, h0⟩ | ⟨g, cap, _, h, _⟩
       ·omega
       ·simp only [Value.slice.injEq] at h; exact ⟨g, h.1⟩
      obtain ⟨v1, v2, v3⟩ := HV.out.2 ds[k] (List.getElem_mem hlt)
      have hgqw : gq < w.heap.size := (World.ownsRow.lt HP.out.pend gq rfl).2
      have hpr := HKs.out.owns HP.out.pend (fun _ _ => id)
      have hplen : (penCells ds).length = ds.length * 513 := penCells_length ds (fun p hp => (HV.out.2 p hp).2.2)
      have hdrop := penCells_at ds (fun p hp => (HV.out.2 p hp).2.2) k hlt
      have hcell : ∀ j v, (Value.int .i64 ds[k].1 :: (vals .u8 ds[k].2 ++ penCells (ds.drop (k + 1))))[j]? = some v → j < 513 → wr.cell? ⟨gq, k * 513 + j, none⟩ = some v := fun j v hjv hj5 => by
       rw [World.ownsRow.cellAt hpr (k * 513 + j) (by omega), ← hjv, ← hdrop, List.getElem?_drop]
      have q1 : wr.cell? ⟨gq, k * 513, none⟩ = some (.int .i64 ds[k].1) := hcell 0 _ rfl (by omega)
      have HRD := (show Hid (Rd .u8 wr.drew (.slice (some ⟨gq, k * 513 + 1, none⟩) 512 512) ds[k].2) from ⟨by rw [v3]; unfold maxLen; omega, .inr ⟨gq, k * 513 + 1, 512, by rw [v3], by rw [v3]; exact Nat.le_refl _, fun i hi => by
       show wr.cell? _ = _
       rw [Nat.add_assoc]
       refine hcell (1 + i) _ ?_ (by omega)
       rw [show 1 + i = i + 1 from by omega, List.getElem?_cons_succ, List.getElem?_append_left (by rw [vals_length]; exact hi), vals_at _ _ _ hi]⟩⟩)
      have HKO : Hid (∀ wx, Same wr wx → ∀ o, (wx.alloc o).ownsRow 0 45 2 (.slice aa k ca) k (pwCells qs)) := fun wx hx o => by have h := ((HOQ.out.same hx).same ((Kept.refl _ _).alloc o)).row; rwa [HQL.out] at h
      have hm1 : ds[k].2.length ≤ 1099511627776 := by omega
      have hki : (k : Int) < (ds.length : Int) := by omega
      have hk0 : (0 : Int) ≤ (k : Int) := by omega
      obtain ⟨_, u2, _, _⟩ := HP.out.box.same HKs.out
      clear hpr hplen hdrop hcell v1 v2 v3
      go_wp2_with fail
      have hS : (fun w' => w'.cell? ⟨B3, 1, none⟩ = some (.slice aa k ca) ∧ w'.cell? ⟨gq, k * 513, none⟩ = some (.int .i64 ds[k].1) ∧ w'.frozen? ⟨B3, 1, none⟩ = false) wr.drew := by exact ⟨x2, q1, x4⟩
      refine wp_region_V (fun w' => w'.cell? ⟨B3, 1, none⟩ = some (.slice aa k ca) ∧ w'.cell? ⟨gq, k * 513, none⟩ = some (.int .i64 ds[k].1) ∧ w'.frozen? ⟨B3, 1, none⟩ = false) 15 16 rfl (by kernel_rfl) ?_
      refine tk 0 55 hS ?_
      refine tk 1 56 hS ?_
      refine tk 2 57 hS ?_
      refine tk 3 58 hS ?_
      refine tk 4 59 hS ?_
      refine tk 5 60 hS ?_
      refine tk 6 61 hS ?_
      refine tk 7 62 hS ?_
      refine tk 8 63 hS ?_
      refine tk 9 64 hS ?_
      refine wpAnyV_one (i := 10) (by kernel_rfl) rfl (fun K hK => ?_)
      go_simp
      refine (clone_any _ ds[k].2 _ (by omega) (by exact HRD.out)).mono ?_
      rintro e w2 ⟨a4, n4, c4, rfl, ho4, hf4, hk4⟩
      have HK4 := (show Hid (Same wr w2) from (Kept.refl _ _).drew.trans hk4)
      have HO4 := (show Hid (Own 0 5 .u8 w2 (.slice a4 n4 c4) ds[k].2) from ho4)
      have HF4 := (show Hid (∀ b, (Value.slice a4 n4 c4).ownBlock = some b → wr.heap.size ≤ b) from hf4)
      obtain ⟨_, y2, _, y4⟩ := HX.out.same HK4.out
      have y1 := HK4.out.cellOf q1 id
      have zB := (HX.out.same HK4.out).lt
      have zq := World.block_lt_of_cell? w2 _ y1
      have y6 : ∀ o, (w2.alloc o).frozen? ⟨B3, 1, none⟩ = false := fun o => ((HX.out.same HK4.out).next o).2.2.2
      clear ho4 hf4 hk4
      go_wp2_with fail
      have hS2 : (fun w' => w'.cell? ⟨B3, 1, none⟩ = some (.slice aa k ca) ∧ w'.cell? ⟨gq, k * 513, none⟩ = some (.int .i64 ds[k].1) ∧ w'.frozen? ⟨B3, 1, none⟩ = false) w2 := by exact ⟨y2, y1, y4⟩
      refine hK.out _ _ (fun _ => hS2) ?_
      clear hK K
      try simp only [Act.put, sA, s0, sS]
      refine tk 11 66 hS2 ?_
      refine wpAnyV_one (i := 12) (by kernel_rfl) rfl (fun K hK => ?_)
      go_simp
      have hS3 : (fun w' => w'.cell? ⟨B3, 1, none⟩ = some (.slice aa k ca) ∧ w'.cell? ⟨gq, k * 513, none⟩ = some (.int .i64 ds[k].1) ∧ w'.frozen? ⟨B3, 1, none⟩ = false) (w2.alloc (.cells #[.int .i64 ds[k].1, .slice a4 n4 c4] 45)) := by go_keep
      refine hK.out _ _ (fun _ => hS3) ?_
      clear hK K
      try simp only [Act.put, sA, s0, sS]
      refine wpAnyV_one (i := 13) (by kernel_rfl) rfl (fun K hK => ?_)
      refine step_append_lies _ (by rfl) (.tmp 56) (.tmp 67) 28 (by rfl) 0 45 j0 _ 2 32 Try.underlying28 hj hy0 hy1 hy2 rfl (by omega) (.slice aa k ca) k (pwCells qs) (by rfl) (by exact HKO.out w2 HK4.out _) ⟨w2.heap.size, 0, none⟩ 1 1 [.int .i64 ds[k].1, .slice a4 n4 c4] (by rfl) (by rfl) (World.news_of_block (cs := #[.int .i64 ds[k].1, .slice a4 n4 c4]) (t := 45) (fr := (0, 0)) (heap_alloc_new w2 _)) (by simp [Value.oneCell']) (by omega) (by unfold maxLen; omega) (by omega) (Nat.zero_le _) (w2.heap.size + 1) (by simp) ?_
      intro g5 cap5 w3 hown5 hgrow5 hat5 hlt5
      have hk5 : Kept (fun b => (Value.slice aa k ca).ownBlock = some b) w2 w3 := ((Kept.refl _ _).alloc _).trans (Kept.of_grown hgrow5 (fun k e => e))
      have n1 : ¬ (Value.slice aa k ca).ownBlock = some B3 := (fun e => absurd rfl (HFP.out B3 (.inl e)).2.1)
      have n2 : ¬ (Value.slice aa k ca).ownBlock = some gq := (fun e => absurd (HFP.out gq (.inl e)).1 (by omega))
      obtain ⟨_, y11, _, y14⟩ := (HX.out.same HK4.out).kept hk5 n1
      have y12 := hk5.cellOf y1 n2
      have HOWN5 := (show Hid (w3.ownsRow 0 45 2 (.slice (some ⟨g5, 0, none⟩) (k + 1) cap5) (k + 1) (pwCells qs ++ [.int .i64 ds[k].1, .slice a4 n4 c4])) from hown5)
      have HG5 := (show Hid ((w2.alloc (.cells #[.int .i64 ds[k].1, .slice a4 n4 c4] 45)).grownBy w3 (Value.slice aa k ca).ownBlock) from hgrow5)
      have HAT5 := (show Hid ((Value.slice aa k ca).ownBlock = some g5 ∨ g5 = w2.heap.size + 1) from hat5)
      have HK5 := (show Hid (Kept (fun b => (Value.slice aa k ca).ownBlock = some b) w2 w3) from hk5)
      clear hown5 hgrow5 hat5 hk5 n1 n2
      have hS4 : (fun w' => w'.cell? ⟨B3, 1, none⟩ = some (.slice aa k ca) ∧ w'.cell? ⟨gq, k * 513, none⟩ = some (.int .i64 ds[k].1) ∧ w'.frozen? ⟨B3, 1, none⟩ = false) w3 := by exact ⟨y11, y12, y14⟩
      refine hK.out _ _ (fun _ => hS4) ?_
      clear hK K
      try simp only [Act.put, sA, s0, sS]
      refine tk 14 69 hS4 ?_
      refine wpAnyV_one (i := 15) (by kernel_rfl) rfl (fun K hK => ?_)
      go_simp
      refine hK.out _ _ (fun h => absurd rfl h) ?_
      clear hK K
      refine wpAnyV_done (by kernel_rfl) ?_
      try simp only [Act.put, sA, s0, sS]
      have el : w2.heap.size + 1 = (w2.alloc (.cells #[.int .i64 ds[k].1, .slice a4 n4 c4] 45)).heap.size := by simp
      have hrl : B3 < wr.heap.size := HX.out.lt
      have hwr : w.heap.size < wr.heap.size := HB2s.out.lt
      have h2l : wr.heap.size ≤ w2.heap.size := HK4.out.size
      have hsnoc := OwnP.snoc (sec := ds[k].1) (bs := ds[k].2) ((HOQ.out.same HK4.out).same ((Kept.refl _ _).alloc _)) (HO4.out.same ((Kept.refl _ _).alloc _)) (fun b hb hf => by have h1 := HF4.out b hb; have h2 := (HOQ.out.lt b hf).2; omega) HG5.out HOWN5.out HQL.out.symm (by rw [← el]; exact HAT5.out)
      have HN6 : Hid (∀ b, footP (.slice (some ⟨g5, 0, none⟩) (k + 1) cap5) (qs ++ [⟨ds[k].1, .slice a4 n4 c4, ds[k].2⟩]) b → w.heap.size < b ∧ b ≠ B3 ∧ (Value.slice ad m cad).ownBlock ≠ some b) := fun b hb => by
       have hnew : wr.heap.size ≤ b → w.heap.size < b ∧ b ≠ B3 ∧ (Value.slice ad m cad).ownBlock ≠ some b := fun hb' => ⟨by omega, by omega, fun e => absurd (World.ownsRow.lt HODr.out b e).2 (by omega)⟩
       rcases footP_snoc (v := .slice aa k ca) b hb with rfl | hb | hb
       ·rcases HAT5.out with h | h
        ·exact HFP.out _ (.inl h)
        ·exact hnew (by omega)
       ·exact HFP.out b hb
       ·exact hnew (HF4.out b hb)
      have hset := Kept.setCell (Kept.refl (fun b => b = B3) w3) (p := ⟨B3, 1, none⟩) (.inr rfl) (.slice (some ⟨g5, 0, none⟩) (k + 1) cap5)
      have HO6 := (show Hid (OwnP 0 45 5 (w3.setCell ⟨B3, 1, none⟩ (.slice (some ⟨g5, 0, none⟩) (k + 1) cap5)) (.slice (some ⟨g5, 0, none⟩) (k + 1) cap5) (qs ++ [⟨ds[k].1, .slice a4 n4 c4, ds[k].2⟩])) from
       hsnoc.kept hset (fun b hb e => (HN6.out b hb).2.1 e))
      have hrow : ∀ b, (Value.slice aa k ca).ownBlock = some b → w.heap.size < b ∧ b ≠ B3 ∧ (Value.slice ad m cad).ownBlock ≠ some b := fun b e => HFP.out b (.inl e)
      have HX6 : Hid (FBox (w3.setCell ⟨B3, 1, none⟩ (.slice (some ⟨g5, 0, none⟩) (k + 1) cap5)) B3 (.slice ad m cad) (.slice (some ⟨g5, 0, none⟩) (k + 1) cap5)) := ((HX.out.same HK4.out).kept HK5.out (fun e => (hrow _ e).2.1 rfl)).set1 _
      have HD6 := (show Hid (World.ownsRow (w3.setCell ⟨B3, 1, none⟩ (.slice (some ⟨g5, 0, none⟩) (k + 1) cap5)) 0 5 1 (.slice ad m cad) m (vals .u8 dur)) from
       hset.owns (HK5.out.owns (HK4.out.owns HODr.out (fun _ _ => id)) (fun b hb e => (hrow b e).2.2 hb)) (fun b hb => (HFD.out b hb).2.1))
      have HB6 := (show Hid (FBox (w3.setCell ⟨B3, 1, none⟩ (.slice (some ⟨g5, 0, none⟩) (k + 1) cap5)) w.heap.size (.slice none 0 0) (.slice none 0 0)) from ((HB2s.out.same HK4.out).kept HK5.out (fun e => absurd (hrow _ e).1 (Nat.lt_irrefl _))).kept hset (by show ¬ w.heap.size = B3; omega))
      have HK6 := (show Hid (Same w (w3.setCell ⟨B3, 1, none⟩ (.slice (some ⟨g5, 0, none⟩) (k + 1) cap5))) from
       ((HKs.out.trans HK4.out).next HK5.out (fun b hb e => absurd (hrow b e).1 (by omega))).next hset (fun b hb e => by have e' : b = B3 := e; omega))
      clear hsnoc hrow el hset hS hS2 hS3 hS4 y1 y2 y4 y6 y11 y12 y14 x1 x2 x3 x4
      go_wp2
      go_roundw
      case rel =>
       refine ⟨k + 1, some ⟨g5, 0, none⟩, cap5, qs ++ [⟨ds[k].1, .slice a4 n4 c4, ds[k].2⟩], by omega, by go_num, ?_, ?_, HX6, HN6, HO6, HD6, HB6, HK6⟩
       ·have := HQL.out; simp [Hid, this]
       ·have h1 := HQ.out
        unfold Hid
        rw [List.take_succ_eq_append_getElem hlt]
        simp only [dataP, List.map_append] at h1 ⊢
        rw [h1]; rfl
      case measure => simp [intOf]; omega
     ·obtain ⟨p1, p2, p3, p4⟩ := HB2s.out
      have hrl : B3 < wr.heap.size := HX.out.lt
      have hwr : w.heap.size < wr.heap.size := HB2s.out.lt
      go_wp2
      obtain rfl : k = ds.length := by omega
      have hq := HQ.out
      rw [List.take_length] at hq
      have hfr : ∀ b, footD (.slice ad m cad) (.slice aa ds.length ca) qs b → w.heap.size < b := fun b hb => by
       rcases hb with hb | hb
       ·exact (HFD.out b hb).1
       ·exact (HFP.out b hb).1
      have HOM : Own 0 5 .u8 wr (.slice ad m cad) dur := by have h := HODr.out; have e := HML.out; unfold Own; rw [← e]; exact h
      refine bodyPost_ret (v := .agg #[.slice ad m cad, .slice aa ds.length ca]) (by simp [results, Try.results39, go_sem, p1, p2]) rfl ⟨ad, m, cad, aa, ds.length, ca, qs, rfl, hq, fun b hb => Nat.le_of_lt (hfr b hb), ?_, ?_⟩
      ·refine OwnD.kept (R := fun b => b = w.heap.size) ⟨HOM, HOQ.out, fun b hb e => (HFP.out b hb).2.2 e⟩ ?_ (fun b hb e => by have := hfr b hb; omega)
       exact Kept.setTwo (Kept.refl (fun b => b = w.heap.size) _) (.inr rfl) _ _
      ·exact HKs.out.setTwo (.inl (Nat.le_refl _)) _ _
end Go.Proofs.Yteacihpankkhkaa
