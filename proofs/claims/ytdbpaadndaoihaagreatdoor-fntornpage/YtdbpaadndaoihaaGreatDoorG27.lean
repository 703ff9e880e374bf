import Derived.Test.YtdbpaadndaoihaaGreatDoorG26
import Derived.Test.YtdbpaadndaoihaaGreatDoorG25
import Derived.Test.YtdbpaadndaoihaaGreatDoorG01
import Derived.Test.YtdbpaadndaoihaaGreatDoorG23
import Derived.Test.YtdbpaadndaoihaaGreatDoorG02
import Derived.Test.YtdbpaadndaoihaaGreatDoorG12
import Derived.Test.YtdbpaadndaoihaaGreatDoorG24
import Derived.Test.YtdbpaadndaoihaaGreatDoorG09
import Derived.Test.YtdbpaadndaoihaaGreatDoorG03
import Derived.Test.YtdbpaadndaoihaaGreatDoorG07
import Derived.Test.YtdbpaadndaoihaaGreatDoorG08
import Derived.Test.YtdbpaadndaoihaaGreatDoorG06
import Derived.Test.YtdbpaadndaoihaaGreatDoorSetS
namespace Go.Proofs.YtdbpaadndaoihaaGreatDoor
set_option maxRecDepth 100000
set_option maxHeartbeats 8000000
set_option linter.unusedSimpArgs false
set_option linter.unusedVariables false
open Go.RowKit Go
def CanWrite (n : Nat) (s : Int) (bs : List Int) : Prop := 0 ≤ s ∧ s < (n / 512 : Nat) ∧ bs.length = 512
def canWriteDec (n : Nat) (s : Int) (bs : List Int) : Decidable (CanWrite n s bs) := by unfold CanWrite; infer_instance
def writeD (dur : List Int) (ds : List (Int × List Int)) (s : Int) (bs : List Int) : List Int × List (Int × List Int) := @ite _ (CanWrite dur.length s bs) (canWriteDec dur.length s bs) (putD dur ds s bs) (dur, ds)
theorem writeD_valid {dur : List Int} {ds : List (Int × List Int)} {s : Int} {bs : List Int} (h : Valid dur.length ds) : (writeD dur ds s bs).1.length = dur.length ∧ Valid dur.length (writeD dur ds s bs).2 := by
 unfold writeD
 split
 ·rename_i hc; exact putD_valid h hc.1 hc.2.1 hc.2.2
 ·exact ⟨rfl, h⟩
def looks (v : Value) (b : Nat) : Prop := ∃ o n c, v = .slice (some ⟨b, o, none⟩) n c
theorem write_any (B : Nat) (dv pv : Value) (dur : List Int) (ds : List (Int × List Int)) (s : Int) (v : Value) (bs : List Int) (w : World) (hp : Plat w B dv pv dur ds) (hval : Valid dur.length ds) (hv : Rd .u8 w v bs) (hsep : bs ≠ [] → ∀ b, looks v b → b ≠ B ∧ dv.ownBlock ≠ some b ∧ pv.ownBlock ≠ some b) :
  Calls Tryz.prog 78 #[.pointer (some ⟨B, 0, none⟩), .int .i64 s, v] w fun e w' => e = .returned (.tuple #[]) ∧ (∃ pv', Plat w' B dv pv' (writeD dur ds s bs).1 (writeD dur ds s bs).2 ∧ ∀ b, pv'.ownBlock = some b → pv.ownBlock = some b ∨ w.heap.size ≤ b) ∧ Kept (fun b => b = B ∨ dv.ownBlock = some b ∨ pv.ownBlock = some b) w w' := by
 obtain ⟨gd, cd, rfl⟩ : ∃ gd cd, dv = .slice (some ⟨gd, 0, none⟩) (dur.length / 512) cd := by
  rcases hp.dur.2 with ⟨_, h⟩ | ⟨g, cap, _, h, _⟩
  ·have := hval.1.2.1; omega
  ·exact ⟨g, cap, h⟩
 obtain ⟨ap, cp, rfl⟩ : ∃ aq cq, pv = .slice aq ds.length cq := by
  rcases hp.pend.2 with ⟨rfl, h⟩ | ⟨g, cap, _, h, _⟩
  ·exact ⟨none, 0, by rw [h]⟩
  ·exact ⟨_, _, h⟩
 obtain ⟨av, cv, rfl⟩ := hv.form
 have HRV := (show Hid (Rd .u8 w (.slice av bs.length cv) bs) from hv)
 have HSEP := (show Hid (bs ≠ [] → ∀ b, looks (.slice av bs.length cv) b → b ≠ B ∧ (Value.slice (some ⟨gd, 0, none⟩) (dur.length / 512) cd).ownBlock ≠ some b ∧ (Value.slice ap ds.length cp).ownBlock ≠ some b) from hsep)
 have HP := (show Hid (Plat w B (.slice (some ⟨gd, 0, none⟩) (dur.length / 512) cd) (.slice ap ds.length cp) dur ds) from hp)
 have HV : Hid (Valid dur.length ds) := hval
 have hdl : ds.length ≤ 8192 := hval.1.2.2.2
 have hdn : dur.length / 512 ≤ 1024 := hval.1.2.2.1
 have hvl := hv.1
 unfold maxLen at hvl
 obtain ⟨n, hn⟩ : ∃ n, dur.length / 512 = n := ⟨_, rfl⟩
 have HN : Hid (dur.length / 512 = n) := hn
 rw [hn] at HP HSEP hdn ⊢
 clear hp hval hv hsep hn
 have hno : ¬ CanWrite dur.length s bs → writeD dur ds s bs = (dur, ds) := fun h => by unfold writeD; rw [if_neg h]
 have HNO : Hid (¬ CanWrite dur.length s bs → Plat w B (.slice (some ⟨gd, 0, none⟩) n cd) (.slice ap ds.length cp) (writeD dur ds s bs).1 (writeD dur ds s bs).2) := fun h => by rw [hno h]; exact HP.out
 clear hno
 obtain ⟨p1, p2, p3, p4⟩ := HP.out.box
 by_cases hs0 : s < 0
 ·go_enter Tryz.func78, Tryz.ntmps78
  go_wp2
  refine bodyPost_ret (results_none (by rfl) _ _ _) rfl ?_
  exact ⟨rfl, ⟨_, HNO.out (fun h => by have := h.1; omega), fun b hb => .inl hb⟩, Kept.refl _ _⟩
 ·by_cases hs1 : (n : Int) ≤ s
  ·go_enter Tryz.func78, Tryz.ntmps78
   go_wp2
   refine bodyPost_ret (results_none (by rfl) _ _ _) rfl ?_
   exact ⟨rfl, ⟨_, HNO.out (fun h => by have h1 := h.2.1; have := HN.out; omega), fun b hb => .inl hb⟩, Kept.refl _ _⟩
  ·by_cases hbl : bs.length = 512
   case neg =>
    have hb2 : ((bs.length : Int) != 512) = true := by simp; omega
    go_enter Tryz.func78, Tryz.ntmps78
    go_wp2
    refine bodyPost_ret (results_none (by rfl) _ _ _) rfl ?_
    exact ⟨rfl, ⟨_, HNO.out (fun h => hbl h.2.2), fun b hb => .inl hb⟩, Kept.refl _ _⟩
   have hb2 : ((bs.length : Int) != 512) = false := by simp; omega
   obtain ⟨b3, o3, c3, e3, hsrc⟩ : ∃ b3 o3 c3, Value.slice av bs.length cv = .slice (some ⟨b3, o3, none⟩) bs.length c3 ∧ ∀ i, i < bs.length → w.cell? ⟨b3, o3 + i, none⟩ = some (.int .u8 (bs.getD i 0)) := by
    rcases HRV.out.2 with ⟨h, _⟩ | ⟨b3, o3, c3, h, _, hc⟩
    ·simp [h] at hbl
    ·exact ⟨b3, o3, c3, h, hc⟩
   simp only [Value.slice.injEq, true_and] at e3
   obtain ⟨rfl, rfl⟩ := e3
   obtain ⟨s1, s2, s3⟩ := HSEP.out (fun e => by simp [e] at hbl) b3 ⟨o3, _, _, rfl⟩
   have HS := (show Hid (b3 ≠ B ∧ gd ≠ b3 ∧ (Value.slice ap ds.length cp).ownBlock ≠ some b3) from ⟨s1, fun e => s2 (by rw [e]; rfl), s3⟩)
   have HCW : Hid (writeD dur ds s bs = putD dur ds s bs) := by unfold Hid writeD; rw [if_pos ⟨by omega, by have := HN.out; omega, hbl⟩]
   have HB3 : Hid (b3 < w.heap.size) := World.block_lt_of_cell? w _ (hsrc 0 (by omega))
   have hcl : (vals .u8 bs).length = 512 := by rw [vals_length]; exact hbl
   have RGW := (show Hid (w.rangeAt b3 o3 (vals .u8 bs)) from fun j v hj => by
    have hjl : j < bs.length := by have := (List.getElem?_eq_some_iff.1 hj).1; rwa [vals_length] at this
    rw [vals_at _ _ _ hjl] at hj
    rw [← hj]
    exact hsrc j hjl)
   have HBL : Hid (bs.length = 512) := hbl
   clear hbl hsrc s1 s2 s3 HNO
   go_enter Tryz.func78, Tryz.ntmps78
   go_upto_if 27 with fail
   go_cut [29] (fun _ wc => ∃ aq nq cq, Hid (Plat wc B (.slice (some ⟨gd, 0, none⟩) n cd) (.slice aq nq cq) (roomD dur ds).1 (roomD dur ds).2) ∧ Hid (∀ b, (Value.slice aq nq cq).ownBlock = some b → (Value.slice ap ds.length cp).ownBlock = some b) ∧ Hid (Kept (fun b => b = B ∨ gd = b) w wc))
   case first =>
    by_cases hf : 8192 ≤ ds.length
    ·have hfi : (8192 : Int) ≤ (ds.length : Int) := by omega
     have HRO : Hid (roomD dur ds = (settleN (fun _ => true) dur ds ds.length, [])) := by unfold Hid roomD; rw [if_pos (by omega)]
     have HP' := (show Hid (Plat w B (.slice (some ⟨gd, 0, none⟩) n cd) (.slice ap ds.length cp) dur ds) from HP.out)
     clear hf
     go_wp2_with fail
     refine (sync_any B _ _ dur ds _ HP.out HV.out).mono ?_
     rintro e w2 ⟨rfl, hpl, hk⟩
     go_wp2_with fail
     go_meet
     case rel => exact ⟨none, 0, 0, by rw [HRO.out]; exact hpl, fun b hb => by simp [Value.ownBlock] at hb, hk.mono (fun b _ e => e.imp id Option.some.inj)⟩
    ·have hfi : ¬ (8192 : Int) ≤ (ds.length : Int) := by omega
     have HRO : Hid (roomD dur ds = (dur, ds)) := by unfold Hid roomD; rw [if_neg (by omega)]
     clear hf
     go_wp2_with fail
     go_meet
     case rel => exact ⟨ap, ds.length, cp, by rw [HRO.out]; exact HP.out, fun b hb => hb, Kept.refl _ _⟩
   case rest =>
   obtain ⟨aq, nq, cq, HPL, HFQ, HKC⟩ := hcut
   obtain ⟨r1, r2, r3⟩ := roomD_valid HV.out
   have HX := (show Hid (FBox wc B (.slice (some ⟨gd, 0, none⟩) n cd) (.slice aq nq cq)) from HPL.out.box)
   have HSQ := (show Hid ((Value.slice aq nq cq).ownBlock ≠ some b3) from fun e => HS.out.2.2 (HFQ.out _ e))
   have hn3 : ¬ (b3 = B ∨ gd = b3) := fun e => e.elim HS.out.1 HS.out.2.1
   have RG0 := (show Hid (wc.rangeAt b3 o3 (vals .u8 bs)) from fun j v hj => HKC.out.cellOf (RGW.out j v hj) hn3)
   have RG := (show Hid (wc.drew.rangeAt b3 o3 (vals .u8 bs)) from RG0.out)
   have hu91 := Tryz.underlying113
   obtain ⟨j0, hj, hy0, hy1, hy2⟩ := info_parts Tryz.info91
   obtain ⟨i0, hi, hz0, hz1, hz2⟩ := info_parts Tryz.info93
   have hi91 : (Tryz.prog.info? 113).map (·.size) = some (vals .u8 bs).length := by rw [hcl, hj]; simp [hy1]
   have har := fun (wx : World) (ad : Option Addr) (c : Nat) => run_arrayAt wx ad bs.length c (by have := HBL.out; omega)
   have hzc : (Value.agg zeros93).cells.size = 513 := by kernel_rfl
   have HNB : Hid (∀ wx, wx = (wc.drew.alloc (.cells (Value.int .i64 s :: vals .u8 bs).toArray 134)) → ∀ j u, (Value.int .i64 s :: vals .u8 bs)[j]? = some u → wx.cell? ((⟨wc.heap.size, 0, none⟩ : Addr).add j) = some u) := fun wx hx j u hj => by
    have h := World.news_of_block (w := wx) (B := wc.heap.size) (cs := (Value.int .i64 s :: vals .u8 bs).toArray) (t := 134) (fr := (0, 0)) (by rw [hx]; have := heap_alloc_new wc.drew (.cells (Value.int .i64 s :: vals .u8 bs).toArray 134); simpa using this)
    exact h j u (by simpa using hj)
   have HONE : Hid (∀ u ∈ (Value.int .i64 s :: vals .u8 bs), u.oneCell' = true) := fun u hu => by
    rcases List.mem_cons.1 hu with rfl | hu
    ·rfl
    ·exact vals_one u hu
   clear p1 p2 p3 p4
   obtain ⟨_, x2, _, x4⟩ := HX.out
   go_wp2_with fail
   have hS : (fun w' => w'.cell? ⟨B, 1, none⟩ = some (.slice aq nq cq) ∧ w'.frozen? ⟨B, 1, none⟩ = false ∧ w'.rangeAt b3 o3 (vals .u8 bs)) wc.drew := by exact ⟨x2, x4, RG.out⟩
   refine wp_region_V (fun w' => w'.cell? ⟨B, 1, none⟩ = some (.slice aq nq cq) ∧ w'.frozen? ⟨B, 1, none⟩ = false ∧ w'.rangeAt b3 o3 (vals .u8 bs)) 14 15 rfl (by kernel_rfl) ?_
   refine tk 0 30 hS ?_
   refine tk 1 31 hS ?_
   refine tk 2 32 hS ?_
   refine tk 3 33 hS ?_
   refine tk 4 34 hS ?_
   refine tk 5 35 hS ?_
   refine tk 6 36 hS ?_
   refine tk 7 37 hS ?_
   refine wpAnyV_take (i := 8) (v := .agg (vals .u8 bs).toArray) (some 38) rfl rfl (by kernel_rfl) (by kernel_rfl) (by kernel_rfl) (by kernel_rfl) (fun _ _ _ h => h) (yieldsIf_load_mid (by rfl) _ _ rfl _ _ rfl _ _ (fun w hSw => by (try dsimp (config := { zetaDelta := true }) only at hSw); exact hSw.2.2) hu91 rfl hi91) hS ?_
   try simp only [Act.put, sA, s0, sS]
   refine wpAnyV_take (i := 9) (v := .agg (Value.int .i64 s :: vals .u8 bs).toArray) (some 39) rfl rfl (by kernel_rfl) (by kernel_rfl) (by kernel_rfl) (by kernel_rfl) (fun _ _ _ h => h) (yields_build93 (by rfl) _ _ rfl s (vals .u8 bs) (by rfl) (by rfl) hcl) hS ?_
   try simp only [Act.put, sA, s0, sS]
   refine wpAnyV_one (i := 10) (by kernel_rfl) rfl (fun K hK => ?_)
   refine step_row93 (by rfl) (.tmp 39) (by rfl) (Value.int .i64 s :: vals .u8 bs) (by rfl) (by rw [List.length_cons, hcl]) wc.heap.size (by simp) ?_
   simp only [List.getElem_toArray, List.getElem_cons_succ, List.getElem_cons_zero]
   obtain ⟨wb, hwb⟩ : ∃ wb, wb = (wc.drew.alloc (.cells (Value.int .i64 s :: vals .u8 bs).toArray 134)) := ⟨_, rfl⟩
   have HWB := (show Hid (wb = (wc.drew.alloc (.cells (Value.int .i64 s :: vals .u8 bs).toArray 134))) from hwb)
   rw [← hwb]
   clear hwb
   have HKB := (show Hid (Same wc wb) from (by rw [HWB.out]; exact (Kept.refl _ _).drew.alloc _))
   have hbs : wb.heap.size = wc.heap.size + 1 := by rw [HWB.out]; simp
   obtain ⟨_, y2, _, y4⟩ := HX.out.same HKB.out
   have RGB := (show Hid (wb.rangeAt b3 o3 (vals .u8 bs)) from fun j v hj => HKB.out.cellOf (RG0.out j v hj) id)
   have hS2 : (fun w' => w'.cell? ⟨B, 1, none⟩ = some (.slice aq nq cq) ∧ w'.frozen? ⟨B, 1, none⟩ = false ∧ w'.rangeAt b3 o3 (vals .u8 bs)) wb := by exact ⟨y2, y4, RGB.out⟩
   refine hK.out _ _ (fun _ => hS2) ?_
   clear hK K
   try simp only [Act.put, sA, s0, sS]
   refine wpAnyV_one (i := 11) (by kernel_rfl) rfl (fun K hK => ?_)
   refine step_append_lies _ (by rfl) (.tmp 34) (.tmp 40) 130 (by rfl) 0 134 i0 _ 513 520 Tryz.underlying130 hi hz0 hz1 hz2 hzc (by omega) (.slice aq nq cq) (roomD dur ds).2.length (penCells (roomD dur ds).2) (by rfl) (by exact HKB.out.owns HPL.out.pend (fun _ _ => id)) ⟨wc.heap.size, 0, none⟩ 1 1 (Value.int .i64 s :: vals .u8 bs) (by rfl) (by rw [List.length_cons, hcl]) (by exact HNB.out wb HWB.out) (by exact HONE.out) (by omega) (by unfold maxLen; omega) (by omega) (Nat.zero_le _) (wc.heap.size + 1) hbs ?_
   intro g5 cap5 w3 hown5 hgrow5 hat5 hlt5
   simp only [List.getElem_toArray, List.getElem_cons_succ, List.getElem_cons_zero]
   have hk5 : Kept (fun b => (Value.slice aq nq cq).ownBlock = some b) wb w3 := Kept.of_grown hgrow5 (fun k e => e)
   have HK5 := (show Hid (Kept (fun b => (Value.slice aq nq cq).ownBlock = some b) wb w3) from hk5)
   have HOWN5 := (show Hid (w3.ownsRow 0 134 513 (.slice (some ⟨g5, 0, none⟩) ((roomD dur ds).2.length + 1) cap5) ((roomD dur ds).2.length + 1) (penCells (roomD dur ds).2 ++ (Value.int .i64 s :: vals .u8 bs))) from hown5)
   have HAT5 : Hid ((Value.slice aq nq cq).ownBlock = some g5 ∨ g5 = wc.heap.size + 1) := hat5
   obtain ⟨_, y12, _, y14⟩ := (HX.out.same HKB.out).kept hk5 (fun e => HPL.out.a2 e)
   have RG5 := (show Hid (w3.rangeAt b3 o3 (vals .u8 bs)) from fun j v hj => hk5.cellOf (RGB.out j v hj) (fun e => HSQ.out e))
   clear hown5 hgrow5 hat5 hk5
   have hS4 : (fun w' => w'.cell? ⟨B, 1, none⟩ = some (.slice aq nq cq) ∧ w'.frozen? ⟨B, 1, none⟩ = false ∧ w'.rangeAt b3 o3 (vals .u8 bs)) w3 := by exact ⟨y12, y14, RG5.out⟩
   refine hK.out _ _ (fun _ => hS4) ?_
   clear hK K
   try simp only [Act.put, sA, s0, sS]
   refine wpAnyV_one (i := 12) (by kernel_rfl) rfl (fun K hK => ?_)
   go_simp
   refine hK.out _ _ (fun _ => hS4) ?_
   clear hK K
   try simp only [Act.put, sA, s0, sS]
   refine wpAnyV_one (i := 13) (by kernel_rfl) rfl (fun K hK => ?_)
   go_simp
   refine hK.out _ _ (fun _ => hS4) ?_
   clear hK K
   try simp only [Act.put, sA, s0, sS]
   refine wpAnyV_one (i := 14) (by kernel_rfl) rfl (fun K hK => ?_)
   go_simp
   refine hK.out _ _ (fun h => absurd rfl h) ?_
   clear hK K
   refine wpAnyV_done (by kernel_rfl) ?_
   try simp only [Act.put, sA, s0, sS]
   have hB : B < wc.heap.size := HX.out.lt
   have hset := Kept.setCell (Kept.refl (fun b => b = B) w3) (p := ⟨B, 1, none⟩) (.inr rfl) (.slice (some ⟨g5, 0, none⟩) ((roomD dur ds).2.length + 1) cap5)
   have HX3 := (show Hid (FBox (w3.setCell ⟨B, 1, none⟩ (.slice (some ⟨g5, 0, none⟩) ((roomD dur ds).2.length + 1) cap5)) B (.slice (some ⟨gd, 0, none⟩) n cd) (.slice (some ⟨g5, 0, none⟩) ((roomD dur ds).2.length + 1) cap5)) from ((HX.out.same HKB.out).kept HK5.out (fun e => HPL.out.a2 e)).set1 _)
   have hgd := World.ownsRow.lt HPL.out.dur gd rfl
   have hg5 : g5 ≠ B ∧ g5 ≠ gd ∧ ((Value.slice ap ds.length cp).ownBlock = some g5 ∨ w.heap.size ≤ g5) := by
    rcases HAT5.out with h | h
    ·exact ⟨fun e => HPL.out.a2 (e ▸ h), fun e => HPL.out.a3 gd rfl (e ▸ h), .inl (HFQ.out _ h)⟩
    ·have := HKC.out.size; exact ⟨by omega, by omega, .inr (by omega)⟩
   have HG5 := (show Hid (g5 ≠ B ∧ g5 ≠ gd ∧ ((Value.slice ap ds.length cp).ownBlock = some g5 ∨ w.heap.size ≤ g5)) from hg5)
   have hdur := HPL.out.dur
   rw [r1, HN.out] at hdur
   have HD3 := (show Hid (World.ownsRow (w3.setCell ⟨B, 1, none⟩ (.slice (some ⟨g5, 0, none⟩) ((roomD dur ds).2.length + 1) cap5)) 0 113 512 (.slice (some ⟨gd, 0, none⟩) n cd) n (vals .u8 (roomD dur ds).1)) from
    hset.owns (HK5.out.owns (HKB.out.owns hdur (fun _ _ => id)) (fun b hb e => HPL.out.a3 b hb e)) (fun b hb e => HPL.out.a1 (by rw [hb, e])))
   have HP3 := (show Hid (World.ownsRow (w3.setCell ⟨B, 1, none⟩ (.slice (some ⟨g5, 0, none⟩) ((roomD dur ds).2.length + 1) cap5)) 0 134 513 (.slice (some ⟨g5, 0, none⟩) ((roomD dur ds).2.length + 1) cap5) ((roomD dur ds).2.length + 1) (penCells (putD dur ds s bs).2)) from (by
    have e : penCells (putD dur ds s bs).2 = penCells (roomD dur ds).2 ++ (Value.int .i64 s :: vals .u8 bs) := by
     unfold putD
     rw [penCells_append]
     simp [penCells]
    rw [e]
    exact hset.owns HOWN5.out (fun b hb => by have e : b = g5 := (Option.some.inj hb).symm; show ¬ b = B; have := HG5.out.1; omega)))
   have HK3 := (show Hid (Kept (fun b => b = B ∨ (Value.slice (some ⟨gd, 0, none⟩) n cd).ownBlock = some b ∨ (Value.slice ap ds.length cp).ownBlock = some b) w (w3.setCell ⟨B, 1, none⟩ (.slice (some ⟨g5, 0, none⟩) ((roomD dur ds).2.length + 1) cap5))) from
    ((((HKC.out.mono (fun b _ e => e.imp id (fun h => Or.inl (by rw [h]; rfl)))).trans (HKB.out.mono (fun _ _ h => h.elim))).trans (HK5.out.mono (fun b _ e => .inr (.inr (HFQ.out b e))))).trans (hset.mono (fun b _ e => .inl e))))
   clear hset hg5 hgd hdur hS hS2 hS4 y2 y4 y12 y14 x2 x4
   go_wp2
   go_end0
   refine ⟨rfl, ⟨.slice (some ⟨g5, 0, none⟩) ((roomD dur ds).2.length + 1) cap5, ?_, fun b hb => ?_⟩, HK3.out⟩
   ·rw [HCW.out]
    refine ⟨HX3.out, ?_, ?_, HPL.out.a1, fun e => HG5.out.1 (Option.some.inj e), fun b hb e => HG5.out.2.1 ((Option.some.inj e).trans (Option.some.inj hb).symm)⟩
    ·have h := HD3.out
     have e : (putD dur ds s bs).1 = (roomD dur ds).1 := rfl
     rw [e, r1, HN.out]
     exact h
    ·have e : (putD dur ds s bs).2.length = (roomD dur ds).2.length + 1 := by simp [putD]
     rw [e]
     exact HP3.out
   ·obtain rfl : g5 = b := Option.some.inj hb
    exact HG5.out.2.2
theorem Rd.looks_lt {k : IntKind} {w : World} {v : Value} {bs : List Int} (h : Rd k w v bs) (hb : bs ≠ []) {b : Nat} (hl : looks v b) : b < w.heap.size := by
 obtain ⟨o, n, c, rfl⟩ := hl
 rcases h.2 with ⟨h0, _⟩ | ⟨b', off, c', e, _, hc⟩
 ·exact absurd h0 hb
 ·simp only [Value.slice.injEq, Option.some.injEq, Addr.mk.injEq, and_true] at e
  obtain ⟨⟨rfl, rfl⟩, _⟩ := e
  exact World.block_lt_of_cell? w _ (hc 0 (by cases bs with | nil => exact absurd rfl hb | cons _ _ => simp))
def doD (dur : List Int) (ds : List (Int × List Int)) (op : Int × Int × List Int) : List Int × List (Int × List Int) :=
 if op.1 = 2 then (settleN (fun _ => true) dur ds ds.length, []) else if op.1 = 1 then writeD dur ds op.2.1 op.2.2 else (dur, ds)
theorem doD_valid {dur : List Int} {ds : List (Int × List Int)} {op : Int × Int × List Int} (h : Valid dur.length ds) : (doD dur ds op).1.length = dur.length ∧ Valid dur.length (doD dur ds op).2 := by
 unfold doD
 by_cases h1 : op.1 = 2
 ·rw [if_pos h1]
  exact ⟨settleN_length _ _ _ h _ (Nat.le_refl _), ⟨h.1.1, h.1.2.1, h.1.2.2.1, by simp⟩, fun p hp => by simp at hp⟩
 rw [if_neg h1]
 by_cases h2 : op.1 = 1
 ·rw [if_pos h2]; exact writeD_valid h
 ·rw [if_neg h2]; exact ⟨rfl, h⟩
theorem Plat.kept {R : Nat → Prop} {w w' : World} {B : Nat} {dv pv : Value} {dur : List Int} {ds : List (Int × List Int)} (h : Plat w B dv pv dur ds) (hk : Kept R w w') (hB : ¬ R B) (hd : ∀ b, dv.ownBlock = some b → ¬ R b) (hp : ∀ b, pv.ownBlock = some b → ¬ R b) : Plat w' B dv pv dur ds :=
 ⟨h.box.kept hk hB, hk.owns h.dur hd, hk.owns h.pend hp, h.a1, h.a2, h.a3⟩
theorem Plat.same {w w' : World} {B : Nat} {dv pv : Value} {dur : List Int} {ds : List (Int × List Int)} (h : Plat w B dv pv dur ds) (hk : Same w w') : Plat w' B dv pv dur ds := h.kept hk id (fun _ _ => id) (fun _ _ => id)
theorem doOp_any (B : Nat) (dv pv : Value) (dur : List Int) (ds : List (Int × List Int)) (kind sec : Int) (v : Value) (bs : List Int) (w : World) (hp : Plat w B dv pv dur ds) (hval : Valid dur.length ds) (hv : Rd .u8 w v bs) (hsep : bs ≠ [] → ∀ b, looks v b → b ≠ B ∧ dv.ownBlock ≠ some b ∧ pv.ownBlock ≠ some b) :
  Calls Tryz.prog 46 #[.pointer (some ⟨B, 0, none⟩), .agg #[.int .i64 kind, .int .i64 sec, v]] w fun e w' => e = .returned (.tuple #[]) ∧ (∃ pv', Plat w' B dv pv' (doD dur ds (kind, sec, bs)).1 (doD dur ds (kind, sec, bs)).2 ∧ ∀ b, pv'.ownBlock = some b → pv.ownBlock = some b ∨ w.heap.size ≤ b) ∧ Kept (fun b => b = B ∨ dv.ownBlock = some b ∨ pv.ownBlock = some b) w w' := by
 obtain ⟨av, cv, rfl⟩ := hv.form
 have hka : Same w (w.alloc (.cells #[.int .i64 kind, .int .i64 sec, .slice av bs.length cv] 95)) := (Kept.refl _ _).alloc _
 have hb : Blk (w.alloc (.cells #[.int .i64 kind, .int .i64 sec, .slice av bs.length cv] 95)) w.heap.size 95 [.int .i64 kind, .int .i64 sec, .slice av bs.length cv] := Blk.newL w [.int .i64 kind, .int .i64 sec, .slice av bs.length cv] 95
 have kw := write_any B dv pv dur ds sec (.slice av bs.length cv) bs _ (hp.same hka) hval (hv.same hka) hsep
 have ks := sync_any B dv pv dur ds _ (hp.same hka) hval
 have HP := hid hp
 have HKA := hid hka
 obtain ⟨o0, o1, o2⟩ := hb.all3
 clear hp hv hsep hka hb
 by_cases k1 : kind = 1
 ·subst k1
  have HT : Hid (doD dur ds (1, sec, bs) = writeD dur ds sec bs) := by unfold Hid doD; rw [if_neg (by simp), if_pos rfl]
  clear ks
  go_enter Tryz.func46, Tryz.ntmps46
  go_wp2_with fail
  refine kw.mono ?_
  rintro e w1 ⟨rfl, ⟨pv', hp', hn'⟩, hk'⟩
  have H1 := hid hp'
  have H2 := hid hn'
  have H3 := hid hk'
  clear hp' hn' hk' kw
  go_wp2
  first | go_end0 | skip
  refine ⟨rfl, ⟨pv', by rw [HT.out]; exact H1.out, fun b hb => ?_⟩, (HKA.out.mono (fun _ _ e => e.elim)).next H3.out (fun i hi e => e)⟩
  rcases H2.out b hb with h | h
  ·exact .inl h
  ·simp only [World.size_alloc] at h
   exact .inr (by omega)
 by_cases k2 : kind = 2
 ·subst k2
  have HT : Hid (doD dur ds (2, sec, bs) = (settleN (fun _ => true) dur ds ds.length, [])) := if_pos rfl
  clear kw
  go_enter Tryz.func46, Tryz.ntmps46
  go_wp2_with fail
  refine ks.mono ?_
  rintro e w1 ⟨rfl, hp', hk'⟩
  have H1 := hid hp'
  have H3 := hid hk'
  clear hp' hk' ks
  go_wp2
  first | go_end0 | skip
  refine ⟨rfl, ⟨.slice none 0 0, by rw [HT.out]; exact H1.out, fun b hb => by simp [Value.ownBlock] at hb⟩, (HKA.out.mono (fun _ _ e => e.elim)).next H3.out (fun i hi e => by rcases e with e | e; exact .inl e; exact .inr (.inl e))⟩
 ·have HT : Hid (doD dur ds (kind, sec, bs) = (dur, ds)) := by unfold Hid doD; rw [if_neg k2, if_neg k1]
  clear kw ks
  go_enter Tryz.func46, Tryz.ntmps46
  go_wp2
  first | go_end0 | skip
  exact ⟨rfl, ⟨pv, by rw [HT.out]; exact HP.out.same HKA.out, fun b hb => .inl hb⟩, HKA.out.mono (fun _ _ e => e.elim)⟩
def usedO (limit : Int) (n : Nat) : Nat := if 0 ≤ limit ∧ limit < (n : Int) then limit.toNat else n
theorem usedO_le (limit : Int) (n : Nat) : usedO limit n ≤ n := by
 unfold usedO
 split
 ·omega
 ·exact Nat.le_refl _
def runD (dur : List Int) (ds : List (Int × List Int)) (ops : List (Int × Int × List Int)) : List Int × List (Int × List Int) := ops.foldl (fun x o => doD x.1 x.2 o) (dur, ds)
theorem runD_step {dur : List Int} {ds : List (Int × List Int)} {ops : List (Int × Int × List Int)} {k : Nat} (h : k < ops.length) : runD dur ds (ops.take (k + 1)) = doD (runD dur ds (ops.take k)).1 (runD dur ds (ops.take k)).2 ops[k] := by
 unfold runD
 rw [List.take_succ_eq_append_getElem h, List.foldl_append]
 rfl
theorem runD_valid {dur : List Int} {ds : List (Int × List Int)} (h : Valid dur.length ds) (ops : List (Int × Int × List Int)) : ∀ k, k ≤ ops.length → (runD dur ds (ops.take k)).1.length = dur.length ∧ Valid dur.length (runD dur ds (ops.take k)).2 := by
 intro k
 induction k with
 | zero => intro _; exact ⟨rfl, h⟩
 | succ k ih =>
  intro hk
  obtain ⟨h1, h2⟩ := ih (by omega)
  rw [runD_step (by omega)]
  have := doD_valid (op := ops[k]) (show Valid (runD dur ds (ops.take k)).1.length (runD dur ds (ops.take k)).2 from by rw [h1]; exact h2)
  rw [h1] at this
  exact this
structure IsRun (limit : Int) (dur : List Int) (ds : List (Int × List Int)) (ops : List (Int × Int × List Int)) (r : List Int) (qs : List (Int × List Int)) : Prop where
 yes : Valid dur.length ds → (r, qs) = runD dur ds (ops.take (usedO limit ops.length))
 no : ¬ Valid dur.length ds → r = dur ∧ qs = ds
theorem IsRun.one {limit : Int} {dur : List Int} {ds : List (Int × List Int)} {ops : List (Int × Int × List Int)} {r r' : List Int} {qs qs' : List (Int × List Int)} (h : IsRun limit dur ds ops r qs) (h' : IsRun limit dur ds ops r' qs') : r = r' ∧ qs = qs' := by
 by_cases hv : Valid dur.length ds
 ·have := (h.yes hv).trans (h'.yes hv).symm
  simp only [Prod.mk.injEq] at this
  exact this
 ·obtain ⟨e1, e2⟩ := h.no hv
  obtain ⟨e3, e4⟩ := h'.no hv
  exact ⟨e1.trans e3.symm, e2.trans e4.symm⟩
def allO (limit : Int) (n : Nat) : Bool := decide (usedO limit n = n)
theorem chunk_part (bs : List Int) (i : Nat) : chunkP bs i = parT bs i := rfl
theorem run_page {dur bs : List Int} {F : Nat} (hl : bs.length = 4096) (hh : dur.length % 512 = 0 ∧ 1 ≤ dur.length / 512 ∧ dur.length / 512 ≤ 1024) (hF : F + 8 ≤ dur.length / 512) : ∀ k, k ≤ 8 → runD dur [] ((pgOpsK (F : Int) bs 8).take k) = (dur, wrT (F : Int) bs k)
 | 0, _ => by simp [runD, wrT]
 | k + 1, h => by
  have hlen : (pgOpsK (F : Int) bs 8).length = 8 := by simp [pgOpsK]
  rw [runD_step (by rw [hlen]; omega), run_page hl hh hF k (by omega), wrT_succ]
  have hop : (pgOpsK (F : Int) bs 8)[k]'(by rw [hlen]; omega) = (1, (F : Int) + (k : Int), parT bs k) := by
   simp [pgOpsK, chunk_part]
  rw [hop]
  unfold doD
  rw [if_neg (by show ¬ ((1 : Int) = 2); decide), if_pos rfl]
  unfold writeD
  rw [if_pos ⟨by show 0 ≤ (F : Int) + (k : Int); omega, by show (F : Int) + (k : Int) < ((dur.length / 512 : Nat) : Int); omega, parT_length hl (by omega)⟩]
  unfold putD roomD
  rw [if_neg (by rw [wrT_length]; omega)]
theorem secB_lay {xs bs : List Int} {F i : Nat} (hl : bs.length = 4096) (hx : F * 512 + 4096 ≤ xs.length) (hi : i < 8) : secB (layI xs (F * 512) bs) (F + i) = parT bs i := by
 unfold secB parT layI
 have h1 : (xs.take (F * 512)).length = F * 512 := by rw [List.length_take]; omega
 rw [List.drop_append, List.drop_of_length_le (by omega), h1, List.nil_append, show (F + i) * 512 - F * 512 = 512 * i from by omega, List.drop_append, List.take_append_of_le_length (by rw [List.length_drop]; omega)]
theorem pgT_lay {xs bs : List Int} {F : Nat} (hl : bs.length = 4096) (hx : F * 512 + 4096 ≤ xs.length) : pgT F (layI xs (F * 512) bs) = bs := by
 unfold pgT
 rw [join_all _ (parT bs) 8 (fun i hi => secB_lay hl hx hi), page_parts hl]
theorem pgB_pgT (F : Nat) (dur : List Int) : pgB (F : Int) dur [] = pgT F dur := by
 unfold pgB pgT
 refine join_all _ _ 8 (fun i hi => ?_)
 show (dur.drop (((F : Int) + (i : Int)).toNat * 512)).take 512 = (dur.drop ((F + i) * 512)).take 512
 rw [show ((F : Int) + (i : Int)).toNat = F + i from by omega]
theorem geo242 : geoF 2 3 42 = 0 := by kernel_rfl
theorem dsk242 : dskN 2 3 42 = 60 := by kernel_rfl
theorem fmt_len : (fmtD 2 3 42).length = 30720 := by
 unfold fmtD
 rw [if_pos geo242]
 have e0 : (List.replicate ((2 + 42 + 2 * 8 : Int).toNat * 512) (0 : Int)).length = 30720 := List.length_replicate
 have e1 : (layI (List.replicate ((2 + 42 + 2 * 8 : Int).toNat * 512) (0 : Int)) 0 (encM 1 1 512 512)).length = 30720 := by rw [layI_length _ _ _ (by rw [e0, encM1_len]; omega), e0]
 have e2 : (layI (layI (List.replicate ((2 + 42 + 2 * 8 : Int).toNat * 512) (0 : Int)) 0 (encM 1 1 512 512)) 1024 ckB).length = 30720 := by rw [layI_length _ _ _ (by rw [e1, ckB_len]; omega), e1]
 rw [fmtP_length 42 _ (by decide) 2 (by decide) (by rw [e2]; rfl) _ (by decide), e2]
theorem fmt_page : pgT 52 (fmtD 2 3 42) = pageNew 1 := by
 have h := fmt_len
 unfold fmtD at h ⊢
 rw [if_pos geo242] at h ⊢
 rw [show (2 : Int).toNat = 1 + 1 from rfl, fmtP] at h ⊢
 rw [show (2 + 42 + ((1 : Nat) : Int) * 8 : Int).toNat * 512 = 52 * 512 from rfl] at h ⊢
 rw [layI_length _ _ _ ?_] at h
 ·exact pgT_lay (pageNew_len 1 (by decide)) (by rw [h]; decide)
 ·have e0 : (List.replicate ((2 + 42 + 2 * 8 : Int).toNat * 512) (0 : Int)).length = 30720 := List.length_replicate
  have e1 : (layI (List.replicate ((2 + 42 + 2 * 8 : Int).toNat * 512) (0 : Int)) 0 (encM 1 1 512 512)).length = 30720 := by rw [layI_length _ _ _ (by rw [e0, encM1_len]; omega), e0]
  have e2 : (layI (layI (List.replicate ((2 + 42 + 2 * 8 : Int).toNat * 512) (0 : Int)) 0 (encM 1 1 512 512)) 1024 ckB).length = 30720 := by rw [layI_length _ _ _ (by rw [e1, ckB_len]; omega), e1]
  rw [fmtP_length 42 _ (by decide) 2 (by decide) (by rw [e2]; rfl) 1 (by decide), e2, pageNew_len 1 (by decide)]
  decide
theorem new_one : GoodB (pageNew 1) ∧ numAt (pageNew 1) 12 4 = 1 ∧ pageWhole (pageNew 1) = true ∧ pageLSN (pageNew 1) = 0 := by
 refine ⟨good_new 1 (by decide) (by decide), ?_, ?_, ?_⟩
 ·kernel_rfl
 ·kernel_rfl
 ·kernel_rfl
structure FrX (w : World) (fa : Option Addr) (fn fc : Nat) (ps : List StLogFrame) : Prop where
 own : w.ownsRow 0 51 16 (.slice fa fn fc) fn (kFr.all ps)
 len : fn = ps.length
 data : ∀ p ∈ ps, ∀ w', Kept (fun b => (Value.slice fa fn fc).ownBlock = some b) w w' → StLogFrame.rd w' p
theorem ownR_fr {w : World} {v : Value} {qs : List StLogFrame} (h : w.ownsRow 0 51 16 v qs.length (kFr.all qs)) : OwnR kFr 0 51 5 w v qs :=
 ⟨h, fun p _ => Own.nil 0 _ .u8 w, fun u hu b hb e => by
  obtain ⟨p, _, rfl⟩ := List.mem_map.1 hu
  simp [kFr, Value.ownBlock] at e, by
  refine List.pairwise_map.2 (List.pairwise_of_forall (fun a b => fun c hc => ?_))
  simp [kFr, Value.ownBlock] at hc⟩
theorem FrX.rd {w : World} {fa : Option Addr} {fn fc : Nat} {ps : List StLogFrame} (h : FrX w fa fn fc ps) : RdFr w (.slice fa fn fc) ps :=
 ⟨(ownR_fr (by have := h.own; rw [h.len] at this ⊢; exact this)).rd, fun p hp => h.data p hp w (Kept.refl _ _)⟩
theorem FrX.same {w w' : World} {fa : Option Addr} {fn fc : Nat} {ps : List StLogFrame} (h : FrX w fa fn fc ps) (hk : Same w w') : FrX w' fa fn fc ps :=
 ⟨hk.owns h.own (fun _ _ => id), h.len, fun p hp w2 h2 => h.data p hp w2 ((hk.mono (fun _ _ e => e.elim)).trans h2)⟩
theorem FrX.app {w w' : World} {fa : Option Addr} {fn fc g c : Nat} {ps : List StLogFrame} {p : StLogFrame} (h : FrX w fa fn fc ps) (hp : ∀ w', Kept (fun b => (Value.slice fa fn fc).ownBlock = some b) w w' → StLogFrame.rd w' p)
  (hrow : w'.ownsRow 0 51 16 (.slice (some ⟨g, 0, none⟩) (fn + 1) c) (fn + 1) (kFr.all ps ++ p.cells)) (hg : w.grownBy w' (Value.slice fa fn fc).ownBlock) (hat : (Value.slice fa fn fc).ownBlock = some g ∨ g = w.heap.size) : FrX w' (some ⟨g, 0, none⟩) (fn + 1) c (ps ++ [p]) := by
 have hk : Kept (fun b => (Value.slice fa fn fc).ownBlock = some b) w w' := Kept.of_grown hg (fun k e => e)
 have e1 : kFr.all (ps ++ [p]) = kFr.all ps ++ p.cells := by rw [kFr.all_append]; simp [RowK.all, kFr]
 have key : ∀ w2, Kept (fun b => (Value.slice (some ⟨g, 0, none⟩) (fn + 1) c).ownBlock = some b) w' w2 → Kept (fun b => (Value.slice fa fn fc).ownBlock = some b) w w2 := fun w2 h2 => by
  refine hk.next h2 (fun i hi e => ?_)
  have e2 : g = i := (by simpa [Value.ownBlock] using e)
  subst e2
  rcases hat with e | e
  ·exact e
  ·omega
 refine ⟨by rw [e1]; exact hrow, by rw [List.length_append, h.len]; rfl, fun q hq w2 h2 => ?_⟩
 rcases List.mem_append.1 hq with hq | hq
 ·exact h.data q hq w2 (key w2 h2)
 ·rw [List.mem_singleton.1 hq]
  exact hp w2 (key w2 h2)
theorem FrX.one {w : World} {Y : Nat} {p : StLogFrame} (h : Blk w Y 51 p.cells) (hp : ∀ w', Kept (fun b => b = Y) w w' → StLogFrame.rd w' p) : FrX w (some ⟨Y, 0, none⟩) 1 1 [p] := by
 have e1 : kFr.all [p] = p.cells := by simp [RowK.all, kFr]
 refine ⟨⟨by rw [e1]; rfl, .inr ⟨Y, 1, p.cells.toArray, rfl, Nat.zero_le _, h, Nat.le_refl _, by unfold maxLen; decide, by simp [StLogFrame.cells], by rw [e1]; simp [StLogFrame.cells]⟩⟩, rfl, fun q hq w2 h2 => ?_⟩
 rw [List.mem_singleton.1 hq]
 refine hp w2 (h2.mono (fun b _ e => ?_))
 have e2 : Y = b := (by simpa [Value.ownBlock] using e)
 exact e2.symm
theorem FrX.none {w : World} {Y : Nat} (h : Blk w Y 51 []) : FrX w (some ⟨Y, 0, none⟩) 0 0 [] :=
 ⟨⟨by simp [RowK.all], .inr ⟨Y, 0, #[], rfl, Nat.zero_le _, h, Nat.le_refl _, Nat.zero_le _, by simp, by simp [RowK.all]⟩⟩, rfl, fun p hp => by simp at hp⟩
theorem num3_own {raw : List Int} (hB : IsB raw) (hok : ownOK raw = true) : (0 ≤ numAt raw 4 8 ∧ numAt raw 4 8 ≤ 9223372036854775807) ∧ (0 ≤ numAt raw 12 4 ∧ numAt raw 12 4 ≤ 9223372036854775807) ∧ (∀ x ∈ slotsOf raw, 0 ≤ x ∧ x ≤ 9223372036854775807) := by
 have hl := ownOK_len hok
 have h1 := isLSN_spec (own_enc hok).2
 have h2 := numAt_in raw hB 12 4 (by decide) (by decide) (by omega)
 exact ⟨h1, by omega, fun x hx => by have := slotsOf_small raw hB hl x hx; omega⟩
def ChR (w w' : World) (P : Nat) (x : Int) (ys : List Int) (e : Ending) : Prop := e = .returned (.int .i64 x) ∧ Kept (fun b => b = P) w w' ∧ ((x = 0 ∧ PgAt w' P ys ∧ ownOK ys = true ∧ IsB ys) ∨ (¬ x = 0 ∧ ys = []))
theorem ChR.no {w w' : World} (P : Nat) (x : Int) (hx : ¬ x = 0) (h : Same w w') : ChR w w' P x [] (.returned (.int .i64 x)) := ⟨rfl, h.mono (fun _ _ e => e.elim), .inr ⟨hx, rfl⟩⟩
theorem change_any (P : Nat) (E : List Int) (s : Int) (u : Bool) (ta : Option Addr) (tc : Nat) (d : List Int) (lsn : Int) (w w0 : World) (hB : IsB E) (hok : ownOK E = true) (hp : PgAt w P E) (hdn : d.length ≤ 1099511627776) (hd0 : Rd .u8 w0 (.slice ta d.length tc) d) (hP0 : w0.heap.size ≤ P) (hd : Rd .u8 w (.slice ta d.length tc) d) (hdB : IsB d) :
  Calls Tryz.prog 40 #[.pointer (some ⟨P, 0, none⟩), .int .i64 s, .agg #[.bool u, .slice ta d.length tc], .int .i64 lsn] w fun e w' => ChR w w' P (pageSet E s u d lsn).1 (pageSet E s u d lsn).2 e := by
 obtain ⟨n, hn0⟩ : ∃ n, d.length = n := ⟨_, rfl⟩
 have HN := hid hn0
 rw [hn0] at hd hd0 hdn ⊢
 obtain ⟨r, hr, hsp0⟩ := hp
 have hPl := hsp0.blk.lt
 have k0 := (Kept.refl (fun _ => False) w).alloc (.cells #[.bool u, .slice ta n tc] 34)
 have br := Blk.new w #[.bool u, .slice ta n tc] 34
 have HB1 := (show Hid (∀ wx, Same (w.alloc (.cells #[.bool u, .slice ta n tc] 34)) wx → Same w wx ∧ (wx.cell? ⟨w.heap.size, 0, none⟩ = some (.bool u) ∧ wx.cell? ⟨w.heap.size, 1, none⟩ = some (.slice ta n tc))) from fun wx h => ⟨k0.trans h, ⟨(br.same h).cell 0, (br.same h).cell 1⟩⟩)
 have HC0 := HB1.out _ (Kept.refl _ _)
 have HSP0 := (show Hid (SP w P (E.take 4) (numAt E 4 8) (numAt E 12 4) (numAt E 16 2) (slotsOf E) r) from hsp0)
 have HD0 := hid hd
 have HDO := hid hd0
 have hl := ownOK_len hok
 have HR := hid hr
 have HRL := hid hsp0.l3
 obtain ⟨_, r0, r1⟩ := HC0
 clear k0 br hn0 hsp0 hr hd hd0
 have kS := fun wx => isSlot_any s wx
 have kL := fun wx => isLSN_any lsn wx
 have kF := fun wx => fits_slot_any u ta n tc wx hdn
 cases hs0 : (decide (0 ≤ s) && decide (s < 32)) with
 | false =>
  rw [hs0] at kS
  rw [show pageSet E s u d lsn = (1, []) from by unfold pageSet setBad; rw [if_pos (by simp at hs0; simp; omega)]]
  clear hB hl hok
  go_enter Tryz.func40, Tryz.ntmps40
  go_wp2_with (first
     | (go_at_call 47; refine (kS _).mono ?_; rintro e w2 ⟨rfl, hk2⟩; obtain ⟨hs2, ⟨r0, r1⟩⟩ := HB1.out w2 hk2))
  go_ret
  exact ChR.no P 1 (by omega) hs2
 | true =>
 rw [hs0] at kS
 cases hl0 : isLSN lsn with
 | false =>
  rw [hl0] at kL
  rw [show pageSet E s u d lsn = (1, []) from by unfold pageSet setBad; rw [if_pos (by simp [isLSN] at hl0; simp; omega)]]
  clear hB hl hok
  go_enter Tryz.func40, Tryz.ntmps40
  go_wp2_with (first
     | (go_at_call 47; refine (kS _).mono ?_; rintro e w2 ⟨rfl, hk2⟩; obtain ⟨hs2, ⟨r0, r1⟩⟩ := HB1.out w2 hk2)
     | (go_at_call 71; refine (kL _).mono ?_; rintro e w3 ⟨rfl, hk3x⟩; have hk3 := hk2.trans hk3x; obtain ⟨hs3, ⟨r0, r1⟩⟩ := HB1.out w3 hk3))
  go_ret
  exact ChR.no P 1 (by omega) hs3
 | true =>
 rw [hl0] at kL
 cases hf0 : (decide (n ≤ 1000) && (u || decide (n = 0))) with
 | false =>
  rw [hf0] at kF
  rw [show pageSet E s u d lsn = (1, []) from by unfold pageSet setBad; rw [HN.out, if_pos (by cases u <;> simp at hf0 <;> simp <;> omega)]]
  clear hB hl hok
  go_enter Tryz.func40, Tryz.ntmps40
  go_wp2_with (first
     | (go_at_call 47; refine (kS _).mono ?_; rintro e w2 ⟨rfl, hk2⟩; obtain ⟨hs2, ⟨r0, r1⟩⟩ := HB1.out w2 hk2)
     | (go_at_call 71; refine (kL _).mono ?_; rintro e w3 ⟨rfl, hk3x⟩; have hk3 := hk2.trans hk3x; obtain ⟨hs3, ⟨r0, r1⟩⟩ := HB1.out w3 hk3)
     | (go_at_call 72; refine (kF _).mono ?_; rintro e w4 ⟨rfl, hk4x⟩; have hk4 := hk3.trans hk4x; obtain ⟨hs4, ⟨r0, r1⟩⟩ := HB1.out w4 hk4))
  go_ret
  exact ChR.no P 1 (by omega) hs4
 | true =>
 rw [hf0] at kF
 obtain ⟨k, rfl⟩ : ∃ k : Nat, s = k := ⟨s.toNat, by simp at hs0; omega⟩
 have hk32 : k < 32 := by simp at hs0; omega
 have hn1 : n ≤ 1000 := by simp at hf0; omega
 have hsl := slOK_of hB hok
 have hsm := slotsOf_small E hB hl
 have hbad : setBad E k u d lsn = false := by unfold setBad; rw [hok, HN.out]; simp [isLSN] at hl0; cases u <;> simp at hf0 ⊢ <;> omega
 have HPS := (show Hid (pageSet E k u d lsn = if 3948 < usedN (slotsOf E) 32 - (slotsOf E).getD (2 * k + 1) 0 + (n : Int) then (2, []) else (0, setB E k u d lsn)) from by
  show pageSet E k u d lsn = _
  unfold pageSet
  rw [hbad, if_neg (by simp), Int.toNat_natCast]
  by_cases hf : setFull E k d
  ·rw [if_pos hf, if_pos (by unfold setFull at hf; rw [HN.out] at hf; exact hf)]
  ·rw [if_neg hf, if_neg (by unfold setFull at hf; rw [HN.out] at hf; exact hf)])
 have HS := (show Hid (∀ wx, SP wx P (E.take 4) (numAt E 4 8) (numAt E 12 4) (numAt E 16 2) (slotsOf E) r → wx.cell? ⟨P, 7 + k * 2 + 1, none⟩ = some (.int .i64 ((slotsOf E).getD (2 * k + 1) 0))) from fun wx h => by rw [Nat.mul_comm, Nat.add_assoc]; exact h.slAt (2 * k + 1) (by omega))
 have kT := fun wx (h : SP wx P (E.take 4) (numAt E 4 8) (numAt E 12 4) (numAt E 16 2) (slotsOf E) r) => total_any P _ _ _ _ _ _ wx h hsm
 have hu := hsl.room 32 (Nat.le_refl _)
 have hx := hsm.at (2 * k + 1)
 have HU0 := (show Hid (usedN (sl0 (slotsOf E) k) 32 = usedN (slotsOf E) 32 - (slotsOf E).getD (2 * k + 1) 0) from by show usedN (sl0 (slotsOf E) k) 32 = _; rw [usedN_zero, if_pos hk32])
 have hu0 := (hsl.zero k).room 32 (Nat.le_refl _)
 rw [HU0.out] at hu0
 obtain ⟨U, hU⟩ : ∃ U, usedN (slotsOf E) 32 = U := ⟨_, rfl⟩
 obtain ⟨X, hX⟩ : ∃ X, (slotsOf E).getD (2 * k + 1) 0 = X := ⟨_, rfl⟩
 rw [hU, hX] at HU0 hu0 HPS
 rw [hU] at hu kT
 rw [hX] at hx HS
 have q1 : IntKind.i64.wrap (U - X) = U - X := by rw [IntKind.wrap_i64]; omega
 have q2 : IntKind.i64.wrap (U - X + n) = U - X + n := by rw [IntKind.wrap_i64]; omega
 have hk32i : (k : Int) < 32 := by omega
 go_enter Tryz.func40, Tryz.ntmps40
 go_wp2_with (first
  | (go_at_call 47; refine (kS _).mono ?_; rintro e w2 ⟨rfl, hk2⟩; obtain ⟨hs2, ⟨r0, r1⟩⟩ := HB1.out w2 hk2)
  | (go_at_call 71; refine (kL _).mono ?_; rintro e w3 ⟨rfl, hk3x⟩; have hk3 := hk2.trans hk3x; obtain ⟨hs3, ⟨r0, r1⟩⟩ := HB1.out w3 hk3)
  | (go_at_call 72; refine (kF _).mono ?_; rintro e w4 ⟨rfl, hk4x⟩; have hk4 := hk3.trans hk4x; obtain ⟨hs4, ⟨r0, r1⟩⟩ := HB1.out w4 hk4))
 have HSP4 := hid (HSP0.out.same hs4)
 have HK4 := hid hk4
 have X4 := HS.out w4 HSP4.out
 let Y1 : World → Prop := fun wx : World => wx.cell? ⟨P, 7 + k * 2 + 1, none⟩ = some (.int .i64 X) ∧ wx.cell? ⟨w.heap.size, 1, none⟩ = some (.slice ta n tc)
 have hS : Y1 w4.drew := ⟨X4, r1⟩
 refine wp_region_V Y1 99 15 rfl (by kernel_rfl) ?_
 refine tk 0 22 hS ?_
 refine tk 2 24 hS ?_
 refine tk 3 25 hS ?_
 refine tk 4 26 hS ?_
 refine tk 5 27 hS ?_
 refine tkV 6 28 (.pointer (some ⟨P, 7 + k * 2, none⟩)) hS ?_
 refine tk 7 29 hS ?_
 refine tk 8 30 hS ?_
 refine tk 10 32 hS ?_
 refine tk 11 33 hS ?_
 refine tk 12 34 hS ?_
 refine wpAnyV_one (i := 1) (by kernel_rfl) rfl (fun K hK => ?_)
 go_simp
 refine (kT _ (HSP4.out.same (Kept.refl _ _).drew)).mono ?_
 rintro e w5 ⟨rfl, hk5x⟩
 have hk5 := HK4.out.trans ((Kept.refl _ _).drew.trans hk5x)
 have HSP5 := hid (HSP4.out.same ((Kept.refl _ _).drew.trans hk5x))
 have X5 := HS.out w5 HSP5.out
 clear r0 r1
 obtain ⟨hs5, ⟨r0, r1⟩⟩ := HB1.out w5 hk5
 have hS : Y1 w5 := ⟨X5, r1⟩
 refine hK.out _ _ (fun _ => hS) ?_
 clear hK K
 try simp only [Act.put, sA, s0, sS]
 refine tkV 9 31 (.int .i64 (U - X)) hS ?_
 refine tkV 13 35 (.int .i64 (U - X + n)) hS ?_
 by_cases hfull : 3948 < U - X + (n : Int)
 ·refine tkV 14 36 (.bool true) hS ?_
  refine wpAnyV_done (by kernel_rfl) ?_
  go_wp2
  go_ret
  rw [HPS.out, if_pos hfull]
  exact ChR.no P 2 (by omega) hs5
 ·have HF := (show Hid (¬ 3948 < U - X + (n : Int)) from hfull)
  refine tkV 14 36 (.bool false) hS ?_
  refine wpAnyV_done (by kernel_rfl) ?_
  have hroom : 148 ≤ cBot (sl0 (slotsOf E) k) 32 - (d.length : Int) := by unfold cBot; rw [HU0.out, HN.out]; omega
  have hpt := ownOK_parts hok
  have HD5 := hid (HD0.out.same hs5)
  have kSet := setSP_any P (E.take 4) (numAt E 4 8) (numAt E 12 4) (numAt E 16 2) (slotsOf E) r k u ta tc d w5 HSP5.out hsl hk32 ⟨hpt.1, hpt.2.1⟩ (by rw [HN.out]; exact hn1) hroom (by rw [HN.out]; exact HD5.out) (fun w' hk => by rw [HN.out]; exact Rd.keptOld HDO.out HD5.out hP0 hk)
  rw [HN.out] at kSet
  have HOK := hid (setB_ok hB hok k hk32 u d hdB lsn hl0 (by rw [HN.out]; exact hn1) hroom)
  have HS5 := hid hs5
  clear hroom hpt kS kL kF kT hB hsl hsm hu hx hu0 hok hk5 hk5x hk4 hk4x hk3 hk3x hk2 hs2 hs3 hs4
  go_wp2_with fail
  refine kSet.mono ?_
  rintro e w6 ⟨rfl, hset, hk6⟩
  obtain ⟨b', sl', r', e1, e2, e3, e4, e5⟩ := HOK.out
  obtain ⟨r2, er2, hsp6⟩ := e5 _ _ _ _ HR.out HRL.out hset
  have HSP6 := hid hsp6
  have HK6 := (show Hid (Kept (fun b => b = P) w w6) from (HS5.out.mono (fun _ _ e => e.elim)).trans hk6)
  have l0 := HSP6.out.num3.1
  have lf := HSP6.out.blk.frozen 4
  have HE := hid (PgAt.of e2 er2 (HSP6.out.setLsn lsn))
  have HE1 := hid e1
  have HE2 := hid (And.intro e3 e4)
  clear hset hk6 kSet r0 r1 hsp6 e1 e2 e3 e4 e5 er2
  have HK7 := (show Hid (Kept (fun b => b = P) w (w6.setCell ⟨P, 4, none⟩ (.int .i64 lsn))) from HK6.out.setCell (p := ⟨P, 4, none⟩) (.inr rfl) _)
  go_wp2
  go_ret
  rw [HPS.out, if_neg (by have := HF.out; omega)]
  exact ⟨rfl, HK7.out, .inl ⟨rfl, by rw [HE1.out]; exact HE.out, HE2.out⟩⟩
theorem implSet_any (v : Value) (raw : List Int) (s : Int) (u : Bool) (ta : Option Addr) (tc : Nat) (d : List Int) (lsn : Int) (w : World) (hB : IsB raw) (hn : raw.length ≤ 1099511627776) (hv : Rd .u8 w v raw) (hdn : d.length ≤ 1099511627776) (hd : Rd .u8 w (.slice ta d.length tc) d) (hdB : IsB d) :
  Calls Tryz.prog 9 #[v, .int .i64 s, .agg #[.bool u, .slice ta d.length tc], .int .i64 lsn] w fun e w' => SetAns 71 w w' e (pageSet raw s u d lsn).1 (pageSet raw s u d lsn).2 := by
 obtain ⟨n, hn0⟩ : ∃ n, d.length = n := ⟨_, rfl⟩
 have HN := hid hn0
 have kC := fun P wx (h : PgAt wx P raw) (h0 : ownOK raw = true) (hP : w.heap.size ≤ P) (hs : Same w wx) => change_any P raw s u ta tc d lsn wx w hB h0 h hdn hd hP (hd.same hs) hdB
 rw [hn0] at hd hdn kC ⊢
 have k0 := (((Kept.refl (fun _ => False) w).alloc (.cells #[.bool u, .slice ta n tc] 34)).alloc (.cells #[.int .i64 0, .slice none 0 0] 38))
 have hr0 := hv.same k0
 have br := (Blk.new w #[.bool u, .slice ta n tc] 34).same ((Kept.refl (fun _ => False) _).alloc (.cells #[.int .i64 0, .slice none 0 0] 38))
 have ba := Blk.new (w.alloc (.cells #[.bool u, .slice ta n tc] 34)) #[.int .i64 0, .slice none 0 0] 38
 rw [show (w.alloc (.cells #[.bool u, .slice ta n tc] 34)).heap.size = w.heap.size + 1 from by simp] at ba
 have HB1 := (show Hid (∀ wx, Same ((w.alloc (.cells #[.bool u, .slice ta n tc] 34)).alloc (.cells #[.int .i64 0, .slice none 0 0] 38)) wx → Same w wx ∧ (wx.cell? ⟨w.heap.size, 0, none⟩ = some (.bool u) ∧ wx.cell? ⟨w.heap.size, 1, none⟩ = some (.slice ta n tc)) ∧ wx.cell? ⟨w.heap.size + 1, 0, none⟩ = some (.int .i64 0) ∧ wx.cell? ⟨w.heap.size + 1, 1, none⟩ = some (.slice none 0 0) ∧ wx.frozen? ⟨w.heap.size + 1, 0, none⟩ = false ∧ wx.frozen? ⟨w.heap.size + 1, 1, none⟩ = false) from fun wx h => ⟨k0.trans h, ⟨(br.same h).cell 0, (br.same h).cell 1⟩, (ba.same h).cell 0, (ba.same h).cell 1, (ba.same h).frozen 0, (ba.same h).frozen 1⟩)
 have HST := (show Hid (∀ wx x y, Same w wx → Same w ((wx.setCell ⟨w.heap.size + 1, 0, none⟩ x).setCell ⟨w.heap.size + 1, 1, none⟩ y)) from fun wx x y h => (h.setCell (p := ⟨w.heap.size + 1, 0, none⟩) (.inl (Nat.le_succ _)) x).setCell (p := ⟨w.heap.size + 1, 1, none⟩) (.inl (Nat.le_succ _)) y)
 clear k0 br ba hn0
 cases hok : ownOK raw with
 | false =>
  have h := wellFormed_no v raw _ hB hn hr0 hok
  rw [show pageSet raw s u d lsn = (1, []) from by unfold pageSet setBad; rw [hok]; rfl]
  clear hv hB hr0 hd kC
  go_enter Tryz.func9, Tryz.ntmps9
  go_wp2_with (first
     | (go_at_call 39; refine h.mono ?_; rintro e w1 ⟨rfl, hk1⟩; obtain ⟨hs1, ⟨r0, r1⟩, c0, c1, f0, f1⟩ := HB1.out w1 hk1))
  refine bodyPost_ret (v := .agg #[.int .i64 1, .slice none 0 0]) (by simp [results, Tryz.results9, go_sem, c0, c1]) rfl (SetAns.none 1 (HST.out _ _ _ hs1))
 | true =>
  have h := wellFormed_yes v raw _ hB hn hr0 hok
  have kC := fun P wx h hP hs => kC P wx h hok hP hs
  obtain ⟨X, hX⟩ : ∃ X, pageSet raw s u d lsn = X := ⟨_, rfl⟩
  rw [hX] at kC ⊢
  obtain ⟨x, ys⟩ := X
  dsimp only at kC ⊢
  clear hv hB hr0 hd hX
  go_enter Tryz.func9, Tryz.ntmps9
  go_wp2_with (go_at_call 39; refine h.mono ?_; rintro e w1 ⟨P, rfl, hP, hsp, hk1⟩; obtain ⟨hs1, ⟨r0, r1⟩, c0, c1, f0, f1⟩ := HB1.out w1 hk1)
  have hPz : w.heap.size + 2 ≤ P := by simpa using hP
  refine (kC P w1 ⟨raw, rfl, hsp⟩ (by omega) hs1).mono ?_
  rintro e w2 ⟨rfl, hk2, hx⟩
  have hk3 := hk1.next hk2 (fun i hi e => by simp at hi; omega)
  clear r0 r1 c0 c1 f0 f1
  obtain ⟨hs2, ⟨r0, r1⟩, c0, c1, f0, f1⟩ := HB1.out w2 hk3
  have HK3 := hid hk3
  have HS2 := hid hs2
  clear hk3 hk2 hs2 hk1 hs1 h kC hsp
  rcases hx with ⟨rfl, hpg, hok2, hB2⟩ | ⟨hx0, rfl⟩
  ·obtain ⟨r2, hsp2, he2⟩ := hpg.enc hok2
   obtain ⟨n1, n2, n3⟩ := num3_own hB2 hok2
   have hpt := ownOK_parts hok2
   have hl2 := ownOK_len hok2
   have kE := encode_any P _ _ _ _ _ _ w2 hsp2 ⟨n1, n2, by omega, n3⟩
   rw [he2] at kE
   have kLs := fun wx => list_any ys wx hl2
   obtain ⟨cs, hcs⟩ : ∃ cs : Array Value, (vals .u8 ys).toArray = cs := ⟨_, rfl⟩
   rw [hcs] at kE kLs
   have HL := hid hl2
   clear hcs hpg hok2 hB2 n1 n2 n3 hpt hl2 hsp2 he2
   go_wp2_with fail
   refine kE.mono ?_
   rintro e w8 ⟨rfl, hk8⟩
   have HK8 := hid (HK3.out.trans hk8)
   clear hk8 kE
   go_wp2_with fail
   refine (kLs _).mono ?_
   rintro e w9 ⟨rfl, hb9, hk9⟩
   have hk9s := HK8.out.trans hk9
   have HO9 := (show Hid (Own 0 71 .u8 w9 (.slice (some ⟨w8.heap.size, 0, none⟩) 4096 4096) ys) from by have h := Blk.own hb9 (by rw [HL.out]; unfold maxLen; omega); rw [HL.out] at h; exact h)
   clear r0 r1 c0 c1 f0 f1
   obtain ⟨hs9, ⟨r0, r1⟩, c0, c1, f0, f1⟩ := HB1.out w9 hk9s
   have HS9 := hid hs9
   clear hk9 hb9 kLs hk9s r0 r1 hs9
   go_wp2
   have hz8 : w.heap.size + 2 ≤ w8.heap.size := by have := HK8.out.size; simpa using this
   have hko : Kept (fun b => b = w.heap.size + 1) w9 ((w9.setCell ⟨w.heap.size + 1, 0, none⟩ (.int .i64 0)).setCell ⟨w.heap.size + 1, 1, none⟩ (.slice (some ⟨w8.heap.size, 0, none⟩) 4096 4096)) := ((Kept.refl (fun b => b = w.heap.size + 1) w9).setCell (p := ⟨w.heap.size + 1, 0, none⟩) (.inr rfl) _).setCell (p := ⟨w.heap.size + 1, 1, none⟩) (.inr rfl) _
   refine bodyPost_ret (v := .agg #[.int .i64 0, .slice (some ⟨w8.heap.size, 0, none⟩) 4096 4096]) (by simp [results, Tryz.results9, go_sem, c0, c1]) rfl ?_
   refine ⟨some ⟨w8.heap.size, 0, none⟩, 4096, by simp only [HL.out], fun b hb => ?_, ?_, HST.out _ _ _ HS9.out⟩
   ·have h : w8.heap.size = b := (by simpa [Value.ownBlock] using hb)
    omega
   ·simp only [HL.out]
    exact HO9.out.kept hko (fun b hb e => by have h : w8.heap.size = b := (by simpa [Value.ownBlock] using hb); omega)
  ·have hx1 : (x == 0) = false := by simpa using hx0
   go_wp2
   refine bodyPost_ret (v := .agg #[.int .i64 x, .slice none 0 0]) (by simp [results, Tryz.results9, go_sem, c0, c1]) rfl (SetAns.none x (HST.out _ _ _ HS2.out))
theorem SetAns.st {ty : TypeId} {w w' : World} {e : Ending} {D : Int × List Int} (h : SetAns ty w w' e D.1 D.2) :
  ∃ y : StPageResult, e = .returned y.val ∧ y.dat = D ∧ (∀ b, FootL y.rows b → w.heap.size ≤ b) ∧ OwnL w' y.rows ∧ Same w w' := by
 obtain ⟨a, c, rfl, hf, ho, hk⟩ := h
 exact ⟨⟨D.1, ⟨ty, a, c, D.2⟩⟩, rfl, rfl, fun b hb => hf b ((footL_ints _ _ _ _ _).1 hb), OwnL.one ho, hk⟩
def fImg (d : FrD) : List Int := d.2.2.2.2.2.2.2.2.2.2.2.2.2
def isImg (page : Int) (d : FrD) : Prop := fKind d = 8 ∧ fPage d = page
def isImgDec (page : Int) (d : FrD) : Decidable (isImg page d) := inferInstanceAs (Decidable (_ ∧ _))
def lastI (page : Int) (ps : List StLogFrame) : Nat → Int × List Int
 | 0 => (1, [])
 | n + 1 => if h : n < ps.length then (@ite _ (isImg page ps[n].dat) (isImgDec page ps[n].dat) (0, fImg ps[n].dat) (lastI page ps n)) else lastI page ps n
def lastD' (ps : List StLogFrame) (page : Int) : Int × List Int := lastI page ps ps.length
theorem lastI_step (page : Int) (ps : List StLogFrame) (n : Nat) (h : n < ps.length) : lastI page ps (n + 1) = @ite _ (isImg page ps[n].dat) (isImgDec page ps[n].dat) (0, fImg ps[n].dat) (lastI page ps n) := dif_pos h
theorem lastI_pre (page : Int) (ps qs : List StLogFrame) : ∀ n, n ≤ ps.length → lastI page (ps ++ qs) n = lastI page ps n
 | 0, _ => rfl
 | n + 1, h => by
  rw [lastI_step page (ps ++ qs) n (by rw [List.length_append]; omega), lastI_step page ps n (by omega), lastI_pre page ps qs n (by omega), List.getElem_append_left (by omega)]
theorem last_more (page : Int) (ps : List StLogFrame) (p : StLogFrame) (h : ¬ isImg page p.dat) : lastD' (ps ++ [p]) page = lastD' ps page := by
 unfold lastD'
 rw [List.length_append, show ps.length + [p].length = ps.length + 1 from rfl, lastI_step page (ps ++ [p]) ps.length (by simp), lastI_pre page ps [p] ps.length (Nat.le_refl _)]
 have e : (ps ++ [p])[ps.length]'(by simp) = p := by rw [List.getElem_append_right (Nat.le_refl _)]; simp
 rw [if_neg (by rw [e]; exact h)]
theorem last_one (page : Int) (p : StLogFrame) (h : isImg page p.dat) : lastD' [p] page = (0, fImg p.dat) := by
 unfold lastD'
 rw [show [p].length = 0 + 1 from rfl, lastI_step page [p] 0 (by simp)]
 simp only [List.getElem_cons_zero]
 rw [if_pos h]
def Begins (ps : List StLogFrame) (Bg : List Int) : Prop := lastD' ps 1 = (0, Bg) ∨ ((lastD' ps 1).1 = 1 ∧ (lastD' ps 1).2 = [] ∧ Bg = pageNew 1)
theorem Begins.more {ps : List StLogFrame} {Bg : List Int} (h : Begins ps Bg) (p : StLogFrame) (hp : ¬ fKind p.dat = 8) : Begins (ps ++ [p]) Bg := by
 unfold Begins
 rw [last_more 1 ps p (fun e => hp e.1)]
 exact h
theorem Begins.none : Begins [] (pageNew 1) := .inr ⟨rfl, rfl, rfl⟩
end Go.Proofs.YtdbpaadndaoihaaGreatDoor
