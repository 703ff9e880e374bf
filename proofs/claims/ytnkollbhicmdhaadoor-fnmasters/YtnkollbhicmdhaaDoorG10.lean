import Derived.Test.YtnkollbhicmdhaaDoorG09
import Derived.Test.YtnkollbhicmdhaaDoorG00
import Derived.Test.YtnkollbhicmdhaaDoorG02
import Derived.Test.YtnkollbhicmdhaaDoorProg
import Derived.Test.YtnkollbhicmdhaaDoorG01
import Derived.Test.YtnkollbhicmdhaaDoorG08
import Derived.Test.YtnkollbhicmdhaaDoorG07
import Derived.Deep.RegionWith
import Derived.Deep.DeepMust
import Derived.Deep.DeepCutAuto
import Derived.WalkLawsBesides
import Derived.Deep.QuietTactic
import Derived.BigQuiet
import Derived.Deep.LoopGhost
namespace Go.Proofs.YtnkollbhicmdhaaDoor
set_option maxRecDepth 100000
set_option maxHeartbeats 8000000
set_option linter.unusedSimpArgs false
set_option linter.unusedVariables false
open Go.RowKit Go
def CanWrite (n : Nat) (s : Int) (bs : List Int) : Prop := 0 ≤ s ∧ s < (n / 512 : Nat) ∧ bs.length = 512
def canWriteDec (n : Nat) (s : Int) (bs : List Int) : Decidable (CanWrite n s bs) := by unfold CanWrite; infer_instance
def writeD (dur : List Int) (ds : List (Int × List Int)) (s : Int) (bs : List Int) : List Int × List (Int × List Int) := @ite _ (CanWrite dur.length s bs) (canWriteDec dur.length s bs) (putD dur ds s bs) (dur, ds)
theorem writeD_valid {dur : List Int} {ds : List (Int × List Int)} {s : Int} {bs : List Int} (h : Valid dur.length ds) : (writeD dur ds s bs).1.length = dur.length ∧ Valid dur.length (writeD dur ds s bs).2 := by
 unfold writeD
 split
 ·rename_i hc; exact putD_valid h hc.1 hc.2.1 hc.2.2
 ·exact ⟨rfl, h⟩
def looks (v : Value) (b : Nat) : Prop := ∃ o n c, v = .slice (some ⟨b, o, none⟩) n c
theorem write_any (B : Nat) (dv pv : Value) (dur : List Int) (ds : List (Int × List Int)) (s : Int) (v : Value) (bs : List Int) (w : World) (hp : Plat w B dv pv dur ds) (hval : Valid dur.length ds) (hv : Rd .u8 w v bs) (hsep : bs ≠ [] → ∀ b, looks v b → b ≠ B ∧ dv.ownBlock ≠ some b ∧ pv.ownBlock ≠ some b) :
  Calls Tryd.prog 74 #[.pointer (some ⟨B, 0, none⟩), .int .i64 s, v] w fun e w' => e = .returned (.tuple #[]) ∧ (∃ pv', Plat w' B dv pv' (writeD dur ds s bs).1 (writeD dur ds s bs).2 ∧ ∀ b, pv'.ownBlock = some b → pv.ownBlock = some b ∨ w.heap.size ≤ b) ∧ Kept (fun b => b = B ∨ dv.ownBlock = some b ∨ pv.ownBlock = some b) w w' := by
 obtain ⟨gd, cd, rfl⟩ : ∃ gd cd, dv = .slice (some ⟨gd, 0, none⟩) (dur.length / 512) cd := by
  rcases hp.dur.2 with ⟨_, h⟩ | ⟨g, cap, _, h, _⟩
  ·have := hval.1.2.1; omega
  ·exact ⟨g, cap, h⟩
 obtain ⟨ap, cp, rfl⟩ : ∃ aq cq, pv = .slice aq ds.length cq := by
  rcases hp.pend.2 with ⟨rfl, h⟩ | ⟨g, cap, _, h, _⟩
  ·exact ⟨none, 0, by rw [h]⟩
  ·exact ⟨_, _, h⟩
 obtain ⟨av, cv, rfl⟩ := hv.form
 have HRV := (show Hid (Rd .u8 w (.slice av bs.length cv) bs) from hv)
 have HSEP := (show Hid (bs ≠ [] → ∀ b, looks (.slice av bs.length cv) b → b ≠ B ∧ (Value.slice (some ⟨gd, 0, none⟩) (dur.length / 512) cd).ownBlock ≠ some b ∧ (Value.slice ap ds.length cp).ownBlock ≠ some b) from hsep)
 have HP := (show Hid (Plat w B (.slice (some ⟨gd, 0, none⟩) (dur.length / 512) cd) (.slice ap ds.length cp) dur ds) from hp)
 have HV : Hid (Valid dur.length ds) := hval
 have hdl : ds.length ≤ 8192 := hval.1.2.2.2
 have hdn : dur.length / 512 ≤ 1024 := hval.1.2.2.1
 have hvl := hv.1
 unfold maxLen at hvl
 obtain ⟨n, hn⟩ : ∃ n, dur.length / 512 = n := ⟨_, rfl⟩
 have HN : Hid (dur.length / 512 = n) := hn
 rw [hn] at HP HSEP hdn ⊢
 clear hp hval hv hsep hn
 have hno : ¬ CanWrite dur.length s bs → writeD dur ds s bs = (dur, ds) := fun h => by unfold writeD; rw [if_neg h]
 have HNO : Hid (¬ CanWrite dur.length s bs → Plat w B (.slice (some ⟨gd, 0, none⟩) n cd) (.slice ap ds.length cp) (writeD dur ds s bs).1 (writeD dur ds s bs).2) := fun h => by rw [hno h]; exact HP.out
 clear hno
 obtain ⟨p1, p2, p3, p4⟩ := HP.out.box
 by_cases hs0 : s < 0
 ·go_enter Tryd.func74, Tryd.ntmps74
  go_wp2
  refine bodyPost_ret (results_none (by rfl) _ _ _) rfl ?_
  exact ⟨rfl, ⟨_, HNO.out (fun h => by have := h.1; omega), fun b hb => .inl hb⟩, Kept.refl _ _⟩
 ·by_cases hs1 : (n : Int) ≤ s
  ·go_enter Tryd.func74, Tryd.ntmps74
   go_wp2
   refine bodyPost_ret (results_none (by rfl) _ _ _) rfl ?_
   exact ⟨rfl, ⟨_, HNO.out (fun h => by have h1 := h.2.1; have := HN.out; omega), fun b hb => .inl hb⟩, Kept.refl _ _⟩
  ·by_cases hbl : bs.length = 512
   case neg =>
    have hb2 : ((bs.length : Int) != 512) = true := by simp; omega
    go_enter Tryd.func74, Tryd.ntmps74
    go_wp2
    refine bodyPost_ret (results_none (by rfl) _ _ _) rfl ?_
    exact ⟨rfl, ⟨_, HNO.out (fun h => hbl h.2.2), fun b hb => .inl hb⟩, Kept.refl _ _⟩
   have hb2 : ((bs.length : Int) != 512) = false := by simp; omega
   obtain ⟨b3, o3, c3, e3, hsrc⟩ : ∃ b3 o3 c3, Value.slice av bs.length cv = .slice (some ⟨b3, o3, none⟩) bs.length c3 ∧ ∀ i, i < bs.length → w.cell? ⟨b3, o3 + i, none⟩ = some (.int .u8 (bs.getD i 0)) := by
    rcases HRV.out.2 with ⟨h, _⟩ | ⟨b3, o3, c3, h, _, hc⟩
    ·simp [h] at hbl
    ·exact ⟨b3, o3, c3, h, hc⟩
   simp only [Value.slice.injEq, true_and] at e3
   obtain ⟨rfl, rfl⟩ := e3
   obtain ⟨s1, s2, s3⟩ := HSEP.out (fun e => by simp [e] at hbl) b3 ⟨o3, _, _, rfl⟩
   have HS := (show Hid (b3 ≠ B ∧ gd ≠ b3 ∧ (Value.slice ap ds.length cp).ownBlock ≠ some b3) from ⟨s1, fun e => s2 (by rw [e]; rfl), s3⟩)
   have HCW : Hid (writeD dur ds s bs = putD dur ds s bs) := by unfold Hid writeD; rw [if_pos ⟨by omega, by have := HN.out; omega, hbl⟩]
   have HB3 : Hid (b3 < w.heap.size) := World.block_lt_of_cell? w _ (hsrc 0 (by omega))
   have hcl : (vals .u8 bs).length = 512 := by rw [vals_length]; exact hbl
   have RGW := (show Hid (w.rangeAt b3 o3 (vals .u8 bs)) from fun j v hj => by
    have hjl : j < bs.length := by have := (List.getElem?_eq_some_iff.1 hj).1; rwa [vals_length] at this
    rw [vals_at _ _ _ hjl] at hj
    rw [← hj]
    exact hsrc j hjl)
   have HBL : Hid (bs.length = 512) := hbl
   clear hbl hsrc s1 s2 s3 HNO
   go_enter Tryd.func74, Tryd.ntmps74
   go_upto_if 27 with fail
   go_cut [29] (fun _ wc => ∃ aq nq cq, Hid (Plat wc B (.slice (some ⟨gd, 0, none⟩) n cd) (.slice aq nq cq) (roomD dur ds).1 (roomD dur ds).2) ∧ Hid (∀ b, (Value.slice aq nq cq).ownBlock = some b → (Value.slice ap ds.length cp).ownBlock = some b) ∧ Hid (Kept (fun b => b = B ∨ gd = b) w wc))
   case first =>
    by_cases hf : 8192 ≤ ds.length
    ·have hfi : (8192 : Int) ≤ (ds.length : Int) := by omega
     have HRO : Hid (roomD dur ds = (settleN (fun _ => true) dur ds ds.length, [])) := by unfold Hid roomD; rw [if_pos (by omega)]
     have HP' := (show Hid (Plat w B (.slice (some ⟨gd, 0, none⟩) n cd) (.slice ap ds.length cp) dur ds) from HP.out)
     clear hf
     go_wp2_with fail
     refine (sync_any B _ _ dur ds _ HP.out HV.out).mono ?_
     rintro e w2 ⟨rfl, hpl, hk⟩
     go_wp2_with fail
     go_meet
     case rel => exact ⟨none, 0, 0, by rw [HRO.out]; exact hpl, fun b hb => by simp [Value.ownBlock] at hb, hk.mono (fun b _ e => e.imp id Option.some.inj)⟩
    ·have hfi : ¬ (8192 : Int) ≤ (ds.length : Int) := by omega
     have HRO : Hid (roomD dur ds = (dur, ds)) := by unfold Hid roomD; rw [if_neg (by omega)]
     clear hf
     go_wp2_with fail
     go_meet
     case rel => exact ⟨ap, ds.length, cp, by rw [HRO.out]; exact HP.out, fun b hb => hb, Kept.refl _ _⟩
   case rest =>
   obtain ⟨aq, nq, cq, HPL, HFQ, HKC⟩ := hcut
   obtain ⟨r1, r2, r3⟩ := roomD_valid HV.out
   have HX := (show Hid (FBox wc B (.slice (some ⟨gd, 0, none⟩) n cd) (.slice aq nq cq)) from HPL.out.box)
   have HSQ := (show Hid ((Value.slice aq nq cq).ownBlock ≠ some b3) from fun e => HS.out.2.2 (HFQ.out _ e))
   have hn3 : ¬ (b3 = B ∨ gd = b3) := fun e => e.elim HS.out.1 HS.out.2.1
   have RG0 := (show Hid (wc.rangeAt b3 o3 (vals .u8 bs)) from fun j v hj => HKC.out.cellOf (RGW.out j v hj) hn3)
   have RG := (show Hid (wc.drew.rangeAt b3 o3 (vals .u8 bs)) from RG0.out)
   have hu91 := Tryd.underlying94
   obtain ⟨j0, hj, hy0, hy1, hy2⟩ := info_parts Tryd.info91
   obtain ⟨i0, hi, hz0, hz1, hz2⟩ := info_parts Tryd.info93
   have hi91 : (Tryd.prog.info? 94).map (·.size) = some (vals .u8 bs).length := by rw [hcl, hj]; simp [hy1]
   have har := fun (wx : World) (ad : Option Addr) (c : Nat) => run_arrayAt wx ad bs.length c (by have := HBL.out; omega)
   have hzc : (Value.agg zeros93).cells.size = 513 := by kernel_rfl
   have HNB : Hid (∀ wx, wx = (wc.drew.alloc (.cells (Value.int .i64 s :: vals .u8 bs).toArray 110)) → ∀ j u, (Value.int .i64 s :: vals .u8 bs)[j]? = some u → wx.cell? ((⟨wc.heap.size, 0, none⟩ : Addr).add j) = some u) := fun wx hx j u hj => by
    have h := World.news_of_block (w := wx) (B := wc.heap.size) (cs := (Value.int .i64 s :: vals .u8 bs).toArray) (t := 110) (fr := (0, 0)) (by rw [hx]; have := heap_alloc_new wc.drew (.cells (Value.int .i64 s :: vals .u8 bs).toArray 110); simpa using this)
    exact h j u (by simpa using hj)
   have HONE : Hid (∀ u ∈ (Value.int .i64 s :: vals .u8 bs), u.oneCell' = true) := fun u hu => by
    rcases List.mem_cons.1 hu with rfl | hu
    ·rfl
    ·exact vals_one u hu
   clear p1 p2 p3 p4
   obtain ⟨_, x2, _, x4⟩ := HX.out
   go_wp2_with fail
   have hS : (fun w' => w'.cell? ⟨B, 1, none⟩ = some (.slice aq nq cq) ∧ w'.frozen? ⟨B, 1, none⟩ = false ∧ w'.rangeAt b3 o3 (vals .u8 bs)) wc.drew := by exact ⟨x2, x4, RG.out⟩
   refine wp_region_V (fun w' => w'.cell? ⟨B, 1, none⟩ = some (.slice aq nq cq) ∧ w'.frozen? ⟨B, 1, none⟩ = false ∧ w'.rangeAt b3 o3 (vals .u8 bs)) 14 15 rfl (by kernel_rfl) ?_
   refine tk 0 30 hS ?_
   refine tk 1 31 hS ?_
   refine tk 2 32 hS ?_
   refine tk 3 33 hS ?_
   refine tk 4 34 hS ?_
   refine tk 5 35 hS ?_
   refine tk 6 36 hS ?_
   refine tk 7 37 hS ?_
   refine wpAnyV_take (i := 8) (v := .agg (vals .u8 bs).toArray) (some 38) rfl rfl (by kernel_rfl) (by kernel_rfl) (by kernel_rfl) (by kernel_rfl) (fun _ _ _ h => h) (yieldsIf_load_mid (by rfl) _ _ rfl _ _ rfl _ _ (fun w hSw => by (try dsimp (config := { zetaDelta := true }) only at hSw); exact hSw.2.2) hu91 rfl hi91) hS ?_
   try simp only [Act.put, sA, s0, sS]
   refine wpAnyV_take (i := 9) (v := .agg (Value.int .i64 s :: vals .u8 bs).toArray) (some 39) rfl rfl (by kernel_rfl) (by kernel_rfl) (by kernel_rfl) (by kernel_rfl) (fun _ _ _ h => h) (yields_build93 (by rfl) _ _ rfl s (vals .u8 bs) (by rfl) (by rfl) hcl) hS ?_
   try simp only [Act.put, sA, s0, sS]
   refine wpAnyV_one (i := 10) (by kernel_rfl) rfl (fun K hK => ?_)
   refine step_row93 (by rfl) (.tmp 39) (by rfl) (Value.int .i64 s :: vals .u8 bs) (by rfl) (by rw [List.length_cons, hcl]) wc.heap.size (by simp) ?_
   simp only [List.getElem_toArray, List.getElem_cons_succ, List.getElem_cons_zero]
   obtain ⟨wb, hwb⟩ : ∃ wb, wb = (wc.drew.alloc (.cells (Value.int .i64 s :: vals .u8 bs).toArray 110)) := ⟨_, rfl⟩
   have HWB := (show Hid (wb = (wc.drew.alloc (.cells (Value.int .i64 s :: vals .u8 bs).toArray 110))) from hwb)
   rw [← hwb]
   clear hwb
   have HKB := (show Hid (Same wc wb) from (by rw [HWB.out]; exact (Kept.refl _ _).drew.alloc _))
   have hbs : wb.heap.size = wc.heap.size + 1 := by rw [HWB.out]; simp
   obtain ⟨_, y2, _, y4⟩ := HX.out.same HKB.out
   have RGB := (show Hid (wb.rangeAt b3 o3 (vals .u8 bs)) from fun j v hj => HKB.out.cellOf (RG0.out j v hj) id)
   have hS2 : (fun w' => w'.cell? ⟨B, 1, none⟩ = some (.slice aq nq cq) ∧ w'.frozen? ⟨B, 1, none⟩ = false ∧ w'.rangeAt b3 o3 (vals .u8 bs)) wb := by exact ⟨y2, y4, RGB.out⟩
   refine hK.out _ _ (fun _ => hS2) ?_
   clear hK K
   try simp only [Act.put, sA, s0, sS]
   refine wpAnyV_one (i := 11) (by kernel_rfl) rfl (fun K hK => ?_)
   refine step_append_lies _ (by rfl) (.tmp 34) (.tmp 40) 106 (by rfl) 0 110 i0 _ 513 520 Tryd.underlying106 hi hz0 hz1 hz2 hzc (by omega) (.slice aq nq cq) (roomD dur ds).2.length (penCells (roomD dur ds).2) (by rfl) (by exact HKB.out.owns HPL.out.pend (fun _ _ => id)) ⟨wc.heap.size, 0, none⟩ 1 1 (Value.int .i64 s :: vals .u8 bs) (by rfl) (by rw [List.length_cons, hcl]) (by exact HNB.out wb HWB.out) (by exact HONE.out) (by omega) (by unfold maxLen; omega) (by omega) (Nat.zero_le _) (wc.heap.size + 1) hbs ?_
   intro g5 cap5 w3 hown5 hgrow5 hat5 hlt5
   simp only [List.getElem_toArray, List.getElem_cons_succ, List.getElem_cons_zero]
   have hk5 : Kept (fun b => (Value.slice aq nq cq).ownBlock = some b) wb w3 := Kept.of_grown hgrow5 (fun k e => e)
   have HK5 := (show Hid (Kept (fun b => (Value.slice aq nq cq).ownBlock = some b) wb w3) from hk5)
   have HOWN5 := (show Hid (w3.ownsRow 0 110 513 (.slice (some ⟨g5, 0, none⟩) ((roomD dur ds).2.length + 1) cap5) ((roomD dur ds).2.length + 1) (penCells (roomD dur ds).2 ++ (Value.int .i64 s :: vals .u8 bs))) from hown5)
   have HAT5 : Hid ((Value.slice aq nq cq).ownBlock = some g5 ∨ g5 = wc.heap.size + 1) := hat5
   obtain ⟨_, y12, _, y14⟩ := (HX.out.same HKB.out).kept hk5 (fun e => HPL.out.a2 e)
   have RG5 := (show Hid (w3.rangeAt b3 o3 (vals .u8 bs)) from fun j v hj => hk5.cellOf (RGB.out j v hj) (fun e => HSQ.out e))
   clear hown5 hgrow5 hat5 hk5
   have hS4 : (fun w' => w'.cell? ⟨B, 1, none⟩ = some (.slice aq nq cq) ∧ w'.frozen? ⟨B, 1, none⟩ = false ∧ w'.rangeAt b3 o3 (vals .u8 bs)) w3 := by exact ⟨y12, y14, RG5.out⟩
   refine hK.out _ _ (fun _ => hS4) ?_
   clear hK K
   try simp only [Act.put, sA, s0, sS]
   refine wpAnyV_one (i := 12) (by kernel_rfl) rfl (fun K hK => ?_)
   go_simp
   refine hK.out _ _ (fun _ => hS4) ?_
   clear hK K
   try simp only [Act.put, sA, s0, sS]
   refine wpAnyV_one (i := 13) (by kernel_rfl) rfl (fun K hK => ?_)
   go_simp
   refine hK.out _ _ (fun _ => hS4) ?_
   clear hK K
   try simp only [Act.put, sA, s0, sS]
   refine wpAnyV_one (i := 14) (by kernel_rfl) rfl (fun K hK => ?_)
   go_simp
   refine hK.out _ _ (fun h => absurd rfl h) ?_
   clear hK K
   refine wpAnyV_done (by kernel_rfl) ?_
   try simp only [Act.put, sA, s0, sS]
   have hB : B < wc.heap.size := HX.out.lt
   have hset := Kept.setCell (Kept.refl (fun b => b = B) w3) (p := ⟨B, 1, none⟩) (.inr rfl) (.slice (some ⟨g5, 0, none⟩) ((roomD dur ds).2.length + 1) cap5)
   have HX3 := (show Hid (FBox (w3.setCell ⟨B, 1, none⟩ (.slice (some ⟨g5, 0, none⟩) ((roomD dur ds).2.length + 1) cap5)) B (.slice (some ⟨gd, 0, none⟩) n cd) (.slice (some ⟨g5, 0, none⟩) ((roomD dur ds).2.length + 1) cap5)) from ((HX.out.same HKB.out).kept HK5.out (fun e => HPL.out.a2 e)).set1 _)
   have hgd := World.ownsRow.lt HPL.out.dur gd rfl
   have hg5 : g5 ≠ B ∧ g5 ≠ gd ∧ ((Value.slice ap ds.length cp).ownBlock = some g5 ∨ w.heap.size ≤ g5) := by
    rcases HAT5.out with h | h
    ·exact ⟨fun e => HPL.out.a2 (e ▸ h), fun e => HPL.out.a3 gd rfl (e ▸ h), .inl (HFQ.out _ h)⟩
    ·have := HKC.out.size; exact ⟨by omega, by omega, .inr (by omega)⟩
   have HG5 := (show Hid (g5 ≠ B ∧ g5 ≠ gd ∧ ((Value.slice ap ds.length cp).ownBlock = some g5 ∨ w.heap.size ≤ g5)) from hg5)
   have hdur := HPL.out.dur
   rw [r1, HN.out] at hdur
   have HD3 := (show Hid (World.ownsRow (w3.setCell ⟨B, 1, none⟩ (.slice (some ⟨g5, 0, none⟩) ((roomD dur ds).2.length + 1) cap5)) 0 94 512 (.slice (some ⟨gd, 0, none⟩) n cd) n (vals .u8 (roomD dur ds).1)) from
    hset.owns (HK5.out.owns (HKB.out.owns hdur (fun _ _ => id)) (fun b hb e => HPL.out.a3 b hb e)) (fun b hb e => HPL.out.a1 (by rw [hb, e])))
   have HP3 := (show Hid (World.ownsRow (w3.setCell ⟨B, 1, none⟩ (.slice (some ⟨g5, 0, none⟩) ((roomD dur ds).2.length + 1) cap5)) 0 110 513 (.slice (some ⟨g5, 0, none⟩) ((roomD dur ds).2.length + 1) cap5) ((roomD dur ds).2.length + 1) (penCells (putD dur ds s bs).2)) from (by
    have e : penCells (putD dur ds s bs).2 = penCells (roomD dur ds).2 ++ (Value.int .i64 s :: vals .u8 bs) := by
     unfold putD
     rw [penCells_append]
     simp [penCells]
    rw [e]
    exact hset.owns HOWN5.out (fun b hb => by have e : b = g5 := (Option.some.inj hb).symm; show ¬ b = B; have := HG5.out.1; omega)))
   have HK3 := (show Hid (Kept (fun b => b = B ∨ (Value.slice (some ⟨gd, 0, none⟩) n cd).ownBlock = some b ∨ (Value.slice ap ds.length cp).ownBlock = some b) w (w3.setCell ⟨B, 1, none⟩ (.slice (some ⟨g5, 0, none⟩) ((roomD dur ds).2.length + 1) cap5))) from
    ((((HKC.out.mono (fun b _ e => e.imp id (fun h => Or.inl (by rw [h]; rfl)))).trans (HKB.out.mono (fun _ _ h => h.elim))).trans (HK5.out.mono (fun b _ e => .inr (.inr (HFQ.out b e))))).trans (hset.mono (fun b _ e => .inl e))))
   clear hset hg5 hgd hdur hS hS2 hS4 y2 y4 y12 y14 x2 x4
   go_wp2
   go_end0
   refine ⟨rfl, ⟨.slice (some ⟨g5, 0, none⟩) ((roomD dur ds).2.length + 1) cap5, ?_, fun b hb => ?_⟩, HK3.out⟩
   ·rw [HCW.out]
    refine ⟨HX3.out, ?_, ?_, HPL.out.a1, fun e => HG5.out.1 (Option.some.inj e), fun b hb e => HG5.out.2.1 ((Option.some.inj e).trans (Option.some.inj hb).symm)⟩
    ·have h := HD3.out
     have e : (putD dur ds s bs).1 = (roomD dur ds).1 := rfl
     rw [e, r1, HN.out]
     exact h
    ·have e : (putD dur ds s bs).2.length = (roomD dur ds).2.length + 1 := by simp [putD]
     rw [e]
     exact HP3.out
   ·obtain rfl : g5 = b := Option.some.inj hb
    exact HG5.out.2.2
theorem Rd.looks_lt {k : IntKind} {w : World} {v : Value} {bs : List Int} (h : Rd k w v bs) (hb : bs ≠ []) {b : Nat} (hl : looks v b) : b < w.heap.size := by
 obtain ⟨o, n, c, rfl⟩ := hl
 rcases h.2 with ⟨h0, _⟩ | ⟨b', off, c', e, _, hc⟩
 ·exact absurd h0 hb
 ·simp only [Value.slice.injEq, Option.some.injEq, Addr.mk.injEq, and_true] at e
  obtain ⟨⟨rfl, rfl⟩, _⟩ := e
  exact World.block_lt_of_cell? w _ (hc 0 (by cases bs with | nil => exact absurd rfl hb | cons _ _ => simp))
def keepS (ks : List Int) (k : Nat) : Bool := decide (k < ks.length) && (ks.getD k 0 != 0)
theorem keep_cell {kd : IntKind} {w : World} {v : Value} {ks : List Int} (h : Rd kd w v ks) {k : Nat} (hk : k < ks.length) : ∃ b o c, v = .slice (some ⟨b, o, none⟩) ks.length c ∧ w.cell? ⟨b, o + k, none⟩ = some (.int kd (ks.getD k 0)) := by
 rcases h.2 with ⟨rfl, _⟩ | ⟨b, o, c, e, _, hc⟩
 ·simp at hk
 ·exact ⟨b, o, c, e, hc k hk⟩
theorem crash_any (B : Nat) (dv pv : Value) (dur : List Int) (ds : List (Int × List Int)) (kv : Value) (ks : List Int) (w : World) (hp : Plat w B dv pv dur ds) (hval : Valid dur.length ds) (hkv : Rd .i64 w kv ks) (hsep : ks ≠ [] → ∀ b, looks kv b → dv.ownBlock ≠ some b) :
  Calls Tryd.prog 50 #[.pointer (some ⟨B, 0, none⟩), kv] w fun e w' => e = .returned (.tuple #[]) ∧ Plat w' B dv (.slice none 0 0) (settleN (keepS ks) dur ds ds.length) [] ∧ Kept (fun b => b = B ∨ dv.ownBlock = some b) w w' := by
 obtain ⟨gd, cd, rfl⟩ : ∃ gd cd, dv = .slice (some ⟨gd, 0, none⟩) (dur.length / 512) cd := by
  rcases hp.dur.2 with ⟨_, h⟩ | ⟨g, cap, _, h, _⟩
  ·have := hval.1.2.1; omega
  ·exact ⟨g, cap, h⟩
 obtain ⟨aq, cq, rfl⟩ : ∃ aq cq, pv = .slice aq ds.length cq := by
  rcases hp.pend.2 with ⟨rfl, h⟩ | ⟨g, cap, _, h, _⟩
  ·exact ⟨none, 0, by rw [h]⟩
  ·exact ⟨_, _, h⟩
 have HP : Hid (Plat w B (.slice (some ⟨gd, 0, none⟩) (dur.length / 512) cd) (.slice aq ds.length cq) dur ds) := hp
 have HV : Hid (Valid dur.length ds) := hval
 have hdl : ds.length ≤ 8192 := hval.1.2.2.2
 have hdn : dur.length / 512 ≤ 1024 := hval.1.2.2.1
 obtain ⟨n, hn⟩ : ∃ n, dur.length / 512 = n := ⟨_, rfl⟩
 rw [hn] at HP hdn ⊢
 have HN : Hid (dur.length = n * 512) := by have := hval.1.1; unfold Hid; omega
 have hbd : gd ≠ B := fun e => HP.out.a1 (by rw [e]; rfl)
 obtain ⟨ak, ck, rfl⟩ := hkv.form
 have HKV := (show Hid (Rd .i64 w (.slice ak ks.length ck) ks) from hkv)
 have HSEP := (show Hid (ks ≠ [] → ∀ b, looks (.slice ak ks.length ck) b → (Value.slice (some ⟨gd, 0, none⟩) n cd).ownBlock ≠ some b) from (by rw [← hn]; exact hsep))
 have hkm := hkv.1
 unfold maxLen at hkm
 clear hp hval hn hkv hsep
 have hz93 := zero93
 obtain ⟨p1, p2, p3, p4⟩ := HP.out.box
 go_enter Tryd.func50, Tryd.ntmps50
 go_wp2
 go_loopw [11] (fun i wr => ∃ (k : Nat), k ≤ ds.length ∧ i = .int .i64 k ∧ Hid (wr.ownsRow 0 94 512 (.slice (some ⟨gd, 0, none⟩) n cd) n (vals .u8 (settleN (keepS ks) dur ds k))) ∧ Hid (Kept (fun b => b = gd) w wr)) (fun i _ => ds.length - (intOf i).toNat)
 case atStart => exact ⟨0, Nat.zero_le _, rfl, (by have h := HP.out.dur; rw [show dur.length / 512 = n from by have := HN.out; omega] at h; exact h), Kept.refl _ _⟩
 case round =>
  obtain ⟨k, hk, rfl, HRr, HKr⟩ := hrel
  by_cases hlt : k < ds.length
  ·obtain ⟨gq, rfl⟩ : ∃ gq, aq = some ⟨gq, 0, none⟩ := by
    rcases HP.out.pend.2 with ⟨h, h0⟩ | ⟨g, cap, _, h, _⟩
    ·omega
    ·simp only [Value.slice.injEq] at h; exact ⟨g, h.1⟩
   have hgq : gq ≠ gd := fun e => HP.out.a3 gd rfl (by rw [e]; rfl)
   obtain ⟨v1, v2, v3⟩ := HV.out.2 ds[k] (List.getElem_mem hlt)
   have hpr := HKr.out.owns HP.out.pend (fun b hb => by have e : b = gq := (Option.some.inj hb).symm; show ¬ b = gd; omega)
   have hplen : (penCells ds).length = ds.length * 513 := penCells_length ds (fun p hp => (HV.out.2 p hp).2.2)
   have hrange : wr.rangeAt gq (k * 513) (Value.int .i64 ds[k].1 :: vals .u8 ds[k].2) := by
    have h := owns_range hpr (k * 513) 513 (by rw [hplen]; omega)
    rw [penCells_at ds (fun p hp => (HV.out.2 p hp).2.2) k hlt] at h
    have e : (Value.int .i64 ds[k].1 :: (vals .u8 ds[k].2 ++ penCells (ds.drop (k + 1)))).take 513 = Value.int .i64 ds[k].1 :: vals .u8 ds[k].2 := by
     rw [List.take_succ_cons, List.take_append_of_le_length (by rw [vals_length, v3]; exact Nat.le_refl _), List.take_of_length_le (by rw [vals_length, v3]; exact Nat.le_refl _)]
    rw [e] at h
    exact h
   have HRG := (show Hid (wr.rangeAt gq (k * 513) (Value.int .i64 ds[k].1 :: vals .u8 ds[k].2)) from hrange)
   have hcl : (vals .u8 ds[k].2).length = 512 := by rw [vals_length]; exact v3
   have HCL : Hid ((Value.int .i64 ds[k].1 :: vals .u8 ds[k].2).length = 513) := by unfold Hid; rw [List.length_cons, hcl]
   have HI93 : Hid ((Tryd.prog.info? 110).map (·.size) = some (Value.int .i64 ds[k].1 :: vals .u8 ds[k].2).length) := by
    obtain ⟨i0, hi, hz0, hz1, hz2⟩ := info_parts Tryd.info93
    unfold Hid; rw [HCL.out, hi]; simp [hz1]
   obtain ⟨cs, hcs⟩ : ∃ cs, cs = Value.int .i64 ds[k].1 :: vals .u8 ds[k].2 := ⟨_, rfl⟩
   rw [← hcs] at HRG HCL HI93
   have HCS : Hid (cs = Value.int .i64 ds[k].1 :: vals .u8 ds[k].2) := hcs
   have HONE : Hid (∀ u ∈ cs, u.oneCell' = true) := fun u hu => by
    rw [hcs] at hu
    rcases List.mem_cons.1 hu with rfl | hu
    ·rfl
    ·exact vals_one u hu
   have hzs : zeros93.size = 513 := by kernel_rfl
   have HTH : Hid ((wr.alloc (.cells zeros93 110)).there wr.heap.size 0 cs.toArray.size) := fun j hj => by
    rw [List.size_toArray, HCL.out] at hj
    refine ⟨?_, ?_⟩
    ·rw [cell_of_row _ wr.heap.size (0 + j) zeros93 110 (0, 0) (heap_alloc_new wr _)]
     simp [hzs, hj]
    ·exact frozen_of_row _ _ _ zeros93 110 (heap_alloc_new wr _)
   have HI93' : Hid ((Tryd.prog.info? 110).map (·.size) = some cs.toArray.size) := by rw [List.size_toArray]; exact HI93
   obtain ⟨wb, hwb⟩ : ∃ wb, wb = (wr.alloc (.cells zeros93 110)).setCells wr.heap.size 0 cs := ⟨_, rfl⟩
   have HRB : Hid (wb.rangeAt wr.heap.size 0 cs) := by rw [hwb]; exact World.rangeAt_setCells_same _ _ _ _ (by have h := HTH.out; rwa [List.size_toArray] at h)
   have HKB : Hid (Same wr wb) := by
    obtain ⟨_, hgr⟩ := owns_setCellsP (base := 0) (e := 110) (size := 513) (g := wr.heap.size) (n := 1) (cap := 1) cs 0 (wr.alloc (.cells zeros93 110)) zeros93.toList (World.ownsRow_lit wr zeros93 1 (Nat.zero_le _) (by unfold maxLen; omega) (by rw [hzs])) (by rw [HCL.out, Array.length_toList, hzs]; exact Nat.le_refl _)
    rw [hwb]
    exact ((Kept.refl _ _).alloc _).grown hgr (fun k e => .inl (by have : wr.heap.size = k := Option.some.inj e; omega))
   have HWB : Hid (wb = (wr.alloc (.cells zeros93 110)).setCells wr.heap.size 0 cs) := hwb
   clear hcs hwb
   have hki : (k : Int) < (ds.length : Int) := by omega
   have hk0 : (0 : Int) ≤ (k : Int) := by omega
   clear hpr hplen hrange p1 p2 p3 p4
   have hst : ∀ k, k ≤ ds.length → (settleN (keepS ks) dur ds k).length = dur.length := fun k hk => settleN_length _ _ _ HV.out k hk
   obtain ⟨sn, hsn⟩ : ∃ sn : Nat, ds[k].1 = sn := ⟨ds[k].1.toNat, by omega⟩
   have hnn := HN.out
   have hsn1 : sn < n := by have := v2; omega
   have x1 := ((HP.out.box.kept HKr.out (by show ¬ B = gd; omega)).same HKB.out).1
   have x2 := ((HP.out.box.kept HKr.out (by show ¬ B = gd; omega)).same HKB.out).2.1
   have y1 : wb.cell? ⟨wr.heap.size, 0, none⟩ = some (.int .i64 (sn : Int)) := by have h := HRB.out 0 (.int .i64 ds[k].1) (by rw [HCS.out]; rfl); rw [hsn] at h; exact h
   have RG : Hid (wb.drew.rangeAt wr.heap.size 1 (vals .u8 ds[k].2)) := fun j v hj => by
    have h := HRB.out (j + 1) v (by rw [HCS.out, List.getElem?_cons_succ]; exact hj)
    show wb.cell? _ = _
    rw [← h]
    congr 2
    omega
   have HI91 : Hid ((Tryd.prog.info? 94).map (·.size) = some (vals .u8 ds[k].2).length) := by
    obtain ⟨j0, hj, hy0, hy1, hy2⟩ := info_parts Tryd.info91
    unfold Hid; rw [hcl, hj]; simp [hy1]
   have HID : Hid ((Tryd.prog.info? 94).map (·.size) = some (vals .u8 ds[k].2).toArray.size) := by rw [List.size_toArray]; exact HI91
   have HOD := (show Hid (wb.drew.ownsRow 0 94 512 (.slice (some ⟨gd, 0, none⟩) n cd) n (vals .u8 (settleN (keepS ks) dur ds k))) from (HKB.out.owns HRr.out (fun _ _ => id)).drew)
   have HFD : Hid (sn * 512 + 512 ≤ (vals .u8 (settleN (keepS ks) dur ds k)).length) := by unfold Hid; rw [vals_length, hst k (by omega)]; omega
   have HTD : Hid (wb.drew.there gd (sn * 512) (vals .u8 ds[k].2).toArray.size) := by rw [List.size_toArray, hcl]; exact owns_there HOD.out (sn * 512) 512 HFD.out
   have g1 : (sn : Int) < (n : Int) := by omega
   have g2 : (0 : Int) ≤ (sn : Int) := by omega
   have HSN : Hid (ds[k].1 = sn) := hsn
   have HCL2 : Hid ((vals .u8 ds[k].2).length = 512) := hcl
   clear hst hnn v1 v2 v3 hcl hzs
   by_cases hsl : keepS ks k = true
   case neg =>
    have hs0 : keepS ks k = false := by simpa using hsl
    have e0 : settleN (keepS ks) dur ds (k + 1) = settleN (keepS ks) dur ds k := by rw [settleN, hs0, if_neg (by simp)]
    have HR9 := (show Hid (wb.ownsRow 0 94 512 (.slice (some ⟨gd, 0, none⟩) n cd) n (vals .u8 (settleN (keepS ks) dur ds (k + 1)))) from (by rw [e0]; exact HKB.out.owns HRr.out (fun _ _ => id)))
    have HK9 := (show Hid (Kept (fun b => b = gd) w wb) from HKr.out.trans (HKB.out.mono (fun _ _ h => h.elim)))
    clear e0
    by_cases hkl : k < ks.length
    ·obtain ⟨kb, ko, kc, ek, hkc⟩ := keep_cell HKV.out hkl
     simp only [Value.slice.injEq, true_and] at ek
     obtain ⟨rfl, rfl⟩ := ek
     have hkb : kb ≠ gd := fun e => HSEP.out (fun e0 => by simp [e0] at hkl) kb ⟨_, _, _, rfl⟩ (by rw [e]; rfl)
     have q3 := HK9.out.cellOf hkc (by show ¬ kb = gd; omega)
     have q4 : (ks.getD k 0 != 0) = false := by unfold keepS at hsl; rw [decide_eq_true hkl, Bool.true_and] at hsl; simpa using hsl
     generalize ks.getD k 0 = z at q3 q4
     have hkk : (k : Int) < (ks.length : Int) := by omega
     clear hkc hsl x1 x2 y1
     go_wp2_with (first | (refine wpList_load_mid rfl 110 _ rfl gq (k * 513) rfl cs _ HRG.out Tryd.underlying110 rfl HI93.out ?_) | (refine wpList_store_mid rfl 110 _ _ rfl wr.heap.size 0 cs.toArray rfl rfl HTH.out HI93'.out (all_oneCell_toArray HONE.out) ?_; rw [List.toList_toArray, ← HWB.out]))
     go_wp2
     go_roundw
     case rel => exact ⟨k + 1, by omega, by go_num, HR9, HK9⟩
     case measure => simp [intOf]; omega
    ·have hkk : ¬ (k : Int) < (ks.length : Int) := by omega
     clear hsl hkl x1 x2 y1
     go_wp2_with (first | (refine wpList_load_mid rfl 110 _ rfl gq (k * 513) rfl cs _ HRG.out Tryd.underlying110 rfl HI93.out ?_) | (refine wpList_store_mid rfl 110 _ _ rfl wr.heap.size 0 cs.toArray rfl rfl HTH.out HI93'.out (all_oneCell_toArray HONE.out) ?_; rw [List.toList_toArray, ← HWB.out]))
     go_wp2
     go_roundw
     case rel => exact ⟨k + 1, by omega, by go_num, HR9, HK9⟩
     case measure => simp [intOf]; omega
   have HSL : Hid (keepS ks k = true) := hsl
   have hkl : k < ks.length := by unfold keepS at hsl; simp at hsl; exact hsl.1
   obtain ⟨kb, ko, kc, ek, hkc⟩ := keep_cell HKV.out hkl
   simp only [Value.slice.injEq, true_and] at ek
   obtain ⟨rfl, rfl⟩ := ek
   have hkb : kb ≠ gd := fun e => HSEP.out (fun e0 => by simp [e0] at hkl) kb ⟨_, _, _, rfl⟩ (by rw [e]; rfl)
   have q3 := (HKr.out.trans (HKB.out.mono (fun _ _ h => h.elim))).cellOf hkc (by show ¬ kb = gd; omega)
   have q4 : (ks.getD k 0 != 0) = true := by unfold keepS at hsl; rw [decide_eq_true hkl, Bool.true_and] at hsl; simpa using hsl
   generalize ks.getD k 0 = z at q3 q4
   have hkk : (k : Int) < (ks.length : Int) := by omega
   clear hkc hsl
   have HST : Hid (vals .u8 (settleN (keepS ks) dur ds (k + 1)) = lay (vals .u8 (settleN (keepS ks) dur ds k)) (sn * 512) (vals .u8 ds[k].2)) := by
    unfold Hid
    have e : ds.getD k (0, []) = ds[k] := by simp [List.getD, hlt]
    rw [settleN, if_pos HSL.out, e, hsn, Int.toNat_natCast]
    simp [vals, putAt, lay]
   clear hsn
   go_wp2_with (first | (refine wpList_load_mid rfl 110 _ rfl gq (k * 513) rfl cs _ HRG.out Tryd.underlying110 rfl HI93.out ?_) | (refine wpList_store_mid rfl 110 _ _ rfl wr.heap.size 0 cs.toArray rfl rfl HTH.out HI93'.out (all_oneCell_toArray HONE.out) ?_; rw [List.toList_toArray, ← HWB.out]))
   have hS : (fun w' => w'.cell? ⟨B, 0, none⟩ = some (.slice (some ⟨gd, 0, none⟩) n cd) ∧ w'.cell? ⟨wr.heap.size, 0, none⟩ = some (.int .i64 (sn : Int)) ∧ w'.rangeAt wr.heap.size 1 (vals .u8 ds[k].2)) wb.drew := by exact ⟨x1, y1, RG.out⟩
   refine wp_region_V (fun w' => w'.cell? ⟨B, 0, none⟩ = some (.slice (some ⟨gd, 0, none⟩) n cd) ∧ w'.cell? ⟨wr.heap.size, 0, none⟩ = some (.int .i64 (sn : Int)) ∧ w'.rangeAt wr.heap.size 1 (vals .u8 ds[k].2)) 9 10 rfl (by kernel_rfl) ?_
   refine tk 0 27 hS ?_
   refine tk 1 28 hS ?_
   refine tk 2 29 hS ?_
   refine tk 3 30 hS ?_
   refine tk 4 31 hS ?_
   refine tk 5 32 hS ?_
   refine tk 6 33 hS ?_
   refine wpAnyV_take (i := 7) (v := .agg (vals .u8 ds[k].2).toArray) (some 34) rfl rfl (by kernel_rfl) (by kernel_rfl) (by kernel_rfl) (by kernel_rfl) (fun _ _ _ h => h) (yieldsIf_load_mid (by rfl) _ _ rfl _ _ rfl _ _ (fun w hSw => by (try dsimp (config := { zetaDelta := true }) only at hSw); exact hSw.2.2) Tryd.underlying94 rfl HI91.out) hS ?_
   try simp only [Act.put, sA, s0, sS]
   refine tk 8 35 hS ?_
   refine wpAnyV_one (i := 9) (by kernel_rfl) rfl (fun K hK => ?_)
   rw [if_pos (by rfl)]
   refine wp_store_mid _ _ _ rfl gd (sn * 512) (vals .u8 ds[k].2).toArray rfl rfl HTD.out HID.out (all_oneCell_toArray (fun v hv => vals_one v hv)) ?_
   simp only [List.getElem_toArray, List.getElem_cons_succ, List.getElem_cons_zero, List.toList_toArray]
   refine hK.out _ _ (fun h => absurd rfl h) ?_
   clear hK K
   refine wpAnyV_done (by kernel_rfl) ?_
   try simp only [Act.put, sA, s0, sS]
   obtain ⟨q1, q2⟩ := owns_setCellsP (vals .u8 ds[k].2) (sn * 512) wb.drew _ HOD.out (by rw [HCL2.out]; exact HFD.out)
   rw [← HST.out] at q1
   have HR2 := (show Hid (World.ownsRow _ 0 94 512 (.slice (some ⟨gd, 0, none⟩) n cd) n (vals .u8 (settleN (keepS ks) dur ds (k + 1)))) from q1)
   have HK2 := (show Hid (Kept (fun b => b = gd) w _) from (HKr.out.trans ((HKB.out.mono (fun _ _ h => h.elim)).drew)).trans (Kept.of_grown q2 (fun k e => (Option.some.inj e).symm)))
   generalize wb.drew.setCells gd (sn * 512) (vals .u8 ds[k].2) = wn at *
   clear q1 q2 hS x1 x2 y1
   go_wp2
   go_roundw
   case rel => exact ⟨k + 1, by omega, by go_num, HR2, HK2⟩
   case measure => simp [intOf]; omega
  ·obtain rfl : k = ds.length := by omega
   have HX := (show Hid (FBox wr B (.slice (some ⟨gd, 0, none⟩) n cd) (.slice aq ds.length cq)) from HP.out.box.kept HKr.out (by show ¬ B = gd; omega))
   clear p1 p2 p3 p4
   obtain ⟨p1, p2, p3, p4⟩ := HX.out
   go_wp2
   go_end0
   have hl := settleN_length (keepS ks) dur ds HV.out ds.length (Nat.le_refl _)
   have hk2 : Kept (fun b => b = B) wr (wr.setCell ⟨B, 1, none⟩ (.slice none 0 0)) := Kept.setCell (Kept.refl (fun b => b = B) wr) (p := ⟨B, 1, none⟩) (.inr rfl) _
   refine ⟨rfl, ⟨HX.out.set1 _, ?_, World.ownsRow_nil _ _ _ _, HP.out.a1, by simp [Value.ownBlock], fun b _ hb => by simp [Value.ownBlock] at hb⟩, ?_⟩
   ·rw [hl, show dur.length / 512 = n from by have := HN.out; omega]
    exact hk2.owns HRr.out (fun b hb => by have e : b = gd := (Option.some.inj hb).symm; show ¬ b = B; omega)
   ·exact (HKr.out.mono (fun b _ e => .inr (by rw [e]; rfl))).trans (hk2.mono (fun b _ e => .inl e))
abbrev IsCrash (ks : List Int) (dur : List Int) (ds : List (Int × List Int)) (r : List Int) (rs : List (Int × List Int)) : Prop := Ans (Valid dur.length ds) (settleN (keepS ks) dur ds ds.length) [] dur ds r rs
theorem implCrash_any (dv pv : Value) (dur : List Int) (ps : List PW) (kv : Value) (ks : List Int) (w : World) (hd : dur.length ≤ 1099511627776) (hn : ps.length ≤ 1073741824) (hs : ∀ p ∈ ps, p.bs.length ≤ 1099511627776) (hv : RdD w dv pv dur ps) (hkl : ks.length ≤ 1099511627776) (hkv : Rd .i64 w kv ks) :
  Calls Tryd.prog 16 #[.agg #[dv, pv], kv] w fun e w' => ∃ a n c a' n' c' r qs, e = .returned (.agg #[.slice a n c, .slice a' n' c']) ∧ IsCrash ks dur (dataP ps) r (dataP qs) ∧
   (∀ b, footD (.slice a n c) (.slice a' n' c') qs b → w.heap.size ≤ b) ∧ OwnD 0 70 5 w' (.slice a n c) (.slice a' n' c') r qs ∧ Same w w' := by
 obtain ⟨a1, c1, rfl⟩ := hv.dur.form
 obtain ⟨a2, c2, rfl⟩ := hv.pend.form
 have HV := (show Hid (RdD w (.slice a1 dur.length c1) (.slice a2 ps.length c2) dur ps) from hv)
 obtain ⟨ak, ck, rfl⟩ := hkv.form
 have HKV := (show Hid (Rd .i64 w (.slice ak ks.length ck) ks) from hkv)
 have HS : Hid (∀ p ∈ ps, p.bs.length ≤ 1099511627776) := hs
 clear hv hs hkv
 go_enter Tryd.func16, Tryd.ntmps16
 go_wp2_with fail
 refine (implValid_any _ _ dur ps _ (HV.out.same (((Kept.refl _ _).alloc _).alloc _))).mono ?_
 rintro e w1 ⟨⟨B, rfl, hB⟩, hk1⟩
 have HB1 : Hid (Box w1 w.heap.size (.slice a1 dur.length c1) (.slice a2 ps.length c2)) := (Box.new _ _ _ _).same (((Kept.refl _ _).alloc _).trans hk1)
 have HX1 : Hid (FBox w1 (w.heap.size + 1) (.slice none 0 0) (.slice none 0 0)) := by have h := FBox.new (w.alloc (.cells #[.slice a1 dur.length c1, .slice a2 ps.length c2] 25)) (.slice none 0 0) (.slice none 0 0) 25; rw [World.size_alloc] at h; exact h.same hk1
 have HK1 : Hid (Same w w1) := (((Kept.refl _ _).alloc _).alloc _).trans hk1
 clear hk1
 obtain ⟨p1, p2⟩ := HB1.out
 have hl1 := HX1.out.lt
 cases B with
 | false =>
  have HN : Hid (¬ Valid dur.length (dataP ps)) := fun h => by have := hB.2 h; simp at this
  clear hB
  go_wp2_with fail
  refine (cloneDisk_any _ _ dur ps _ hd hn HS.out (HV.out.same HK1.out)).mono ?_
  rintro e w2 ⟨a, n, c, a', n', c', qs, rfl, hq, hf, ho, hk⟩
  have HQ : Hid (dataP qs = dataP ps) := hq
  have HF := (show Hid (∀ b, footD (.slice a n c) (.slice a' n' c') qs b → w.heap.size + 1 < b) from fun b hb => by have h1 := hf b hb; omega)
  have HO := (show Hid (OwnD 0 70 5 w2 (.slice a n c) (.slice a' n' c') dur qs) from ho)
  have HK : Hid (Same w w2) := HK1.out.trans hk
  obtain ⟨x1, x2, x3, x4⟩ := HX1.out.same hk
  clear hq hf ho hk p1 p2
  go_wp2
  exact agg_ret (by simp [results, Tryd.results16, go_sem, x1, x2]) rfl (A := IsCrash ks dur (dataP ps)) (.inr ⟨HN.out, rfl, HQ.out⟩) (Nat.le_succ _) HF.out HO.out HK.out
 | true =>
  have HY : Hid (Valid dur.length (dataP ps)) := hB.1 rfl
  clear hB
  go_wp2_with fail
  refine (openDisk_any _ _ dur ps _ (HV.out.same HK1.out) HY.out).mono ?_
  rintro e w2 ⟨B, dv', pv', rfl, hpl, ⟨hf1, hf2, hf3⟩, hk2⟩
  have HPL := (show Hid (Plat w2 B dv' pv' dur (dataP ps)) from hpl)
  have HF := (show Hid (w1.heap.size ≤ B ∧ ∀ b, dv'.ownBlock = some b → w1.heap.size ≤ b) from ⟨hf1, hf2⟩)
  have HK2 : Hid (Same w w2) := HK1.out.trans hk2
  have HX2 : Hid (FBox w2 (w.heap.size + 1) (.slice none 0 0) (.slice none 0 0)) := HX1.out.same hk2
  have hs2 := hk2.size
  clear hpl hf1 hf2 hf3 hk2 p1 p2
  go_wp2_with fail
  refine (crash_any B dv' pv' dur (dataP ps) _ ks _ HPL.out HY.out (HKV.out.same HK2.out) (fun h0 b hb => ?sep)).mono ?_
  case sep =>
   have hbw : b < w.heap.size := HKV.out.looks_lt h0 hb
   exact fun e => by have := HF.out.2 b e; omega
  rintro e w3 ⟨rfl, hpl, hk3⟩
  have HPL3 := (show Hid (Plat w3 B dv' (.slice none 0 0) (settleN (keepS ks) dur (dataP ps) (dataP ps).length) []) from hpl)
  have HK3 : Hid (Same w w3) := HK2.out.next hk3 (fun b hb e => by
   rcases e with rfl | e
   ·have := HF.out.1; omega
   ·have := HF.out.2 b e; omega)
  have HX3 : Hid (FBox w3 (w.heap.size + 1) (.slice none 0 0) (.slice none 0 0)) := HX2.out.kept hk3 (fun e => by
   rcases e with e | e
   ·have := HF.out.1; omega
   ·have := HF.out.2 _ e; omega)
  have hs3 := hk3.size
  clear hpl hk3
  go_wp2_with fail
  refine (disk_any B dv' (.slice none 0 0) (settleN (keepS ks) dur (dataP ps) (dataP ps).length) [] _ HPL3.out (by rw [settleN_length _ _ _ HY.out _ (Nat.le_refl _)]; exact ⟨⟨HY.out.1.1, HY.out.1.2.1, HY.out.1.2.2.1, Nat.zero_le _⟩, fun p hp => by simp at hp⟩)).mono ?_
  rintro e w4 ⟨a, n, c, a', n', c', qs, rfl, hq, hf, ho, hk⟩
  have HQ : Hid (dataP qs = []) := hq
  have HF4 := (show Hid (∀ b, footD (.slice a n c) (.slice a' n' c') qs b → w.heap.size + 1 < b) from fun b hb => by have h1 := hf b hb; omega)
  have HO := (show Hid (OwnD 0 70 5 w4 (.slice a n c) (.slice a' n' c') (settleN (keepS ks) dur (dataP ps) (dataP ps).length) qs) from ho)
  have HK : Hid (Same w w4) := HK3.out.trans hk
  obtain ⟨x1, x2, x3, x4⟩ := HX3.out.same hk
  clear hq hf ho hk
  go_wp2
  exact agg_ret (by simp [results, Tryd.results16, go_sem, x1, x2]) rfl (A := IsCrash ks dur (dataP ps)) (.inl ⟨HY.out, rfl, HQ.out⟩) (Nat.le_succ _) HF4.out HO.out HK.out
structure RowK (E : Type) where
 m : Nat
 cells : E → List Value
 len : ∀ p, (cells p).length = m
 v : E → Value
 bs : E → List Int
variable {E : Type}
def RowK.all (K : RowK E) : List E → List Value
 | [] => []
 | p :: ps => K.cells p ++ K.all ps
theorem RowK.all_length (K : RowK E) (ps : List E) : (K.all ps).length = ps.length * K.m := by
 induction ps with
 | nil => simp [RowK.all]
 | cons p ps ih => rw [RowK.all, List.length_append, K.len, ih, List.length_cons, Nat.add_mul, Nat.one_mul, Nat.add_comm]
theorem RowK.all_append (K : RowK E) (ps qs : List E) : K.all (ps ++ qs) = K.all ps ++ K.all qs := by
 induction ps with
 | nil => rfl
 | cons p ps ih => simp only [List.cons_append, RowK.all, ih, List.append_assoc]
theorem RowK.all_at (K : RowK E) (ps : List E) (j i : Nat) (h : j < ps.length) (hi : i < K.m) : (K.all ps)[j * K.m + i]? = (K.cells ps[j])[i]? := by
 induction ps generalizing j with
 | nil => simp at h
 | cons p ps ih =>
  cases j with
  | zero => rw [Nat.zero_mul, Nat.zero_add, RowK.all, List.getElem?_append_left (by rw [K.len]; exact hi)]; rfl
  | succ j =>
   rw [RowK.all, List.getElem?_append_right (by rw [K.len, Nat.add_mul]; omega), K.len, show (j + 1) * K.m + i - K.m = j * K.m + i from by rw [Nat.add_mul]; omega]
   exact ih j (by simpa using h)
structure OwnR (K : RowK E) (base : Nat) (tw tb : TypeId) (w : World) (v : Value) (ps : List E) : Prop where
 row : w.ownsRow base tw K.m v ps.length (K.all ps)
 data : ∀ p ∈ ps, Own base tb .u8 w (K.v p) (K.bs p)
 out : ∀ u ∈ ps.map K.v, Apart v u
 each : (ps.map K.v).Pairwise Apart
def footR (K : RowK E) (v : Value) (ps : List E) (b : Nat) : Prop := v.ownBlock = some b ∨ ∃ p ∈ ps, (K.v p).ownBlock = some b
section
variable {K : RowK E} {base : Nat} {tw tb : TypeId} {w w' : World} {v : Value} {ps qs : List E}
theorem OwnR.form (h : OwnR K base tw tb w v ps) :
  (v = .slice none 0 0 ∧ ps = []) ∨ ∃ g cap, v = .slice (some ⟨g, 0, none⟩) ps.length cap ∧ base ≤ g ∧ g < w.heap.size ∧ ps.length ≤ cap ∧ cap ≤ maxLen := by
 rcases h.row.2 with ⟨rfl, hn⟩ | ⟨g, cap, cur, rfl, hb, hgg, hc, hm, _⟩
 ·exact .inl ⟨rfl, List.length_eq_zero_iff.1 hn⟩
 ·exact .inr ⟨g, cap, rfl, hb, (Array.getElem?_eq_some_iff.1 hgg).1, hc, hm⟩
theorem OwnR.lt (h : OwnR K base tw tb w v ps) (b : Nat) (hb : footR K v ps b) : base ≤ b ∧ b < w.heap.size := by
 rcases hb with hb | ⟨p, hp, hb⟩
 ·exact World.ownsRow.lt h.row b hb
 ·exact (h.data p hp).lt b hb
theorem OwnR.cell {g n cap : Nat} (h : OwnR K base tw tb w (.slice (some ⟨g, 0, none⟩) n cap) ps) (hn : n = ps.length) (j i : Nat) (hj : j < ps.length) (hi : i < K.m) :
  w.cell? ⟨g, j * K.m + i, none⟩ = (K.cells ps[j])[i]? := by
 subst hn
 rw [World.ownsRow.cellAt h.row (j * K.m + i) (by have := Nat.mul_le_mul_right K.m (Nat.succ_le_of_lt hj); rw [Nat.succ_mul] at this; omega), K.all_at ps j i hj hi]
theorem OwnR.frozen {g n cap : Nat} (h : OwnR K base tw tb w (.slice (some ⟨g, 0, none⟩) n cap) ps) (hn : n = ps.length) (j : Nat) : w.frozen? ⟨g, j, none⟩ = false := by
 subst hn
 exact World.ownsRow.frozenAt h.row j
theorem OwnR.kept {R : Nat → Prop} (h : OwnR K base tw tb w v ps) (hk : Kept R w w') (hr : ∀ b, footR K v ps b → ¬ R b) : OwnR K base tw tb w' v ps :=
 ⟨hk.owns h.row (fun b hb => hr b (.inl hb)), fun p hp => (h.data p hp).kept hk (fun b hb => hr b (.inr ⟨p, hp, hb⟩)), h.out, h.each⟩
theorem OwnR.same (h : OwnR K base tw tb w v ps) (hk : Same w w') : OwnR K base tw tb w' v ps := h.kept hk (fun _ _ => id)
theorem OwnR.nil (K : RowK E) (base : Nat) (tw tb : TypeId) (w : World) : OwnR K base tw tb w (.slice none 0 0) [] :=
 ⟨World.ownsRow_nil _ _ _ _, fun _ h => by simp at h, fun _ h => by simp at h, List.Pairwise.nil⟩
theorem OwnR.set {g n cap : Nat} {pre post : List E} {p p' : E} (h : OwnR K base tw tb w (.slice (some ⟨g, 0, none⟩) n cap) (pre ++ p :: post)) (hn : n = (pre ++ p :: post).length) (i : Nat) (u : Value) (hi : i < K.m)
  (hc : K.cells p' = (K.cells p).set i u) (hv : K.v p' = K.v p) (hb : K.bs p' = K.bs p) (j : Nat) (hj : j = pre.length * K.m + i) :
  OwnR K base tw tb (w.setCell ⟨g, j, none⟩ u) (.slice (some ⟨g, 0, none⟩) n cap) (pre ++ p' :: post) := by
 subst hn hj
 have hk : Kept (fun b => b = g) w (w.setCell ⟨g, pre.length * K.m + i, none⟩ u) := Kept.setCell (Kept.refl (fun b => b = g) w) (p := ⟨g, pre.length * K.m + i, none⟩) (.inr rfl) _
 have hmap : (pre ++ p' :: post).map K.v = (pre ++ p :: post).map K.v := by simp [hv]
 refine ⟨?_, fun q hq => ?_, by rw [hmap]; exact h.out, by rw [hmap]; exact h.each⟩
 ·have hs := (World.ownsRow.stored h.row (pre.length * K.m + i) u).1
  have e : K.all (pre ++ p' :: post) = (K.all (pre ++ p :: post)).set (pre.length * K.m + i) u := by
   rw [K.all_append, K.all_append, List.set_append_right (h := by rw [K.all_length]; omega), K.all_length, Nat.add_sub_cancel_left, RowK.all, RowK.all, List.set_append_left (h := by rw [K.len]; exact hi), hc]
  rw [e]
  simpa using hs
 ·have hq' : ∃ q' ∈ pre ++ p :: post, K.v q' = K.v q ∧ K.bs q' = K.bs q := by
   rcases List.mem_append.1 hq with hq | hq
   ·exact ⟨q, by simp [hq], rfl, rfl⟩
   ·rcases List.mem_cons.1 hq with rfl | hq
    ·exact ⟨p, by simp, hv.symm, hb.symm⟩
    ·exact ⟨q, by simp [hq], rfl, rfl⟩
  obtain ⟨q', hm, e1, e2⟩ := hq'
  have hd := h.data q' hm
  rw [e1, e2] at hd
  refine hd.kept hk (fun b hb e => ?_)
  subst e
  exact h.out (K.v q) (by rw [← e1]; exact List.mem_map_of_mem hm) b rfl hb
end
structure MarkK (K : RowK E) where
 on : Int → E → E
 sz : E → Nat
 v : ∀ k p, K.v (on k p) = K.v p
section
variable {K : RowK E} (M : MarkK K)
end
structure RdR (K : RowK E) (w : World) (v : Value) (ps : List E) : Prop where
 max : ps.length ≤ maxLen
 row : (ps = [] ∧ ∃ a c, v = .slice a 0 c) ∨ ∃ b off c, v = .slice (some ⟨b, off, none⟩) ps.length c ∧ ∀ j i, (h : j < ps.length) → i < K.m → w.cell? ⟨b, off + (j * K.m + i), none⟩ = (K.cells ps[j])[i]?
 data : ∀ p ∈ ps, Rd .u8 w (K.v p) (K.bs p)
section
variable {K : RowK E} {w w' : World} {v : Value} {ps : List E}
theorem RdR.kept {R : Nat → Prop} (h : RdR K w v ps) (hk : Kept R w w') (hr : ∀ b, footR K v ps b → ¬ R b) : RdR K w' v ps := by
 refine ⟨h.max, ?_, fun p hp => (h.data p hp).kept hk (fun b hb => hr b (.inr ⟨p, hp, hb⟩))⟩
 rcases h.row with h | ⟨b, off, c, rfl, hc⟩
 ·exact .inl h
 ·refine .inr ⟨b, off, c, rfl, fun j i hj hi => ?_⟩
  have hl := K.len ps[j]
  rw [List.getElem?_eq_getElem (by omega)]
  exact hk.cellOf (by rw [hc j i hj hi, List.getElem?_eq_getElem (by omega)]) (hr b (.inl rfl))
theorem RdR.same (h : RdR K w v ps) (hk : Same w w') : RdR K w' v ps := h.kept hk (fun _ _ => id)
theorem RdR.form (h : RdR K w v ps) : ∃ a c, v = .slice a ps.length c := by
 rcases h.row with ⟨rfl, a, c, rfl⟩ | ⟨b, off, c, rfl, _⟩ <;> exact ⟨_, _, rfl⟩
theorem OwnR.rd {base : Nat} {tw tb : TypeId} (h : OwnR K base tw tb w v ps) : RdR K w v ps := by
 refine ⟨?_, ?_, fun p hp => (h.data p hp).rd⟩
 ·rcases h.form with ⟨rfl, rfl⟩ | ⟨g, cap, rfl, _, _, hc, hm⟩
  ·simp
  ·exact Nat.le_trans hc hm
 ·rcases h.form with ⟨rfl, rfl⟩ | ⟨g, cap, rfl, _, _, hc, hm⟩
  ·exact .inl ⟨rfl, _, _, rfl⟩
  ·exact .inr ⟨g, 0, cap, rfl, fun j i hj hi => by rw [Nat.zero_add]; exact h.cell rfl j i hj hi⟩
end
structure EOp where
 kind : Int
 sec : Int
 v : Value
 bs : List Int
def kOp : RowK EOp := ⟨3, fun p => [.int .i64 p.kind, .int .i64 p.sec, p.v], fun _ => rfl, EOp.v, EOp.bs⟩
def EOp.dat (p : EOp) : Int × Int × List Int := (p.kind, p.sec, p.bs)
def datOpS (ps : List EOp) : List (Int × Int × List Int) := ps.map EOp.dat
theorem datOpS_length (ps : List EOp) : (datOpS ps).length = ps.length := by simp [datOpS]
def doD (dur : List Int) (ds : List (Int × List Int)) (op : Int × Int × List Int) : List Int × List (Int × List Int) :=
 if op.1 = 2 then (settleN (fun _ => true) dur ds ds.length, []) else if op.1 = 1 then writeD dur ds op.2.1 op.2.2 else (dur, ds)
theorem doD_valid {dur : List Int} {ds : List (Int × List Int)} {op : Int × Int × List Int} (h : Valid dur.length ds) : (doD dur ds op).1.length = dur.length ∧ Valid dur.length (doD dur ds op).2 := by
 unfold doD
 by_cases h1 : op.1 = 2
 ·rw [if_pos h1]
  exact ⟨settleN_length _ _ _ h _ (Nat.le_refl _), ⟨h.1.1, h.1.2.1, h.1.2.2.1, by simp⟩, fun p hp => by simp at hp⟩
 rw [if_neg h1]
 by_cases h2 : op.1 = 1
 ·rw [if_pos h2]; exact writeD_valid h
 ·rw [if_neg h2]; exact ⟨rfl, h⟩
theorem Plat.kept {R : Nat → Prop} {w w' : World} {B : Nat} {dv pv : Value} {dur : List Int} {ds : List (Int × List Int)} (h : Plat w B dv pv dur ds) (hk : Kept R w w') (hB : ¬ R B) (hd : ∀ b, dv.ownBlock = some b → ¬ R b) (hp : ∀ b, pv.ownBlock = some b → ¬ R b) : Plat w' B dv pv dur ds :=
 ⟨h.box.kept hk hB, hk.owns h.dur hd, hk.owns h.pend hp, h.a1, h.a2, h.a3⟩
theorem Plat.same {w w' : World} {B : Nat} {dv pv : Value} {dur : List Int} {ds : List (Int × List Int)} (h : Plat w B dv pv dur ds) (hk : Same w w') : Plat w' B dv pv dur ds := h.kept hk id (fun _ _ => id) (fun _ _ => id)
theorem doOp_any (B : Nat) (dv pv : Value) (dur : List Int) (ds : List (Int × List Int)) (kind sec : Int) (v : Value) (bs : List Int) (w : World) (hp : Plat w B dv pv dur ds) (hval : Valid dur.length ds) (hv : Rd .u8 w v bs) (hsep : bs ≠ [] → ∀ b, looks v b → b ≠ B ∧ dv.ownBlock ≠ some b ∧ pv.ownBlock ≠ some b) :
  Calls Tryd.prog 51 #[.pointer (some ⟨B, 0, none⟩), .agg #[.int .i64 kind, .int .i64 sec, v]] w fun e w' => e = .returned (.tuple #[]) ∧ (∃ pv', Plat w' B dv pv' (doD dur ds (kind, sec, bs)).1 (doD dur ds (kind, sec, bs)).2 ∧ ∀ b, pv'.ownBlock = some b → pv.ownBlock = some b ∨ w.heap.size ≤ b) ∧ Kept (fun b => b = B ∨ dv.ownBlock = some b ∨ pv.ownBlock = some b) w w' := by
 obtain ⟨av, cv, rfl⟩ := hv.form
 have hka : Same w (w.alloc (.cells #[.int .i64 kind, .int .i64 sec, .slice av bs.length cv] 78)) := (Kept.refl _ _).alloc _
 have hb : Blk (w.alloc (.cells #[.int .i64 kind, .int .i64 sec, .slice av bs.length cv] 78)) w.heap.size 78 [.int .i64 kind, .int .i64 sec, .slice av bs.length cv] := Blk.newL w [.int .i64 kind, .int .i64 sec, .slice av bs.length cv] 78
 have kw := write_any B dv pv dur ds sec (.slice av bs.length cv) bs _ (hp.same hka) hval (hv.same hka) hsep
 have ks := sync_any B dv pv dur ds _ (hp.same hka) hval
 have HP := hid hp
 have HKA := hid hka
 obtain ⟨o0, o1, o2⟩ := hb.all3
 clear hp hv hsep hka hb
 by_cases k1 : kind = 1
 ·subst k1
  have HT : Hid (doD dur ds (1, sec, bs) = writeD dur ds sec bs) := by unfold Hid doD; rw [if_neg (by simp), if_pos rfl]
  clear ks
  go_enter Tryd.func51, Tryd.ntmps51
  go_wp2_with fail
  refine kw.mono ?_
  rintro e w1 ⟨rfl, ⟨pv', hp', hn'⟩, hk'⟩
  have H1 := hid hp'
  have H2 := hid hn'
  have H3 := hid hk'
  clear hp' hn' hk' kw
  go_wp2
  first | go_end0 | skip
  refine ⟨rfl, ⟨pv', by rw [HT.out]; exact H1.out, fun b hb => ?_⟩, (HKA.out.mono (fun _ _ e => e.elim)).next H3.out (fun i hi e => e)⟩
  rcases H2.out b hb with h | h
  ·exact .inl h
  ·simp only [World.size_alloc] at h
   exact .inr (by omega)
 by_cases k2 : kind = 2
 ·subst k2
  have HT : Hid (doD dur ds (2, sec, bs) = (settleN (fun _ => true) dur ds ds.length, [])) := if_pos rfl
  clear kw
  go_enter Tryd.func51, Tryd.ntmps51
  go_wp2_with fail
  refine ks.mono ?_
  rintro e w1 ⟨rfl, hp', hk'⟩
  have H1 := hid hp'
  have H3 := hid hk'
  clear hp' hk' ks
  go_wp2
  first | go_end0 | skip
  refine ⟨rfl, ⟨.slice none 0 0, by rw [HT.out]; exact H1.out, fun b hb => by simp [Value.ownBlock] at hb⟩, (HKA.out.mono (fun _ _ e => e.elim)).next H3.out (fun i hi e => by rcases e with e | e; exact .inl e; exact .inr (.inl e))⟩
 ·have HT : Hid (doD dur ds (kind, sec, bs) = (dur, ds)) := by unfold Hid doD; rw [if_neg k2, if_neg k1]
  clear kw ks
  go_enter Tryd.func51, Tryd.ntmps51
  go_wp2
  first | go_end0 | skip
  exact ⟨rfl, ⟨pv, by rw [HT.out]; exact HP.out.same HKA.out, fun b hb => .inl hb⟩, HKA.out.mono (fun _ _ e => e.elim)⟩
def usedO (limit : Int) (n : Nat) : Nat := if 0 ≤ limit ∧ limit < (n : Int) then limit.toNat else n
theorem usedO_le (limit : Int) (n : Nat) : usedO limit n ≤ n := by
 unfold usedO
 split
 ·omega
 ·exact Nat.le_refl _
def runD (dur : List Int) (ds : List (Int × List Int)) (ops : List (Int × Int × List Int)) : List Int × List (Int × List Int) := ops.foldl (fun x o => doD x.1 x.2 o) (dur, ds)
theorem runD_step {dur : List Int} {ds : List (Int × List Int)} {ops : List (Int × Int × List Int)} {k : Nat} (h : k < ops.length) : runD dur ds (ops.take (k + 1)) = doD (runD dur ds (ops.take k)).1 (runD dur ds (ops.take k)).2 ops[k] := by
 unfold runD
 rw [List.take_succ_eq_append_getElem h, List.foldl_append]
 rfl
theorem runD_valid {dur : List Int} {ds : List (Int × List Int)} (h : Valid dur.length ds) (ops : List (Int × Int × List Int)) : ∀ k, k ≤ ops.length → (runD dur ds (ops.take k)).1.length = dur.length ∧ Valid dur.length (runD dur ds (ops.take k)).2 := by
 intro k
 induction k with
 | zero => intro _; exact ⟨rfl, h⟩
 | succ k ih =>
  intro hk
  obtain ⟨h1, h2⟩ := ih (by omega)
  rw [runD_step (by omega)]
  have := doD_valid (op := ops[k]) (show Valid (runD dur ds (ops.take k)).1.length (runD dur ds (ops.take k)).2 from by rw [h1]; exact h2)
  rw [h1] at this
  exact this
structure IsRun (limit : Int) (dur : List Int) (ds : List (Int × List Int)) (ops : List (Int × Int × List Int)) (r : List Int) (qs : List (Int × List Int)) : Prop where
 yes : Valid dur.length ds → (r, qs) = runD dur ds (ops.take (usedO limit ops.length))
 no : ¬ Valid dur.length ds → r = dur ∧ qs = ds
theorem IsRun.one {limit : Int} {dur : List Int} {ds : List (Int × List Int)} {ops : List (Int × Int × List Int)} {r r' : List Int} {qs qs' : List (Int × List Int)} (h : IsRun limit dur ds ops r qs) (h' : IsRun limit dur ds ops r' qs') : r = r' ∧ qs = qs' := by
 by_cases hv : Valid dur.length ds
 ·have := (h.yes hv).trans (h'.yes hv).symm
  simp only [Prod.mk.injEq] at this
  exact this
 ·obtain ⟨e1, e2⟩ := h.no hv
  obtain ⟨e3, e4⟩ := h'.no hv
  exact ⟨e1.trans e3.symm, e2.trans e4.symm⟩
def allO (limit : Int) (n : Nat) : Bool := decide (usedO limit n = n)
end Go.Proofs.YtnkollbhicmdhaaDoor
