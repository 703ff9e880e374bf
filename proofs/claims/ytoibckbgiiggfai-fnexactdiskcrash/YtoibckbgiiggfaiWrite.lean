/-
  (*impl.platter).write.
-/
import Derived.Test.YtoibckbgiiggfaiWriteSaid
namespace Go.Proofs.Ytoibckbgiiggfai
open Go.RowKit
set_option linter.unusedSimpArgs false

/-- May this be written? -/
def CanWrite (n : Nat) (s : Int) (bs : List Int) : Prop := 0 ≤ s ∧ s < (n / 512 : Nat) ∧ bs.length = 512
instance (n : Nat) (s : Int) (bs : List Int) : Decidable (CanWrite n s bs) := by unfold CanWrite; infer_instance
/-- A write, where it may be. -/
def writeD (dur : List Int) (ds : List (Int × List Int)) (s : Int) (bs : List Int) : List Int × List (Int × List Int) := if CanWrite dur.length s bs then putD dur ds s bs else (dur, ds)
theorem writeD_valid {dur : List Int} {ds : List (Int × List Int)} {s : Int} {bs : List Int} (h : Valid dur.length ds) : (writeD dur ds s bs).1.length = dur.length ∧ Valid dur.length (writeD dur ds s bs).2 := by
  unfold writeD
  split
  · rename_i hc; exact putD_valid h hc.1 hc.2.1 hc.2.2
  · exact ⟨rfl, h⟩
/-- The block that a slice looks into. -/
def looks (v : Value) (b : Nat) : Prop := ∃ o n c, v = .slice (some ⟨b, o, none⟩) n c

set_option maxRecDepth 100000 in
set_option maxHeartbeats 8000000 in
theorem write_any (B : Nat) (dv pv : Value) (dur : List Int) (ds : List (Int × List Int)) (s : Int) (v : Value) (bs : List Int) (w : World) (hp : Plat w B dv pv dur ds) (hval : Valid dur.length ds) (hv : Rd .u8 w v bs) (hsep : bs ≠ [] → ∀ b, looks v b → b ≠ B ∧ dv.ownBlock ≠ some b ∧ pv.ownBlock ≠ some b) :
    Calls Try.prog 52 #[.pointer (some ⟨B, 0, none⟩), .int .i64 s, v] w fun e w' => e = .returned (.tuple #[]) ∧ (∃ pv', Plat w' B dv pv' (writeD dur ds s bs).1 (writeD dur ds s bs).2 ∧ ∀ b, pv'.ownBlock = some b → pv.ownBlock = some b ∨ w.heap.size ≤ b) ∧ Kept (fun b => b = B ∨ dv.ownBlock = some b ∨ pv.ownBlock = some b) w w' := by
  obtain ⟨gd, cd, rfl⟩ : ∃ gd cd, dv = .slice (some ⟨gd, 0, none⟩) (dur.length / 512) cd := by
    rcases hp.dur.2 with ⟨_, h⟩ | ⟨g, cap, _, h, _⟩
    · have := hval.1.2.1; omega
    · exact ⟨g, cap, h⟩
  obtain ⟨ap, cp, rfl⟩ : ∃ aq cq, pv = .slice aq ds.length cq := by
    rcases hp.pend.2 with ⟨rfl, h⟩ | ⟨g, cap, _, h, _⟩
    · exact ⟨none, 0, by rw [h]⟩
    · exact ⟨_, _, h⟩
  obtain ⟨av, cv, rfl⟩ := hv.form
  have HRV := (show Hid (Rd .u8 w (.slice av bs.length cv) bs) from hv)
  have HSEP := (show Hid (bs ≠ [] → ∀ b, looks (.slice av bs.length cv) b → b ≠ B ∧ (Value.slice (some ⟨gd, 0, none⟩) (dur.length / 512) cd).ownBlock ≠ some b ∧ (Value.slice ap ds.length cp).ownBlock ≠ some b) from hsep)
  have HP := (show Hid (Plat w B (.slice (some ⟨gd, 0, none⟩) (dur.length / 512) cd) (.slice ap ds.length cp) dur ds) from hp)
  have HV : Hid (Valid dur.length ds) := hval
  have hdl : ds.length ≤ 8192 := hval.1.2.2.2
  have hdn : dur.length / 512 ≤ 1024 := hval.1.2.2.1
  have hvl := hv.1
  unfold maxLen at hvl
  obtain ⟨n, hn⟩ : ∃ n, dur.length / 512 = n := ⟨_, rfl⟩
  have HN : Hid (dur.length / 512 = n) := hn
  rw [hn] at HP HSEP hdn ⊢
  clear hp hval hv hsep hn
  have hno : ¬ CanWrite dur.length s bs → writeD dur ds s bs = (dur, ds) := fun h => by unfold writeD; rw [if_neg h]
  have HNO : Hid (¬ CanWrite dur.length s bs → Plat w B (.slice (some ⟨gd, 0, none⟩) n cd) (.slice ap ds.length cp) (writeD dur ds s bs).1 (writeD dur ds s bs).2) := fun h => by rw [hno h]; exact HP.out
  clear hno
  obtain ⟨p1, p2, p3, p4⟩ := HP.out.box
  by_cases hs0 : s < 0
  · go_enter Try.func52, Try.ntmps52
    go_wp2
    refine bodyPost_ret (results_none (by rfl) _ _ _) rfl ?_
    exact ⟨rfl, ⟨_, HNO.out (fun h => by have := h.1; omega), fun b hb => .inl hb⟩, Kept.refl _ _⟩
  · by_cases hs1 : (n : Int) ≤ s
    · go_enter Try.func52, Try.ntmps52
      go_wp2
      refine bodyPost_ret (results_none (by rfl) _ _ _) rfl ?_
      exact ⟨rfl, ⟨_, HNO.out (fun h => by have h1 := h.2.1; have := HN.out; omega), fun b hb => .inl hb⟩, Kept.refl _ _⟩
    · by_cases hbl : bs.length = 512
      case neg =>
        have hb2 : ((bs.length : Int) != 512) = true := by simp; omega
        go_enter Try.func52, Try.ntmps52
        go_wp2
        refine bodyPost_ret (results_none (by rfl) _ _ _) rfl ?_
        exact ⟨rfl, ⟨_, HNO.out (fun h => hbl h.2.2), fun b hb => .inl hb⟩, Kept.refl _ _⟩
      have hb2 : ((bs.length : Int) != 512) = false := by simp; omega
      obtain ⟨b3, o3, c3, e3, hsrc⟩ : ∃ b3 o3 c3, Value.slice av bs.length cv = .slice (some ⟨b3, o3, none⟩) bs.length c3 ∧ ∀ i, i < bs.length → w.cell? ⟨b3, o3 + i, none⟩ = some (.int .u8 (bs.getD i 0)) := by
        rcases HRV.out.2 with ⟨h, _⟩ | ⟨b3, o3, c3, h, _, hc⟩
        · simp [h] at hbl
        · exact ⟨b3, o3, c3, h, hc⟩
      simp only [Value.slice.injEq, true_and] at e3
      obtain ⟨rfl, rfl⟩ := e3
      obtain ⟨s1, s2, s3⟩ := HSEP.out (fun e => by simp [e] at hbl) b3 ⟨o3, _, _, rfl⟩
      have HS := (show Hid (b3 ≠ B ∧ gd ≠ b3 ∧ (Value.slice ap ds.length cp).ownBlock ≠ some b3) from ⟨s1, fun e => s2 (by rw [e]; rfl), s3⟩)
      have HCW : Hid (writeD dur ds s bs = putD dur ds s bs) := by unfold Hid writeD; rw [if_pos ⟨by omega, by have := HN.out; omega, hbl⟩]
      have HB3 : Hid (b3 < w.heap.size) := World.block_lt_of_cell? w _ (hsrc 0 (by omega))
      have hcl : (vals .u8 bs).length = 512 := by rw [vals_length]; exact hbl
      have RGW := (show Hid (w.rangeAt b3 o3 (vals .u8 bs)) from fun j v hj => by
        have hjl : j < bs.length := by have := (List.getElem?_eq_some_iff.1 hj).1; rwa [vals_length] at this
        rw [vals_at _ _ _ hjl] at hj
        rw [← hj]
        exact hsrc j hjl)
      have HBL : Hid (bs.length = 512) := hbl
      clear hbl hsrc s1 s2 s3 HNO
      go_enter Try.func52, Try.ntmps52
      go_upto_if 27 with fail
      go_cut [29] (fun _ wc => ∃ aq nq cq, Hid (Plat wc B (.slice (some ⟨gd, 0, none⟩) n cd) (.slice aq nq cq) (roomD dur ds).1 (roomD dur ds).2) ∧ Hid (∀ b, (Value.slice aq nq cq).ownBlock = some b → (Value.slice ap ds.length cp).ownBlock = some b) ∧ Hid (Kept (fun b => b = B ∨ gd = b) w wc))
      case first =>
        by_cases hf : 8192 ≤ ds.length
        · have hfi : (8192 : Int) ≤ (ds.length : Int) := by omega
          have HRO : Hid (roomD dur ds = (settleN (fun _ => true) dur ds ds.length, [])) := by unfold Hid roomD; rw [if_pos (by omega)]
          have HP' := (show Hid (Plat w B (.slice (some ⟨gd, 0, none⟩) n cd) (.slice ap ds.length cp) dur ds) from HP.out)
          clear hf
          go_wp2_with fail
          refine (sync_any B _ _ dur ds _ HP.out HV.out).mono ?_
          rintro e w2 ⟨rfl, hpl, hk⟩
          go_wp2_with fail
          go_meet
          case rel => exact ⟨none, 0, 0, by rw [HRO.out]; exact hpl, fun b hb => by simp [Value.ownBlock] at hb, hk.mono (fun b _ e => e.imp id Option.some.inj)⟩
        · have hfi : ¬ (8192 : Int) ≤ (ds.length : Int) := by omega
          have HRO : Hid (roomD dur ds = (dur, ds)) := by unfold Hid roomD; rw [if_neg (by omega)]
          clear hf
          go_wp2_with fail
          go_meet
          case rel => exact ⟨ap, ds.length, cp, by rw [HRO.out]; exact HP.out, fun b hb => hb, Kept.refl _ _⟩
      case rest =>
      obtain ⟨aq, nq, cq, HPL, HFQ, HKC⟩ := hcut
      obtain ⟨r1, r2, r3⟩ := roomD_valid HV.out
      have HX := (show Hid (FBox wc B (.slice (some ⟨gd, 0, none⟩) n cd) (.slice aq nq cq)) from HPL.out.box)
      have HSQ := (show Hid ((Value.slice aq nq cq).ownBlock ≠ some b3) from fun e => HS.out.2.2 (HFQ.out _ e))
      have hn3 : ¬ (b3 = B ∨ gd = b3) := fun e => e.elim HS.out.1 HS.out.2.1
      have RG0 := (show Hid (wc.rangeAt b3 o3 (vals .u8 bs)) from fun j v hj => HKC.out.cellOf (RGW.out j v hj) hn3)
      have RG := (show Hid (wc.drew.rangeAt b3 o3 (vals .u8 bs)) from RG0.out)
      have hu91 := Try.underlying91
      obtain ⟨j0, hj, hy0, hy1, hy2⟩ := info_parts Try.info91
      obtain ⟨i0, hi, hz0, hz1, hz2⟩ := info_parts Try.info93
      have hi91 : (Try.prog.info? 91).map (·.size) = some (vals .u8 bs).length := by rw [hcl, hj]; simp [hy1]
      have har := fun (wx : World) (ad : Option Addr) (c : Nat) => run_arrayAt wx ad bs.length c (by have := HBL.out; omega)
      have hzc : (Value.agg zeros93).cells.size = 513 := by kernel_rfl
      have HNB : Hid (∀ wx, wx = (wc.drew.alloc (.cells (Value.int .i64 s :: vals .u8 bs).toArray 93)) → ∀ j u, (Value.int .i64 s :: vals .u8 bs)[j]? = some u → wx.cell? ((⟨wc.heap.size, 0, none⟩ : Addr).add j) = some u) := fun wx hx j u hj => by
        have h := World.news_of_block (w := wx) (B := wc.heap.size) (cs := (Value.int .i64 s :: vals .u8 bs).toArray) (t := 93) (fr := (0, 0)) (by rw [hx]; have := heap_alloc_new wc.drew (.cells (Value.int .i64 s :: vals .u8 bs).toArray 93); simpa using this)
        exact h j u (by simpa using hj)
      have HONE : Hid (∀ u ∈ (Value.int .i64 s :: vals .u8 bs), u.oneCell' = true) := fun u hu => by
        rcases List.mem_cons.1 hu with rfl | hu
        · rfl
        · exact vals_one u hu
      clear p1 p2 p3 p4
      obtain ⟨_, x2, _, x4⟩ := HX.out
      go_wp2_with fail
      have hS : (fun w' => w'.cell? ⟨B, 1, none⟩ = some (.slice aq nq cq) ∧ w'.frozen? ⟨B, 1, none⟩ = false ∧ w'.rangeAt b3 o3 (vals .u8 bs)) wc.drew := by exact ⟨x2, x4, RG.out⟩
      refine wp_region_V (fun w' => w'.cell? ⟨B, 1, none⟩ = some (.slice aq nq cq) ∧ w'.frozen? ⟨B, 1, none⟩ = false ∧ w'.rangeAt b3 o3 (vals .u8 bs)) 14 15 rfl (by kernel_rfl) ?_
      refine wpAnyV_take (i := 0) (v := ?vq4101) (some 30) rfl rfl (by kernel_rfl) (by kernel_rfl) (by kernel_rfl) (by kernel_rfl) (fun _ _ _ h => h) (Or.inl ⟨by rfl, ?hyq4101⟩) hS ?_
      case hyq4101 => (intro w hSw; (try dsimp only at hSw); go_simp; (try with_reducible rfl))
      try simp only [Act.put, List.setIfInBounds_toArray, List.set_cons_zero, List.set_cons_succ]
      refine wpAnyV_take (i := 1) (v := ?vq4102) (some 31) rfl rfl (by kernel_rfl) (by kernel_rfl) (by kernel_rfl) (by kernel_rfl) (fun _ _ _ h => h) (Or.inl ⟨by rfl, ?hyq4102⟩) hS ?_
      case hyq4102 => (intro w hSw; (try dsimp only at hSw); go_simp; (try with_reducible rfl))
      try simp only [Act.put, List.setIfInBounds_toArray, List.set_cons_zero, List.set_cons_succ]
      refine wpAnyV_take (i := 2) (v := ?vq4103) (some 32) rfl rfl (by kernel_rfl) (by kernel_rfl) (by kernel_rfl) (by kernel_rfl) (fun _ _ _ h => h) (Or.inl ⟨by rfl, ?hyq4103⟩) hS ?_
      case hyq4103 => (intro w hSw; (try dsimp only at hSw); go_simp; (try with_reducible rfl))
      try simp only [Act.put, List.setIfInBounds_toArray, List.set_cons_zero, List.set_cons_succ]
      refine wpAnyV_take (i := 3) (v := ?vq4104) (some 33) rfl rfl (by kernel_rfl) (by kernel_rfl) (by kernel_rfl) (by kernel_rfl) (fun _ _ _ h => h) (Or.inl ⟨by rfl, ?hyq4104⟩) hS ?_
      case hyq4104 => (intro w hSw; (try dsimp only at hSw); go_simp; (try with_reducible rfl))
      try simp only [Act.put, List.setIfInBounds_toArray, List.set_cons_zero, List.set_cons_succ]
      refine wpAnyV_take (i := 4) (v := ?vq4105) (some 34) rfl rfl (by kernel_rfl) (by kernel_rfl) (by kernel_rfl) (by kernel_rfl) (fun _ _ _ h => h) (Or.inl ⟨by rfl, ?hyq4105⟩) hS ?_
      case hyq4105 => (intro w hSw; (try dsimp only at hSw); go_simp; (try with_reducible rfl))
      try simp only [Act.put, List.setIfInBounds_toArray, List.set_cons_zero, List.set_cons_succ]
      refine wpAnyV_take (i := 5) (v := ?vq4106) (some 35) rfl rfl (by kernel_rfl) (by kernel_rfl) (by kernel_rfl) (by kernel_rfl) (fun _ _ _ h => h) (Or.inl ⟨by rfl, ?hyq4106⟩) hS ?_
      case hyq4106 => (intro w hSw; (try dsimp only at hSw); go_simp; (try with_reducible rfl))
      try simp only [Act.put, List.setIfInBounds_toArray, List.set_cons_zero, List.set_cons_succ]
      refine wpAnyV_take (i := 6) (v := ?vq4107) (some 36) rfl rfl (by kernel_rfl) (by kernel_rfl) (by kernel_rfl) (by kernel_rfl) (fun _ _ _ h => h) (Or.inl ⟨by rfl, ?hyq4107⟩) hS ?_
      case hyq4107 => (intro w hSw; (try dsimp only at hSw); go_simp; (try with_reducible rfl))
      try simp only [Act.put, List.setIfInBounds_toArray, List.set_cons_zero, List.set_cons_succ]
      refine wpAnyV_take (i := 7) (v := ?vq4108) (some 37) rfl rfl (by kernel_rfl) (by kernel_rfl) (by kernel_rfl) (by kernel_rfl) (fun _ _ _ h => h) (Or.inl ⟨by rfl, ?hyq4108⟩) hS ?_
      case hyq4108 => (intro w hSw; (try dsimp only at hSw); go_simp; (try with_reducible rfl))
      try simp only [Act.put, List.setIfInBounds_toArray, List.set_cons_zero, List.set_cons_succ]
      refine wpAnyV_take (i := 8) (v := .agg (vals .u8 bs).toArray) (some 38) rfl rfl (by kernel_rfl) (by kernel_rfl) (by kernel_rfl) (by kernel_rfl) (fun _ _ _ h => h) (yieldsIf_load_mid (by rfl) _ _ rfl _ _ rfl _ _ (fun w hSw => by (try dsimp only at hSw); exact hSw.2.2) hu91 rfl hi91) hS ?_
      try simp only [Act.put, List.setIfInBounds_toArray, List.set_cons_zero, List.set_cons_succ]
      refine wpAnyV_take (i := 9) (v := .agg (Value.int .i64 s :: vals .u8 bs).toArray) (some 39) rfl rfl (by kernel_rfl) (by kernel_rfl) (by kernel_rfl) (by kernel_rfl) (fun _ _ _ h => h) (yields_build93 (by rfl) _ _ rfl s (vals .u8 bs) (by rfl) (by rfl) hcl) hS ?_
      try simp only [Act.put, List.setIfInBounds_toArray, List.set_cons_zero, List.set_cons_succ]
      refine wpAnyV_one (i := 10) (by kernel_rfl) rfl (fun K hK => ?_)
      refine step_row93 (by rfl) (.tmp 39) (by rfl) (Value.int .i64 s :: vals .u8 bs) (by rfl) (by rw [List.length_cons, hcl]) wc.heap.size (by simp) ?_
      simp only [List.getElem_toArray, List.getElem_cons_succ, List.getElem_cons_zero]
      obtain ⟨wb, hwb⟩ : ∃ wb, wb = (wc.drew.alloc (.cells (Value.int .i64 s :: vals .u8 bs).toArray 93)) := ⟨_, rfl⟩
      have HWB := (show Hid (wb = (wc.drew.alloc (.cells (Value.int .i64 s :: vals .u8 bs).toArray 93))) from hwb)
      rw [← hwb]
      clear hwb
      have HKB := (show Hid (Same wc wb) from (by rw [HWB.out]; exact (Kept.refl _ _).drew.alloc _))
      have hbs : wb.heap.size = wc.heap.size + 1 := by rw [HWB.out]; simp
      obtain ⟨_, y2, _, y4⟩ := HX.out.same HKB.out
      have RGB := (show Hid (wb.rangeAt b3 o3 (vals .u8 bs)) from fun j v hj => HKB.out.cellOf (RG0.out j v hj) id)
      have hS2 : (fun w' => w'.cell? ⟨B, 1, none⟩ = some (.slice aq nq cq) ∧ w'.frozen? ⟨B, 1, none⟩ = false ∧ w'.rangeAt b3 o3 (vals .u8 bs)) wb := by exact ⟨y2, y4, RGB.out⟩
      refine hK.out _ _ (fun _ => hS2) ?_
      clear hK K
      try simp only [Act.put, List.setIfInBounds_toArray, List.set_cons_zero, List.set_cons_succ]
      refine wpAnyV_one (i := 11) (by kernel_rfl) rfl (fun K hK => ?_)
      refine step_append_lies _ (by rfl) (.tmp 34) (.tmp 40) 87 (by rfl) 0 93 i0 _ 513 520 Try.underlying87 hi hz0 hz1 hz2 hzc (by omega) (.slice aq nq cq) (roomD dur ds).2.length (penCells (roomD dur ds).2) (by rfl) (by exact HKB.out.owns HPL.out.pend (fun _ _ => id)) ⟨wc.heap.size, 0, none⟩ 1 1 (Value.int .i64 s :: vals .u8 bs) (by rfl) (by rw [List.length_cons, hcl]) (by exact HNB.out wb HWB.out) (by exact HONE.out) (by omega) (by unfold maxLen; omega) (by omega) (Nat.zero_le _) (wc.heap.size + 1) hbs ?_
      intro g5 cap5 w3 hown5 hgrow5 hat5 hlt5
      simp only [List.getElem_toArray, List.getElem_cons_succ, List.getElem_cons_zero]
      have hk5 : Kept (fun b => (Value.slice aq nq cq).ownBlock = some b) wb w3 := Kept.of_grown hgrow5 (fun k e => e)
      have HK5 := (show Hid (Kept (fun b => (Value.slice aq nq cq).ownBlock = some b) wb w3) from hk5)
      have HOWN5 := (show Hid (w3.ownsRow 0 93 513 (.slice (some ⟨g5, 0, none⟩) ((roomD dur ds).2.length + 1) cap5) ((roomD dur ds).2.length + 1) (penCells (roomD dur ds).2 ++ (Value.int .i64 s :: vals .u8 bs))) from hown5)
      have HAT5 : Hid ((Value.slice aq nq cq).ownBlock = some g5 ∨ g5 = wc.heap.size + 1) := hat5
      obtain ⟨_, y12, _, y14⟩ := (HX.out.same HKB.out).kept hk5 (fun e => HPL.out.a2 e)
      have RG5 := (show Hid (w3.rangeAt b3 o3 (vals .u8 bs)) from fun j v hj => hk5.cellOf (RGB.out j v hj) (fun e => HSQ.out e))
      clear hown5 hgrow5 hat5 hk5
      have hS4 : (fun w' => w'.cell? ⟨B, 1, none⟩ = some (.slice aq nq cq) ∧ w'.frozen? ⟨B, 1, none⟩ = false ∧ w'.rangeAt b3 o3 (vals .u8 bs)) w3 := by exact ⟨y12, y14, RG5.out⟩
      refine hK.out _ _ (fun _ => hS4) ?_
      clear hK K
      try simp only [Act.put, List.setIfInBounds_toArray, List.set_cons_zero, List.set_cons_succ]
      refine wpAnyV_one (i := 12) (by kernel_rfl) rfl (fun K hK => ?_)
      go_simp
      refine hK.out _ _ (fun _ => hS4) ?_
      clear hK K
      try simp only [Act.put, List.setIfInBounds_toArray, List.set_cons_zero, List.set_cons_succ]
      refine wpAnyV_one (i := 13) (by kernel_rfl) rfl (fun K hK => ?_)
      go_simp
      refine hK.out _ _ (fun _ => hS4) ?_
      clear hK K
      try simp only [Act.put, List.setIfInBounds_toArray, List.set_cons_zero, List.set_cons_succ]
      refine wpAnyV_one (i := 14) (by kernel_rfl) rfl (fun K hK => ?_)
      go_simp
      refine hK.out _ _ (fun h => absurd rfl h) ?_
      clear hK K
      refine wpAnyV_done (by kernel_rfl) ?_
      try simp only [Act.put, List.setIfInBounds_toArray, List.set_cons_zero, List.set_cons_succ]
      have hB : B < wc.heap.size := HX.out.lt
      have hset := Kept.setCell (Kept.refl (fun b => b = B) w3) (p := ⟨B, 1, none⟩) (.inr rfl) (.slice (some ⟨g5, 0, none⟩) ((roomD dur ds).2.length + 1) cap5)
      have HX3 := (show Hid (FBox (w3.setCell ⟨B, 1, none⟩ (.slice (some ⟨g5, 0, none⟩) ((roomD dur ds).2.length + 1) cap5)) B (.slice (some ⟨gd, 0, none⟩) n cd) (.slice (some ⟨g5, 0, none⟩) ((roomD dur ds).2.length + 1) cap5)) from ((HX.out.same HKB.out).kept HK5.out (fun e => HPL.out.a2 e)).set1 _)
      have hgd := World.ownsRow.lt HPL.out.dur gd rfl
      have hg5 : g5 ≠ B ∧ g5 ≠ gd ∧ ((Value.slice ap ds.length cp).ownBlock = some g5 ∨ w.heap.size ≤ g5) := by
        rcases HAT5.out with h | h
        · exact ⟨fun e => HPL.out.a2 (e ▸ h), fun e => HPL.out.a3 gd rfl (e ▸ h), .inl (HFQ.out _ h)⟩
        · have := HKC.out.size; exact ⟨by omega, by omega, .inr (by omega)⟩
      have HG5 := (show Hid (g5 ≠ B ∧ g5 ≠ gd ∧ ((Value.slice ap ds.length cp).ownBlock = some g5 ∨ w.heap.size ≤ g5)) from hg5)
      have hdur := HPL.out.dur
      rw [r1, HN.out] at hdur
      have HD3 := (show Hid (World.ownsRow (w3.setCell ⟨B, 1, none⟩ (.slice (some ⟨g5, 0, none⟩) ((roomD dur ds).2.length + 1) cap5)) 0 91 512 (.slice (some ⟨gd, 0, none⟩) n cd) n (vals .u8 (roomD dur ds).1)) from
        hset.owns (HK5.out.owns (HKB.out.owns hdur (fun _ _ => id)) (fun b hb e => HPL.out.a3 b hb e)) (fun b hb e => HPL.out.a1 (by rw [hb, e])))
      have HP3 := (show Hid (World.ownsRow (w3.setCell ⟨B, 1, none⟩ (.slice (some ⟨g5, 0, none⟩) ((roomD dur ds).2.length + 1) cap5)) 0 93 513 (.slice (some ⟨g5, 0, none⟩) ((roomD dur ds).2.length + 1) cap5) ((roomD dur ds).2.length + 1) (penCells (putD dur ds s bs).2)) from (by
        have e : penCells (putD dur ds s bs).2 = penCells (roomD dur ds).2 ++ (Value.int .i64 s :: vals .u8 bs) := by
          unfold putD
          rw [penCells_append]
          simp [penCells]
        rw [e]
        exact hset.owns HOWN5.out (fun b hb => by have e : b = g5 := (Option.some.inj hb).symm; show ¬ b = B; have := HG5.out.1; omega)))
      have HK3 := (show Hid (Kept (fun b => b = B ∨ (Value.slice (some ⟨gd, 0, none⟩) n cd).ownBlock = some b ∨ (Value.slice ap ds.length cp).ownBlock = some b) w (w3.setCell ⟨B, 1, none⟩ (.slice (some ⟨g5, 0, none⟩) ((roomD dur ds).2.length + 1) cap5))) from
        ((((HKC.out.mono (fun b _ e => e.imp id (fun h => Or.inl (by rw [h]; rfl)))).trans (HKB.out.mono (fun _ _ h => h.elim))).trans (HK5.out.mono (fun b _ e => .inr (.inr (HFQ.out b e))))).trans (hset.mono (fun b _ e => .inl e))))
      clear hset hg5 hgd hdur hS hS2 hS4 y2 y4 y12 y14 x2 x4
      go_wp2
      go_end0
      refine ⟨rfl, ⟨.slice (some ⟨g5, 0, none⟩) ((roomD dur ds).2.length + 1) cap5, ?_, fun b hb => ?_⟩, HK3.out⟩
      · rw [HCW.out]
        refine ⟨HX3.out, ?_, ?_, HPL.out.a1, fun e => HG5.out.1 (Option.some.inj e), fun b hb e => HG5.out.2.1 ((Option.some.inj e).trans (Option.some.inj hb).symm)⟩
        · have h := HD3.out
          have e : (putD dur ds s bs).1 = (roomD dur ds).1 := rfl
          rw [e, r1, HN.out]
          exact h
        · have e : (putD dur ds s bs).2.length = (roomD dur ds).2.length + 1 := by simp [putD]
          rw [e]
          exact HP3.out
      · obtain rfl : g5 = b := Option.some.inj hb
        exact HG5.out.2.2
end Go.Proofs.Ytoibckbgiiggfai
