import Derived.Test.YtaejhfhlhofomaaG06
import Derived.Test.YtaejhfhlhofomaaG05
import Derived.Test.YtaejhfhlhofomaaG04
import Derived.Test.YtaejhfhlhofomaaG02
namespace Go.Proofs.Ytaejhfhlhofomaa
set_option maxRecDepth 100000
set_option maxHeartbeats 8000000
open Go.RowKit
set_option linter.unusedSimpArgs false
def CanWrite (n : Nat) (s : Int) (bs : List Int) : Prop := 0 ≤ s ∧ s < (n / 512 : Nat) ∧ bs.length = 512
instance (n : Nat) (s : Int) (bs : List Int) : Decidable (CanWrite n s bs) := by unfold CanWrite; infer_instance
def writeD (dur : List Int) (ds : List (Int × List Int)) (s : Int) (bs : List Int) : List Int × List (Int × List Int) := if CanWrite dur.length s bs then putD dur ds s bs else (dur, ds)
theorem writeD_valid {dur : List Int} {ds : List (Int × List Int)} {s : Int} {bs : List Int} (h : Valid dur.length ds) : (writeD dur ds s bs).1.length = dur.length ∧ Valid dur.length (writeD dur ds s bs).2 := by
  unfold writeD
  split
  · rename_i hc; exact putD_valid h hc.1 hc.2.1 hc.2.2
  · exact ⟨rfl, h⟩
def looks (v : Value) (b : Nat) : Prop := ∃ o n c, v = .slice (some ⟨b, o, none⟩) n c
theorem write_any (B : Nat) (dv pv : Value) (dur : List Int) (ds : List (Int × List Int)) (s : Int) (v : Value) (bs : List Int) (w : World) (hp : Plat w B dv pv dur ds) (hval : Valid dur.length ds) (hv : Rd .u8 w v bs) (hsep : bs ≠ [] → ∀ b, looks v b → b ≠ B ∧ dv.ownBlock ≠ some b ∧ pv.ownBlock ≠ some b) :
    Calls Try.prog 60 #[.pointer (some ⟨B, 0, none⟩), .int .i64 s, v] w fun e w' => e = .returned (.tuple #[]) ∧ (∃ pv', Plat w' B dv pv' (writeD dur ds s bs).1 (writeD dur ds s bs).2 ∧ ∀ b, pv'.ownBlock = some b → pv.ownBlock = some b ∨ w.heap.size ≤ b) ∧ Kept (fun b => b = B ∨ dv.ownBlock = some b ∨ pv.ownBlock = some b) w w' := by
  obtain ⟨gd, cd, rfl⟩ : ∃ gd cd, dv = .slice (some ⟨gd, 0, none⟩) (dur.length / 512) cd := by
    rcases hp.dur.2 with ⟨_, h⟩ | ⟨g, cap, _, h, _⟩
    · have := hval.1.2.1; omega
    · exact ⟨g, cap, h⟩
  obtain ⟨ap, cp, rfl⟩ : ∃ aq cq, pv = .slice aq ds.length cq := by
    rcases hp.pend.2 with ⟨rfl, h⟩ | ⟨g, cap, _, h, _⟩
    · exact ⟨none, 0, by rw [h]⟩
    · exact ⟨_, _, h⟩
  obtain ⟨av, cv, rfl⟩ := hv.form
  have HRV := (show Hid (Rd .u8 w (.slice av bs.length cv) bs) from hv)
  have HSEP := (show Hid (bs ≠ [] → ∀ b, looks (.slice av bs.length cv) b → b ≠ B ∧ (Value.slice (some ⟨gd, 0, none⟩) (dur.length / 512) cd).ownBlock ≠ some b ∧ (Value.slice ap ds.length cp).ownBlock ≠ some b) from hsep)
  have HP := (show Hid (Plat w B (.slice (some ⟨gd, 0, none⟩) (dur.length / 512) cd) (.slice ap ds.length cp) dur ds) from hp)
  have HV : Hid (Valid dur.length ds) := hval
  have hdl : ds.length ≤ 8192 := hval.1.2.2.2
  have hdn : dur.length / 512 ≤ 1024 := hval.1.2.2.1
  have hvl := hv.1
  unfold maxLen at hvl
  obtain ⟨n, hn⟩ : ∃ n, dur.length / 512 = n := ⟨_, rfl⟩
  have HN : Hid (dur.length / 512 = n) := hn
  rw [hn] at HP HSEP hdn ⊢
  clear hp hval hv hsep hn
  have hno : ¬ CanWrite dur.length s bs → writeD dur ds s bs = (dur, ds) := fun h => by unfold writeD; rw [if_neg h]
  have HNO : Hid (¬ CanWrite dur.length s bs → Plat w B (.slice (some ⟨gd, 0, none⟩) n cd) (.slice ap ds.length cp) (writeD dur ds s bs).1 (writeD dur ds s bs).2) := fun h => by rw [hno h]; exact HP.out
  clear hno
  obtain ⟨p1, p2, p3, p4⟩ := HP.out.box
  by_cases hs0 : s < 0
  · go_enter Try.func60, Try.ntmps60
    go_wp2
    refine bodyPost_ret (results_none (by rfl) _ _ _) rfl ?_
    exact ⟨rfl, ⟨_, HNO.out (fun h => by have := h.1; omega), fun b hb => .inl hb⟩, Kept.refl _ _⟩
  · by_cases hs1 : (n : Int) ≤ s
    · go_enter Try.func60, Try.ntmps60
      go_wp2
      refine bodyPost_ret (results_none (by rfl) _ _ _) rfl ?_
      exact ⟨rfl, ⟨_, HNO.out (fun h => by have h1 := h.2.1; have := HN.out; omega), fun b hb => .inl hb⟩, Kept.refl _ _⟩
    · by_cases hbl : bs.length = 512
      case neg =>
        have hb2 : ((bs.length : Int) != 512) = true := by simp; omega
        go_enter Try.func60, Try.ntmps60
        go_wp2
        refine bodyPost_ret (results_none (by rfl) _ _ _) rfl ?_
        exact ⟨rfl, ⟨_, HNO.out (fun h => hbl h.2.2), fun b hb => .inl hb⟩, Kept.refl _ _⟩
      have hb2 : ((bs.length : Int) != 512) = false := by simp; omega
      obtain ⟨b3, o3, c3, e3, hsrc⟩ : ∃ b3 o3 c3, Value.slice av bs.length cv = .slice (some ⟨b3, o3, none⟩) bs.length c3 ∧ ∀ i, i < bs.length → w.cell? ⟨b3, o3 + i, none⟩ = some (.int .u8 (bs.getD i 0)) := by
        rcases HRV.out.2 with ⟨h, _⟩ | ⟨b3, o3, c3, h, _, hc⟩
        · simp [h] at hbl
        · exact ⟨b3, o3, c3, h, hc⟩
      simp only [Value.slice.injEq, true_and] at e3
      obtain ⟨rfl, rfl⟩ := e3
      obtain ⟨s1, s2, s3⟩ := HSEP.out (fun e => by simp [e] at hbl) b3 ⟨o3, _, _, rfl⟩
      have HS := (show Hid (b3 ≠ B ∧ gd ≠ b3 ∧ (Value.slice ap ds.length cp).ownBlock ≠ some b3) from ⟨s1, fun e => s2 (by rw [e]; rfl), s3⟩)
      have HCW : Hid (writeD dur ds s bs = putD dur ds s bs) := by unfold Hid writeD; rw [if_pos ⟨by omega, by have := HN.out; omega, hbl⟩]
      have HB3 : Hid (b3 < w.heap.size) := World.block_lt_of_cell? w _ (hsrc 0 (by omega))
      have hcl : (vals .u8 bs).length = 512 := by rw [vals_length]; exact hbl
      have RGW := (show Hid (w.rangeAt b3 o3 (vals .u8 bs)) from fun j v hj => by
        have hjl : j < bs.length := by have := (List.getElem?_eq_some_iff.1 hj).1; rwa [vals_length] at this
        rw [vals_at _ _ _ hjl] at hj
        rw [← hj]
        exact hsrc j hjl)
      have HBL : Hid (bs.length = 512) := hbl
      clear hbl hsrc s1 s2 s3 HNO
      go_enter Try.func60, Try.ntmps60
      go_upto_if 27 with fail
      go_cut [29] (fun _ wc => ∃ aq nq cq, Hid (Plat wc B (.slice (some ⟨gd, 0, none⟩) n cd) (.slice aq nq cq) (roomD dur ds).1 (roomD dur ds).2) ∧ Hid (∀ b, (Value.slice aq nq cq).ownBlock = some b → (Value.slice ap ds.length cp).ownBlock = some b) ∧ Hid (Kept (fun b => b = B ∨ gd = b) w wc))
      case first =>
        by_cases hf : 8192 ≤ ds.length
        · have hfi : (8192 : Int) ≤ (ds.length : Int) := by omega
          have HRO : Hid (roomD dur ds = (settleN (fun _ => true) dur ds ds.length, [])) := by unfold Hid roomD; rw [if_pos (by omega)]
          have HP' := (show Hid (Plat w B (.slice (some ⟨gd, 0, none⟩) n cd) (.slice ap ds.length cp) dur ds) from HP.out)
          clear hf
          go_wp2_with fail
          refine (sync_any B _ _ dur ds _ HP.out HV.out).mono ?_
          rintro e w2 ⟨rfl, hpl, hk⟩
          go_wp2_with fail
          go_meet
          case rel => exact ⟨none, 0, 0, by rw [HRO.out]; exact hpl, fun b hb => by simp [Value.ownBlock] at hb, hk.mono (fun b _ e => e.imp id Option.some.inj)⟩
        · have hfi : ¬ (8192 : Int) ≤ (ds.length : Int) := by omega
          have HRO : Hid (roomD dur ds = (dur, ds)) := by unfold Hid roomD; rw [if_neg (by omega)]
          clear hf
          go_wp2_with fail
          go_meet
          case rel => exact ⟨ap, ds.length, cp, by rw [HRO.out]; exact HP.out, fun b hb => hb, Kept.refl _ _⟩
      case rest =>
      obtain ⟨aq, nq, cq, HPL, HFQ, HKC⟩ := hcut
      obtain ⟨r1, r2, r3⟩ := roomD_valid HV.out
      have HX := (show Hid (FBox wc B (.slice (some ⟨gd, 0, none⟩) n cd) (.slice aq nq cq)) from HPL.out.box)
      have HSQ := (show Hid ((Value.slice aq nq cq).ownBlock ≠ some b3) from fun e => HS.out.2.2 (HFQ.out _ e))
      have hn3 : ¬ (b3 = B ∨ gd = b3) := fun e => e.elim HS.out.1 HS.out.2.1
      have RG0 := (show Hid (wc.rangeAt b3 o3 (vals .u8 bs)) from fun j v hj => HKC.out.cellOf (RGW.out j v hj) hn3)
      have RG := (show Hid (wc.drew.rangeAt b3 o3 (vals .u8 bs)) from RG0.out)
      have hu91 := Try.underlying91
      obtain ⟨j0, hj, hy0, hy1, hy2⟩ := info_parts Try.info91
      obtain ⟨i0, hi, hz0, hz1, hz2⟩ := info_parts Try.info93
      have hi91 : (Try.prog.info? 91).map (·.size) = some (vals .u8 bs).length := by rw [hcl, hj]; simp [hy1]
      have har := fun (wx : World) (ad : Option Addr) (c : Nat) => run_arrayAt wx ad bs.length c (by have := HBL.out; omega)
      have hzc : (Value.agg zeros93).cells.size = 513 := by kernel_rfl
      have HNB : Hid (∀ wx, wx = (wc.drew.alloc (.cells (Value.int .i64 s :: vals .u8 bs).toArray 93)) → ∀ j u, (Value.int .i64 s :: vals .u8 bs)[j]? = some u → wx.cell? ((⟨wc.heap.size, 0, none⟩ : Addr).add j) = some u) := fun wx hx j u hj => by
        have h := World.news_of_block (w := wx) (B := wc.heap.size) (cs := (Value.int .i64 s :: vals .u8 bs).toArray) (t := 93) (fr := (0, 0)) (by rw [hx]; have := heap_alloc_new wc.drew (.cells (Value.int .i64 s :: vals .u8 bs).toArray 93); simpa using this)
        exact h j u (by simpa using hj)
      have HONE : Hid (∀ u ∈ (Value.int .i64 s :: vals .u8 bs), u.oneCell' = true) := fun u hu => by
        rcases List.mem_cons.1 hu with rfl | hu
        · rfl
        · exact vals_one u hu
      clear p1 p2 p3 p4
      obtain ⟨_, x2, _, x4⟩ := HX.out
      go_wp2_with fail
      have hS : (fun w' => w'.cell? ⟨B, 1, none⟩ = some (.slice aq nq cq) ∧ w'.frozen? ⟨B, 1, none⟩ = false ∧ w'.rangeAt b3 o3 (vals .u8 bs)) wc.drew := by exact ⟨x2, x4, RG.out⟩
      refine wp_region_V (fun w' => w'.cell? ⟨B, 1, none⟩ = some (.slice aq nq cq) ∧ w'.frozen? ⟨B, 1, none⟩ = false ∧ w'.rangeAt b3 o3 (vals .u8 bs)) 14 15 rfl (by kernel_rfl) ?_
      refine tk 0 30 hS ?_
      refine tk 1 31 hS ?_
      refine tk 2 32 hS ?_
      refine tk 3 33 hS ?_
      refine tk 4 34 hS ?_
      refine tk 5 35 hS ?_
      refine tk 6 36 hS ?_
      refine tk 7 37 hS ?_
      refine wpAnyV_take (i := 8) (v := .agg (vals .u8 bs).toArray) (some 38) rfl rfl (by kernel_rfl) (by kernel_rfl) (by kernel_rfl) (by kernel_rfl) (fun _ _ _ h => h) (yieldsIf_load_mid (by rfl) _ _ rfl _ _ rfl _ _ (fun w hSw => by (try dsimp only at hSw); exact hSw.2.2) hu91 rfl hi91) hS ?_
      try simp only [Act.put, sA, s0, sS]
      refine wpAnyV_take (i := 9) (v := .agg (Value.int .i64 s :: vals .u8 bs).toArray) (some 39) rfl rfl (by kernel_rfl) (by kernel_rfl) (by kernel_rfl) (by kernel_rfl) (fun _ _ _ h => h) (yields_build93 (by rfl) _ _ rfl s (vals .u8 bs) (by rfl) (by rfl) hcl) hS ?_
      try simp only [Act.put, sA, s0, sS]
      refine wpAnyV_one (i := 10) (by kernel_rfl) rfl (fun K hK => ?_)
      refine step_row93 (by rfl) (.tmp 39) (by rfl) (Value.int .i64 s :: vals .u8 bs) (by rfl) (by rw [List.length_cons, hcl]) wc.heap.size (by simp) ?_
      simp only [List.getElem_toArray, List.getElem_cons_succ, List.getElem_cons_zero]
      obtain ⟨wb, hwb⟩ : ∃ wb, wb = (wc.drew.alloc (.cells (Value.int .i64 s :: vals .u8 bs).toArray 93)) := ⟨_, rfl⟩
      have HWB := (show Hid (wb = (wc.drew.alloc (.cells (Value.int .i64 s :: vals .u8 bs).toArray 93))) from hwb)
      rw [← hwb]
      clear hwb
      have HKB := (show Hid (Same wc wb) from (by rw [HWB.out]; exact (Kept.refl _ _).drew.alloc _))
      have hbs : wb.heap.size = wc.heap.size + 1 := by rw [HWB.out]; simp
      obtain ⟨_, y2, _, y4⟩ := HX.out.same HKB.out
      have RGB := (show Hid (wb.rangeAt b3 o3 (vals .u8 bs)) from fun j v hj => HKB.out.cellOf (RG0.out j v hj) id)
      have hS2 : (fun w' => w'.cell? ⟨B, 1, none⟩ = some (.slice aq nq cq) ∧ w'.frozen? ⟨B, 1, none⟩ = false ∧ w'.rangeAt b3 o3 (vals .u8 bs)) wb := by exact ⟨y2, y4, RGB.out⟩
      refine hK.out _ _ (fun _ => hS2) ?_
      clear hK K
      try simp only [Act.put, sA, s0, sS]
      refine wpAnyV_one (i := 11) (by kernel_rfl) rfl (fun K hK => ?_)
      refine step_append_lies _ (by rfl) (.tmp 34) (.tmp 40) 87 (by rfl) 0 93 i0 _ 513 520 Try.underlying87 hi hz0 hz1 hz2 hzc (by omega) (.slice aq nq cq) (roomD dur ds).2.length (penCells (roomD dur ds).2) (by rfl) (by exact HKB.out.owns HPL.out.pend (fun _ _ => id)) ⟨wc.heap.size, 0, none⟩ 1 1 (Value.int .i64 s :: vals .u8 bs) (by rfl) (by rw [List.length_cons, hcl]) (by exact HNB.out wb HWB.out) (by exact HONE.out) (by omega) (by unfold maxLen; omega) (by omega) (Nat.zero_le _) (wc.heap.size + 1) hbs ?_
      intro g5 cap5 w3 hown5 hgrow5 hat5 hlt5
      simp only [List.getElem_toArray, List.getElem_cons_succ, List.getElem_cons_zero]
      have hk5 : Kept (fun b => (Value.slice aq nq cq).ownBlock = some b) wb w3 := Kept.of_grown hgrow5 (fun k e => e)
      have HK5 := (show Hid (Kept (fun b => (Value.slice aq nq cq).ownBlock = some b) wb w3) from hk5)
      have HOWN5 := (show Hid (w3.ownsRow 0 93 513 (.slice (some ⟨g5, 0, none⟩) ((roomD dur ds).2.length + 1) cap5) ((roomD dur ds).2.length + 1) (penCells (roomD dur ds).2 ++ (Value.int .i64 s :: vals .u8 bs))) from hown5)
      have HAT5 : Hid ((Value.slice aq nq cq).ownBlock = some g5 ∨ g5 = wc.heap.size + 1) := hat5
      obtain ⟨_, y12, _, y14⟩ := (HX.out.same HKB.out).kept hk5 (fun e => HPL.out.a2 e)
      have RG5 := (show Hid (w3.rangeAt b3 o3 (vals .u8 bs)) from fun j v hj => hk5.cellOf (RGB.out j v hj) (fun e => HSQ.out e))
      clear hown5 hgrow5 hat5 hk5
      have hS4 : (fun w' => w'.cell? ⟨B, 1, none⟩ = some (.slice aq nq cq) ∧ w'.frozen? ⟨B, 1, none⟩ = false ∧ w'.rangeAt b3 o3 (vals .u8 bs)) w3 := by exact ⟨y12, y14, RG5.out⟩
      refine hK.out _ _ (fun _ => hS4) ?_
      clear hK K
      try simp only [Act.put, sA, s0, sS]
      refine wpAnyV_one (i := 12) (by kernel_rfl) rfl (fun K hK => ?_)
      go_simp
      refine hK.out _ _ (fun _ => hS4) ?_
      clear hK K
      try simp only [Act.put, sA, s0, sS]
      refine wpAnyV_one (i := 13) (by kernel_rfl) rfl (fun K hK => ?_)
      go_simp
      refine hK.out _ _ (fun _ => hS4) ?_
      clear hK K
      try simp only [Act.put, sA, s0, sS]
      refine wpAnyV_one (i := 14) (by kernel_rfl) rfl (fun K hK => ?_)
      go_simp
      refine hK.out _ _ (fun h => absurd rfl h) ?_
      clear hK K
      refine wpAnyV_done (by kernel_rfl) ?_
      try simp only [Act.put, sA, s0, sS]
      have hB : B < wc.heap.size := HX.out.lt
      have hset := Kept.setCell (Kept.refl (fun b => b = B) w3) (p := ⟨B, 1, none⟩) (.inr rfl) (.slice (some ⟨g5, 0, none⟩) ((roomD dur ds).2.length + 1) cap5)
      have HX3 := (show Hid (FBox (w3.setCell ⟨B, 1, none⟩ (.slice (some ⟨g5, 0, none⟩) ((roomD dur ds).2.length + 1) cap5)) B (.slice (some ⟨gd, 0, none⟩) n cd) (.slice (some ⟨g5, 0, none⟩) ((roomD dur ds).2.length + 1) cap5)) from ((HX.out.same HKB.out).kept HK5.out (fun e => HPL.out.a2 e)).set1 _)
      have hgd := World.ownsRow.lt HPL.out.dur gd rfl
      have hg5 : g5 ≠ B ∧ g5 ≠ gd ∧ ((Value.slice ap ds.length cp).ownBlock = some g5 ∨ w.heap.size ≤ g5) := by
        rcases HAT5.out with h | h
        · exact ⟨fun e => HPL.out.a2 (e ▸ h), fun e => HPL.out.a3 gd rfl (e ▸ h), .inl (HFQ.out _ h)⟩
        · have := HKC.out.size; exact ⟨by omega, by omega, .inr (by omega)⟩
      have HG5 := (show Hid (g5 ≠ B ∧ g5 ≠ gd ∧ ((Value.slice ap ds.length cp).ownBlock = some g5 ∨ w.heap.size ≤ g5)) from hg5)
      have hdur := HPL.out.dur
      rw [r1, HN.out] at hdur
      have HD3 := (show Hid (World.ownsRow (w3.setCell ⟨B, 1, none⟩ (.slice (some ⟨g5, 0, none⟩) ((roomD dur ds).2.length + 1) cap5)) 0 91 512 (.slice (some ⟨gd, 0, none⟩) n cd) n (vals .u8 (roomD dur ds).1)) from
        hset.owns (HK5.out.owns (HKB.out.owns hdur (fun _ _ => id)) (fun b hb e => HPL.out.a3 b hb e)) (fun b hb e => HPL.out.a1 (by rw [hb, e])))
      have HP3 := (show Hid (World.ownsRow (w3.setCell ⟨B, 1, none⟩ (.slice (some ⟨g5, 0, none⟩) ((roomD dur ds).2.length + 1) cap5)) 0 93 513 (.slice (some ⟨g5, 0, none⟩) ((roomD dur ds).2.length + 1) cap5) ((roomD dur ds).2.length + 1) (penCells (putD dur ds s bs).2)) from (by
        have e : penCells (putD dur ds s bs).2 = penCells (roomD dur ds).2 ++ (Value.int .i64 s :: vals .u8 bs) := by
          unfold putD
          rw [penCells_append]
          simp [penCells]
        rw [e]
        exact hset.owns HOWN5.out (fun b hb => by have e : b = g5 := (Option.some.inj hb).symm; show ¬ b = B; have := HG5.out.1; omega)))
      have HK3 := (show Hid (Kept (fun b => b = B ∨ (Value.slice (some ⟨gd, 0, none⟩) n cd).ownBlock = some b ∨ (Value.slice ap ds.length cp).ownBlock = some b) w (w3.setCell ⟨B, 1, none⟩ (.slice (some ⟨g5, 0, none⟩) ((roomD dur ds).2.length + 1) cap5))) from
        ((((HKC.out.mono (fun b _ e => e.imp id (fun h => Or.inl (by rw [h]; rfl)))).trans (HKB.out.mono (fun _ _ h => h.elim))).trans (HK5.out.mono (fun b _ e => .inr (.inr (HFQ.out b e))))).trans (hset.mono (fun b _ e => .inl e))))
      clear hset hg5 hgd hdur hS hS2 hS4 y2 y4 y12 y14 x2 x4
      go_wp2
      go_end0
      refine ⟨rfl, ⟨.slice (some ⟨g5, 0, none⟩) ((roomD dur ds).2.length + 1) cap5, ?_, fun b hb => ?_⟩, HK3.out⟩
      · rw [HCW.out]
        refine ⟨HX3.out, ?_, ?_, HPL.out.a1, fun e => HG5.out.1 (Option.some.inj e), fun b hb e => HG5.out.2.1 ((Option.some.inj e).trans (Option.some.inj hb).symm)⟩
        · have h := HD3.out
          have e : (putD dur ds s bs).1 = (roomD dur ds).1 := rfl
          rw [e, r1, HN.out]
          exact h
        · have e : (putD dur ds s bs).2.length = (roomD dur ds).2.length + 1 := by simp [putD]
          rw [e]
          exact HP3.out
      · obtain rfl : g5 = b := Option.some.inj hb
        exact HG5.out.2.2
end Go.Proofs.Ytaejhfhlhofomaa

namespace Go.Proofs.Ytaejhfhlhofomaa
set_option maxRecDepth 100000
set_option maxHeartbeats 8000000
open Go.RowKit
set_option linter.unusedVariables false
set_option linter.unusedSimpArgs false
def doD (dur : List Int) (ds : List (Int × List Int)) (op : Int × Int × List Int) : List Int × List (Int × List Int) :=
  if op.1 = 2 then (settleN (fun _ => true) dur ds ds.length, []) else if op.1 = 1 then writeD dur ds op.2.1 op.2.2 else (dur, ds)
theorem doD_valid {dur : List Int} {ds : List (Int × List Int)} {op : Int × Int × List Int} (h : Valid dur.length ds) : (doD dur ds op).1.length = dur.length ∧ Valid dur.length (doD dur ds op).2 := by
  unfold doD
  by_cases h1 : op.1 = 2
  · rw [if_pos h1]
    exact ⟨settleN_length _ _ _ h _ (Nat.le_refl _), ⟨h.1.1, h.1.2.1, h.1.2.2.1, by simp⟩, fun p hp => by simp at hp⟩
  rw [if_neg h1]
  by_cases h2 : op.1 = 1
  · rw [if_pos h2]; exact writeD_valid h
  · rw [if_neg h2]; exact ⟨rfl, h⟩
theorem l1Do_any (dv pv : Value) (dur : List Int) (ps : List PW) (kind sec : Int) (v : Value) (bs : List Int) (w : World) (hd : dur.length ≤ 1099511627776) (hbl : bs.length ≤ 1099511627776) (ho : OwnD 0 54 5 w dv pv dur ps) (hval : Valid dur.length (dataP ps)) (hv : Rd .u8 w v bs) :
    Calls Try.prog 32 #[.agg #[dv, pv], .agg #[.int .i64 kind, .int .i64 sec, v]] w fun e w' => ∃ a n c a' n' c' qs, e = .returned (.agg #[.slice a n c, .slice a' n' c']) ∧ dataP qs = (doD dur (dataP ps) (kind, sec, bs)).2 ∧
      (∀ b, footD (.slice a n c) (.slice a' n' c') qs b → footD dv pv ps b ∨ w.heap.size ≤ b) ∧ OwnD 0 54 5 w' (.slice a n c) (.slice a' n' c') (doD dur (dataP ps) (kind, sec, bs)).1 qs ∧ Kept (fun b => pv.ownBlock = some b) w w' := by
  obtain ⟨a1, c1, rfl⟩ := ho.rd.dur.form
  obtain ⟨a2, c2, rfl⟩ := ho.rd.pend.form
  obtain ⟨av, cv, rfl⟩ := hv.form
  have hm1 := ho.rd.dur.1
  have hbm := hv.1
  have HU := (show Hid (Rd .u8 w (.slice av bs.length cv) bs) from hv)
  have HOD := (show Hid (OwnD 0 54 5 w (.slice a1 dur.length c1) (.slice a2 ps.length c2) dur ps) from ho)
  have HVL := hid hval
  have HBL := hid hbl
  have HDL := hid hd
  obtain ⟨n1, hn1⟩ : ∃ x, dur.length = x := ⟨_, rfl⟩
  obtain ⟨n2, hn2⟩ : ∃ x, ps.length = x := ⟨_, rfl⟩
  obtain ⟨nb, hnb⟩ : ∃ x, bs.length = x := ⟨_, rfl⟩
  have HN1 := hid hn1
  have HNB := hid hnb
  rw [hn1, hn2] at HOD ⊢
  rw [hnb] at HU ⊢
  rw [hn1] at hm1
  clear ho hval hv hbl hd hn1 hn2 hnb hbm
  obtain ⟨wa, hwa⟩ : ∃ x, x = ((w.alloc (.cells #[.slice a1 n1 c1, .slice a2 n2 c2] 31)).alloc (.cells #[.int .i64 kind, .int .i64 sec, .slice av nb cv] 63)).alloc (.cells #[.slice none 0 0, .slice none 0 0] 31) := ⟨_, rfl⟩
  have hka : Same w wa := by rw [hwa]; exact (((Kept.refl _ _).alloc _).alloc _).alloc _
  have hza : wa.heap.size = w.heap.size + 1 + 1 + 1 := by rw [hwa]; simp
  have b0 : Blk wa w.heap.size 31 [.slice a1 n1 c1, .slice a2 n2 c2] := by rw [hwa]; exact (Blk.newA w _ _ _ _).alloc _
  have b1 : Blk wa (w.heap.size + 1) 63 [.int .i64 kind, .int .i64 sec, .slice av nb cv] := by rw [hwa]; exact (Blk.newB w _ _ _ _).alloc _
  have b2 : Blk wa (w.heap.size + 1 + 1) 31 [.slice none 0 0, .slice none 0 0] := by
    rw [hwa]
    have h := Blk.newL ((w.alloc (.cells #[.slice a1 n1 c1, .slice a2 n2 c2] 31)).alloc (.cells #[.int .i64 kind, .int .i64 sec, .slice av nb cv] 63)) [.slice none 0 0, .slice none 0 0] 31
    simpa using h
  have HKA := hid hka
  have HB0 := hid b0
  have HB1 := hid b1
  have HB2 := hid b2
  have HOA := hid (HOD.out.same hka)
  have HUA := hid (HU.out.same hka)
  have HFL : Hid (∀ b, footD (.slice a1 n1 c1) (.slice a2 n2 c2) ps b → b < w.heap.size) := fun b hb => (HOD.out.lt b hb).2
  obtain ⟨g0, g1⟩ := b0.all2
  obtain ⟨o0, o1, o2⟩ := b1.all3
  obtain ⟨z0, z1⟩ := b2.all2
  have fz := b2.frozen
  have lz := b2.lt
  clear hka b0 b1 b2
  go_enter Try.func32, Try.ntmps32
  by_cases k2 : kind = 2
  · subst k2
    have HDD : Hid (doD dur (dataP ps) (2, sec, bs) = (settleN (fun _ => true) dur (dataP ps) (dataP ps).length, [])) := if_pos rfl
    clear z0 z1 fz lz
    go_wp2_with fail
    rw [← hwa]
    clear hwa
    refine (l1Settle_all (.slice a1 n1 c1) (.slice a2 n2 c2) dur ps _ HDL.out HOA.out.rd HVL.out).mono ?_
    rintro e w1 ⟨a, n, c, rfl, hf, hown, hk⟩
    have HK1 := (show Hid (Same w w1) from HKA.out.trans hk)
    have HO1 := hid hown
    have HF1 : Hid (∀ b, (Value.slice a n c).ownBlock = some b → w.heap.size + 1 + 1 < b) := fun b hb => by have h := hf b hb; rw [hza] at h; omega
    have HB21 := hid (HB2.out.same hk)
    clear hf hown hk
    obtain ⟨z0, z1⟩ := HB21.out.all2
    have fz := HB21.out.frozen
    have lz := HB21.out.lt
    go_wp2
    have hst : Kept (fun b => b = w.heap.size + 1 + 1) w1 ((w1.setCell ⟨w.heap.size + 1 + 1, 0, none⟩ (.slice a n c)).setCell ⟨w.heap.size + 1 + 1, 1, none⟩ (.slice none 0 0)) := Kept.setCell (R := fun b => b = w.heap.size + 1 + 1) (Kept.setCell (R := fun b => b = w.heap.size + 1 + 1) (Kept.refl _ _) (p := ⟨w.heap.size + 1 + 1, 0, none⟩) (.inr rfl) _) (p := ⟨w.heap.size + 1 + 1, 1, none⟩) (.inr rfl) _
    refine bodyPost_ret (v := .agg #[.slice a n c, .slice none 0 0]) (by simp [results, Try.results32, go_sem, z0, z1]) rfl ⟨a, n, c, none, 0, 0, [], rfl, ?_, ?_, ?_, ?_⟩
    · rw [HDD.out]; rfl
    · intro b hb
      rcases hb with hb | hb
      · exact .inr (by have := HF1.out b hb; omega)
      · exact absurd hb (footP_nil b)
    · rw [HDD.out]
      refine ⟨?_, OwnP.nil _ _ _ _, fun b hb => absurd hb (footP_nil b)⟩
      have h := HO1.out.kept hst (fun b hb e => by have := HF1.out b hb; omega)
      rw [dataP_length]
      exact h
    · exact (HK1.out.mono (fun _ _ e => e.elim)).next hst (fun i hi e => by omega)
  · have HDD : Hid (doD dur (dataP ps) (kind, sec, bs) = if kind = 1 then writeD dur (dataP ps) sec bs else (dur, dataP ps)) := if_neg k2
    have hk2b : ¬ kind = 2 := k2
    clear g0 g1 z0 z1 fz lz o0 o1 o2
    by_cases k1 : kind = 1
    case neg =>
      have HT0 : Hid (doD dur (dataP ps) (kind, sec, bs) = (dur, dataP ps)) := HDD.out.trans (if_neg k1)
      have kb : (kind == 1) = false := by simp [k1]
      go_wp2_with fail
      rw [← hwa]
      clear hwa
      have hS : (fun wx : World => wx.cell? ⟨w.heap.size, 0, none⟩ = some (.slice a1 n1 c1) ∧ wx.cell? ⟨w.heap.size, 1, none⟩ = some (.slice a2 n2 c2) ∧ wx.cell? ⟨w.heap.size + 1, 0, none⟩ = some (.int .i64 kind) ∧ wx.cell? ⟨w.heap.size + 1, 1, none⟩ = some (.int .i64 sec) ∧ wx.cell? ⟨w.heap.size + 1, 1 + 1, none⟩ = some (.slice av nb cv)) wa.drew := ⟨HB0.out.cell 0, HB0.out.cell 1, HB1.out.cell 0, HB1.out.cell 1, HB1.out.cell 2⟩
      refine wp_region_V (fun wx : World => wx.cell? ⟨w.heap.size, 0, none⟩ = some (.slice a1 n1 c1) ∧ wx.cell? ⟨w.heap.size, 1, none⟩ = some (.slice a2 n2 c2) ∧ wx.cell? ⟨w.heap.size + 1, 0, none⟩ = some (.int .i64 kind) ∧ wx.cell? ⟨w.heap.size + 1, 1, none⟩ = some (.int .i64 sec) ∧ wx.cell? ⟨w.heap.size + 1, 1 + 1, none⟩ = some (.slice av nb cv)) 99 21 rfl (by kernel_rfl) ?_
      refine tk 0 10 hS ?_
      refine tk 1 11 hS ?_
      refine tk 2 12 hS ?_
      refine tk 3 13 hS ?_
      refine tkS 4 14 hS ?_
      refine tkS 5 15 hS ?_
      refine tkS 6 16 hS ?_
      refine tk 7 17 hS ?_
      refine tk 8 18 hS ?_
      refine tkS 9 19 hS ?_
      refine tkS 10 20 hS ?_
      refine tkS 11 21 hS ?_
      refine tkS 12 22 hS ?_
      refine tkS 13 23 hS ?_
      refine tk 14 24 hS ?_
      refine tk 15 25 hS ?_
      refine tkS 16 26 hS ?_
      refine tkS 17 27 hS ?_
      refine tkS 18 28 hS ?_
      refine tkS 19 29 hS ?_
      refine tk 20 30 hS ?_
      refine wpAnyV_done (by kernel_rfl) ?_
      try simp only [Act.put, sA, s0, sS]
      have HKW := (show Hid (Same wa wa) from Kept.refl _ _)
      obtain ⟨g0, g1⟩ := (HB0.out.same HKW.out).all2
      obtain ⟨z0, z1⟩ := (HB2.out.same HKW.out).all2
      have fz := (HB2.out.same HKW.out).frozen
      have lz := (HB2.out.same HKW.out).lt
      go_wp2
      refine bodyPost_ret (v := .agg #[.slice a1 n1 c1, .slice a2 n2 c2]) (by simp [results, Try.results32, go_sem, z0, z1]) rfl ?_
      have hst : Kept (fun b => b = w.heap.size + 1 + 1) wa ((wa.setCell ⟨w.heap.size + 1 + 1, 0, none⟩ (.slice a1 n1 c1)).setCell ⟨w.heap.size + 1 + 1, 1, none⟩ (.slice a2 n2 c2)) := Kept.setCell (R := fun b => b = w.heap.size + 1 + 1) (Kept.setCell (R := fun b => b = w.heap.size + 1 + 1) (Kept.refl _ _) (p := ⟨w.heap.size + 1 + 1, 0, none⟩) (.inr rfl) _) (p := ⟨w.heap.size + 1 + 1, 1, none⟩) (.inr rfl) _
      have key : dataP ps = (doD dur (dataP ps) (kind, sec, bs)).2 ∧ (∀ b, footD (.slice a1 n1 c1) (.slice a2 n2 c2) ps b → footD (.slice a1 n1 c1) (.slice a2 n2 c2) ps b ∨ w.heap.size ≤ b) ∧ OwnD 0 54 5 ((wa.setCell ⟨w.heap.size + 1 + 1, 0, none⟩ (.slice a1 n1 c1)).setCell ⟨w.heap.size + 1 + 1, 1, none⟩ (.slice a2 n2 c2)).drew (.slice a1 n1 c1) (.slice a2 n2 c2) (doD dur (dataP ps) (kind, sec, bs)).1 ps ∧ Kept (fun b => (Value.slice a2 n2 c2).ownBlock = some b) w ((wa.setCell ⟨w.heap.size + 1 + 1, 0, none⟩ (.slice a1 n1 c1)).setCell ⟨w.heap.size + 1 + 1, 1, none⟩ (.slice a2 n2 c2)).drew := by
        refine ⟨by rw [HT0.out], fun b hb => .inl hb, ?_, (((HKA.out.trans HKW.out).mono (fun _ _ e => e.elim)).next hst (fun i hi e => by omega)).drew⟩
        rw [HT0.out]
        exact ((HOA.out.same HKW.out).kept hst (fun b hb e => by have := HFL.out b hb; omega)).same (Kept.refl _ _).drew
      first | exact ⟨a1, n1, c1, a2, n2, c2, ps, rfl, key⟩ | exact ⟨a1, n1, c1, a2, n2, c2, rfl, ps, key⟩ | (obtain ⟨q1, q2, q3, q4⟩ := key; exact ⟨a1, n1, c1, a2, n2, c2, rfl, ps, q1, q2, q3, q4⟩)
    subst k1
    have HD1 : Hid (doD dur (dataP ps) (1, sec, bs) = writeD dur (dataP ps) sec bs) := HDD.out.trans (if_pos rfl)
    by_cases s0 : sec < 0
    · have HT0 : Hid (doD dur (dataP ps) (1, sec, bs) = (dur, dataP ps)) := HD1.out.trans (if_neg (fun h => by have := h.1; omega))
      have s0c : ¬ 0 ≤ sec := by omega
      clear s0
      go_wp2_with fail
      rw [← hwa]
      clear hwa
      have hS : (fun wx : World => wx.cell? ⟨w.heap.size, 0, none⟩ = some (.slice a1 n1 c1) ∧ wx.cell? ⟨w.heap.size, 1, none⟩ = some (.slice a2 n2 c2) ∧ wx.cell? ⟨w.heap.size + 1, 0, none⟩ = some (.int .i64 1) ∧ wx.cell? ⟨w.heap.size + 1, 1, none⟩ = some (.int .i64 sec) ∧ wx.cell? ⟨w.heap.size + 1, 1 + 1, none⟩ = some (.slice av nb cv)) wa.drew := ⟨HB0.out.cell 0, HB0.out.cell 1, HB1.out.cell 0, HB1.out.cell 1, HB1.out.cell 2⟩
      refine wp_region_V (fun wx : World => wx.cell? ⟨w.heap.size, 0, none⟩ = some (.slice a1 n1 c1) ∧ wx.cell? ⟨w.heap.size, 1, none⟩ = some (.slice a2 n2 c2) ∧ wx.cell? ⟨w.heap.size + 1, 0, none⟩ = some (.int .i64 1) ∧ wx.cell? ⟨w.heap.size + 1, 1, none⟩ = some (.int .i64 sec) ∧ wx.cell? ⟨w.heap.size + 1, 1 + 1, none⟩ = some (.slice av nb cv)) 99 21 rfl (by kernel_rfl) ?_
      refine tk 0 10 hS ?_
      refine tk 1 11 hS ?_
      refine tk 2 12 hS ?_
      refine tk 3 13 hS ?_
      refine tk 4 14 hS ?_
      refine tk 5 15 hS ?_
      refine tkV 6 16 (.bool false) hS ?_
      refine tk 7 17 hS ?_
      refine tk 8 18 hS ?_
      refine tkS 9 19 hS ?_
      refine tkS 10 20 hS ?_
      refine tkS 11 21 hS ?_
      refine tkS 12 22 hS ?_
      refine tkS 13 23 hS ?_
      refine tk 14 24 hS ?_
      refine tk 15 25 hS ?_
      refine tkS 16 26 hS ?_
      refine tkS 17 27 hS ?_
      refine tkS 18 28 hS ?_
      refine tkS 19 29 hS ?_
      refine tk 20 30 hS ?_
      refine wpAnyV_done (by kernel_rfl) ?_
      try simp only [Act.put, sA, s0, sS]
      have HKW := (show Hid (Same wa wa) from Kept.refl _ _)
      obtain ⟨g0, g1⟩ := (HB0.out.same HKW.out).all2
      obtain ⟨z0, z1⟩ := (HB2.out.same HKW.out).all2
      have fz := (HB2.out.same HKW.out).frozen
      have lz := (HB2.out.same HKW.out).lt
      go_wp2
      refine bodyPost_ret (v := .agg #[.slice a1 n1 c1, .slice a2 n2 c2]) (by simp [results, Try.results32, go_sem, z0, z1]) rfl ?_
      have hst : Kept (fun b => b = w.heap.size + 1 + 1) wa ((wa.setCell ⟨w.heap.size + 1 + 1, 0, none⟩ (.slice a1 n1 c1)).setCell ⟨w.heap.size + 1 + 1, 1, none⟩ (.slice a2 n2 c2)) := Kept.setCell (R := fun b => b = w.heap.size + 1 + 1) (Kept.setCell (R := fun b => b = w.heap.size + 1 + 1) (Kept.refl _ _) (p := ⟨w.heap.size + 1 + 1, 0, none⟩) (.inr rfl) _) (p := ⟨w.heap.size + 1 + 1, 1, none⟩) (.inr rfl) _
      have key : dataP ps = (doD dur (dataP ps) (1, sec, bs)).2 ∧ (∀ b, footD (.slice a1 n1 c1) (.slice a2 n2 c2) ps b → footD (.slice a1 n1 c1) (.slice a2 n2 c2) ps b ∨ w.heap.size ≤ b) ∧ OwnD 0 54 5 ((wa.setCell ⟨w.heap.size + 1 + 1, 0, none⟩ (.slice a1 n1 c1)).setCell ⟨w.heap.size + 1 + 1, 1, none⟩ (.slice a2 n2 c2)).drew (.slice a1 n1 c1) (.slice a2 n2 c2) (doD dur (dataP ps) (1, sec, bs)).1 ps ∧ Kept (fun b => (Value.slice a2 n2 c2).ownBlock = some b) w ((wa.setCell ⟨w.heap.size + 1 + 1, 0, none⟩ (.slice a1 n1 c1)).setCell ⟨w.heap.size + 1 + 1, 1, none⟩ (.slice a2 n2 c2)).drew := by
        refine ⟨by rw [HT0.out], fun b hb => .inl hb, ?_, (((HKA.out.trans HKW.out).mono (fun _ _ e => e.elim)).next hst (fun i hi e => by omega)).drew⟩
        rw [HT0.out]
        exact ((HOA.out.same HKW.out).kept hst (fun b hb e => by have := HFL.out b hb; omega)).same (Kept.refl _ _).drew
      first | exact ⟨a1, n1, c1, a2, n2, c2, ps, rfl, key⟩ | exact ⟨a1, n1, c1, a2, n2, c2, rfl, ps, key⟩ | (obtain ⟨q1, q2, q3, q4⟩ := key; exact ⟨a1, n1, c1, a2, n2, c2, rfl, ps, q1, q2, q3, q4⟩)
    have s0b : 0 ≤ sec := by omega
    have sb : decide (0 ≤ sec) = true := by simp; omega
    by_cases s1 : sec < ((n1 / 512 : Nat) : Int)
    case neg =>
      have HT0 : Hid (doD dur (dataP ps) (1, sec, bs) = (dur, dataP ps)) := HD1.out.trans (if_neg (fun h => s1 (by have := h.2.1; rw [HN1.out] at this; exact this)))
      have sc : decide (sec < ((n1 / 512 : Nat) : Int)) = false := by simp; omega
      have sc2 : decide (sec < (n1 : Int) / 512) = false := by simp; omega
      have sc3 : (n1 : Int) / 512 ≤ sec := by omega
      go_wp2_with fail
      rw [← hwa]
      clear hwa
      have hS : (fun wx : World => wx.cell? ⟨w.heap.size, 0, none⟩ = some (.slice a1 n1 c1) ∧ wx.cell? ⟨w.heap.size, 1, none⟩ = some (.slice a2 n2 c2) ∧ wx.cell? ⟨w.heap.size + 1, 0, none⟩ = some (.int .i64 1) ∧ wx.cell? ⟨w.heap.size + 1, 1, none⟩ = some (.int .i64 sec) ∧ wx.cell? ⟨w.heap.size + 1, 1 + 1, none⟩ = some (.slice av nb cv)) wa.drew := ⟨HB0.out.cell 0, HB0.out.cell 1, HB1.out.cell 0, HB1.out.cell 1, HB1.out.cell 2⟩
      refine wp_region_V (fun wx : World => wx.cell? ⟨w.heap.size, 0, none⟩ = some (.slice a1 n1 c1) ∧ wx.cell? ⟨w.heap.size, 1, none⟩ = some (.slice a2 n2 c2) ∧ wx.cell? ⟨w.heap.size + 1, 0, none⟩ = some (.int .i64 1) ∧ wx.cell? ⟨w.heap.size + 1, 1, none⟩ = some (.int .i64 sec) ∧ wx.cell? ⟨w.heap.size + 1, 1 + 1, none⟩ = some (.slice av nb cv)) 99 21 rfl (by kernel_rfl) ?_
      refine tk 0 10 hS ?_
      refine tk 1 11 hS ?_
      refine tk 2 12 hS ?_
      refine tk 3 13 hS ?_
      refine tk 4 14 hS ?_
      refine tk 5 15 hS ?_
      refine tk 6 16 hS ?_
      refine tk 7 17 hS ?_
      refine tk 8 18 hS ?_
      refine tk 9 19 hS ?_
      refine tk 10 20 hS ?_
      refine tk 11 21 hS ?_
      refine wpAnyV_one (i := 12) (by kernel_rfl) rfl (fun K hK => ?_)
      go_simp
      refine (l1Sectors_any a1 n1 c1 a2 n2 c2 _ hm1).mono ?_
      rintro e w1 ⟨rfl, hw1⟩
      have hk1 : Same wa w1 := by rw [hw1]; exact (Kept.refl _ _).drew.alloc _
      clear hw1
      go_wp2_with fail
      have hS1 : (fun wx : World => wx.cell? ⟨w.heap.size, 0, none⟩ = some (.slice a1 n1 c1) ∧ wx.cell? ⟨w.heap.size, 1, none⟩ = some (.slice a2 n2 c2) ∧ wx.cell? ⟨w.heap.size + 1, 0, none⟩ = some (.int .i64 1) ∧ wx.cell? ⟨w.heap.size + 1, 1, none⟩ = some (.int .i64 sec) ∧ wx.cell? ⟨w.heap.size + 1, 1 + 1, none⟩ = some (.slice av nb cv)) w1 := ⟨(HB0.out.same hk1).cell 0, (HB0.out.same hk1).cell 1, (HB1.out.same hk1).cell 0, (HB1.out.same hk1).cell 1, (HB1.out.same hk1).cell 2⟩
      refine hK.out _ _ (fun _ => hS1) ?_
      clear hK K
      try simp only [Act.put, sA, s0, sS]
      refine tk 13 23 hS1 ?_
      refine tk 14 24 hS1 ?_
      refine tk 15 25 hS1 ?_
      refine tkS 16 26 hS1 ?_
      refine tkS 17 27 hS1 ?_
      refine tkS 18 28 hS1 ?_
      refine tkS 19 29 hS1 ?_
      refine tk 20 30 hS1 ?_
      refine wpAnyV_done (by kernel_rfl) ?_
      try simp only [Act.put, sA, s0, sS]
      have HKW := (show Hid (Same wa w1) from hk1)
      obtain ⟨g0, g1⟩ := (HB0.out.same HKW.out).all2
      obtain ⟨z0, z1⟩ := (HB2.out.same HKW.out).all2
      have fz := (HB2.out.same HKW.out).frozen
      have lz := (HB2.out.same HKW.out).lt
      go_wp2
      refine bodyPost_ret (v := .agg #[.slice a1 n1 c1, .slice a2 n2 c2]) (by simp [results, Try.results32, go_sem, z0, z1]) rfl ?_
      have hst : Kept (fun b => b = w.heap.size + 1 + 1) w1 ((w1.setCell ⟨w.heap.size + 1 + 1, 0, none⟩ (.slice a1 n1 c1)).setCell ⟨w.heap.size + 1 + 1, 1, none⟩ (.slice a2 n2 c2)) := Kept.setCell (R := fun b => b = w.heap.size + 1 + 1) (Kept.setCell (R := fun b => b = w.heap.size + 1 + 1) (Kept.refl _ _) (p := ⟨w.heap.size + 1 + 1, 0, none⟩) (.inr rfl) _) (p := ⟨w.heap.size + 1 + 1, 1, none⟩) (.inr rfl) _
      have key : dataP ps = (doD dur (dataP ps) (1, sec, bs)).2 ∧ (∀ b, footD (.slice a1 n1 c1) (.slice a2 n2 c2) ps b → footD (.slice a1 n1 c1) (.slice a2 n2 c2) ps b ∨ w.heap.size ≤ b) ∧ OwnD 0 54 5 ((w1.setCell ⟨w.heap.size + 1 + 1, 0, none⟩ (.slice a1 n1 c1)).setCell ⟨w.heap.size + 1 + 1, 1, none⟩ (.slice a2 n2 c2)) (.slice a1 n1 c1) (.slice a2 n2 c2) (doD dur (dataP ps) (1, sec, bs)).1 ps ∧ Kept (fun b => (Value.slice a2 n2 c2).ownBlock = some b) w ((w1.setCell ⟨w.heap.size + 1 + 1, 0, none⟩ (.slice a1 n1 c1)).setCell ⟨w.heap.size + 1 + 1, 1, none⟩ (.slice a2 n2 c2)) := by
        refine ⟨by rw [HT0.out], fun b hb => .inl hb, ?_, (((HKA.out.trans HKW.out).mono (fun _ _ e => e.elim)).next hst (fun i hi e => by omega))⟩
        rw [HT0.out]
        exact ((HOA.out.same HKW.out).kept hst (fun b hb e => by have := HFL.out b hb; omega))
      first | exact ⟨a1, n1, c1, a2, n2, c2, ps, rfl, key⟩ | exact ⟨a1, n1, c1, a2, n2, c2, rfl, ps, key⟩ | (obtain ⟨q1, q2, q3, q4⟩ := key; exact ⟨a1, n1, c1, a2, n2, c2, rfl, ps, q1, q2, q3, q4⟩)
    have sc : decide (sec < ((n1 / 512 : Nat) : Int)) = true := by simp; omega
    have sc2 : decide (sec < (n1 : Int) / 512) = true := by simp; omega
    have sc3 : sec < (n1 : Int) / 512 := by omega
    by_cases s2 : nb = 512
    case neg =>
      have s2b : ¬ (nb : Int) = 512 := by omega
      have sd : ((nb : Int) == 512) = false := by simp; omega
      have HT0 : Hid (doD dur (dataP ps) (1, sec, bs) = (dur, dataP ps)) := HD1.out.trans (if_neg (fun h => s2 (by have := h.2.2; rw [HNB.out] at this; exact this)))
      go_wp2_with fail
      rw [← hwa]
      clear hwa
      have hS : (fun wx : World => wx.cell? ⟨w.heap.size, 0, none⟩ = some (.slice a1 n1 c1) ∧ wx.cell? ⟨w.heap.size, 1, none⟩ = some (.slice a2 n2 c2) ∧ wx.cell? ⟨w.heap.size + 1, 0, none⟩ = some (.int .i64 1) ∧ wx.cell? ⟨w.heap.size + 1, 1, none⟩ = some (.int .i64 sec) ∧ wx.cell? ⟨w.heap.size + 1, 1 + 1, none⟩ = some (.slice av nb cv)) wa.drew := ⟨HB0.out.cell 0, HB0.out.cell 1, HB1.out.cell 0, HB1.out.cell 1, HB1.out.cell 2⟩
      refine wp_region_V (fun wx : World => wx.cell? ⟨w.heap.size, 0, none⟩ = some (.slice a1 n1 c1) ∧ wx.cell? ⟨w.heap.size, 1, none⟩ = some (.slice a2 n2 c2) ∧ wx.cell? ⟨w.heap.size + 1, 0, none⟩ = some (.int .i64 1) ∧ wx.cell? ⟨w.heap.size + 1, 1, none⟩ = some (.int .i64 sec) ∧ wx.cell? ⟨w.heap.size + 1, 1 + 1, none⟩ = some (.slice av nb cv)) 99 21 rfl (by kernel_rfl) ?_
      refine tk 0 10 hS ?_
      refine tk 1 11 hS ?_
      refine tk 2 12 hS ?_
      refine tk 3 13 hS ?_
      refine tk 4 14 hS ?_
      refine tk 5 15 hS ?_
      refine tk 6 16 hS ?_
      refine tk 7 17 hS ?_
      refine tk 8 18 hS ?_
      refine tk 9 19 hS ?_
      refine tk 10 20 hS ?_
      refine tk 11 21 hS ?_
      refine wpAnyV_one (i := 12) (by kernel_rfl) rfl (fun K hK => ?_)
      go_simp
      refine (l1Sectors_any a1 n1 c1 a2 n2 c2 _ hm1).mono ?_
      rintro e w1 ⟨rfl, hw1⟩
      have hk1 : Same wa w1 := by rw [hw1]; exact (Kept.refl _ _).drew.alloc _
      clear hw1
      go_wp2_with fail
      have hS1 : (fun wx : World => wx.cell? ⟨w.heap.size, 0, none⟩ = some (.slice a1 n1 c1) ∧ wx.cell? ⟨w.heap.size, 1, none⟩ = some (.slice a2 n2 c2) ∧ wx.cell? ⟨w.heap.size + 1, 0, none⟩ = some (.int .i64 1) ∧ wx.cell? ⟨w.heap.size + 1, 1, none⟩ = some (.int .i64 sec) ∧ wx.cell? ⟨w.heap.size + 1, 1 + 1, none⟩ = some (.slice av nb cv)) w1 := ⟨(HB0.out.same hk1).cell 0, (HB0.out.same hk1).cell 1, (HB1.out.same hk1).cell 0, (HB1.out.same hk1).cell 1, (HB1.out.same hk1).cell 2⟩
      refine hK.out _ _ (fun _ => hS1) ?_
      clear hK K
      try simp only [Act.put, sA, s0, sS]
      refine tk 13 23 hS1 ?_
      refine tk 14 24 hS1 ?_
      refine tk 15 25 hS1 ?_
      refine tk 16 26 hS1 ?_
      refine tk 17 27 hS1 ?_
      refine tk 18 28 hS1 ?_
      refine tk 19 29 hS1 ?_
      refine tk 20 30 hS1 ?_
      refine wpAnyV_done (by kernel_rfl) ?_
      try simp only [Act.put, sA, s0, sS]
      have HKW := (show Hid (Same wa w1) from hk1)
      obtain ⟨g0, g1⟩ := (HB0.out.same HKW.out).all2
      obtain ⟨z0, z1⟩ := (HB2.out.same HKW.out).all2
      have fz := (HB2.out.same HKW.out).frozen
      have lz := (HB2.out.same HKW.out).lt
      go_wp2
      refine bodyPost_ret (v := .agg #[.slice a1 n1 c1, .slice a2 n2 c2]) (by simp [results, Try.results32, go_sem, z0, z1]) rfl ?_
      have hst : Kept (fun b => b = w.heap.size + 1 + 1) w1 ((w1.setCell ⟨w.heap.size + 1 + 1, 0, none⟩ (.slice a1 n1 c1)).setCell ⟨w.heap.size + 1 + 1, 1, none⟩ (.slice a2 n2 c2)) := Kept.setCell (R := fun b => b = w.heap.size + 1 + 1) (Kept.setCell (R := fun b => b = w.heap.size + 1 + 1) (Kept.refl _ _) (p := ⟨w.heap.size + 1 + 1, 0, none⟩) (.inr rfl) _) (p := ⟨w.heap.size + 1 + 1, 1, none⟩) (.inr rfl) _
      have key : dataP ps = (doD dur (dataP ps) (1, sec, bs)).2 ∧ (∀ b, footD (.slice a1 n1 c1) (.slice a2 n2 c2) ps b → footD (.slice a1 n1 c1) (.slice a2 n2 c2) ps b ∨ w.heap.size ≤ b) ∧ OwnD 0 54 5 ((w1.setCell ⟨w.heap.size + 1 + 1, 0, none⟩ (.slice a1 n1 c1)).setCell ⟨w.heap.size + 1 + 1, 1, none⟩ (.slice a2 n2 c2)) (.slice a1 n1 c1) (.slice a2 n2 c2) (doD dur (dataP ps) (1, sec, bs)).1 ps ∧ Kept (fun b => (Value.slice a2 n2 c2).ownBlock = some b) w ((w1.setCell ⟨w.heap.size + 1 + 1, 0, none⟩ (.slice a1 n1 c1)).setCell ⟨w.heap.size + 1 + 1, 1, none⟩ (.slice a2 n2 c2)) := by
        refine ⟨by rw [HT0.out], fun b hb => .inl hb, ?_, (((HKA.out.trans HKW.out).mono (fun _ _ e => e.elim)).next hst (fun i hi e => by omega))⟩
        rw [HT0.out]
        exact ((HOA.out.same HKW.out).kept hst (fun b hb e => by have := HFL.out b hb; omega))
      first | exact ⟨a1, n1, c1, a2, n2, c2, ps, rfl, key⟩ | exact ⟨a1, n1, c1, a2, n2, c2, rfl, ps, key⟩ | (obtain ⟨q1, q2, q3, q4⟩ := key; exact ⟨a1, n1, c1, a2, n2, c2, rfl, ps, q1, q2, q3, q4⟩)
    subst s2
    have HT0 : Hid (doD dur (dataP ps) (1, sec, bs) = putD dur (dataP ps) sec bs) := HD1.out.trans (if_pos ⟨s0b, by rw [HN1.out]; exact s1, HNB.out⟩)
    go_wp2_with fail
    rw [← hwa]
    clear hwa
    have hS : (fun wx : World => wx.cell? ⟨w.heap.size, 0, none⟩ = some (.slice a1 n1 c1) ∧ wx.cell? ⟨w.heap.size, 1, none⟩ = some (.slice a2 n2 c2) ∧ wx.cell? ⟨w.heap.size + 1, 0, none⟩ = some (.int .i64 1) ∧ wx.cell? ⟨w.heap.size + 1, 1, none⟩ = some (.int .i64 sec) ∧ wx.cell? ⟨w.heap.size + 1, 1 + 1, none⟩ = some (.slice av 512 cv)) wa.drew := ⟨HB0.out.cell 0, HB0.out.cell 1, HB1.out.cell 0, HB1.out.cell 1, HB1.out.cell 2⟩
    refine wp_region_V (fun wx : World => wx.cell? ⟨w.heap.size, 0, none⟩ = some (.slice a1 n1 c1) ∧ wx.cell? ⟨w.heap.size, 1, none⟩ = some (.slice a2 n2 c2) ∧ wx.cell? ⟨w.heap.size + 1, 0, none⟩ = some (.int .i64 1) ∧ wx.cell? ⟨w.heap.size + 1, 1, none⟩ = some (.int .i64 sec) ∧ wx.cell? ⟨w.heap.size + 1, 1 + 1, none⟩ = some (.slice av 512 cv)) 99 21 rfl (by kernel_rfl) ?_
    refine tk 0 10 hS ?_
    refine tk 1 11 hS ?_
    refine tk 2 12 hS ?_
    refine tk 3 13 hS ?_
    refine tk 4 14 hS ?_
    refine tk 5 15 hS ?_
    refine tk 6 16 hS ?_
    refine tk 7 17 hS ?_
    refine tk 8 18 hS ?_
    refine tk 9 19 hS ?_
    refine tk 10 20 hS ?_
    refine tk 11 21 hS ?_
    refine wpAnyV_one (i := 12) (by kernel_rfl) rfl (fun K hK => ?_)
    go_simp
    refine (l1Sectors_any a1 n1 c1 a2 n2 c2 _ hm1).mono ?_
    rintro e w1 ⟨rfl, hw1⟩
    have hk1 : Same wa w1 := by rw [hw1]; exact (Kept.refl _ _).drew.alloc _
    clear hw1
    go_wp2_with fail
    have hS1 : (fun wx : World => wx.cell? ⟨w.heap.size, 0, none⟩ = some (.slice a1 n1 c1) ∧ wx.cell? ⟨w.heap.size, 1, none⟩ = some (.slice a2 n2 c2) ∧ wx.cell? ⟨w.heap.size + 1, 0, none⟩ = some (.int .i64 1) ∧ wx.cell? ⟨w.heap.size + 1, 1, none⟩ = some (.int .i64 sec) ∧ wx.cell? ⟨w.heap.size + 1, 1 + 1, none⟩ = some (.slice av 512 cv)) w1 := ⟨(HB0.out.same hk1).cell 0, (HB0.out.same hk1).cell 1, (HB1.out.same hk1).cell 0, (HB1.out.same hk1).cell 1, (HB1.out.same hk1).cell 2⟩
    refine hK.out _ _ (fun _ => hS1) ?_
    clear hK K
    try simp only [Act.put, sA, s0, sS]
    refine tk 13 23 hS1 ?_
    refine tk 14 24 hS1 ?_
    refine tk 15 25 hS1 ?_
    refine tk 16 26 hS1 ?_
    refine tk 17 27 hS1 ?_
    refine tk 18 28 hS1 ?_
    refine tk 19 29 hS1 ?_
    refine tk 20 30 hS1 ?_
    refine wpAnyV_done (by kernel_rfl) ?_
    try simp only [Act.put, sA, s0, sS]
    have HKW := (show Hid (Same wa w1) from hk1)
    obtain ⟨g0, g1⟩ := (HB0.out.same HKW.out).all2
    obtain ⟨o0, o1, o2⟩ := (HB1.out.same HKW.out).all3
    clear hk1 hS hS1
    go_wp2_with fail
    refine (l1Put_any (.slice a1 n1 c1) (.slice a2 n2 c2) dur ps sec (.slice av 512 cv) bs _ HDL.out HBL.out (HOA.out.same HKW.out) HVL.out (HUA.out.same HKW.out)).mono ?_
    rintro e w2 ⟨a, n, c, a', n', c', qs, rfl, hq, hf, hown, hk⟩
    have HQ := hid hq
    have HO2 := hid hown
    have HK2 := hid hk
    have hz1 := HKW.out.size
    have HF2 : Hid (∀ b, footD (.slice a n c) (.slice a' n' c') qs b → (footD (.slice a1 n1 c1) (.slice a2 n2 c2) ps b ∨ w.heap.size ≤ b) ∧ b ≠ w.heap.size + 1 + 1) := fun b hb => by
      rcases hf b hb with h | h
      · exact ⟨.inl h, by have := HFL.out b h; omega⟩
      · exact ⟨.inr (by omega), by omega⟩
    have HB22 := hid ((HB2.out.same HKW.out).kept hk (fun e => by have := HFL.out _ (.inr (.inl e)); omega))
    clear hq hf hown hk g0 g1 o0 o1 o2
    obtain ⟨z0, z1⟩ := HB22.out.all2
    have fz := HB22.out.frozen
    have lz := HB22.out.lt
    go_wp2
    refine bodyPost_ret (v := .agg #[.slice a n c, .slice a' n' c']) (by simp [results, Try.results32, go_sem, z0, z1]) rfl ?_
    have hst : Kept (fun b => b = w.heap.size + 1 + 1) w2 ((w2.setCell ⟨w.heap.size + 1 + 1, 0, none⟩ (.slice a n c)).setCell ⟨w.heap.size + 1 + 1, 1, none⟩ (.slice a' n' c')) := Kept.setCell (R := fun b => b = w.heap.size + 1 + 1) (Kept.setCell (R := fun b => b = w.heap.size + 1 + 1) (Kept.refl _ _) (p := ⟨w.heap.size + 1 + 1, 0, none⟩) (.inr rfl) _) (p := ⟨w.heap.size + 1 + 1, 1, none⟩) (.inr rfl) _
    have q1 : dataP qs = (doD dur (dataP ps) (1, sec, bs)).2 := by rw [HT0.out]; exact HQ.out
    have q3 : OwnD 0 54 5 ((w2.setCell ⟨w.heap.size + 1 + 1, 0, none⟩ (.slice a n c)).setCell ⟨w.heap.size + 1 + 1, 1, none⟩ (.slice a' n' c')) (.slice a n c) (.slice a' n' c') (doD dur (dataP ps) (1, sec, bs)).1 qs := by
      rw [HT0.out]
      exact HO2.out.kept hst (fun b hb e => (HF2.out b hb).2 e)
    have q4 : Kept (fun b => (Value.slice a2 n2 c2).ownBlock = some b) w ((w2.setCell ⟨w.heap.size + 1 + 1, 0, none⟩ (.slice a n c)).setCell ⟨w.heap.size + 1 + 1, 1, none⟩ (.slice a' n' c')) := (((HKA.out.trans HKW.out).mono (fun _ _ e => e.elim)).next HK2.out (fun i hi e => e)).next hst (fun i hi e => by omega)
    first | exact ⟨a, n, c, a', n', c', qs, rfl, q1, fun b hb => (HF2.out b hb).1, q3, q4⟩ | exact ⟨a, n, c, a', n', c', rfl, qs, q1, fun b hb => (HF2.out b hb).1, q3, q4⟩
end Go.Proofs.Ytaejhfhlhofomaa

namespace Go.Proofs.Ytaejhfhlhofomaa
set_option maxRecDepth 100000
set_option maxHeartbeats 8000000
open Go.RowKit
set_option linter.unusedVariables false
set_option linter.unusedSimpArgs false
theorem Plat.kept {R : Nat → Prop} {w w' : World} {B : Nat} {dv pv : Value} {dur : List Int} {ds : List (Int × List Int)} (h : Plat w B dv pv dur ds) (hk : Kept R w w') (hB : ¬ R B) (hd : ∀ b, dv.ownBlock = some b → ¬ R b) (hp : ∀ b, pv.ownBlock = some b → ¬ R b) : Plat w' B dv pv dur ds :=
  ⟨h.box.kept hk hB, hk.owns h.dur hd, hk.owns h.pend hp, h.a1, h.a2, h.a3⟩
theorem Plat.same {w w' : World} {B : Nat} {dv pv : Value} {dur : List Int} {ds : List (Int × List Int)} (h : Plat w B dv pv dur ds) (hk : Same w w') : Plat w' B dv pv dur ds := h.kept hk id (fun _ _ => id) (fun _ _ => id)
theorem do_any (B : Nat) (dv pv : Value) (dur : List Int) (ds : List (Int × List Int)) (kind sec : Int) (v : Value) (bs : List Int) (w : World) (hp : Plat w B dv pv dur ds) (hval : Valid dur.length ds) (hv : Rd .u8 w v bs) (hsep : bs ≠ [] → ∀ b, looks v b → b ≠ B ∧ dv.ownBlock ≠ some b ∧ pv.ownBlock ≠ some b) :
    Calls Try.prog 38 #[.pointer (some ⟨B, 0, none⟩), .agg #[.int .i64 kind, .int .i64 sec, v]] w fun e w' => e = .returned (.tuple #[]) ∧ (∃ pv', Plat w' B dv pv' (doD dur ds (kind, sec, bs)).1 (doD dur ds (kind, sec, bs)).2 ∧ ∀ b, pv'.ownBlock = some b → pv.ownBlock = some b ∨ w.heap.size ≤ b) ∧ Kept (fun b => b = B ∨ dv.ownBlock = some b ∨ pv.ownBlock = some b) w w' := by
  obtain ⟨av, cv, rfl⟩ := hv.form
  have hka : Same w (w.alloc (.cells #[.int .i64 kind, .int .i64 sec, .slice av bs.length cv] 63)) := (Kept.refl _ _).alloc _
  have hb : Blk (w.alloc (.cells #[.int .i64 kind, .int .i64 sec, .slice av bs.length cv] 63)) w.heap.size 63 [.int .i64 kind, .int .i64 sec, .slice av bs.length cv] := Blk.newL w [.int .i64 kind, .int .i64 sec, .slice av bs.length cv] 63
  have kw := write_any B dv pv dur ds sec (.slice av bs.length cv) bs _ (hp.same hka) hval (hv.same hka) hsep
  have ks := sync_any B dv pv dur ds _ (hp.same hka) hval
  have HP := hid hp
  have HKA := hid hka
  obtain ⟨o0, o1, o2⟩ := hb.all3
  clear hp hv hsep hka hb
  by_cases k1 : kind = 1
  · subst k1
    have HT : Hid (doD dur ds (1, sec, bs) = writeD dur ds sec bs) := by unfold Hid doD; rw [if_neg (by simp), if_pos rfl]
    clear ks
    go_enter Try.func38, Try.ntmps38
    go_wp2_with fail
    refine kw.mono ?_
    rintro e w1 ⟨rfl, ⟨pv', hp', hn'⟩, hk'⟩
    have H1 := hid hp'
    have H2 := hid hn'
    have H3 := hid hk'
    clear hp' hn' hk' kw
    go_wp2
    first | go_end0 | skip
    refine ⟨rfl, ⟨pv', by rw [HT.out]; exact H1.out, fun b hb => ?_⟩, (HKA.out.mono (fun _ _ e => e.elim)).next H3.out (fun i hi e => e)⟩
    rcases H2.out b hb with h | h
    · exact .inl h
    · simp only [World.size_alloc] at h
      exact .inr (by omega)
  by_cases k2 : kind = 2
  · subst k2
    have HT : Hid (doD dur ds (2, sec, bs) = (settleN (fun _ => true) dur ds ds.length, [])) := if_pos rfl
    clear kw
    go_enter Try.func38, Try.ntmps38
    go_wp2_with fail
    refine ks.mono ?_
    rintro e w1 ⟨rfl, hp', hk'⟩
    have H1 := hid hp'
    have H3 := hid hk'
    clear hp' hk' ks
    go_wp2
    first | go_end0 | skip
    refine ⟨rfl, ⟨.slice none 0 0, by rw [HT.out]; exact H1.out, fun b hb => by simp [Value.ownBlock] at hb⟩, (HKA.out.mono (fun _ _ e => e.elim)).next H3.out (fun i hi e => by rcases e with e | e; exact .inl e; exact .inr (.inl e))⟩
  · have HT : Hid (doD dur ds (kind, sec, bs) = (dur, ds)) := by unfold Hid doD; rw [if_neg k2, if_neg k1]
    clear kw ks
    go_enter Try.func38, Try.ntmps38
    go_wp2
    first | go_end0 | skip
    exact ⟨rfl, ⟨pv, by rw [HT.out]; exact HP.out.same HKA.out, fun b hb => .inl hb⟩, HKA.out.mono (fun _ _ e => e.elim)⟩
def usedO (limit : Int) (n : Nat) : Nat := if 0 ≤ limit ∧ limit < (n : Int) then limit.toNat else n
theorem usedO_le (limit : Int) (n : Nat) : usedO limit n ≤ n := by
  unfold usedO
  split
  · omega
  · exact Nat.le_refl _
def runD (dur : List Int) (ds : List (Int × List Int)) (ops : List (Int × Int × List Int)) : List Int × List (Int × List Int) := ops.foldl (fun x o => doD x.1 x.2 o) (dur, ds)
theorem runD_step {dur : List Int} {ds : List (Int × List Int)} {ops : List (Int × Int × List Int)} {k : Nat} (h : k < ops.length) : runD dur ds (ops.take (k + 1)) = doD (runD dur ds (ops.take k)).1 (runD dur ds (ops.take k)).2 ops[k] := by
  unfold runD
  rw [List.take_succ_eq_append_getElem h, List.foldl_append]
  rfl
theorem runD_valid {dur : List Int} {ds : List (Int × List Int)} (h : Valid dur.length ds) (ops : List (Int × Int × List Int)) : ∀ k, k ≤ ops.length → (runD dur ds (ops.take k)).1.length = dur.length ∧ Valid dur.length (runD dur ds (ops.take k)).2 := by
  intro k
  induction k with
  | zero => intro _; exact ⟨rfl, h⟩
  | succ k ih =>
    intro hk
    obtain ⟨h1, h2⟩ := ih (by omega)
    rw [runD_step (by omega)]
    have := doD_valid (op := ops[k]) (show Valid (runD dur ds (ops.take k)).1.length (runD dur ds (ops.take k)).2 from by rw [h1]; exact h2)
    rw [h1] at this
    exact this
structure IsRun (limit : Int) (dur : List Int) (ds : List (Int × List Int)) (ops : List (Int × Int × List Int)) (r : List Int) (qs : List (Int × List Int)) : Prop where
  yes : Valid dur.length ds → (r, qs) = runD dur ds (ops.take (usedO limit ops.length))
  no : ¬ Valid dur.length ds → r = dur ∧ qs = ds
theorem IsRun.one {limit : Int} {dur : List Int} {ds : List (Int × List Int)} {ops : List (Int × Int × List Int)} {r r' : List Int} {qs qs' : List (Int × List Int)} (h : IsRun limit dur ds ops r qs) (h' : IsRun limit dur ds ops r' qs') : r = r' ∧ qs = qs' := by
  by_cases hv : Valid dur.length ds
  · have := (h.yes hv).trans (h'.yes hv).symm
    simp only [Prod.mk.injEq] at this
    exact this
  · obtain ⟨e1, e2⟩ := h.no hv
    obtain ⟨e3, e4⟩ := h'.no hv
    exact ⟨e1.trans e3.symm, e2.trans e4.symm⟩
def allO (limit : Int) (n : Nat) : Bool := decide (usedO limit n = n)
end Go.Proofs.Ytaejhfhlhofomaa
